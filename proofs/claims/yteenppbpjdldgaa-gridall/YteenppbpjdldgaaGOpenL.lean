/- A list of events that came in, opened. -/
import Derived.Test.YteenppbpjdldgaaGOpenE
import Derived.Test.YteenppbpjdldgaaGAll2
namespace Go.Proofs.Yteenppbpjdldgaa
open Go.ChangeShapes Go.WideShapes Go.ChangeAt Go.RowKit Go.Joins
open Go.ChangeMaps (open_string shut_string)

theorem bulk_mem {H : Type} {d : DataW H} {l : List (DataW H)} (hd : d ∈ l) : Rows.uptoBulk d ≤ Rows.uptoBulkAll l := by
  induction l with
  | nil => cases hd
  | cons x r ih =>
    simp only [Rows.uptoBulkAll]
    rcases List.mem_cons.1 hd with e | e
    · subst e; omega
    · have := ih e; omega

section
variable {H : Type} {enc : TypeId × Value → H} {W : World} {base : Nat}

set_option maxRecDepth 100000 in
theorem open_event4 {sp : Nat → Bool} {hd : Bool} {n : Nat} {cs : List Value} {x : DataW H × List MemPlace} (h : DataW.trod enc Try.prog W 0 sp hd n 37 cs = some x) :
    ∃ ev : EvIt, cs = [.int .i64 ev.1.kind, .int .i64 ev.1.b, .slice ev.2.1 ev.1.ps.length ev.2.2, .string ev.1.pl] ∧ RdL W ev.2.1 ev.1.ps ∧ ev.1.ps.length + ev.1.pl.size ≤ Rows.uptoBulk x.1 := by
  obtain ⟨y0, y1, y2, y3, m, hx, hl, h0, h1, h2, h3⟩ := trod_struct4 Try.underlying37 h
  rw [cellsE] at hl
  obtain ⟨c0, c1, c2, c3, rfl⟩ := list4 hl
  have one3 : Try.prog.cellsOf 3 = 1 := by kernel_rfl
  have one2 : Try.prog.cellsOf 22 = 1 := by kernel_rfl
  have one9 : Try.prog.cellsOf 9 = 1 := by kernel_rfl
  simp only [List.drop, one3, one2, one9, List.take] at h0 h1 h2 h3
  obtain ⟨e, eo, ec, rfl, rfl, rfl, rfl, hr, hb⟩ := open_event_cells h0 h1 h2 h3
  refine ⟨(e, eo, ec), rfl, hr, ?_⟩
  rw [hx]
  exact hb

set_option maxRecDepth 100000 in
theorem open_events {v : Value} {d : DataW H} {p : List MemPlace} (hv : Value.okWide Try.prog W .any base 26 v) (h : DataW.Trod enc Try.prog W 0 (fun _ => true) true 26 v d p) :
    ∃ (lo : Option Addr) (lc : Nat) (evs : List EvIt), v = .slice lo evs.length lc ∧ RdE W lo evs ∧ evs.length ≤ Rows.uptoBulk d ∧ ∀ x ∈ evs, x.1.ps.length + x.1.pl.size ≤ Rows.uptoBulk d := by
  obtain ⟨a0, l0, c0, rfl⟩ := okWide_slice Try.underlying26 hv
  obtain ⟨fuel, hf⟩ := h
  have hf' : DataW.trod enc Try.prog W 0 (fun _ => true) true fuel 26 [.slice a0 l0 c0] = some (d, p) := hf
  rcases Deep.open_slice Try.underlying26 hf' with ⟨hcs, _⟩ | ⟨a, len, cap, m, n', D, Pl, hcs, _, hl, hm, hmm, hx, each⟩
  · simp only [List.cons.injEq, and_true, Value.slice.injEq] at hcs
    obtain ⟨rfl, rfl, rfl⟩ := hcs
    exact ⟨none, 0, [], rfl, ⟨fun x hx => (by cases hx), .inl rfl⟩, Nat.zero_le _, fun x hx => (by cases hx)⟩
  · simp only [List.cons.injEq, and_true, Value.slice.injEq] at hcs
    obtain ⟨rfl, rfl, rfl⟩ := hcs
    have hlm : l0 ≤ m := by rw [hmm]; split <;> omega
    have hd : d = (.slice ((List.range l0).map D) ((List.range (m - l0)).map fun j => D (l0 + j)) : DataW H) := by
      have := congrArg Prod.fst hx
      exact this
    have hbk : l0 ≤ Rows.uptoBulk d := by
      rw [hd]
      have h1 := bulk_length ((List.range l0).map D)
      simp only [List.length_map, List.length_range] at h1
      simp only [Rows.uptoBulk]
      omega
    have ev : ∀ i, i < l0 → ∃ x : EvIt, (W.cell? (a.add (i * 4)) = some (.int .i64 x.1.kind) ∧ W.cell? (a.add (i * 4 + 1)) = some (.int .i64 x.1.b) ∧ W.cell? (a.add (i * 4 + 2)) = some (.slice x.2.1 x.1.ps.length x.2.2) ∧ W.cell? (a.add (i * 4 + 3)) = some (.string x.1.pl)) ∧ RdL W x.2.1 x.1.ps ∧ x.1.ps.length + x.1.pl.size ≤ Rows.uptoBulk d := by
      intro i hi
      obtain ⟨cs', h1, h2⟩ := each i (by omega)
      obtain ⟨_, _, hcell⟩ := World.cells?_some h1
      obtain ⟨x, rfl, hr, hb⟩ := open_event4 h2
      have hc : ∀ j, j < 4 → W.cell? (a.add (i * 4 + j)) = [Value.int .i64 x.1.kind, .int .i64 x.1.b, .slice x.2.1 x.1.ps.length x.2.2, .string x.1.pl][j]? := by
        intro j hj
        have := hcell j (by rw [cellsE]; exact hj)
        rw [cellsE, Deep.add_add] at this
        exact this
      refine ⟨x, ⟨hc 0 (by omega), hc 1 (by omega), hc 2 (by omega), hc 3 (by omega)⟩, hr, ?_⟩
      have h3 : Rows.uptoBulk (D i) ≤ Rows.uptoBulkAll ((List.range l0).map D) := bulk_mem (List.mem_map.2 ⟨i, List.mem_range.2 hi, rfl⟩)
      rw [hd]
      simp only [Rows.uptoBulk]
      simp only at hb
      omega
    obtain ⟨F, hF⟩ : ∃ F : Nat → EvIt, F = fun i => if h : i < l0 then Classical.choose (ev i h) else (⟨0, 0, [], ⟨#[]⟩⟩, none, 0) := ⟨_, rfl⟩
    have hFs : ∀ i, i < l0 → (W.cell? (a.add (i * 4)) = some (.int .i64 (F i).1.kind) ∧ W.cell? (a.add (i * 4 + 1)) = some (.int .i64 (F i).1.b) ∧ W.cell? (a.add (i * 4 + 2)) = some (.slice (F i).2.1 (F i).1.ps.length (F i).2.2) ∧ W.cell? (a.add (i * 4 + 3)) = some (.string (F i).1.pl)) ∧ RdL W (F i).2.1 (F i).1.ps ∧ (F i).1.ps.length + (F i).1.pl.size ≤ Rows.uptoBulk d := by
      intro i hi
      have hs := Classical.choose_spec (ev i hi)
      have e : F i = Classical.choose (ev i hi) := by rw [hF]; simp only [dif_pos hi]
      rw [e]
      exact hs
    clear hF ev
    have hlen : ((List.range l0).map F).length = l0 := by simp
    refine ⟨some a, c0, (List.range l0).map F, by rw [hlen], ⟨?_, ?_⟩, by rw [hlen]; exact hbk, ?_⟩
    · intro x hx
      obtain ⟨i, hi, rfl⟩ := List.mem_map.1 hx
      exact (hFs i (List.mem_range.1 hi)).2.1
    · rcases Nat.eq_zero_or_pos l0 with h0 | h0
      · left; simp [h0]
      · right
        obtain ⟨b, off, spot⟩ := a
        have hspot : spot = none := by
          have h1 := (hFs 0 h0).1.1
          have h2 := World.cell?_spot h1
          simpa [Addr.add] using h2
        subst hspot
        refine ⟨b, off, rfl, fun k hk => ?_⟩
        rw [hlen] at hk
        have h1 := (hFs k hk).1
        simp only [add_at] at h1
        simp only [List.getElem_map, List.getElem_range, ← Nat.add_assoc] at h1 ⊢
        exact h1
    · intro x hx
      obtain ⟨i, hi, rfl⟩ := List.mem_map.1 hx
      exact (hFs i (List.mem_range.1 hi)).2.2
end

end Go.Proofs.Yteenppbpjdldgaa
