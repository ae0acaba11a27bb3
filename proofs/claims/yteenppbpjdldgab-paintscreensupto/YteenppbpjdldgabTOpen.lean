/- Panes that came in, opened: what the walk is told of them, and what the bound on the bulk gives. -/
import Derived.Test.YteenppbpjdldgabTBase
import Derived.ProofKit
import Derived.OpenShut
import Derived.ChangeOld
import Derived.Below
import Derived.JoinedCond
import Derived.Lib.SmallJoins
import Derived.Deep.Slices
namespace Go.Proofs.Yteenppbpjdldgab.Tl
open Go.ChangeShapes Go.WideShapes Go.ChangeAt Go.RowKit Go.Joins

theorem own : ownKnob Try.prog.godebug = none := by kernel_rfl
theorem laidOut : laidOutB Try.prog = true := by kernel_rfl
theorem cellsT : Try.prog.cellsOf 41 = 1 := by kernel_rfl
theorem cellsL : Try.prog.cellsOf 28 = 1 := by kernel_rfl
theorem cellsLL : Try.prog.cellsOf 39 = 1 := by kernel_rfl
theorem bytes3 : Try.prog.bytesOf 3 = 8 := by kernel_rfl
theorem bytesL : Try.prog.bytesOf 28 = 24 := by kernel_rfl
theorem cells3 : Try.prog.cellsOf 3 = 1 := by kernel_rfl

theorem bulk_one {H : Type} (x : DataW H) : 1 ≤ Rows.uptoBulk x := by
  cases x with
  | lit l => cases l <;> simp [Rows.uptoBulk]
  | _ => simp [Rows.uptoBulk]
theorem bulk_length {H : Type} (l : List (DataW H)) : l.length ≤ Rows.uptoBulkAll l := by
  induction l with
  | nil => simp [Rows.uptoBulkAll]
  | cons x r ih =>
    have := bulk_one x
    simp only [Rows.uptoBulkAll, List.length_cons]; omega
theorem bulk_mem {H : Type} {d : DataW H} {l : List (DataW H)} (hd : d ∈ l) : Rows.uptoBulk d ≤ Rows.uptoBulkAll l := by
  induction l with
  | nil => cases hd
  | cons x r ih =>
    simp only [Rows.uptoBulkAll]
    rcases List.mem_cons.1 hd with e | e
    · subst e; omega
    · have := ih e; omega
theorem short {H : Type} {d : DataW H} {l : List (DataW H)} (hk : Rows.uptoSmall H l = true) (hd : d ∈ l) : Rows.uptoBulk d ≤ 1048576 := by
  have h : Rows.uptoBulkAll l ≤ 1048576 := of_decide_eq_true hk
  have := bulk_mem hd
  omega

theorem weights_all {H : Type} {P : Program} {e : TypeId} {d : DataW H} {q : Nat} : ∀ {l : List (DataW H)}, d ∈ l → q ∈ d.weights P e → q ∈ DataW.weightsAll P e l
  | x :: r, hd, hq => by
    simp only [DataW.weightsAll, List.mem_append]
    rcases List.mem_cons.1 hd with h | h
    · subst h; exact .inl hq
    · exact .inr (weights_all h hq)
  | [], hd, _ => by cases hd

section
variable {H : Type} {enc : TypeId × Value → H} {W : World} {base : Nat}

set_option maxRecDepth 100000 in
theorem open_col {sp : Nat → Bool} {hd : Bool} {n : Nat} {cs : List Value} {y : DataW H × List MemPlace} (h : DataW.trod enc Try.prog W 0 sp hd n 28 cs = some y) :
    ∃ x : CIt, cs = [cv x] ∧ RdL W x.2.1 x.1 ∧ (x.2.1 = none → x.1 = [] ∧ x.2.2 = 0) ∧ x.1.length ≤ Rows.uptoBulk y.1 ∧ ((∀ m ∈ y.1.weights Try.prog 28, m ≤ reachBytes) → x.1.length * 8 ≤ reachBytes) := by
  rcases open_ints Try.underlying28 Try.underlying3 cells3 h with ⟨hcs, hx⟩ | ⟨x, l, c, zs, hcs, _, hl, hm, hz, hx, hcell, _⟩
  · exact ⟨([], none, 0), hcs, .inl rfl, fun _ => ⟨rfl, rfl⟩, by simp, fun _ => by simp⟩
  · have hz' : l ≤ zs.length := by rw [hz]; split <;> omega
    have hlen : (zs.take l).length = l := by simp; omega
    refine ⟨(zs.take l, some x, c), by rw [hcs]; simp only [cv, hlen], ?_, fun h => (by cases h), ?_, ?_⟩
    · by_cases h0 : l = 0
      · left; simp [h0]
      · right
        obtain ⟨b, off, rfl, hcl⟩ := ints_at hcell (by omega)
        refine ⟨b, off, rfl, fun j hj => ?_⟩
        simp only [hlen] at hj
        rw [hcl j (by omega)]
        simp [hj]
    · have h1 := bulk_length (lits (H := H) .i64 (zs.take l))
      have h2 : (lits (H := H) .i64 (zs.take l)).length = l := by simp [lits]; omega
      simp only [hlen]
      rw [hx]
      simp only [Rows.uptoBulk]
      omega
    · intro hw
      have h2 : (lits (H := H) .i64 (zs.take l)).length = l := by simp [lits]; omega
      rw [hx] at hw
      simp only [hlen]
      have h3 := hw _ (by simp only [DataW.weights, Try.underlying28]; exact List.mem_cons_self ..)
      rw [bytes3, h2] at h3
      omega

set_option maxRecDepth 100000 in
theorem open_cols {sp : Nat → Bool} {hd : Bool} {n : Nat} {v : Value} {y : DataW H × List MemPlace} (h : DataW.trod enc Try.prog W 0 sp hd n 39 [v] = some y) :
    ∃ (co : Option Addr) (cap : Nat) (its : List CIt), v = .slice co its.length cap ∧ RdT W co its ∧ its.length ≤ Rows.uptoBulk y.1 ∧ (∀ x ∈ its, x.1.length ≤ Rows.uptoBulk y.1) ∧ ((∀ m ∈ y.1.weights Try.prog 39, m ≤ reachBytes) → its.length * 24 ≤ reachBytes ∧ ∀ x ∈ its, x.1.length * 8 ≤ reachBytes) := by
  rcases Deep.open_slice Try.underlying39 h with ⟨hcs, _⟩ | ⟨a, len, cap, m, n', D, Pl, hcs, _, hl, hm, hmm, hx, each⟩
  · simp only [List.cons.injEq, and_true] at hcs
    exact ⟨none, 0, [], hcs, ⟨fun x hx => (by cases hx), .inl rfl⟩, Nat.zero_le _, fun x hx => (by cases hx), fun _ => ⟨by simp, fun x hx => (by cases hx)⟩⟩
  · simp only [List.cons.injEq, and_true] at hcs
    subst hcs
    have hlm : len ≤ m := by rw [hmm]; split <;> omega
    have hbk : len ≤ Rows.uptoBulk y.1 := by
      rw [hx]
      have h1 := bulk_length ((List.range len).map D)
      simp only [List.length_map, List.length_range] at h1
      simp only [Rows.uptoBulk]
      omega
    have ev : ∀ i, i < len → ∃ x : CIt, W.cell? (a.add i) = some (cv x) ∧ RdL W x.2.1 x.1 ∧ (x.2.1 = none → x.1 = [] ∧ x.2.2 = 0) ∧ x.1.length ≤ Rows.uptoBulk y.1 ∧ ((∀ m ∈ y.1.weights Try.prog 39, m ≤ reachBytes) → x.1.length * 8 ≤ reachBytes) := by
      intro i hi
      obtain ⟨cs', h1, h2⟩ := each i (by omega)
      obtain ⟨_, _, hcell⟩ := World.cells?_some h1
      obtain ⟨x, rfl, hr, hn, hb, hwt⟩ := open_col h2
      have hc : W.cell? (a.add i) = some (cv x) := by
        have := hcell 0 (by rw [cellsL]; omega)
        rw [cellsL, Deep.add_add] at this
        simpa using this
      refine ⟨x, hc, hr, hn, ?_, fun hw => hwt fun q hq => hw q ?_⟩
      rotate_left
      · rw [hx]
        simp only [DataW.weights, Try.underlying39]
        exact List.mem_cons_of_mem _ (List.mem_append_left _ (weights_all (List.mem_map.2 ⟨i, List.mem_range.2 hi, rfl⟩) hq))
      have h3 : Rows.uptoBulk (D i) ≤ Rows.uptoBulkAll ((List.range len).map D) := bulk_mem (List.mem_map.2 ⟨i, List.mem_range.2 hi, rfl⟩)
      rw [hx]
      simp only [Rows.uptoBulk]
      simp only at hb
      omega
    obtain ⟨F, hF⟩ : ∃ F : Nat → CIt, F = fun i => if h : i < len then Classical.choose (ev i h) else ([], none, 0) := ⟨_, rfl⟩
    have hFs : ∀ i, i < len → W.cell? (a.add i) = some (cv (F i)) ∧ RdL W (F i).2.1 (F i).1 ∧ ((F i).2.1 = none → (F i).1 = [] ∧ (F i).2.2 = 0) ∧ (F i).1.length ≤ Rows.uptoBulk y.1 ∧ ((∀ m ∈ y.1.weights Try.prog 39, m ≤ reachBytes) → (F i).1.length * 8 ≤ reachBytes) := by
      intro i hi
      have hs := Classical.choose_spec (ev i hi)
      have e : F i = Classical.choose (ev i hi) := by rw [hF]; simp only [dif_pos hi]
      rw [e]
      exact hs
    clear hF ev
    have hlen : ((List.range len).map F).length = len := by simp
    refine ⟨some a, cap, (List.range len).map F, by rw [hlen], ⟨?_, ?_⟩, by rw [hlen]; exact hbk, ?_, fun hw => ⟨?_, ?_⟩⟩
    · intro x hx
      obtain ⟨i, hi, rfl⟩ := List.mem_map.1 hx
      have := hFs i (List.mem_range.1 hi)
      exact ⟨this.2.1, this.2.2.1⟩
    · rcases Nat.eq_zero_or_pos len with h0 | h0
      · left; simp [h0]
      · right
        obtain ⟨b, off, spot⟩ := a
        have hspot : spot = none := by
          have h1 := (hFs 0 h0).1
          have h2 := World.cell?_spot h1
          simpa [Addr.add] using h2
        subst hspot
        refine ⟨b, off, rfl, fun k hk => ?_⟩
        rw [hlen] at hk
        have h1 := (hFs k hk).1
        have e : (⟨b, off, none⟩ : Addr).add k = ⟨b, off + k, none⟩ := by unfold Addr.add; split <;> simp_all
        rw [e] at h1
        simp only [List.getElem_map, List.getElem_range]
        exact h1
    · intro x hx
      obtain ⟨i, hi, rfl⟩ := List.mem_map.1 hx
      exact (hFs i (List.mem_range.1 hi)).2.2.2.1
    · rw [hlen]
      rw [hx] at hw
      have h3 := hw _ (by simp only [DataW.weights, Try.underlying39]; exact List.mem_cons_self ..)
      rw [bytesL] at h3
      simp only [List.length_map, List.length_range] at h3
      omega
    · intro x hx
      obtain ⟨i, hi, rfl⟩ := List.mem_map.1 hx
      exact (hFs i (List.mem_range.1 hi)).2.2.2.2 hw

theorem list1 {α : Type} {cs : List α} (h : cs.length = 1) : ∃ c0, cs = [c0] := by
  match cs, h with
  | [c0], _ => exact ⟨c0, rfl⟩

set_option maxRecDepth 100000 in
theorem open_tiles {v : Value} {d : DataW H} {p : List MemPlace} (hv : Value.okWide Try.prog W .any base 41 v) (h : DataW.Trod enc Try.prog W 0 (fun _ => true) true 41 v d p) :
    ∃ (co : Option Addr) (cap : Nat) (its : List CIt), v = tval co its.length cap ∧ RdT W co its ∧ its.length ≤ Rows.uptoBulk d ∧ (∀ x ∈ its, x.1.length ≤ Rows.uptoBulk d) ∧ ((∀ m ∈ d.weights Try.prog 41, m ≤ reachBytes) → its.length * 24 ≤ reachBytes ∧ ∀ x ∈ its, x.1.length * 8 ≤ reachBytes) := by
  obtain ⟨cs, rfl, hsz⟩ := okWide_struct Try.underlying41 hv
  obtain ⟨c0, hc0⟩ := list1 (by simpa [cellsT] using hsz : cs.toList.length = 1)
  obtain rfl : cs = #[c0] := by cases cs; simp_all
  obtain ⟨fuel, hf⟩ := h
  obtain ⟨xs, n, _, hx, _, hlen, hfs⟩ := DataW.trod_struct Try.underlying41 hf
  obtain ⟨y0, rfl⟩ := list1 (by simpa using hlen)
  simp only [Prod.mk.injEq, List.map_cons, List.map_nil] at hx
  have h0 := hfs 0 _ rfl
  obtain ⟨co, cap, its, rfl, hr, hb, hb2, hwt⟩ := open_cols (v := c0) (y := y0) (by simpa [Value.cells, cellsLL] using h0)
  refine ⟨co, cap, its, rfl, hr, ?_, fun x hxx => ?_, fun hw => hwt fun q hq => hw q ?_⟩
  · rw [hx.1]
    simp only [Rows.uptoBulk, Rows.uptoBulkAll]
    omega
  · have := hb2 x hxx
    rw [hx.1]
    simp only [Rows.uptoBulk, Rows.uptoBulkAll]
    omega
  · rw [hx.1]
    simp only [DataW.weights, Try.underlying41, List.map_cons, List.map_nil, DataW.weightsEach, List.append_nil]
    exact hq
end

end Go.Proofs.Yteenppbpjdldgab.Tl
