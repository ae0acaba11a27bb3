/- An act that came in, and a list of acts, opened. -/
import Derived.Test.YtpichplhidiokacGreatDoorSNil
import Derived.ProofKit
import Derived.OpenShut
import Derived.ShutString
import Derived.ChangeOld
import Derived.Below
import Derived.JoinedCond
import Derived.Lib.SmallJoins
import Derived.Deep.Slices
import Derived.SizedLaws
namespace Go.Proofs.YtpichplhidiokacGreatDoor.Sv
open Go.ChangeShapes Go.WideShapes Go.ChangeAt Go.RowKit Go.Joins
open Go.ChangeMaps (open_string shut_string)

theorem own : ownKnob Tryz.prog.godebug = none := by kernel_rfl
theorem laidOut : laidOutB Tryz.prog = true := by kernel_rfl
theorem cellsA : Tryz.prog.cellsOf 23 = 5 := by kernel_rfl
theorem bytesA : Tryz.prog.bytesOf 23 = 48 := by kernel_rfl

theorem weights_all {H : Type} {P : Program} {e : TypeId} {d : DataW H} {q : Nat} : ∀ {l : List (DataW H)}, d ∈ l → q ∈ d.weights P e → q ∈ DataW.weightsAll P e l
  | x :: r, hd, hq => by
    simp only [DataW.weightsAll, List.mem_append]
    rcases List.mem_cons.1 hd with h | h
    · subst h; exact .inl hq
    · exact .inr (weights_all h hq)
  | [], hd, _ => by cases hd

/-- The acts lie in memory where the slice points. -/
def RdA (w : World) (ao : Option Addr) (l : List Ac) : Prop := l = [] ∨ ∃ b off, ao = some ⟨b, off, none⟩ ∧ ∀ k (hk : k < l.length), w.cell? ⟨b, off + k * 5, none⟩ = some (.int .i64 l[k].kind) ∧ w.cell? ⟨b, off + k * 5 + 1, none⟩ = some (.int .i64 l[k].p) ∧ w.cell? ⟨b, off + k * 5 + 2, none⟩ = some (.int .i64 l[k].n) ∧ w.cell? ⟨b, off + k * 5 + 3, none⟩ = some (.int .i64 l[k].m) ∧ w.cell? ⟨b, off + k * 5 + 4, none⟩ = some (.string (bs l[k].bytes))

theorem RdA.below {w w' : World} {ao : Option Addr} {l : List Ac} (h : RdA w ao l) (hb : Below w.heap.size w w') : RdA w' ao l := by
  rcases h with h | ⟨b, off, ha, hc⟩
  · exact .inl h
  · refine .inr ⟨b, off, ha, fun k hk => ?_⟩
    have h0 := hc k hk
    have hlt := World.block_lt_of_cell? _ _ h0.1
    have e : ∀ o, w'.cell? ⟨b, o, none⟩ = w.cell? ⟨b, o, none⟩ := fun o => World.cell?_of_block (hb.block b hlt)
    simp only [e]
    exact h0

section
variable {H : Type} {enc : TypeId × Value → H} {W : World} {base : Nat}

theorem array5 {α : Type} {cs : Array α} (h : cs.size = 5) : ∃ c0 c1 c2 c3 c4, cs = #[c0, c1, c2, c3, c4] := by
  obtain ⟨l⟩ := cs
  match l, h with
  | [c0, c1, c2, c3, c4], _ => exact ⟨c0, c1, c2, c3, c4, rfl⟩
theorem list5 {α : Type} {cs : List α} (h : cs.length = 5) : ∃ c0 c1 c2 c3 c4, cs = [c0, c1, c2, c3, c4] := by
  match cs, h with
  | [c0, c1, c2, c3, c4], _ => exact ⟨c0, c1, c2, c3, c4, rfl⟩

set_option maxRecDepth 100000 in
/-- An act's cells, opened. -/
theorem open_act5 {sp : Nat → Bool} {hd : Bool} {n : Nat} {cs : List Value} {x : DataW H × List MemPlace} (h : DataW.trod enc Tryz.prog W 0 sp hd n 23 cs = some x) :
    ∃ a : Ac, cs = [.int .i64 a.kind, .int .i64 a.p, .int .i64 a.n, .int .i64 a.m, .string (bs a.bytes)] ∧ ((∀ m ∈ x.1.weights Tryz.prog 23, m ≤ reachBytes) → a.bytes.length ≤ reachBytes) := by
  obtain ⟨xs, m, _, hx, hl, hlen, hfs⟩ := DataW.trod_struct Tryz.underlying23 h
  rw [cellsA] at hl
  obtain ⟨c0, c1, c2, c3, c4, rfl⟩ := list5 hl
  obtain ⟨y0, y1, y2, y3, y4, rfl⟩ := list5 (by simpa using hlen)
  have one3 : Tryz.prog.cellsOf 3 = 1 := by kernel_rfl
  have one9 : Tryz.prog.cellsOf 9 = 1 := by kernel_rfl
  have h0 : DataW.trod enc Tryz.prog W 0 sp hd m 3 (([c0, c1, c2, c3, c4].drop 0).take (Tryz.prog.cellsOf 3)) = some y0 := hfs 0 _ rfl
  have h1 : DataW.trod enc Tryz.prog W 0 sp hd m 3 (([c0, c1, c2, c3, c4].drop 1).take (Tryz.prog.cellsOf 3)) = some y1 := hfs 1 _ rfl
  have h2 : DataW.trod enc Tryz.prog W 0 sp hd m 3 (([c0, c1, c2, c3, c4].drop 2).take (Tryz.prog.cellsOf 3)) = some y2 := hfs 2 _ rfl
  have h3 : DataW.trod enc Tryz.prog W 0 sp hd m 3 (([c0, c1, c2, c3, c4].drop 3).take (Tryz.prog.cellsOf 3)) = some y3 := hfs 3 _ rfl
  have h4 : DataW.trod enc Tryz.prog W 0 sp hd m 9 (([c0, c1, c2, c3, c4].drop 4).take (Tryz.prog.cellsOf 9)) = some y4 := hfs 4 _ rfl
  simp only [List.drop, one3, one9, List.take] at h0 h1 h2 h3 h4
  obtain ⟨a0, e0, _⟩ := DataW.trod_int Tryz.underlying3 h0
  obtain ⟨a1, e1, _⟩ := DataW.trod_int Tryz.underlying3 h1
  obtain ⟨a2, e2, _⟩ := DataW.trod_int Tryz.underlying3 h2
  obtain ⟨a3, e3, _⟩ := DataW.trod_int Tryz.underlying3 h3
  obtain ⟨s, e4, e5, _⟩ := DataW.trod_string Tryz.underlying9 h4
  simp only [List.cons.injEq, and_true] at e0 e1 e2 e3 e4
  subst e0 e1 e2 e3 e4
  refine ⟨⟨a0, a1, a2, a3, s.data.toList⟩, rfl, fun hw => ?_⟩
  have hw4 : ∀ m ∈ y4.1.weights Tryz.prog 9, m ≤ reachBytes := fun m hm => hw m (by
    rw [hx]
    simp only [DataW.weights, Tryz.underlying23, List.map_cons, List.map_nil, DataW.weightsEach]
    exact List.mem_append_right _ (List.mem_append_right _ (List.mem_append_right _ (List.mem_append_right _ (List.mem_append_left _ hm)))))
  have h5 := hw4 _ (by rw [e5]; simp only [DataW.weights]; exact List.mem_cons_self ..)
  exact h5

set_option maxRecDepth 100000 in
theorem open_act {v : Value} {d : DataW H} {p : List MemPlace} (hv : Value.okWide Tryz.prog W .any base 23 v) (h : DataW.Trod enc Tryz.prog W 0 (fun _ => true) true 23 v d p) :
    ∃ a : Ac, v = aval a ∧ ((∀ m ∈ d.weights Tryz.prog 23, m ≤ reachBytes) → a.bytes.length ≤ reachBytes) := by
  obtain ⟨cs, rfl, hsz⟩ := okWide_struct Tryz.underlying23 hv
  obtain ⟨c0, c1, c2, c3, c4, rfl⟩ := array5 (hsz.trans cellsA)
  obtain ⟨fuel, hf⟩ := h
  obtain ⟨a, ha, hw⟩ := open_act5 hf
  simp only [Value.cells, List.cons.injEq, and_true] at ha
  obtain ⟨rfl, rfl, rfl, rfl, rfl⟩ := ha
  exact ⟨a, rfl, hw⟩

set_option maxRecDepth 100000 in
theorem open_acts {v : Value} {d : DataW H} {p : List MemPlace} (hv : Value.okWide Tryz.prog W .any base 43 v) (h : DataW.Trod enc Tryz.prog W 0 (fun _ => true) true 43 v d p) :
    ∃ (lo : Option Addr) (lc : Nat) (l : List Ac), v = .slice lo l.length lc ∧ RdA W lo l ∧ (lo = none → l = [] ∧ lc = 0) ∧ l.length ≤ lc ∧ ((∀ m ∈ d.weights Tryz.prog 43, m ≤ reachBytes) → l.length * 48 ≤ reachBytes ∧ ∀ x ∈ l, x.bytes.length ≤ reachBytes) := by
  obtain ⟨a0, l0, c0, rfl⟩ := okWide_slice Tryz.underlying43 hv
  obtain ⟨fuel, hf⟩ := h
  have hf' : DataW.trod enc Tryz.prog W 0 (fun _ => true) true fuel 43 [.slice a0 l0 c0] = some (d, p) := hf
  rcases Deep.open_slice Tryz.underlying43 hf' with ⟨hcs, _⟩ | ⟨a, len, cap, m, n', D, Pl, hcs, _, hl, hm, hmm, hx, each⟩
  · simp only [List.cons.injEq, and_true, Value.slice.injEq] at hcs
    obtain ⟨rfl, rfl, rfl⟩ := hcs
    exact ⟨none, 0, [], rfl, .inl rfl, fun _ => ⟨rfl, rfl⟩, Nat.le_refl _, fun _ => ⟨Nat.zero_le _, fun x hx => (by cases hx)⟩⟩
  · simp only [List.cons.injEq, and_true, Value.slice.injEq] at hcs
    obtain ⟨rfl, rfl, rfl⟩ := hcs
    have hlm : l0 ≤ m := by rw [hmm]; split <;> omega
    have hd : d = (.slice ((List.range l0).map D) ((List.range (m - l0)).map fun j => D (l0 + j)) : DataW H) := by
      have := congrArg Prod.fst hx
      exact this
    have hbk : (∀ m ∈ d.weights Tryz.prog 43, m ≤ reachBytes) → l0 * 48 ≤ reachBytes := by
      intro hw
      have h4 := hw _ (by rw [hd]; simp only [DataW.weights, Tryz.underlying43]; exact List.mem_cons_self ..)
      rw [bytesA] at h4
      simp only [List.length_map, List.length_range] at h4
      omega
    have ev : ∀ i, i < l0 → ∃ x : Ac, (W.cell? (a.add (i * 5)) = some (.int .i64 x.kind) ∧ W.cell? (a.add (i * 5 + 1)) = some (.int .i64 x.p) ∧ W.cell? (a.add (i * 5 + 2)) = some (.int .i64 x.n) ∧ W.cell? (a.add (i * 5 + 3)) = some (.int .i64 x.m) ∧ W.cell? (a.add (i * 5 + 4)) = some (.string (bs x.bytes))) ∧ ((∀ m ∈ d.weights Tryz.prog 43, m ≤ reachBytes) → x.bytes.length ≤ reachBytes) := by
      intro i hi
      obtain ⟨cs', h1, h2⟩ := each i (by omega)
      obtain ⟨_, _, hcell⟩ := World.cells?_some h1
      obtain ⟨x, rfl, hb⟩ := open_act5 h2
      have hc : ∀ j, j < 5 → W.cell? (a.add (i * 5 + j)) = [Value.int .i64 x.kind, .int .i64 x.p, .int .i64 x.n, .int .i64 x.m, .string (bs x.bytes)][j]? := by
        intro j hj
        have := hcell j (by rw [cellsA]; exact hj)
        rw [cellsA, Deep.add_add] at this
        exact this
      refine ⟨x, ⟨hc 0 (by omega), hc 1 (by omega), hc 2 (by omega), hc 3 (by omega), hc 4 (by omega)⟩, fun hw => hb fun q hq => hw q ?_⟩
      rw [hd]
      simp only [DataW.weights, Tryz.underlying43]
      exact List.mem_cons_of_mem _ (List.mem_append_left _ (weights_all (List.mem_map.2 ⟨i, List.mem_range.2 hi, rfl⟩) hq))
    obtain ⟨F, hF⟩ : ∃ F : Nat → Ac, F = fun i => if h : i < l0 then Classical.choose (ev i h) else ⟨0, 0, 0, 0, []⟩ := ⟨_, rfl⟩
    have hFs : ∀ i, i < l0 → (W.cell? (a.add (i * 5)) = some (.int .i64 (F i).kind) ∧ W.cell? (a.add (i * 5 + 1)) = some (.int .i64 (F i).p) ∧ W.cell? (a.add (i * 5 + 2)) = some (.int .i64 (F i).n) ∧ W.cell? (a.add (i * 5 + 3)) = some (.int .i64 (F i).m) ∧ W.cell? (a.add (i * 5 + 4)) = some (.string (bs (F i).bytes))) ∧ ((∀ m ∈ d.weights Tryz.prog 43, m ≤ reachBytes) → (F i).bytes.length ≤ reachBytes) := by
      intro i hi
      have hs := Classical.choose_spec (ev i hi)
      have e : F i = Classical.choose (ev i hi) := by rw [hF]; simp only [dif_pos hi]
      rw [e]
      exact hs
    clear hF ev
    have hlen : ((List.range l0).map F).length = l0 := by simp
    refine ⟨some a, c0, (List.range l0).map F, by rw [hlen], ?_, fun h => (by cases h), by rw [hlen]; exact hl, fun hw => ⟨by rw [hlen]; exact hbk hw, ?_⟩⟩
    · rcases Nat.eq_zero_or_pos l0 with h0 | h0
      · left; simp [h0]
      · right
        obtain ⟨b, off, spot⟩ := a
        have hspot : spot = none := by
          have h1 := (hFs 0 h0).1.1
          have h2 := World.cell?_spot h1
          simpa [Addr.add] using h2
        subst hspot
        refine ⟨b, off, rfl, fun k hk => ?_⟩
        rw [hlen] at hk
        have h1 := (hFs k hk).1
        simp only [add_at] at h1
        simp only [List.getElem_map, List.getElem_range, ← Nat.add_assoc] at h1 ⊢
        exact h1
    · intro x hx
      obtain ⟨i, hi, rfl⟩ := List.mem_map.1 hx
      exact (hFs i (List.mem_range.1 hi)).2 hw

set_option maxRecDepth 100000 in
/-- A text that came in. -/
theorem open_text {v : Value} {d : DataW H} {p : List MemPlace} (hv : Value.okWide Tryz.prog W .any base 9 v) (h : DataW.Trod enc Tryz.prog W 0 (fun _ => true) true 9 v d p) :
    ∃ s : List UInt8, v = .string (bs s) ∧ ((∀ m ∈ d.weights Tryz.prog 9, m ≤ reachBytes) → s.length ≤ reachBytes) := by
  obtain ⟨s, rfl, rfl, _⟩ := open_string Tryz.underlying9 hv h
  refine ⟨s.data.toList, rfl, fun hw => ?_⟩
  exact hw _ (by simp only [DataW.weights]; exact List.mem_cons_self ..)
end

end Go.Proofs.YtpichplhidiokacGreatDoor.Sv
