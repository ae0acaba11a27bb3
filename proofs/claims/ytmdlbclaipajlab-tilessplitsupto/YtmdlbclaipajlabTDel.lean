/- What 'slices.Delete' of one element makes of a list of one's own. -/
import Derived.Test.YtmdlbclaipajlabTIns2
import Derived.Deep.RegionLaw
namespace Go.Proofs.Ytmdlbclaipajlab.Tl
open Go.RowKit

theorem splice_cons {α : Type} (L : List α) (o : Nat) (v : α) (r : List α) (h : o < L.length) : splice L o (v :: r) = splice (L.set o v) (o + 1) r := by
  unfold splice
  have e1 : (L.set o v).take (o + 1) = L.take o ++ [v] := by
    rw [List.take_succ_eq_append_getElem (by simpa using h)]
    simp [List.take_set_of_le]
  have e2 : (L.set o v).drop (o + 1 + r.length) = L.drop (o + (r.length + 1)) := by
    rw [List.drop_set_of_lt (by omega)]
    congr 1
    omega
  rw [e1, e2]
  simp

theorem setCells_heap (b : Nat) (e : TypeId) : ∀ (vs : List Value) (o : Nat) (w : World) (cur : List Value), w.heap[b]? = some (.cells cur.toArray e (0, 0)) → o + vs.length ≤ cur.length → (w.setCells b o vs).heap[b]? = some (.cells (splice cur o vs).toArray e (0, 0))
  | [], o, w, cur, h, _ => by simpa [World.setCells, splice] using h
  | v :: r, o, w, cur, h, hl => by
    rw [World.setCells, splice_cons cur o v r (by simp at hl; omega)]
    refine setCells_heap b e r (o + 1) _ _ ?_ (by simp at hl ⊢; omega)
    rw [heap_setCell_same w b o _ _ v h]
    simp
theorem setCells_grown (b : Nat) : ∀ (vs : List Value) (o : Nat) (w : World), w.grownBy (w.setCells b o vs) (some b)
  | [], _, w => grown_refl w _
  | v :: r, o, w => by
    rw [World.setCells]
    refine grown_trans ?_ (setCells_grown b r (o + 1) _)
    exact ⟨rfl, rfl, rfl, by simp [World.setCell], fun k _ hk => Below.heap_setCell _ _ _ _ (fun e => hk (by rw [e]))⟩

theorem del_eq {α : Type} (xs Z : List α) (i : Nat) (z : α) (n : Nat) (hn : xs.length = n) (hi : i < n) (hZ : Z.take n = xs) (hZl : n ≤ Z.length) :
    (splice (splice Z i (xs.drop (i + 1))) (n - 1) [z]).take (n - 1) = xs.eraseIdx i ∧ (splice (splice Z i (xs.drop (i + 1))) (n - 1) [z]).length = Z.length := by
  have hl1 : (splice Z i (xs.drop (i + 1))).length = Z.length := length_splice _ _ _ (by simp; omega)
  refine ⟨?_, by rw [length_splice _ _ _ (by simp; omega)]; exact hl1⟩
  have e1 : (splice (splice Z i (xs.drop (i + 1))) (n - 1) [z]).take (n - 1) = (splice Z i (xs.drop (i + 1))).take (n - 1) := by
    unfold splice
    rw [List.take_append_of_le_length (by simp; omega), List.take_take, Nat.min_self]
  rw [e1]
  unfold splice
  have e2 : Z.take i = xs.take i := by rw [← hZ, List.take_take]; congr 1; omega
  rw [e2, ← List.append_assoc, List.take_append_of_le_length (by simp; omega), List.take_of_length_le (by simp; omega), List.eraseIdx_eq_take_drop_succ]

/-- 'clear' of one element. -/
theorem run_clearI (W : World) (g d c : Nat) (cur : List Value) (hg : W.heap[g]? = some (.cells cur.toArray 3 (0, 0))) (hd : d < cur.length) :
    ∃ W1, (Builtin.clear_ #[28] 0 #[.slice (some ⟨g, d, none⟩) 1 c]).run Try.prog W = .ok (.tuple #[]) W1 ∧ W1.heap[g]? = some (.cells (splice cur d [(.int .i64 0)]).toArray 3 (0, 0)) ∧ W.grownBy W1 (some g) := by
  obtain ⟨i0, hi, hz0, hz1, hz2⟩ := info_parts info3
  have hst := run_storeCells_at Try.prog g d 3 [(.int .i64 0)] 0 cur.toArray W hg (by simp; omega) (by intro v hv; simp at hv; subst hv; rfl)
  simp only [Nat.add_zero] at hst
  refine ⟨_, ?_, ?_, grown_setRow _ _ (splice cur d [(.int .i64 0)]).toArray⟩
  · have hv : (zeroValue 3).run Try.prog W = .ok (.int .i64 0) W := by simp [zeroValue, typeInfo, hi, hz0]
    have hzc : (Builtin.zeroCells #[(.int .i64 0)] 1).toList = [(.int .i64 0)] := by simp [Builtin.zeroCells, Array.range]
    simp [Builtin.clear_, run_underlying Try.underlying28, hv, Value.cells, hzc, hst, splice]
  · simpa [splice] using setRow_heap W g _ _ 3 _ hg

set_option maxHeartbeats 2000000 in
set_option maxRecDepth 100000 in
theorem del_anyI (base g n cap i : Nat) (xs : List Value) (w : World) (hown : w.ownsRow base 3 1 (.slice (some ⟨g, 0, none⟩) n cap) n xs) (hn : n ≤ 1048576) (hin : i < n) (h1 : ∀ v ∈ xs, v.oneCell' = true) :
    Calls Try.prog 49 #[.slice (some ⟨g, 0, none⟩) n cap, .int .i64 i, .int .i64 ((i : Int) + 1)] w fun en w' => en = .returned (.slice (some ⟨g, 0, none⟩) (n - 1) cap) ∧ w'.ownsRow base 3 1 (.slice (some ⟨g, 0, none⟩) (n - 1) cap) (n - 1) (xs.eraseIdx i) ∧ w.grownBy w' (some g) := by
  obtain ⟨i0, hi, hz0, hz1, hz2⟩ := info_parts info3
  have hxl : xs.length = n := by have := hown.1; omega
  have hnc : n ≤ cap := own_cap hown
  have hsrc : ∀ j u, xs[j]? = some u → w.cell? ⟨g, j, none⟩ = some u := own_cell hown
  obtain ⟨cur, hg, hcl, hct, hbg, hcm⟩ := own_row hown
  have hc63 : cap ≤ 9223372036854775807 := by unfold maxLen at hcm; omega
  obtain ⟨D, hD⟩ : ∃ D, D = xs.drop (i + 1) := ⟨_, rfl⟩
  have hDl : D.length = n - (i + 1) := by rw [hD, List.length_drop, hxl]
  have hl1 : (splice cur i D).length = cap := by rw [length_splice _ _ _ (by rw [hDl]; omega)]; exact hcl
  have g1 : (w.drew.setCells g i D).heap[g]? = some (.cells (splice cur i D).toArray 3 (0, 0)) := setCells_heap g 3 D i w.drew cur hg (by rw [hDl]; omega)
  have q1 : w.grownBy (w.drew.setCells g i D) (some g) := by
    have := setCells_grown g D i w.drew
    exact ⟨this.os, this.tape, this.output, this.size, this.block⟩
  obtain ⟨W2, r2, g2, q2⟩ := run_clearI (w.drew.setCells g i D) g (n - 1) (cap - (n - 1)) _ g1 (by rw [hl1]; omega)
  have HE : Hid (W2.ownsRow base 3 1 (.slice (some ⟨g, 0, none⟩) (n - 1) cap) (n - 1) (xs.eraseIdx i) ∧ w.grownBy W2 (some g)) := by
    obtain ⟨e1, e2⟩ := del_eq xs cur i ((.int .i64 0) : Value) n hxl hin hct (by omega)
    rw [hD] at g2
    refine ⟨⟨by rw [List.length_eraseIdx]; simp [hxl, hin], .inr ⟨g, cap, _, rfl, hbg, g2, by omega, hcm, by simp [e2, hcl], by simpa using e1⟩⟩, grown_trans q1 q2⟩
  have HS1 : Hid (D.length = (n - (i + 1)) * 1) := by show _ = _; rw [hDl]; simp
  have HS2 : Hid (∀ A : Addr, (0 < D.length → A = ⟨g, i + 1, none⟩) → ∀ j u, D[j]? = some u → w.drew.cell? (A.add j) = some u) := fun A hA j u hj => by
    have hj0 : j < D.length := (List.getElem?_eq_some_iff.1 hj).1
    rw [hA (by omega), add_at]
    rw [hD, List.getElem?_drop] at hj
    exact hsrc _ u hj
  have HS3 : Hid (∀ u ∈ D, u.oneCell' = true) := fun u hu => h1 u (List.mem_of_mem_drop (hD ▸ hu))
  have HS4 : Hid (∀ j, j < D.length → (w.drew.cell? ⟨g, 0 + i * 1 + j, none⟩).isSome = true ∧ w.drew.frozen? ⟨g, 0 + i * 1 + j, none⟩ = false) := fun j hj => by
    refine ⟨?_, frozen_of_row w.drew g _ _ _ hg⟩
    have hlt : i + j < xs.length := by omega
    have := hsrc (i + j) xs[i + j] (by simp [hlt])
    have e : w.drew.cell? ⟨g, 0 + i * 1 + j, none⟩ = some xs[i + j] := by rw [show 0 + i * 1 + j = i + j by omega]; exact this
    rw [e]
    rfl
  have hwr : IntKind.i64.wrap ((i : Int) + 1) = (i : Int) + 1 := by rw [IntKind.wrap_i64]; omega
  have hp0 : (0 : Int) ≤ (i : Int) + 1 := by omega
  have hp1 : (i : Int) + 1 ≤ (n : Int) := by omega
  have hp2 : ((i : Int) + 1).toNat = i + 1 := by omega
  have hp3 : ¬ ((i : Int) = (i : Int) + 1) := by omega
  have hp4 : (i : Int) ≤ (i : Int) + 1 := by omega
  have hp5 : ¬ n = i := by omega
  have hp6 : i + (n - (i + 1)) = n - 1 := by omega
  have hp7 : ¬ cap = n - 1 := by omega
  have hp8 : (i : Int) ≤ (n : Int) := by omega
  have hp9 : (i : Int) ≤ (cap : Int) := by omega
  have hp10 : n - (n - 1) = 1 := by omega
  have hp11 : ((n - 1 : Nat) : Int) ≤ (n : Int) := by omega
  have hp12 : (n : Int) ≤ (cap : Int) := by omega
  clear hown hg hcl hct hbg hcm hsrc hl1 g1 q1 g2 q2 hD h1
  by_cases hci : cap = i + 1
  · obtain rfl : n = i + 1 := by omega
    subst hci
    obtain rfl : D = [] := List.eq_nil_of_length_eq_zero (by omega)
    have e1 : i + 1 - (i + 1 - 1) = 1 := by omega
    have e2 : i + 1 - 1 = i := by omega
    rw [e1] at r2
    rw [e2] at r2 HE ⊢
    have r3 : (Builtin.clear_ #[28] 0 #[.slice (some ⟨g, i, none⟩) 1 1]).run Try.prog (w.drew.setCells g i []) = .ok (.tuple #[]) W2 := r2
    clear r2 hp0 hp1 hp2 hp3 hp4 hp5 hp6 hp7 hp8 hp9 hp10 hp11 hp12 e1 e2 hwr HS1 HS2 HS4 hDl
    have hwr : IntKind.i64.wrap ((i : Int) + 1) = (i : Int) + 1 := by rw [IntKind.wrap_i64]; omega
    have hp2 : ((i : Int) + 1).toNat = i + 1 := by omega
    have hp0 : (0 : Int) ≤ (i : Int) + 1 := by omega
    have hp9 : (i : Int) ≤ (i : Int) + 1 := by omega
    go_enter Try.func49, Try.ntmps49
    go_wp2_with fail
    go_region_law (refine step_append_room rfl (.tmp 22) (.tmp 25) 28 rfl 3 i0 1 Try.underlying28 hi hz1 g 0 i (i + 1) (by simp [Act.eval, Act.put]) ⟨g, 0, none⟩ 0 0 [] (by simp [Act.eval, Act.put]) rfl (by simp) (by simp) (by omega) (by simp) ?_)
    go_wp2
    go_ret
    exact ⟨rfl, HE.out⟩
  · go_enter Try.func49, Try.ntmps49
    go_wp2_with fail
    go_region_law (refine step_append_room rfl (.tmp 22) (.tmp 25) 28 rfl 3 i0 1 Try.underlying28 hi hz1 g 0 i cap (by simp [Act.eval, Act.put]) ⟨g, i + 1, none⟩ (n - (i + 1)) (cap - (i + 1)) D (by simp [Act.eval, Act.put]) HS1.out (HS2.out _ (fun _ => rfl)) HS3.out (by omega) HS4.out ?_)
    go_wp2
    go_ret
    exact ⟨rfl, HE.out⟩

/-- 'clear' of one element. -/
theorem run_clearL (W : World) (g d c : Nat) (cur : List Value) (hg : W.heap[g]? = some (.cells cur.toArray 28 (0, 0))) (hd : d < cur.length) :
    ∃ W1, (Builtin.clear_ #[39] 0 #[.slice (some ⟨g, d, none⟩) 1 c]).run Try.prog W = .ok (.tuple #[]) W1 ∧ W1.heap[g]? = some (.cells (splice cur d [(.slice none 0 0)]).toArray 28 (0, 0)) ∧ W.grownBy W1 (some g) := by
  obtain ⟨i0, hi, hz0, hz1, hz2⟩ := info_parts infoL
  have hst := run_storeCells_at Try.prog g d 28 [(.slice none 0 0)] 0 cur.toArray W hg (by simp; omega) (by intro v hv; simp at hv; subst hv; rfl)
  simp only [Nat.add_zero] at hst
  refine ⟨_, ?_, ?_, grown_setRow _ _ (splice cur d [(.slice none 0 0)]).toArray⟩
  · have hv : (zeroValue 28).run Try.prog W = .ok (.slice none 0 0) W := by simp [zeroValue, typeInfo, hi, hz0]
    have hzc : (Builtin.zeroCells #[(.slice none 0 0)] 1).toList = [(.slice none 0 0)] := by simp [Builtin.zeroCells, Array.range]
    simp [Builtin.clear_, run_underlying Try.underlying39, hv, Value.cells, hzc, hst, splice]
  · simpa [splice] using setRow_heap W g _ _ 28 _ hg

set_option maxHeartbeats 2000000 in
set_option maxRecDepth 100000 in
theorem del_anyL (base g n cap i : Nat) (xs : List Value) (w : World) (hown : w.ownsRow base 28 1 (.slice (some ⟨g, 0, none⟩) n cap) n xs) (hn : n ≤ 1048576) (hin : i < n) (h1 : ∀ v ∈ xs, v.oneCell' = true) :
    Calls Try.prog 48 #[.slice (some ⟨g, 0, none⟩) n cap, .int .i64 i, .int .i64 ((i : Int) + 1)] w fun en w' => en = .returned (.slice (some ⟨g, 0, none⟩) (n - 1) cap) ∧ w'.ownsRow base 28 1 (.slice (some ⟨g, 0, none⟩) (n - 1) cap) (n - 1) (xs.eraseIdx i) ∧ w.grownBy w' (some g) := by
  obtain ⟨i0, hi, hz0, hz1, hz2⟩ := info_parts infoL
  have hxl : xs.length = n := by have := hown.1; omega
  have hnc : n ≤ cap := own_cap hown
  have hsrc : ∀ j u, xs[j]? = some u → w.cell? ⟨g, j, none⟩ = some u := own_cell hown
  obtain ⟨cur, hg, hcl, hct, hbg, hcm⟩ := own_row hown
  have hc63 : cap ≤ 9223372036854775807 := by unfold maxLen at hcm; omega
  obtain ⟨D, hD⟩ : ∃ D, D = xs.drop (i + 1) := ⟨_, rfl⟩
  have hDl : D.length = n - (i + 1) := by rw [hD, List.length_drop, hxl]
  have hl1 : (splice cur i D).length = cap := by rw [length_splice _ _ _ (by rw [hDl]; omega)]; exact hcl
  have g1 : (w.drew.setCells g i D).heap[g]? = some (.cells (splice cur i D).toArray 28 (0, 0)) := setCells_heap g 28 D i w.drew cur hg (by rw [hDl]; omega)
  have q1 : w.grownBy (w.drew.setCells g i D) (some g) := by
    have := setCells_grown g D i w.drew
    exact ⟨this.os, this.tape, this.output, this.size, this.block⟩
  obtain ⟨W2, r2, g2, q2⟩ := run_clearL (w.drew.setCells g i D) g (n - 1) (cap - (n - 1)) _ g1 (by rw [hl1]; omega)
  have HE : Hid (W2.ownsRow base 28 1 (.slice (some ⟨g, 0, none⟩) (n - 1) cap) (n - 1) (xs.eraseIdx i) ∧ w.grownBy W2 (some g)) := by
    obtain ⟨e1, e2⟩ := del_eq xs cur i ((.slice none 0 0) : Value) n hxl hin hct (by omega)
    rw [hD] at g2
    refine ⟨⟨by rw [List.length_eraseIdx]; simp [hxl, hin], .inr ⟨g, cap, _, rfl, hbg, g2, by omega, hcm, by simp [e2, hcl], by simpa using e1⟩⟩, grown_trans q1 q2⟩
  have HS1 : Hid (D.length = (n - (i + 1)) * 1) := by show _ = _; rw [hDl]; simp
  have HS2 : Hid (∀ A : Addr, (0 < D.length → A = ⟨g, i + 1, none⟩) → ∀ j u, D[j]? = some u → w.drew.cell? (A.add j) = some u) := fun A hA j u hj => by
    have hj0 : j < D.length := (List.getElem?_eq_some_iff.1 hj).1
    rw [hA (by omega), add_at]
    rw [hD, List.getElem?_drop] at hj
    exact hsrc _ u hj
  have HS3 : Hid (∀ u ∈ D, u.oneCell' = true) := fun u hu => h1 u (List.mem_of_mem_drop (hD ▸ hu))
  have HS4 : Hid (∀ j, j < D.length → (w.drew.cell? ⟨g, 0 + i * 1 + j, none⟩).isSome = true ∧ w.drew.frozen? ⟨g, 0 + i * 1 + j, none⟩ = false) := fun j hj => by
    refine ⟨?_, frozen_of_row w.drew g _ _ _ hg⟩
    have hlt : i + j < xs.length := by omega
    have := hsrc (i + j) xs[i + j] (by simp [hlt])
    have e : w.drew.cell? ⟨g, 0 + i * 1 + j, none⟩ = some xs[i + j] := by rw [show 0 + i * 1 + j = i + j by omega]; exact this
    rw [e]
    rfl
  have hwr : IntKind.i64.wrap ((i : Int) + 1) = (i : Int) + 1 := by rw [IntKind.wrap_i64]; omega
  have hp0 : (0 : Int) ≤ (i : Int) + 1 := by omega
  have hp1 : (i : Int) + 1 ≤ (n : Int) := by omega
  have hp2 : ((i : Int) + 1).toNat = i + 1 := by omega
  have hp3 : ¬ ((i : Int) = (i : Int) + 1) := by omega
  have hp4 : (i : Int) ≤ (i : Int) + 1 := by omega
  have hp5 : ¬ n = i := by omega
  have hp6 : i + (n - (i + 1)) = n - 1 := by omega
  have hp7 : ¬ cap = n - 1 := by omega
  have hp8 : (i : Int) ≤ (n : Int) := by omega
  have hp9 : (i : Int) ≤ (cap : Int) := by omega
  have hp10 : n - (n - 1) = 1 := by omega
  have hp11 : ((n - 1 : Nat) : Int) ≤ (n : Int) := by omega
  have hp12 : (n : Int) ≤ (cap : Int) := by omega
  clear hown hg hcl hct hbg hcm hsrc hl1 g1 q1 g2 q2 hD h1
  by_cases hci : cap = i + 1
  · obtain rfl : n = i + 1 := by omega
    subst hci
    obtain rfl : D = [] := List.eq_nil_of_length_eq_zero (by omega)
    have e1 : i + 1 - (i + 1 - 1) = 1 := by omega
    have e2 : i + 1 - 1 = i := by omega
    rw [e1] at r2
    rw [e2] at r2 HE ⊢
    have r3 : (Builtin.clear_ #[39] 0 #[.slice (some ⟨g, i, none⟩) 1 1]).run Try.prog (w.drew.setCells g i []) = .ok (.tuple #[]) W2 := r2
    clear r2 hp0 hp1 hp2 hp3 hp4 hp5 hp6 hp7 hp8 hp9 hp10 hp11 hp12 e1 e2 hwr HS1 HS2 HS4 hDl
    have hwr : IntKind.i64.wrap ((i : Int) + 1) = (i : Int) + 1 := by rw [IntKind.wrap_i64]; omega
    have hp2 : ((i : Int) + 1).toNat = i + 1 := by omega
    have hp0 : (0 : Int) ≤ (i : Int) + 1 := by omega
    have hp9 : (i : Int) ≤ (i : Int) + 1 := by omega
    go_enter Try.func48, Try.ntmps48
    go_wp2_with fail
    go_region_law (refine step_append_room rfl (.tmp 22) (.tmp 25) 39 rfl 28 i0 1 Try.underlying39 hi hz1 g 0 i (i + 1) (by simp [Act.eval, Act.put]) ⟨g, 0, none⟩ 0 0 [] (by simp [Act.eval, Act.put]) rfl (by simp) (by simp) (by omega) (by simp) ?_)
    go_wp2
    go_ret
    exact ⟨rfl, HE.out⟩
  · go_enter Try.func48, Try.ntmps48
    go_wp2_with fail
    go_region_law (refine step_append_room rfl (.tmp 22) (.tmp 25) 39 rfl 28 i0 1 Try.underlying39 hi hz1 g 0 i cap (by simp [Act.eval, Act.put]) ⟨g, i + 1, none⟩ (n - (i + 1)) (cap - (i + 1)) D (by simp [Act.eval, Act.put]) HS1.out (HS2.out _ (fun _ => rfl)) HS3.out (by omega) HS4.out ?_)
    go_wp2
    go_ret
    exact ⟨rfl, HE.out⟩

end Go.Proofs.Ytmdlbclaipajlab.Tl
