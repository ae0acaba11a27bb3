/- What 'slices.Insert' makes of a column of one's own that has room; all its ways. -/
import Derived.Test.YtmdlbclaipajlabTIns
import Derived.Laws.Externs
namespace Go.Proofs.Ytmdlbclaipajlab.Tl
open Go.RowKit

theorem splice_ins2 {α : Type} (Z xs : List α) (i : Nat) (X : α) (hi : i ≤ xs.length) (hZ : Z.take xs.length = xs) (hZl : xs.length + 1 ≤ Z.length) :
    (splice (splice Z (i + 1) (xs.drop i)) i [X]).take (xs.length + 1) = insL xs i X ∧ (splice (splice Z (i + 1) (xs.drop i)) i [X]).length = Z.length := by
  have hl1 : (splice Z (i + 1) (xs.drop i)).length = Z.length := length_splice _ _ _ (by simp; omega)
  have e1 : (splice Z (i + 1) (xs.drop i)).take i = xs.take i := by
    unfold splice
    rw [List.take_append_of_le_length (by simp; omega), List.take_take, ← hZ, List.take_take]
    congr 1
    omega
  have e2 : (splice Z (i + 1) (xs.drop i)).drop (i + 1) = xs.drop i ++ Z.drop (i + 1 + (xs.drop i).length) := by
    unfold splice
    rw [List.drop_append_of_le_length (by simp; omega), List.drop_eq_nil_of_le (by simp; omega)]
    simp
  obtain ⟨Y, hY⟩ : ∃ Y, Y = splice Z (i + 1) (xs.drop i) := ⟨_, rfl⟩
  rw [← hY] at e1 e2 hl1 ⊢
  refine ⟨?_, by rw [length_splice _ _ _ (by simp; omega)]; exact hl1⟩
  unfold splice
  rw [e1]
  simp only [List.length_cons, List.length_nil, Nat.zero_add]
  rw [e2]
  have e3 : xs.take i ++ ([X] ++ (xs.drop i ++ Z.drop (i + 1 + (xs.drop i).length))) = insL xs i X ++ Z.drop (i + 1 + (xs.drop i).length) := by simp [insL]
  rw [e3, List.take_append_of_le_length (by simp [insL]; omega), List.take_of_length_le (by simp [insL]; omega)]

theorem own_row {w : World} {base g n : Nat} {e : TypeId} {c : Nat} {xs : List Value} (h : w.ownsRow base e 1 (.slice (some ⟨g, 0, none⟩) n c) n xs) : ∃ cur : List Value, w.heap[g]? = some (.cells cur.toArray e (0, 0)) ∧ cur.length = c ∧ cur.take n = xs ∧ base ≤ g ∧ c ≤ maxLen := by
  rcases h.2 with ⟨hv, _⟩ | ⟨g', cap, cur, hv, hb, hg, hc, hm, hs, ht⟩
  · cases hv
  · simp only [Value.slice.injEq, Option.some.injEq, Addr.mk.injEq, and_true, true_and] at hv
    obtain ⟨rfl, rfl⟩ := hv
    exact ⟨cur.toList, by simpa using hg, by simp [hs], by simpa using ht, hb, hm⟩

set_option maxHeartbeats 2000000 in
set_option maxRecDepth 100000 in
/-- 'slices.Insert' in the midst, where there is room: in place. -/
theorem ins_shiftI (base g n cap i vb : Nat) (xs : List Value) (X : Value) (w : World) (hown : w.ownsRow base 3 1 (.slice (some ⟨g, 0, none⟩) n cap) n xs) (hn : n ≤ 1048576) (hin : i < n) (hroom : n + 1 ≤ cap) (hv : w.heap[vb]? = some (.cells #[X] 3)) (hvg : vb ≠ g) (hX : X.oneCell' = true) (h1 : ∀ v ∈ xs, v.oneCell' = true) :
    Calls Try.prog 46 #[.slice (some ⟨g, 0, none⟩) n cap, .int .i64 i, .slice (some ⟨vb, 0, none⟩) 1 1] w fun en w' => ∃ v', en = .returned v' ∧ w'.ownsRow base 3 1 v' (n + 1) (insL xs i X) ∧ w.grownBy w' (some g) := by
  have hxl : xs.length = n := by have := hown.1; omega
  have hsrc : ∀ j u, xs[j]? = some u → w.cell? ⟨g, j, none⟩ = some u := own_cell hown
  obtain ⟨cur, hg, hcl, hct, hbg, hcm⟩ := own_row hown
  have hc63 : cap ≤ 9223372036854775807 := by unfold maxLen at hcm; omega
  have hov : ∀ lb cb, (callFunc 61 #[.slice (some ⟨vb, 0, none⟩) 1 1, .slice (some ⟨g, i + 1, none⟩) lb cb]).run Try.prog w = .ok (.value (.bool false)) w := fun lb cb => by
    obtain ⟨i0, hi, hz0, hz1, hz2⟩ := info_parts info3
    rw [run_callFunc_extern Try.func61 (by kernel_rfl) (by kernel_rfl) (by kernel_rfl) (e := Extern.SlicesOverlaps.overlaps #[28, 28] #[4]) (by kernel_rfl),
      Lib.run_overlaps_apart w 28 4 3 Try.underlying28 1 (fun w => by simp [Go.sizeOf, typeInfo, hi, hz1]) ⟨vb, 0, none⟩ ⟨g, i + 1, none⟩ 1 1 lb cb hvg 3 3 1 cur.length (by simp [World.shape?, hv]) (by simp [World.shape?, hg]) (by omega) (frozen_of_row w vb 0 _ _ hv) (frozen_of_row w vb 1 _ _ hv)]
    rfl
  obtain ⟨D, hD⟩ : ∃ D, D = xs.drop i := ⟨_, rfl⟩
  have hDl : D.length = n - i := by rw [hD, List.length_drop, hxl]
  have hsrcD : ∀ j u, D[j]? = some u → w.drew.cell? ((⟨g, i, none⟩ : Addr).add j) = some u := fun j u hj => by
    rw [add_at]
    rw [hD, List.getElem?_drop] at hj
    exact hsrc (i + j) u hj
  obtain ⟨W1, r1, g1, q1⟩ := run_splice w.drew 3 28 3 Try.underlying28 hszI g (i + 1) (n - i) (cap - (i + 1)) ⟨g, i, none⟩ (n + 1 - i) (cap - i) cur hg D (by rw [hDl]; simp only [Nat.min_def]; split <;> omega) hsrcD (by rw [hDl]; omega) (fun v hv => h1 v (List.mem_of_mem_drop (hD ▸ hv)))
  have hv1 : W1.heap[vb]? = some (.cells #[X] 3) := by rw [q1.block vb (at_lt hv) (by simpa using hvg)]; exact hv
  have hsl : (splice cur (i + 1) D).length = cap := by rw [length_splice _ _ _ (by rw [hDl]; omega)]; exact hcl
  obtain ⟨W2, r2, g2, q2⟩ := run_splice W1 3 28 3 Try.underlying28 hszI g i (n + 1 - i) (cap - i) ⟨vb, 0, none⟩ 1 1 _ g1 [X] (by simp only [List.length_cons, List.length_nil, Nat.min_def]; split <;> omega) (cell_one hv1) (by rw [hsl]; simp; omega) (by intro u hu; simp at hu; subst hu; exact hX)
  have HE : Hid (W2.ownsRow base 3 1 (.slice (some ⟨g, 0, none⟩) (n + 1) cap) (n + 1) (insL xs i X) ∧ w.grownBy W2 (some g)) := by
    obtain ⟨e1, e2⟩ := splice_ins2 cur xs i X (by omega) (by rw [hxl]; exact hct) (by omega)
    rw [hD] at g2
    refine ⟨⟨by simp [insL]; omega, .inr ⟨g, cap, _, rfl, hbg, g2, hroom, hcm, by simp [e2, hcl], by simp only [Nat.mul_one]; rw [hxl] at e1; exact e1⟩⟩, ?_⟩
    have q1' : w.grownBy W1 (some g) := ⟨q1.os, q1.tape, q1.output, q1.size, q1.block⟩
    exact grown_trans q1' q2
  simp only [List.length_cons, List.length_nil, Nat.zero_add] at r2
  have hin0 : i ≤ n := by omega
  have hz2' : ¬ ((i : Int) = (n : Int)) := by omega
  have hc1 : (n : Int) + 1 ≤ (cap : Int) := by omega
  have hci : ¬ cap = i := by omega
  have hci1 : ¬ cap = i + 1 := by omega
  have hw1 : IntKind.i64.wrap ((i : Int) + 1) = (i : Int) + 1 := by rw [IntKind.wrap_i64]; omega
  have hb1 : (0 : Int) ≤ (i : Int) + 1 := by omega
  have htn : ((i : Int) + 1).toNat = i + 1 := by omega
  have hb3 : (i : Int) ≤ (n : Int) + 1 := by omega
  have hb4 : (i : Int) ≤ (n : Int) := by omega
  clear hown hv hg hcl hct hbg hcm hsrc hsrcD g1 q1 hv1 hsl g2 q2 hD
  go_enter Try.func46, Try.ntmps46
  go_wp2_with (simp only [hov])
  go_region
  all_goals
    go_wp2
    go_ret
    exact ⟨_, rfl, HE.out⟩

/-- 'slices.Insert' of one number into a column of one's own. -/
theorem ins_anyI (base g n cap i vb : Nat) (xs : List Value) (X : Value) (w : World) (hown : w.ownsRow base 3 1 (.slice (some ⟨g, 0, none⟩) n cap) n xs) (hn : n ≤ 1048576) (hin : i ≤ n) (hv : w.heap[vb]? = some (.cells #[X] 3)) (hvg : vb ≠ g) (hX : X.oneCell' = true) (h1 : ∀ v ∈ xs, v.oneCell' = true) (hbase : base ≤ w.heap.size) :
    Calls Try.prog 46 #[.slice (some ⟨g, 0, none⟩) n cap, .int .i64 i, .slice (some ⟨vb, 0, none⟩) 1 1] w fun en w' => ∃ v', en = .returned v' ∧ w'.ownsRow base 3 1 v' (n + 1) (insL xs i X) ∧ w.grownBy w' (some g) := by
  by_cases h : i = n
  · subst h
    have hxl : xs.length = i := by have := hown.1; omega
    have e : insL xs i X = xs ++ [X] := by rw [← hxl]; simp [insL]
    rw [e]
    exact ins_endI base g i cap vb xs X w hown hn hv hX hbase
  · by_cases h2 : cap < n + 1
    · exact ins_growI base g n cap i vb xs X w hown hn (by omega) h2 hv hX h1 hbase
    · exact ins_shiftI base g n cap i vb xs X w hown hn (by omega) (by omega) hv hvg hX h1

/-- 'slices.Insert' of one column into a list of one's own that is full. -/
theorem ins_anyL (base g n i vb : Nat) (xs : List Value) (X : Value) (w : World) (hown : w.ownsRow base 28 1 (.slice (some ⟨g, 0, none⟩) n n) n xs) (hn : n ≤ 1048576) (hin : i ≤ n) (hv : w.heap[vb]? = some (.cells #[X] 28)) (hX : X.oneCell' = true) (h1 : ∀ v ∈ xs, v.oneCell' = true) (hbase : base ≤ w.heap.size) :
    Calls Try.prog 45 #[.slice (some ⟨g, 0, none⟩) n n, .int .i64 i, .slice (some ⟨vb, 0, none⟩) 1 1] w fun en w' => ∃ v', en = .returned v' ∧ w'.ownsRow base 28 1 v' (n + 1) (insL xs i X) ∧ w.grownBy w' (some g) := by
  by_cases h : i = n
  · subst h
    have hxl : xs.length = i := by have := hown.1; omega
    have e : insL xs i X = xs ++ [X] := by rw [← hxl]; simp [insL]
    rw [e]
    exact ins_endL base g i i vb xs X w hown hn hv hX hbase
  · exact ins_growL base g n n i vb xs X w hown hn (by omega) (by omega) hv hX h1 hbase

end Go.Proofs.Ytmdlbclaipajlab.Tl
