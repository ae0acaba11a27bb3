/- Package tiles answers. -/
import Derived.Test.YtmdlbclaipajlabTSplit2
import Derived.Test.YtmdlbclaipajlabTWhere
namespace Go.Proofs.Ytmdlbclaipajlab.Tl
open Go.RowKit

theorem rd_first (w : World) : RdT ((w.alloc (.cells #[.int .i64 0] 3)).alloc (.cells #[.slice (some ⟨w.heap.size, 0, none⟩) 1 1] 28)) (some ⟨w.heap.size + 1, 0, none⟩) [([0], some ⟨w.heap.size, 0, none⟩, 1)] := by
  have h1 := at_old (at_new w (.cells #[.int .i64 0] 3)) (.cells #[.slice (some ⟨w.heap.size, 0, none⟩) 1 1] 28)
  have h2 := at_new1 w (.cells #[.int .i64 0] 3) (.cells #[.slice (some ⟨w.heap.size, 0, none⟩) 1 1] 28)
  refine ⟨fun x hx => ?_, .inr ⟨_, 0, rfl, fun k hk => ?_⟩⟩
  · simp only [List.mem_singleton] at hx
    subst hx
    refine ⟨.inr ⟨_, 0, rfl, fun j hj => ?_⟩, fun h => by cases h⟩
    have : j = 0 := by simp at hj; omega
    subst this
    exact (one h1).1
  · have : k = 0 := by simp at hk; omega
    subst this
    exact (one h2).1

theorem len_two {its : List CIt} (hc : colsOf its = [[0], [3]]) : its.length = 2 := by
  have := congrArg List.length hc
  simpa using this
theorem small_two {its : List CIt} (hc : colsOf its = [[0], [3]]) : ∀ x ∈ its, x.1.length ≤ 17592186044416 := by
  intro x hx
  have h : x.1 ∈ colsOf its := List.mem_map.2 ⟨x, hx, rfl⟩
  rw [hc] at h
  simp at h
  rcases h with h | h <;> rw [h] <;> simp
theorem has_two {its : List CIt} {co : Option Addr} (hc : colsOf its = [[0], [3]]) (cap : Nat) (W : World) (hr : RdT W co its) : Calls Try.prog 23 #[tval co 2 cap, .int .i64 3] W fun e w' => e = .returned (.bool true) ∧ Below W.heap.size W w' := by
  have := has_any its co cap 3 W hr (by rw [len_two hc]; omega) (small_two hc) true (by rw [hc]; rfl)
  rw [len_two hc] at this
  exact this
theorem where_two {its : List CIt} {co : Option Addr} (hc : colsOf its = [[0], [3]]) (cap : Nat) (W : World) (hr : RdT W co its) : Calls Try.prog 28 #[tval co 2 cap, .int .i64 9, .int .i64 2, .int .i64 3] W fun e w' => e = .returned (.agg #[.int .i64 0, .int .i64 5, .int .i64 2, .int .i64 4]) ∧ Below W.heap.size W w' := by
  have := where_any its co cap 9 2 3 W hr (by rw [len_two hc]; omega) (small_two hc) ⟨0, 5, 2, 4⟩ (by rw [hc]; rfl)
  rw [len_two hc] at this
  exact this

set_option maxHeartbeats 1000000 in
set_option maxRecDepth 100000 in
theorem laysK (w : World) : Calls Try.prog 32 #[] w fun e w' => e = .returned (.bool true) ∧ Below w.heap.size w w' := by
  have HRD : Hid (RdT ((w.alloc (.cells #[.int .i64 0] 3)).alloc (.cells #[.slice (some ⟨w.heap.size, 0, none⟩) 1 1] 28)) (some ⟨w.heap.size + 1, 0, none⟩) [([0], some ⟨w.heap.size, 0, none⟩, 1)]) := rd_first w
  have HSP : Hid (∀ W, RdT W (some ⟨w.heap.size + 1, 0, none⟩) [([0], some ⟨w.heap.size, 0, none⟩, 1)] → Calls Try.prog 16 #[.agg #[.slice (some ⟨w.heap.size + 1, 0, none⟩) 1 1], .int .i64 0, .int .i64 3, .bool true] W (SpEnd W ([[0], [3]], 0))) := fun W h =>
    split_any [([0], some ⟨w.heap.size, 0, none⟩, 1)] (some ⟨w.heap.size + 1, 0, none⟩) 1 0 3 true W h (by simp) (by simp) ([[0], [3]], 0) (by rfl)
  go_enter Try.func32, Try.ntmps32
  go_wp2_with (first
    | (go_at_call 16; refine (HSP.out _ HRD.out).mono ?_; rintro e w1 ⟨co, cap, its, rfl, hc, hrd, hb⟩; have hl : its.length = 2 := len_two hc; have HE : Hid (RdT (w1.alloc (tbox co 2 cap)) co its ∧ colsOf its = [[0], [3]] ∧ Below w.heap.size w (w1.alloc (tbox co 2 cap))) := ⟨hrd.below (below1 _ _), hc, below_to (below_to (below2 _ _ _) hb) (below1 _ _)⟩; rw [hl]; obtain ⟨a1, a2⟩ := one (at_new w1 (tbox co 2 cap)); have HH : Hid (∀ W, RdT W co its → Calls Try.prog 23 #[tval co 2 cap, .int .i64 3] W fun e w' => e = .returned (.bool true) ∧ Below W.heap.size W w') := has_two hc cap; have HWH : Hid (∀ W, RdT W co its → Calls Try.prog 28 #[tval co 2 cap, .int .i64 9, .int .i64 2, .int .i64 3] W fun e w' => e = .returned (.agg #[.int .i64 0, .int .i64 5, .int .i64 2, .int .i64 4]) ∧ Below W.heap.size W w') := where_two hc cap; clear hc hrd hb hl)
    | (go_at_call 23; refine (HH.out _ HE.out.1).mono ?_; rintro e w2 ⟨rfl, hb2⟩; have HE2 : Hid (RdT w2 co its ∧ Below w.heap.size w w2) := ⟨HE.out.1.below hb2, below_to HE.out.2.2 hb2⟩; clear a1 a2; obtain ⟨a1, a2⟩ := one (below_block hb2 (at_new w1 (tbox co 2 cap)) (by simp)); clear hb2)
    | (go_at_call 28; refine (HWH.out _ HE2.out.1).mono ?_; rintro e w3 ⟨rfl, hb3⟩; have HE3 : Hid (Below w.heap.size w w3) := below_to HE2.out.2 hb3; clear hb3)
    | fail)
  go_ret
  exact ⟨rfl, HE3.out⟩

set_option maxHeartbeats 1000000 in
set_option maxRecDepth 100000 in
theorem laysL (w : World) : Calls Try.prog 25 #[] w fun e w' => e = .returned (.bool true) ∧ Below w.heap.size w w' := by
  have HRD : Hid (RdT ((w.alloc (.cells #[.int .i64 0] 3)).alloc (.cells #[.slice (some ⟨w.heap.size, 0, none⟩) 1 1] 28)) (some ⟨w.heap.size + 1, 0, none⟩) [([0], some ⟨w.heap.size, 0, none⟩, 1)]) := rd_first w
  have HSP : Hid (∀ W, RdT W (some ⟨w.heap.size + 1, 0, none⟩) [([0], some ⟨w.heap.size, 0, none⟩, 1)] → Calls Try.prog 16 #[.agg #[.slice (some ⟨w.heap.size + 1, 0, none⟩) 1 1], .int .i64 0, .int .i64 3, .bool true] W (SpEnd W ([[0], [3]], 0))) := fun W h =>
    split_any [([0], some ⟨w.heap.size, 0, none⟩, 1)] (some ⟨w.heap.size + 1, 0, none⟩) 1 0 3 true W h (by simp) (by simp) ([[0], [3]], 0) (by rfl)
  go_enter Try.func25, Try.ntmps25
  go_wp2_with (first
    | (go_at_call 16; refine (HSP.out _ HRD.out).mono ?_; rintro e w1 ⟨co, cap, its, rfl, hc, hrd, hb⟩; have hl : its.length = 2 := len_two hc; have HE : Hid (RdT (w1.alloc (tbox co 2 cap)) co its ∧ colsOf its = [[0], [3]] ∧ Below w.heap.size w (w1.alloc (tbox co 2 cap))) := ⟨hrd.below (below1 _ _), hc, below_to (below_to (below2 _ _ _) hb) (below1 _ _)⟩; rw [hl]; obtain ⟨a1, a2⟩ := one (at_new w1 (tbox co 2 cap)); have HH : Hid (∀ W, RdT W co its → Calls Try.prog 23 #[tval co 2 cap, .int .i64 3] W fun e w' => e = .returned (.bool true) ∧ Below W.heap.size W w') := has_two hc cap; have HWH : Hid (∀ W, RdT W co its → Calls Try.prog 28 #[tval co 2 cap, .int .i64 9, .int .i64 2, .int .i64 3] W fun e w' => e = .returned (.agg #[.int .i64 0, .int .i64 5, .int .i64 2, .int .i64 4]) ∧ Below W.heap.size W w') := where_two hc cap; clear hc hrd hb hl)
    | (go_at_call 23; refine (HH.out _ HE.out.1).mono ?_; rintro e w2 ⟨rfl, hb2⟩; have HE2 : Hid (RdT w2 co its ∧ Below w.heap.size w w2) := ⟨HE.out.1.below hb2, below_to HE.out.2.2 hb2⟩; clear a1 a2; obtain ⟨a1, a2⟩ := one (below_block hb2 (at_new w1 (tbox co 2 cap)) (by simp)); clear hb2)
    | (go_at_call 28; refine (HWH.out _ HE2.out.1).mono ?_; rintro e w3 ⟨rfl, hb3⟩; have HE3 : Hid (Below w.heap.size w w3) := below_to HE2.out.2 hb3; clear hb3)
    | fail)
  go_ret
  exact ⟨rfl, HE3.out⟩

end Go.Proofs.Ytmdlbclaipajlab.Tl
