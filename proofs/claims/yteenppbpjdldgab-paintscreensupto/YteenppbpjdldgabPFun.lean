/- The small functions of paint: within, digit, inside, place. -/
import Derived.Test.YteenppbpjdldgabPBase
namespace Go.Proofs.Yteenppbpjdldgab.Pt
open Go.RowKit
open Go.Proofs.Yteenppbpjdldgab.Tl (Rc noRc whereT shareT inR findT goodT paneB CIt colsOf RdT RdL tval tbox rval rbox rcells zbox cv)

theorem within_any (n a b : Int) (w : World) : Calls Try.prog 69 #[.int .i64 n, .int .i64 a, .int .i64 b] w fun e w' => e = .returned (.int .i64 (max a (min n b))) ∧ w' = w := by
  go_enter Try.func69, Try.ntmps69
  go_wp2
  all_goals (go_ret; exact ⟨ret_int (by omega), rfl⟩)

theorem digit_any (n : Int) (w : World) : Calls Try.prog 66 #[.int .i64 n] w fun e w' => e = .returned (.int .i64 (48 + max 0 (min n 9))) ∧ w' = w := by
  obtain ⟨m, hm⟩ : ∃ m, m = max 0 (min n 9) := ⟨_, rfl⟩
  have HW : Hid (∀ w, Calls Try.prog 69 #[.int .i64 n, .int .i64 0, .int .i64 9] w fun e w' => e = .returned (.int .i64 m) ∧ w' = w) := fun w => by rw [hm]; exact within_any n 0 9 w
  have h0 : 0 ≤ m := by omega
  have h1 : m ≤ 9 := by omega
  rw [← hm]
  clear hm
  go_enter Try.func66, Try.ntmps66
  go_wp2_with (go_at_call 69; refine (HW.out _).mono ?_; rintro e w1 ⟨rfl, rfl⟩)
  go_ret
  exact ⟨rfl, rfl⟩

theorem inside_any (r : Rc) (row col : Int) (w : World) (h1 : 0 ≤ r.row ∧ r.row ≤ 24) (h2 : 0 ≤ r.col ∧ r.col ≤ 24) (h3 : 0 ≤ r.high ∧ r.high ≤ 24) (h4 : 0 ≤ r.wide ∧ r.wide ≤ 24) :
    Calls Try.prog 63 #[rval r, .int .i64 row, .int .i64 col] w fun e w' => e = .returned (.bool (inRb r row col)) ∧ Below w.heap.size w w' := by
  obtain ⟨r0, r1, r2, r3⟩ := r
  simp only at h1 h2 h3 h4
  go_enter Try.func63, Try.ntmps63
  go_wp2
  all_goals (go_ret; refine ⟨ret_bool ?_, Tl.below1 _ _⟩; rw [Bool.eq_iff_iff]; simp only [inRb, decide_eq_true_eq, Bool.false_eq_true, false_iff]; omega)

theorem place_any (v : Vw) (l : Lay) (C : Array Value) (hC : VC v l C) (p : Int) (w : World) (hv : RdV w v l) (r : Rc) (hr : r = v.place p) :
    Calls Try.prog 62 #[.agg C, .int .i64 p] w fun e w' => e = .returned (rval r) ∧ Below w.heap.size w w' := by
  have hr' : r = whereT (colsOf l.its) v.wide v.high p := by rw [hr, Vw.place, hv.cols]
  have HW : Hid (∀ w, RdT w l.co l.its → Calls Try.prog 30 #[tval l.co l.its.length l.cap, .int .i64 v.wide, .int .i64 v.high, .int .i64 p] w fun e w' => e = .returned (rval r) ∧ Below w.heap.size w w') := fun w h => Tl.where_any l.its l.co l.cap v.wide v.high p w h hv.m1 hv.m2 r hr'
  have HV : Hid (RdV w v l) := hv
  obtain ⟨c0, c1, c2, c3⟩ := hC.cells
  clear hr hr' hv hC
  go_enter Try.func62, Try.ntmps62
  go_wp2_with (go_at_call 30; refine (HW.out _ (HV.out.rd.below (Tl.below2 _ _ _))).mono ?_; rintro e w1 ⟨rfl, hb1⟩; have HB : Hid (Below w.heap.size w w1) := Tl.below_to (Tl.below2 _ _ _) hb1; obtain ⟨⟨d0, d1, d2, d3⟩, d4⟩ := Tl.four (below_block hb1 (at_new1 w _ _) (by simp)); clear hb1)
  refine bodyPost_ret (v := rval r) (by simp [results, Try.results62, go_sem, *]) rfl ?_
  exact ⟨rfl, Tl.set4_below HB.out (by omega) _ _ _ _⟩

end Go.Proofs.Yteenppbpjdldgab.Pt
