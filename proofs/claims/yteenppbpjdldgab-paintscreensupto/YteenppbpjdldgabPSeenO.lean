/- The document's own answer: what is to be seen at a place that is out of all. -/
import Derived.Test.YteenppbpjdldgabPCellO
namespace Go.Proofs.Yteenppbpjdldgab.Pt
open Go.RowKit
open Go.Proofs.Yteenppbpjdldgab.Tl (Rc noRc whereT shareT inR findT goodT paneB CIt colsOf RdT RdL tval tbox rval rbox rcells zbox cv)

set_option maxHeartbeats 1000000 in
theorem seen_out (v : Vw) (l : Lay) (C : Array Value) (hC : VC v l C) (row col : Int) (w : World) (h : ¬ withinV v row col) :
    Calls Try.prog 37 #[.agg C, .int .i64 row, .int .i64 col] w fun e w' => e = .returned (cval (sign 46)) ∧ Below w.heap.size w w' := by
  obtain ⟨c0, c1, c2, c3⟩ := hC.cells
  have HB : Hid (∀ o1 o2 : Obj, ∀ u0 u1 u2 u3, Below w.heap.size w ((((((w.alloc o1).alloc o2).setCell ⟨w.heap.size + 1, 0, none⟩ u0).setCell ⟨w.heap.size + 1, 1, none⟩ u1).setCell ⟨w.heap.size + 1, 2, none⟩ u2).setCell ⟨w.heap.size + 1, 3, none⟩ u3)) := fun o1 o2 u0 u1 u2 u3 => Tl.set4_below (Tl.below2 _ _ _) (by omega) _ _ _ _
  have hcs : row < 0 ∨ (0 ≤ row ∧ v.high ≤ row) ∨ (0 ≤ row ∧ row < v.high ∧ col < 0) ∨ (0 ≤ row ∧ row < v.high ∧ 0 ≤ col ∧ v.wide ≤ col) := by unfold withinV at h; omega
  clear h hC
  rcases hcs with h | ⟨h1, h2⟩ | ⟨h1, h2, h3⟩ | ⟨h1, h2, h3, h4⟩
  all_goals
    go_enter Try.func37, Try.ntmps37
    go_wp2_with fail
    refine bodyPost_ret (v := cval (sign 46)) (by simp [results, Try.results37, go_sem, sign]) rfl ?_
    first | exact ⟨rfl, HB.out _ _ _ _ _ _⟩ | exact ⟨rfl, Tl.below2 _ _ _⟩

end Go.Proofs.Yteenppbpjdldgab.Pt
