/- Screens that are alike: what 'sameGrid' answers. -/
import Derived.Test.YtpichplhidiokabDoorGSame
namespace Go.Proofs.YtpichplhidiokabDoor
open Go.RowKit
set_option maxRecDepth 100000

set_option maxHeartbeats 1000000 in
theorem sameGridK_eq (a : Gr) (oa ob : Option Addr) (ca cb : Nat) (w : World) (ha : RdS w oa a.n a.f) (hb : RdS w ob a.n a.f) (hm : a.n ≤ 4398046511104) :
    Calls Tryd.prog 7 #[gval a oa ca, gval a ob cb] w fun e w' => e = .returned (.bool true) ∧ Below w.heap.size w w' := by
  have HB2 : Hid (∀ o1 o2 : Obj, Below w.heap.size w ((w.alloc o1).alloc o2)) := fun o1 o2 => (below1 _ _).alloc (by simp) _
  have HS : Hid (∀ w', Below w.heap.size w w' → Calls Tryd.prog 15 #[gval a oa ca, gval a ob cb] w' fun e w'' => e = .returned (.bool true) ∧ Below w'.heap.size w' w'') := fun w' hbe => sameCells_eq a a.row a.col a.ink a.bold a.top a.bottom oa ob ca cb w' (ha.below hbe) (hb.below hbe) hm
  have HP : Hid (Pair w a a oa ob ca cb ((w.alloc (gbox a oa ca)).alloc (gbox a ob cb))) := ⟨at_old (at_new w _) _, at_new1 w _ _, ha.below (HB2.out _ _), hb.below (HB2.out _ _), HB2.out _ _⟩
  clear ha hb hm
  go_enter Tryd.func7, Tryd.ntmps7
  go_wp2_with (go_at_call 15; refine (HS.out _ (HB2.out _ _)).mono ?_; rintro e w1 ⟨rfl, hb1⟩; have HQ : Hid (Pair w a a oa ob ca cb w1) := HP.out.later hb1; obtain ⟨⟨x0, x1, x2, x3, x4, x5, x6, x7, x8⟩, xf⟩ := nine HQ.out.one; obtain ⟨⟨y0, y1, y2, y3, y4, y5, y6, y7, y8⟩, yf⟩ := nine HQ.out.two; clear hb1)
  go_ret
  exact ⟨ret_bool (by simp), HQ.out.below⟩

end Go.Proofs.YtpichplhidiokabDoor
