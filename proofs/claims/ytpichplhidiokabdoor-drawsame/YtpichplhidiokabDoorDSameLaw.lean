/- The law DrawSame: to turn a screen into itself no bytes are needed. -/
import Derived.Test.YtpichplhidiokabDoorDDraws
import Derived.Test.YtpichplhidiokabDoorDSame
namespace Go.Proofs.YtpichplhidiokabDoor
open Go.RowKit
set_option maxRecDepth 100000

set_option maxHeartbeats 2000000 in
theorem drawSame_no (g : Gr) (ao : Option Addr) (cap : Nat) (w : World) (hr : RdS w ao g.n g.f) (hm : g.n ≤ 4398046511104) (hB : goodG g = false ∨ goodG g = true ∧ g.col = g.wide) :
    Calls Tryd.prog 3 #[gval g ao cap] w fun e w' => e = .returned (.bool true) ∧ Below w.heap.size w w' := by
  obtain ⟨G, hG⟩ : ∃ G, G = goodG g := ⟨_, rfl⟩
  have HG : Hid (∀ w', Below w.heap.size w w' → Calls Tryd.prog 4 #[gval g ao cap] w' fun e w'' => e = .returned (.bool G) ∧ Below w'.heap.size w' w'') := fun w' hb => good_any g ao cap w' (hr.below hb) (by omega) G hG
  rw [← hG] at hB
  clear hr hm hG
  rcases hB with rfl | ⟨rfl, e1⟩
  · go_enter Tryd.func3, Tryd.ntmps3
    go_wp2_with (first
      | (go_at_call 4; refine (HG.out _ (below1 _ _)).mono ?_; rintro e w1 ⟨rfl, hb1⟩; have HB1 : Hid (Below w.heap.size w w1) := below_up hb1; obtain ⟨⟨x0, x1, x2, x3, x4, x5, x6, x7, x8⟩, xf⟩ := nine (below_block hb1 (at_new w _) (by simp)); clear hb1)
      | (go_at_call 5; refine (draws_any _).mono ?_; rintro e w2 ⟨rfl, hb2⟩; have HB2 : Hid (Below w.heap.size w w2) := HB1.out.trans (hb2.mono HB1.out.size); clear hb2))
    go_ret
    exact ⟨rfl, HB2.out⟩
  · have e2 : (g.col == g.wide) = true := by simpa using e1
    clear e1
    go_enter Tryd.func3, Tryd.ntmps3
    go_wp2_with (first
      | (go_at_call 4; refine (HG.out _ (below1 _ _)).mono ?_; rintro e w1 ⟨rfl, hb1⟩; have HB1 : Hid (Below w.heap.size w w1) := below_up hb1; obtain ⟨⟨x0, x1, x2, x3, x4, x5, x6, x7, x8⟩, xf⟩ := nine (below_block hb1 (at_new w _) (by simp)); clear hb1)
      | (go_at_call 5; refine (draws_any _).mono ?_; rintro e w2 ⟨rfl, hb2⟩; have HB2 : Hid (Below w.heap.size w w2) := HB1.out.trans (hb2.mono HB1.out.size); clear hb2))
    go_ret
    exact ⟨rfl, HB2.out⟩

set_option maxHeartbeats 2000000 in
theorem drawSame_yes (g : Gr) (ok : OkG g) (hc : g.col < g.wide) (ao : Option Addr) (cap : Nat) (w : World) (hr : RdS w ao g.n g.f) (hn : ao = none → g.n = 0 ∧ cap = 0) (hcap : g.n ≤ cap) :
    Calls Tryd.prog 3 #[gval g ao cap] w fun e w' => e = .returned (.bool true) ∧ Below w.heap.size w w' := by
  obtain ⟨m1, m2, _⟩ := ok.nums
  have hT : turnR g g = ([], g, 0) := by
    unfold turnR
    rw [if_pos ((turnB_iff g g).2 ⟨ok, ok, hc, rfl, rfl⟩), turn_same ok hc]
  have HG : Hid (∀ w', Below w.heap.size w w' → Calls Tryd.prog 4 #[gval g ao cap] w' fun e w'' => e = .returned (.bool true) ∧ Below w'.heap.size w' w'') := fun w' hb => good_any g ao cap w' (hr.below hb) (by omega) true ((goodG_iff g).2 ok).symm
  have HT : Hid (∀ w', Below w.heap.size w w' → Calls Tryd.prog 6 #[gval g ao cap, gval g ao cap] w' (DrawEnd w' ([], g, 0))) := fun w' hb => by
    rw [← hT]
    exact turn_any g ao cap g ao cap w' (hr.below hb) hn (by omega) (hr.below hb) (by omega) hcap
  have HS : Hid (∀ w' ox cx, Below w.heap.size w w' → RdS w' ox g.n g.f → Calls Tryd.prog 7 #[gval g ox cx, gval g ao cap] w' fun e w'' => e = .returned (.bool true) ∧ Below w'.heap.size w' w'') := fun w' ox cx hb hx => sameGridK_eq g ox ao cx cap w' hx (hr.below hb) (by omega)
  have e2 : (g.col == g.wide) = false := by simp; omega
  clear hr hn hcap m1 m2 hT ok hc
  go_enter Tryd.func3, Tryd.ntmps3
  go_wp2_with (first
    | (go_at_call 4; refine (HG.out _ (below1 _ _)).mono ?_; rintro e w1 ⟨rfl, hb1⟩; have HB1 : Hid (Below w.heap.size w w1 ∧ w1.heap[w.heap.size]? = some (gbox g ao cap)) := ⟨below_up hb1, below_block hb1 (at_new w _) (by simp)⟩; obtain ⟨⟨x0, x1, x2, x3, x4, x5, x6, x7, x8⟩, xf⟩ := nine HB1.out.2; clear hb1)
    | (go_at_call 6; refine (HT.out _ HB1.out.1).mono ?_; rintro e w2 ⟨ox, cx, rfl, hcp⟩; have HB2 : Hid (Below w.heap.size w w2 ∧ w2.heap[w.heap.size]? = some (gbox g ao cap) ∧ RdS w2 ox g.n g.f) := ⟨HB1.out.1.trans (hcp.2.2.mono HB1.out.1.size), below_block hcp.2.2 HB1.out.2 (Array.getElem?_eq_some_iff.1 HB1.out.2).1, hcp.1⟩; clear hcp x0 x1 x2 x3 x4 x5 x6 x7 x8 xf; obtain ⟨⟨x0, x1, x2, x3, x4, x5, x6, x7, x8⟩, xf⟩ := nine HB2.out.2.1; have hlt2 := (Array.getElem?_eq_some_iff.1 HB2.out.2.1).1)
    | (go_at_call 7; refine (HS.out _ ox cx (HB2.out.1.alloc HB2.out.1.size _) (HB2.out.2.2.below (below1 _ _))).mono ?_; rintro e w3 ⟨rfl, hb3⟩; have HB3 : Hid (Below w.heap.size w w3) := (HB2.out.1.alloc HB2.out.1.size _).trans (hb3.mono (Nat.le_trans HB2.out.1.size (by simp))); clear hb3)
    | (go_at_call 5; refine (draws_any _).mono ?_; rintro e w4 ⟨rfl, hb4⟩; have HB4 : Hid (Below w.heap.size w w4) := HB3.out.trans (hb4.mono HB3.out.size); clear hb4))
  go_ret
  exact ⟨rfl, HB4.out⟩

theorem drawSame_any (g : Gr) (ao : Option Addr) (cap : Nat) (w : World) (hr : RdS w ao g.n g.f) (hn : ao = none → g.n = 0 ∧ cap = 0) (hm : g.n ≤ 4398046511104) (hcap : g.n ≤ cap) :
    Calls Tryd.prog 3 #[gval g ao cap] w fun e w' => e = .returned (.bool true) ∧ Below w.heap.size w w' := by
  by_cases hG : goodG g = true
  · have ok := (goodG_iff g).1 hG
    by_cases hc : g.col = g.wide
    · exact drawSame_no g ao cap w hr hm (.inr ⟨hG, hc⟩)
    · have := ok.c2
      exact drawSame_yes g ok (by omega) ao cap w hr hn hcap
  · exact drawSame_no g ao cap w hr hm (.inl (by simpa using hG))

end Go.Proofs.YtpichplhidiokabDoor
