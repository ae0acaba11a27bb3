/- What 'GridGood' answers: true. -/
import Derived.Test.YteenppbpjdldgaaGTwo
import Derived.Test.YteenppbpjdldgaaGSame
namespace Go.Proofs.Yteenppbpjdldgaa
open Go.RowKit

set_option maxHeartbeats 1000000 in
theorem kgood_no (g : Gr) (ao : Option Addr) (cap : Nat) (e : Evt) (eo : Option Addr) (ec : Nat) (w : World) (hr : RdS w ao g.n g.f) (hm : g.n ≤ 4398046511104) (q : Int) (h0 : q ≠ 0)
    (HD : Hid (∀ w', Below w.heap.size w w' → Calls Try.prog 27 #[gval g ao cap, eval e eo ec] w' (AllEnd w' (g, q)))) :
    Calls Try.prog 10 #[gval g ao cap, eval e eo ec] w fun e w' => e = .returned (.bool true) ∧ Below w.heap.size w w' := by
  have HR : Hid (RdS w ao g.n g.f) := hr
  have he : (q == 0) = false := by simp [h0]
  have he2 : (q != 0) = true := by simp [h0]
  have HSM : Hid (∀ w ax cx, RdS w ax g.n g.f → RdS w ao g.n g.f → Calls Try.prog 43 #[gval g ax cx, gval g ao cap] w fun e w' => e = .returned (.bool true) ∧ Below w.heap.size w w') := fun w ax cx h1 h2 => sameCells_eq g g.row g.col g.ink g.bold g.top g.bottom ax ao cx cap w h1 h2 hm
  clear hr hm h0
  go_enter Try.func10, Try.ntmps10
  go_wp2_with (first
    | (go_at_call 27; refine (HD.out _ (below2 _ _ _)).mono ?_; rintro e1 w2 ⟨ax, cx, rfl, hcp⟩; have HT : Hid (Two w g g ao ax cap cx w2.heap.size (w2.alloc (gbox g ax cx))) := two_of2 HR.out rfl hcp; obtain ⟨⟨x0, x1, x2, x3, x4, x5, x6, x7, x8⟩, z⟩ := nine (below_block hcp.2.2 (at_old (at_new w _) _) (by simp; omega)); have hsz : w.heap.size < w2.heap.size := (by have := hcp.2.2.size; simp at this; omega); clear hcp)
    | (go_at_call 43; refine (HSM.out _ ax cx HT.out.rx HT.out.rg).mono ?_; rintro e1 w4 ⟨rfl, hb4⟩; have HT4 : Hid (Two w g g ao ax cap cx w2.heap.size w4) := HT.out.later hb4; obtain ⟨⟨p0, p1, p2, p3, p4, p5, p6, p7, p8⟩, z5⟩ := nine HT4.out.one; obtain ⟨⟨q0, q1, q2, q3, q4, q5, q6, q7, q8⟩, z6⟩ := nine HT4.out.two; clear hb4)
    | (go_at_call 42; refine (shows_any _).mono ?_; rintro e1 w3 ⟨rfl, hb3⟩; have HT3 : Hid (Two w g g ao ax cap cx w2.heap.size w3) := HT4.out.later hb3; clear hb3))
  go_ret
  exact ⟨rfl, HT3.out.below⟩

set_option maxHeartbeats 1000000 in
theorem kgood_yes (g : Gr) (ao : Option Addr) (cap : Nat) (e : Evt) (eo : Option Addr) (ec : Nat) (w : World) (hr : RdS w ao g.n g.f) (x : Gr) (hx : OkG x) (hw : x.wide = g.wide) (hh : x.high = g.high)
    (HD : Hid (∀ w', Below w.heap.size w w' → Calls Try.prog 27 #[gval g ao cap, eval e eo ec] w' (AllEnd w' (x, 0)))) :
    Calls Try.prog 10 #[gval g ao cap, eval e eo ec] w fun e w' => e = .returned (.bool true) ∧ Below w.heap.size w w' := by
  have HR : Hid (RdS w ao g.n g.f) := hr
  have HG : Hid (∀ w ax cx, RdS w ax x.n x.f → Calls Try.prog 30 #[gval x ax cx] w fun e w' => e = .returned (.bool true) ∧ Below w.heap.size w w') := fun w ax cx h1 => good_any x ax cx w h1 (by obtain ⟨q1, q2, _⟩ := hx.nums; omega) true ((goodG_iff x).2 hx).symm
  have HWH : Hid (x.wide = g.wide ∧ x.high = g.high) := ⟨hw, hh⟩
  clear hr hx hw hh
  go_enter Try.func10, Try.ntmps10
  go_wp2_with (first
    | (go_at_call 27; refine (HD.out _ (below2 _ _ _)).mono ?_; rintro e1 w2 ⟨ax, cx, rfl, hcp⟩; have HT : Hid (Two w g x ao ax cap cx w2.heap.size (w2.alloc (gbox x ax cx))) := two_of2 HR.out rfl hcp; obtain ⟨⟨x0, x1, x2, x3, x4, x5, x6, x7, x8⟩, z⟩ := nine (below_block hcp.2.2 (at_old (at_new w _) _) (by simp; omega)); have hsz : w.heap.size < w2.heap.size := (by have := hcp.2.2.size; simp at this; omega); clear hcp)
    | (go_at_call 42; refine (shows_any _).mono ?_; rintro e1 w3 ⟨rfl, hb3⟩; have HT3 : Hid (Two w g x ao ax cap cx w2.heap.size w3) := HT.out.later hb3; obtain ⟨⟨p0, p1, p2, p3, p4, p5, p6, p7, p8⟩, z5⟩ := nine HT3.out.one; obtain ⟨⟨q0, q1, q2, q3, q4, q5, q6, q7, q8⟩, z6⟩ := nine HT3.out.two; clear hb3)
    | (go_at_call 30; refine (HG.out _ ax cx HT3.out.rx).mono ?_; rintro e1 w4 ⟨rfl, hb4⟩; have HT4 : Hid (Two w g x ao ax cap cx w2.heap.size w4) := HT3.out.later hb4; obtain ⟨⟨s0, s1, s2, s3, s4, s5, s6, s7, s8⟩, z7⟩ := nine HT4.out.one; obtain ⟨⟨t0, t1, t2, t3, t4, t5, t6, t7, t8⟩, z8⟩ := nine HT4.out.two; rw [HWH.out.1] at t0; rw [HWH.out.2] at t1; clear hb4))
  go_ret
  exact ⟨rfl, HT4.out.below⟩

theorem kgood_any (g : Gr) (ao : Option Addr) (cap : Nat) (e : Evt) (eo : Option Addr) (ec : Nat) (w : World) (hr : RdS w ao g.n g.f) (hn : ao = none → g.n = 0 ∧ cap = 0) (hm : g.n ≤ 4398046511104) (hl : RdL w eo e.ps) (hpl : e.ps.length ≤ 140737488355328) (hpp : e.pl.size ≤ 140737488355328) :
    Calls Try.prog 10 #[gval g ao cap, eval e eo ec] w fun e w' => e = .returned (.bool true) ∧ Below w.heap.size w w' := by
  obtain ⟨r, hrr⟩ : ∃ r, r = actG g e := ⟨_, rfl⟩
  have HD : ∀ w', Below w.heap.size w w' → Calls Try.prog 27 #[gval g ao cap, eval e eo ec] w' (AllEnd w' r) :=
    fun w' hb => do_any g ao cap e eo ec w' (hr.below hb) hn hm (hl.below hb) (fun h => done_any e eo ec hpl hpp h) r hrr
  rcases act_cases hrr with ⟨h0, h1⟩ | ⟨ok, hc, he⟩
  · refine kgood_no g ao cap e eo ec w hr hm r.2 h0 ?_
    intro w' hb
    have := HD w' hb
    rw [show r = (g, r.2) by rw [← h1]] at this
    exact this
  · rw [he] at HD
    obtain ⟨k1, k2, k3, _⟩ := ok_done ok e hc
    exact kgood_yes g ao cap e eo ec w hr _ k1 k2 k3 HD

end Go.Proofs.Yteenppbpjdldgaa
