/- What 'All' does with no events; what it does, whole. -/
import Derived.Test.YthgdfkaaklfbkaaGAll2
import Derived.Test.YthgdfkaaklfbkaaGDone2
namespace Go.Proofs.Ythgdfkaaklfbkaa
open Go.RowKit

set_option maxHeartbeats 1000000 in
theorem all_nil (g : Gr) (ao : Option Addr) (cap : Nat) (lo : Option Addr) (lc : Nat) (w : World) (hr : RdS w ao g.n g.f) (hn : ao = none → g.n = 0 ∧ cap = 0) (hm : g.n ≤ 1048576) :
    Calls Try.prog 41 #[gval g ao cap, .slice lo 0 lc] w (AllEnd w (g, 0)) := by
  have HR : Hid (RdS w ao g.n g.f) := hr
  have HCL : Hid (∀ w, RdS w ao g.n g.f → Calls Try.prog 63 #[.slice ao g.n cap] w fun e w' => ∃ ao' cap', e = .returned (.slice ao' g.n cap') ∧ Copied w g.n g.f ao' cap' w') := fun w hr => clone_any ao cap g.n g.f w hr hn (by omega)
  have HB2 : Hid (∀ o1 o2 : Obj, Below w.heap.size w ((w.alloc o1).alloc o2)) := fun o1 o2 => (below1 _ _).alloc (by simp) _
  clear hr hn hm
  go_enter Try.func41, Try.ntmps41
  go_upto_region 1 with fail
  go_cut [] from 9 to 12 (fun wx => ∃ ao' cap', Start w g ao' cap' wx)
  case first =>
    go_wp2_with (go_at_call 63; refine (HCL.out _ (HR.out.below (HB2.out _ _))).mono ?_; rintro e w1 ⟨ao', cap', rfl, hcp⟩; have HCP : Hid (Copied _ g.n g.f ao' cap' w1) := hcp; obtain ⟨⟨x0, x1, x2, x3, x4, x5, x6, x7, x8⟩, z⟩ := nine (below_block hcp.2.2 (at_old (at_new w _) _) (by simp; omega)); clear hcp)
    go_meet
    exact ⟨ao', cap', start_of HCP.out⟩
  case rest =>
    obtain ⟨ao', cap', hst⟩ := hcut
    obtain ⟨⟨x0, x1, x2, x3, x4, x5, x6, x7, x8⟩, z⟩ := nine hst.box
    obtain ⟨⟨y0, y1, y2, y3, y4, y5, y6, y7, y8⟩, z2⟩ := nine hst.res
    have HST : Hid (Start w g ao' cap' wc) := hst
    clear hst HCL HR
    go_wp2
    go_loopw [24] (fun i wr => i = .int .i64 0 ∧ wr = wc) (fun _ _ => 0)
    case atStart => exact ⟨rfl, rfl⟩
    case round =>
      obtain ⟨rfl, rfl⟩ := hrel
      go_wp2
      refine bodyPost_ret (v := .tuple #[gval g ao' cap', .int .i64 0]) (by simp [results, Try.results41, go_sem, *]) rfl ?_
      exact ⟨ao', cap', rfl, HST.out.copied (Below.refl _ _) _ _ _ _ _ _ _ _ _⟩

theorem alls_any (g : Gr) (ao : Option Addr) (cap : Nat) (lo : Option Addr) (evs : List EvIt) (lc : Nat) (w : World) (hr : RdS w ao g.n g.f) (hn : ao = none → g.n = 0 ∧ cap = 0) (hm : g.n ≤ 1048576) (hev : RdE w lo evs) (hl : evs.length ≤ 1048576)
    (hb : ∀ x ∈ evs, x.1.ps.length + x.1.pl.size ≤ 1048576) (r : Gr × Int) (hrr : r = allR g (evs.map (·.1))) :
    Calls Try.prog 41 #[gval g ao cap, .slice lo evs.length lc] w (AllEnd w r) := by
  cases evs with
  | nil =>
    have : r = (g, 0) := by rw [hrr]; rfl
    rw [this]
    exact all_nil g ao cap lo lc w hr hn hm
  | cons e l =>
    refine all_some g ao cap lo (e :: l) lc w hr hn hm hev hl (by simp) ?_ r ?_
    · intro x hx hc
      have := hb x hx
      exact done_any x.1 x.2.1 x.2.2 (by omega) (by omega) hc
    · rw [hrr]; unfold allR; rw [if_neg (by simp)]

end Go.Proofs.Ythgdfkaaklfbkaa
