/- What Turn answers, whatever the screens. -/
import Derived.Test.YtpichplhidiokabDoorDTops
namespace Go.Proofs.YtpichplhidiokabDoor
open Go.RowKit
set_option maxRecDepth 100000

theorem belowChain {a b c : World} (h : Below a.heap.size a b) (k : Below b.heap.size b c) : Below a.heap.size a c := h.trans (k.mono h.size)

/-- Turn's answer, whatever the screens. -/
theorem turn_any (x : Gr) (ao : Option Addr) (cap : Nat) (t : Gr) (ta : Option Addr) (ct : Nat) (w : World) (hr : RdS w ao x.n x.f) (hn : ao = none → x.n = 0 ∧ cap = 0) (hm : x.n ≤ 4398046511104) (ht : RdS w ta t.n t.f) (hmt : t.n ≤ 4398046511104) (hct : t.n ≤ ct) :
    Calls Tryd.prog 6 #[gval x ao cap, gval t ta ct] w (DrawEnd w (turnR x t)) := by
  unfold turnR
  cases hB : turnB x t
  · exact turn_no x ao cap t ta ct w hr hn hm ht hmt hB
  · exact turn_yes x ao cap t ta ct w hr hn ht hct hB

end Go.Proofs.YtpichplhidiokabDoor
