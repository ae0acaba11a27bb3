/- Two screens in boxes. -/
import Derived.Test.YtjikokfjnbhngaaGreatDoorMPMach
import Derived.Test.YtjikokfjnbhngaaGreatDoorMGDraw
namespace Go.Proofs.YtjikokfjnbhngaaGreatDoor.Pt
open Go.RowKit
open Go.Proofs.YtjikokfjnbhngaaGreatDoor.Tl (below2)
structure PairR (w:World) (a b:Gr) (oa ob:Option Addr) (ca cb:Nat) (wr:World):Prop where
 one:wr.heap[w.heap.size]?=some (gbox a oa ca)
 two:wr.heap[w.heap.size+1]?=some (gbox b ob cb)
 ra:RdS wr oa a.n a.f
 rb:RdS wr ob b.n b.f
 below:Below w.heap.size w wr
theorem PairR.later {w:World} {a b:Gr} {oa ob:Option Addr} {ca cb:Nat} {wr w':World} (h:PairR w a b oa ob ca cb wr) (hb:Below wr.heap.size wr w'):PairR w a b oa ob ca cb w':=
 ⟨below_block hb h.one (Array.getElem?_eq_some_iff.1 h.one).1,below_block hb h.two (Array.getElem?_eq_some_iff.1 h.two).1,h.ra.below hb,h.rb.below hb,h.below.trans (hb.mono h.below.size)⟩
end Go.Proofs.YtjikokfjnbhngaaGreatDoor.Pt
