/- The plain machine of chapter 6: panes and clients, and what an act makes of them; nothing of the program is in it. -/
import Derived.Test.YtpichplhidiokacGreatDoorPMach
import Derived.Test.YtpichplhidiokacGreatDoorFPures
import Derived.Test.YtpichplhidiokacGreatDoorFEvs
import Derived.Test.YtpichplhidiokacGreatDoorDMach
namespace Go.Proofs.YtpichplhidiokacGreatDoor.Sv
open Go.Proofs.YtpichplhidiokacGreatDoor.Tl (Rc noRc whereT findT hasT goodT splitT killT)
open Go.Proofs.YtpichplhidiokacGreatDoor.Pt (Vw screenV)

/-- A client as data: what waits, whether something was lost, what it shows as soon as it has all that waits. -/
structure Cl where
  q : List UInt8
  lost : Bool
  g : Gr

/-- A server as data. -/
structure Srv where
  v : Vw
  ps : Nat → Ps.PS
  cl : Nat → Option Cl
  acts : Nat

/-- An act as data. -/
structure Ac where
  kind : Int
  p : Int
  n : Int
  m : Int
  bytes : List UInt8

/-- A reply as data. -/
structure Rp where
  code : Int
  n : Int
  out : List UInt8

def noG : Gr := ⟨0, 0, 0, fun _ => noCel, 0, 0, 0, false, 0, 0⟩
def err (e : Int) : Rp := ⟨e, 0, []⟩
def upd {α : Type} (f : Nat → α) (i : Nat) (x : α) : Nat → α := fun k => if k = i then x else f k
theorem upd_at {α : Type} (f : Nat → α) (i : Nat) (x : α) : upd f i x i = x := if_pos rfl
theorem upd_ne {α : Type} (f : Nat → α) {i k : Nat} (x : α) (h : k ≠ i) : upd f i x k = f k := if_neg h

def sidesS (wide high : Int) : Bool := decide (1 ≤ wide ∧ wide ≤ 24 ∧ 1 ≤ high ∧ high ≤ 10)
/-- The cells of a screen with other sides. -/
def resFS (g : Gr) (wide : Int) : Nat → Cel := fun i => atG g ((i : Int) / wide) ((i : Int) % wide)
def resGS (g : Gr) (wide high : Int) : Gr :=
  ⟨(newG wide high).wide, (newG wide high).high, (newG wide high).n, resFS g (newG wide high).wide, min g.row ((newG wide high).high - 1), min g.col ((newG wide high).wide - 1), g.ink, g.bold, (newG wide high).top, (newG wide high).bottom⟩
/-- A screen with such sides. -/
def fittedG (g : Gr) (wide high : Int) : Gr :=
  if g.wide = 0 then newG wide high else if g.wide = wide ∧ g.high = high then g else if goodG g then resGS g wide high else g
def fit1 (v : Vw) (p : Nat) : Gr := fittedG (v.gs p) (max (v.place p).wide 1) (max (v.place p).high 1)
/-- Each pane that is there has a screen of its place. -/
def fitV (v : Vw) : Vw := { v with gs := fun p => if hasT v.cols p then fit1 v p else v.gs p }

def newS : Srv := ⟨fitV ⟨[[0]], fun _ => noG, 20, 7, 0⟩, fun _ => Ps.ground, fun _ => none, 0⟩

/-- The least number of a pane that is not there. -/
def unusedT (cols : List (List Int)) : Nat := ((List.range 6).find? fun n : Nat => !hasT cols n).getD 6

def splitS (S : Srv) (p : Int) (right : Bool) : Srv × Rp :=
  if unusedT S.v.cols = 6 then (S, err 5)
  else if (splitT S.v.cols p (unusedT S.v.cols) right).2 = 0 then
    ({ S with v := fitV { S.v with cols := (splitT S.v.cols p (unusedT S.v.cols) right).1, focus := unusedT S.v.cols } }, ⟨0, unusedT S.v.cols, []⟩)
  else (S, err (splitT S.v.cols p (unusedT S.v.cols) right).2)

def firstT (cols : List (List Int)) : Int := (cols.getD 0 []).getD 0 0
def killS (S : Srv) (p : Int) : Srv × Int :=
  if (killT S.v.cols p).2 = 0 then
    ({ S with
        v := fitV { S.v with cols := (killT S.v.cols p).1, gs := upd S.v.gs p.toNat noG, focus := if S.v.focus = p then firstT (killT S.v.cols p).1 else S.v.focus }
        ps := upd S.ps p.toNat Ps.ground }, 0)
  else (S, (killT S.v.cols p).2)

def tellS (S : Srv) (p : Nat) (l : List UInt8) : Srv :=
  { S with v := { S.v with gs := upd S.v.gs p (allG (S.v.gs p) ((Ps.feedE (S.ps p) l).map toE)).1 }, ps := upd S.ps p (Ps.feedS (S.ps p) l) }
def outputS (S : Srv) (p : Int) (l : List UInt8) : Srv × Int := if hasT S.v.cols p then (tellS S p.toNat l, 0) else (S, 3)
def focusS (S : Srv) (p : Int) : Srv × Int := if hasT S.v.cols p then ({ S with v := { S.v with focus := p } }, 0) else (S, 3)
def resizeS (S : Srv) (wide high : Int) : Srv × Int := if sidesS wide high then ({ S with v := fitV { S.v with wide := wide, high := high } }, 0) else (S, 1)

def isCl (i : Int) : Bool := decide (0 ≤ i ∧ i < 3)
def hereS (S : Srv) (i : Int) : Option Cl := if isCl i then S.cl i.toNat else none
def attachS (S : Srv) (i wide high : Int) : Srv × Int :=
  if isCl i then (if (S.cl i.toNat).isSome then (S, 4) else if sidesS wide high then ({ S with cl := upd S.cl i.toNat (some ⟨[], true, newG wide high⟩) }, 0) else (S, 1)) else (S, 3)
def detachS (S : Srv) (i : Int) : Srv × Int := if (hereS S i).isSome then ({ S with cl := upd S.cl i.toNat none }, 0) else (S, 3)
/-- How many go. -/
def goes (n : Int) (l : List UInt8) : Nat := (max 0 (min n l.length)).toNat
def drainS (S : Srv) (i n : Int) : Srv × Rp :=
  match hereS S i with
  | none => (S, err 3)
  | some c => ({ S with cl := upd S.cl i.toNat (some { c with q := c.q.drop (goes n c.q) }) }, ⟨0, goes n c.q, c.q.take (goes n c.q)⟩)

/-- The bytes that bring a client to what it is to see, and the screen behind them. -/
def moreC (v : Vw) (c : Cl) : Pen := if c.lost then anewP (screenV v c.g.wide c.g.high) else turnP c.g (screenV v c.g.wide c.g.high)
def showC (v : Vw) (c : Cl) : Cl :=
  if c.lost = true ∧ c.q ≠ [] then c
  else if 4000 < c.q.length + (moreC v c).out.length then { c with lost := true }
  else ⟨c.q ++ (moreC v c).out, false, (moreC v c).g⟩
def tickS (S : Srv) : Srv := { S with cl := fun i => (S.cl i).map (showC S.v) }

def changeS (S : Srv) (a : Ac) : Srv × Int :=
  if a.kind = 2 then killS S a.p
  else if a.kind = 3 then outputS S a.p a.bytes
  else if a.kind = 4 then focusS S a.p
  else if a.kind = 5 then resizeS S a.n a.m
  else if a.kind = 6 then attachS S a.p a.n a.m
  else if a.kind = 7 then detachS S a.p
  else if a.kind = 8 then (tickS S, 0)
  else (S, 2)
def actS (S : Srv) (a : Ac) : Srv × Rp :=
  if a.kind = 1 then splitS S a.p (decide (a.n = 1))
  else if a.kind = 9 then drainS S a.p a.n
  else ((changeS S a).1, err (changeS S a).2)
def countS (S : Srv) : Srv := { S with acts := S.acts + 1 }
def doS (S : Srv) (a : Ac) : Srv × Rp := if S.acts = 300 then (S, err 5) else actS (countS S) a

end Go.Proofs.YtpichplhidiokacGreatDoor.Sv
