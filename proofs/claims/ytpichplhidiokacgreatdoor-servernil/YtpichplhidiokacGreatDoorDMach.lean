/- The plain machine of chapter 5: a pen that writes bytes, and knows the screen that they lead to, as functions on lists; nothing of the program is in it. -/
import Derived.Test.YtpichplhidiokacGreatDoorGMach
import Derived.Test.YtpichplhidiokacGreatDoorFPures
import Derived.Lib.Join
import Derived.Lib.TrimByte
namespace Go.Proofs.YtpichplhidiokacGreatDoor

/-- A pen as data. -/
structure Pen where
  out : List UInt8
  g : Gr

/-! Ways. -/
def jumpD (row col : Int) : List UInt8 := 27 :: 91 :: (Ps.dec (row + 1).toNat ++ 59 :: (Ps.dec (col + 1).toNat ++ [72]))
def moveD (g : Gr) (row col : Int) : List UInt8 := if g.row = row ∧ g.col = col then [] else jumpD row col
def toG (g : Gr) (row col : Int) : Gr := { g with row := row, col := col }
def moveP (p : Pen) (row col : Int) : Pen := ⟨p.out ++ moveD p.g row col, toG p.g row col⟩

/-! Ink. -/
def goneD (g : Gr) (c : Cel) : Bool := (g.bold && !c.bold) || (decide (0 < g.ink) && decide (c.ink = 0))
def inksD (g : Gr) (c : Cel) : List (List UInt8) :=
  (if goneD g c then [[]] else []) ++ (if c.bold = (if goneD g c then false else g.bold) then [] else [[49]]) ++ (if c.ink = (if goneD g c then 0 else g.ink) then [] else [Ps.dec (29 + c.ink).toNat])
def inkNumsD (g : Gr) (c : Cel) : List UInt8 := Lib.join (inksD g c) [59]
def sameInk (g : Gr) (c : Cel) : Bool := decide (g.ink = c.ink) && (g.bold == c.bold)
def withInk (g : Gr) (c : Cel) : Gr := { g with ink := c.ink, bold := c.bold }
def inkP (p : Pen) (c : Cel) : Pen := if sameInk p.g c then p else ⟨p.out ++ 27 :: 91 :: (inkNumsD p.g c ++ [109]), withInk p.g c⟩

/-! A letter. -/
def withCell (g : Gr) (c : Cel) : Gr := { g with f := putF g.f (g.row * g.wide + g.col).toNat c, col := g.col + 1 }
def chD (c : Cel) : UInt8 := UInt8.ofNat c.ch.toNat
def printP (p : Pen) (c : Cel) : Pen := ⟨(inkP p c).out ++ [chD c], withCell (inkP p c).g c⟩

/-! Colours: what is wanted in the cursor's row is 'want'. -/
def lackB (h c : Cel) : Bool := decide (0 < c.pic) && !celB h c
def payD (f want : Nat → Cel) (b : Nat) (j : Nat) : UInt8 := if lackB (f (b + j)) (want j) then UInt8.ofNat (96 + (want j).pic).toNat else 32
/-- The bytes of n columns from column c on. -/
def paysD (f want : Nat → Cel) (b c n : Nat) : List UInt8 := (List.range n).map fun j => payD f want b (c + j)
/-- Colours laid from column c on, of n columns. -/
def colF (f want : Nat → Cel) (b c n : Nat) : Nat → Cel := fun i => if b + c ≤ i ∧ i < b + c + n ∧ lackB (f i) (want (i - b)) = true then want (i - b) else f i
def rowAt (g : Gr) : Nat := (g.row * g.wide).toNat
def leftD (g : Gr) : Nat := g.wide.toNat - g.col.toNat
def colBytes (g : Gr) (want : Nat → Cel) : List UInt8 := 27 :: 80 :: (Lib.trimRightB (paysD g.f want (rowAt g) g.col.toNat (leftD g)) 32 ++ [27, 92])
def colG (g : Gr) (want : Nat → Cel) : Gr := { g with f := colF g.f want (rowAt g) g.col.toNat (leftD g) }
def colourP (p : Pen) (want : Nat → Cel) : Pen := ⟨p.out ++ colBytes p.g want, colG p.g want⟩

/-! What is to be empty. -/
def surB (h c : Cel) : Bool := celB c noCel && !celB h c
/-- The first and the last of the first k columns that are to be empty and are not. -/
def surD (have_ want : Nat → Cel) (n : Nat) : Nat → Int × Int
  | 0 => ((n : Int), -1)
  | k + 1 => if surB (have_ k) (want k) then (min (surD have_ want n k).1 (k : Int), (k : Int)) else surD have_ want n k
def keepB (h c : Cel) : Bool := !celB c noCel && celB h c
/-- How many of the first k are kept. -/
def keptD (have_ want : Nat → Cel) : Nat → Int
  | 0 => 0
  | k + 1 => if keepB (have_ k) (want k) then keptD have_ want k + 1 else keptD have_ want k
def shF (f : Nat → Cel) (a : Nat) : Nat → Cel := fun i => f (a + i)

def clearG (g : Gr) (a b : Nat) : Gr := { g with f := clrF g.f a b }
def eraseAtP (p : Pen) (row : Nat) (want : Nat → Cel) (b w : Nat) (first last : Int) : Pen :=
  if last < 0 then p
  else if keptD (shF p.g.f (b + first.toNat)) (shF want first.toNat) (w - first.toNat) ≤ keptD (shF p.g.f b) want (last + 1).toNat then
    ⟨(moveP p row first).out ++ [27, 91, 75], clearG (moveP p row first).g (b + first.toNat) (b + w)⟩
  else ⟨(moveP p row last).out ++ [27, 91, 49, 75], clearG (moveP p row last).g b (b + (last + 1).toNat)⟩
def eraseP (p : Pen) (row : Nat) (want : Nat → Cel) : Pen :=
  eraseAtP p row want (row * p.g.wide.toNat) p.g.wide.toNat (surD (shF p.g.f (row * p.g.wide.toNat)) want p.g.wide.toNat p.g.wide.toNat).1 (surD (shF p.g.f (row * p.g.wide.toNat)) want p.g.wide.toNat p.g.wide.toNat).2

/-! A row; all. -/
def cellP (p : Pen) (row : Nat) (want : Nat → Cel) (j : Nat) : Pen :=
  if celB (p.g.f (row * p.g.wide.toNat + j)) (want j) then p
  else if 0 < (want j).pic then colourP (moveP p row j) want
  else printP (moveP p row j) (want j)
def cellsP (p : Pen) (row : Nat) (want : Nat → Cel) : Nat → Pen
  | 0 => p
  | k + 1 => cellP (cellsP p row want k) row want k
def rowP (p : Pen) (row : Nat) (want : Nat → Cel) : Pen := cellsP (eraseP p row want) row want p.g.wide.toNat
def rowsP (p : Pen) (t : Gr) : Nat → Pen
  | 0 => p
  | k + 1 => rowP (rowsP p t k) k (shF t.f (k * t.wide.toNat))
def showP (p : Pen) (t : Gr) : Pen := moveP (rowsP p t t.high.toNat) t.row t.col

/-! Turn and Anew. -/
def showsB (g : Gr) : Bool := goodG g && decide (g.col < g.wide)
def turnB (x t : Gr) : Bool := goodG x && showsB t && decide (x.wide = t.wide) && decide (x.high = t.high)
def turnP (x t : Gr) : Pen := showP ⟨[], x⟩ t
def anewP (t : Gr) : Pen := showP ⟨[27, 99], newG t.wide t.high⟩ t

end Go.Proofs.YtpichplhidiokacGreatDoor
