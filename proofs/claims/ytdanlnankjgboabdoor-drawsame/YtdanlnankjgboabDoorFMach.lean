/- The plain machine of chapter 1: a parser's places, one byte's step, and the fold over bytes, as functions on lists; nothing of the program is in it. -/
import Derived.WalkKit
namespace Go.Proofs.YtdanlnankjgboabDoor.Ps

/-- A parser as data. -/
structure PS where
  place : Int
  ps : List Int
  pl : ByteArray
  lg : Bool

/-- An event as data; kind 0: none. -/
structure Ev where
  kind : Int
  b : Int
  ps : List Int
  pl : ByteArray

def ground : PS := ⟨0, [], ⟨#[]⟩, false⟩
def noEv : Ev := ⟨0, 0, [], ⟨#[]⟩⟩

def plainB (b : Int) : Bool := decide (32 ≤ b ∧ b ≤ 126)
def ctlB (b : Int) : Bool := decide (b = 8 ∨ b = 9 ∨ b = 10 ∨ b = 13)

def gndF (b : Int) : PS × Ev :=
  if b = 27 then (⟨1, [], ⟨#[]⟩, false⟩, noEv)
  else if 32 ≤ b ∧ b ≤ 126 then (ground, ⟨1, b, [], ⟨#[]⟩⟩)
  else if b = 8 ∨ b = 9 ∨ b = 10 ∨ b = 13 then (ground, ⟨2, b, [], ⟨#[]⟩⟩)
  else (ground, noEv)

def escF (b : Int) : PS × Ev :=
  if b = 27 then (⟨1, [], ⟨#[]⟩, false⟩, noEv)
  else if b = 91 then (⟨2, [0], ⟨#[]⟩, false⟩, noEv)
  else if b = 80 then (⟨3, [], ⟨#[]⟩, false⟩, noEv)
  else if b = 99 then (ground, ⟨5, 0, [], ⟨#[]⟩⟩)
  else (ground, noEv)

def lastUp (l : List Int) (b : Int) : List Int := l.set (l.length - 1) (min (10 * l.getD (l.length - 1) 0 + b - 48) 999)

def cmdF (s : PS) (b : Int) : PS × Ev :=
  if 48 ≤ b ∧ b ≤ 57 then ({ s with ps := lastUp s.ps b }, noEv)
  else if b = 59 ∧ s.ps.length < 4 then ({ s with ps := s.ps ++ [0] }, noEv)
  else if 64 ≤ b ∧ b ≤ 126 then (ground, ⟨3, b, s.ps, ⟨#[]⟩⟩)
  else if b = 27 then (⟨1, [], ⟨#[]⟩, false⟩, noEv)
  else (ground, noEv)

def picF (s : PS) (b : Int) : PS :=
  if b = 27 then { s with place := 4 }
  else if b = 24 then ground
  else if 32 ≤ b ∧ b ≤ 126 then (if s.pl.size < 48 then { s with pl := s.pl.push (UInt8.ofNat b.toNat) } else { s with lg := true })
  else s

def endF (s : PS) (b : Int) : PS × Ev :=
  if b = 92 ∧ s.lg = false then (ground, ⟨4, 0, [], s.pl⟩) else (ground, noEv)

def stp (s : PS) (b : Int) : PS × Ev :=
  if s.place = 1 then escF b
  else if s.place = 2 then cmdF s b
  else if s.place = 3 then (picF s b, noEv)
  else if s.place = 4 then endF s b
  else gndF b

end Go.Proofs.YtdanlnankjgboabDoor.Ps
