/- The plain machine over many bytes; nothing of the program is in it. -/
import Derived.Test.YtdanlnankjgboabDoorFMach
namespace Go.Proofs.YtdanlnankjgboabDoor.Ps

def bint (c : UInt8) : Int := (c.toNat : Int)
def feedS (s : PS) (l : List UInt8) : PS := l.foldl (fun s c => (stp s (bint c)).1) s
def one (e : Ev) : List Ev := if e.kind = 0 then [] else [e]
def feedE (s : PS) : List UInt8 → List Ev
  | [] => []
  | c :: r => one (stp s (bint c)).2 ++ feedE (stp s (bint c)).1 r

theorem feedS_append (s : PS) (a b : List UInt8) : feedS s (a ++ b) = feedS (feedS s a) b := by simp [feedS]
theorem feedE_append (s : PS) (a b : List UInt8) : feedE s (a ++ b) = feedE s a ++ feedE (feedS s a) b := by
  induction a generalizing s with
  | nil => rfl
  | cons c r ih => simp only [List.cons_append, feedE, ih, List.append_assoc]; rfl
theorem feedS_snoc (s : PS) (a : List UInt8) (c : UInt8) : feedS s (a ++ [c]) = (stp (feedS s a) (bint c)).1 := by rw [feedS_append]; rfl
theorem feedE_snoc (s : PS) (a : List UInt8) (c : UInt8) : feedE s (a ++ [c]) = feedE s a ++ one (stp (feedS s a) (bint c)).2 := by rw [feedE_append]; simp [feedE]

theorem bint_lo (c : UInt8) : 0 ≤ bint c := by unfold bint; omega
theorem bint_hi (c : UInt8) : bint c ≤ 255 := by have := c.toNat_lt; unfold bint; omega

end Go.Proofs.YtdanlnankjgboabDoor.Ps
