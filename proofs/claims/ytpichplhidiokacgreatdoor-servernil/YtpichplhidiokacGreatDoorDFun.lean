/- Texts of numbers. -/
import Derived.Test.YtpichplhidiokacGreatDoorDPen
import Derived.Test.YtpichplhidiokacGreatDoorDShelf
import Derived.Lib.MinMax
namespace Go.Proofs.YtpichplhidiokacGreatDoor
open Go.RowKit
set_option maxRecDepth 100000

/-- A text of bytes. -/
@[reducible] def bs (l : List UInt8) : ByteArray := ⟨l.toArray⟩
theorem bs_append (l m : List UInt8) : bs l ++ bs m = bs (l ++ m) := by
  apply ByteArray.ext
  simp
theorem bs_size (l : List UInt8) : (bs l).size = l.length := by simp [ByteArray.size]
theorem bs_list (l : List UInt8) : (bs l).data.toList = l := by simp
theorem ret_str {a b : ByteArray} (h : a = b) : Ending.returned (.string a) = .returned (.string b) := by rw [h]

theorem dec_same : ∀ i, i < 100 → Lib.decDigits i = Ps.dec i := by decide +kernel

theorem itoa_any (n : Int) (h1 : 0 ≤ n) (h2 : n < 100) (w : World) : Calls Tryz.prog 150 #[.int .i64 n] w fun e w' => e = .returned (.string (bs (Ps.dec n.toNat))) ∧ w' = w := by
  have h := Tryz.strconv_Itoa_small n.toNat (by omega) w
  rw [Int.toNat_of_nonneg h1, dec_same _ (by omega)] at h
  exact h

/-- The same, the text a letter. -/
theorem itoa_letter (n : Int) (h1 : 0 ≤ n) (h2 : n < 100) : ∃ T : ByteArray, T.size ≤ 2 ∧ Hid (T = bs (Ps.dec n.toNat)) ∧ Hid (∀ w, Calls Tryz.prog 150 #[.int .i64 n] w fun e w' => e = .returned (.string T) ∧ w' = w) :=
  ⟨_, by
    rw [bs_size]
    unfold Ps.dec
    split
    · simp
    · rw [if_pos (by omega)]; simp, rfl, fun w => itoa_any n h1 h2 w⟩

end Go.Proofs.YtpichplhidiokacGreatDoor
