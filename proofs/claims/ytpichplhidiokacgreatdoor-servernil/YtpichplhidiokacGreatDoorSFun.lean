/- A server's small functions: numbers of clients, sides, which client is here. -/
import Derived.Test.YtpichplhidiokacGreatDoorSMem
import Derived.Lib.MinMax
namespace Go.Proofs.YtpichplhidiokacGreatDoor.Sv
open Go.RowKit
set_option maxRecDepth 100000

theorem ret_bool {a b : Bool} (h : a = b) : Ending.returned (.bool a) = .returned (.bool b) := by rw [h]

theorem isClient_any (i : Int) (w : World) : Calls Tryz.prog 64 #[.int .i64 i] w fun e w' => e = .returned (.bool (isCl i)) ∧ w' = w := by
  by_cases h1 : 0 ≤ i
  · go_enter Tryz.func64, Tryz.ntmps64
    go_wp2
    go_ret
    exact ⟨ret_bool (by simp [isCl, h1]), rfl⟩
  · have h1' : i < 0 := by omega
    go_enter Tryz.func64, Tryz.ntmps64
    go_wp2
    go_ret
    exact ⟨ret_bool (by simp [isCl]; omega), rfl⟩

theorem goodSides_any (wide high : Int) (w : World) : Calls Tryz.prog 96 #[.int .i64 wide, .int .i64 high] w fun e w' => e = .returned (.bool (sidesS wide high)) ∧ w' = w := by
  by_cases h1 : 1 ≤ wide
  · by_cases h2 : wide ≤ 24
    · by_cases h3 : 1 ≤ high
      · go_enter Tryz.func96, Tryz.ntmps96
        go_wp2
        go_ret
        exact ⟨ret_bool (by simp [sidesS, h1, h2, h3]), rfl⟩
      · have h3' : high < 1 := by omega
        go_enter Tryz.func96, Tryz.ntmps96
        go_wp2
        go_ret
        exact ⟨ret_bool (by simp [sidesS]; omega), rfl⟩
    · have h2' : 24 < wide := by omega
      go_enter Tryz.func96, Tryz.ntmps96
      go_wp2
      go_ret
      exact ⟨ret_bool (by simp [sidesS]; omega), rfl⟩
  · have h1' : wide < 1 := by omega
    go_enter Tryz.func96, Tryz.ntmps96
    go_wp2
    go_ret
    exact ⟨ret_bool (by simp [sidesS]; omega), rfl⟩

/-! Which client is here. -/
theorem find_nil (i : Int) (w : World) : Calls Tryz.prog 38 #[.pointer none, .int .i64 i] w fun e w' => e = .returned (.pointer none) ∧ w' = w := by
  go_enter Tryz.func38, Tryz.ntmps38
  go_wp2
  go_ret
  exact ⟨rfl, rfl⟩

/-- The address that 'find' answers. -/
def fad (S : Srv) (L : Lay) (i : Int) : Option Addr := if isCl i then cad S L i.toNat else none
theorem ret_ptr {a b : Option Addr} (h : a = b) : Ending.returned (.pointer a) = .returned (.pointer b) := by rw [h]

theorem find_any (i : Int) (w : World) (S : Srv) (L : Lay) (h : SrvIn w S L) : Calls Tryz.prog 38 #[.pointer (some ⟨L.sb, 0, none⟩), .int .i64 i] w fun e w' => e = .returned (.pointer (fad S L i)) ∧ w' = w := by
  cases hi : isCl i
  · have HC : Hid (∀ w, Calls Tryz.prog 64 #[.int .i64 i] w fun e w' => e = .returned (.bool false) ∧ w' = w) := fun w => by rw [← hi]; exact isClient_any i w
    have HF : Hid (fad S L i = none) := by show fad S L i = none; unfold fad; rw [hi]; rfl
    clear h hi
    go_enter Tryz.func38, Tryz.ntmps38
    go_wp2_with (go_at_call 64; refine (HC.out _).mono ?_; rintro e w1 ⟨rfl, hw1⟩; subst w1)
    go_ret
    exact ⟨ret_ptr HF.out.symm, rfl⟩
  · have HC : Hid (∀ w, Calls Tryz.prog 64 #[.int .i64 i] w fun e w' => e = .returned (.bool true) ∧ w' = w) := fun w => by rw [← hi]; exact isClient_any i w
    have hi2 : 0 ≤ i ∧ i < 3 := by simpa [isCl] using hi
    obtain ⟨n, rfl⟩ := Int.eq_ofNat_of_zero_le hi2.1
    have hn : n < 3 := by omega
    have HF : Hid (fad S L (n : Int) = cad S L n) := by show fad S L _ = _; unfold fad; rw [hi]; rfl
    have hp := h.ptr n hn
    have hn' : (n : Int) < 3 := by omega
    have hn0 : (0 : Int) ≤ (n : Int) := by omega
    have hlt := (Array.getElem?_eq_some_iff.1 h.box).1
    clear h hi hi2
    go_enter Tryz.func38, Tryz.ntmps38
    go_wp2_with (go_at_call 64; refine (HC.out _).mono ?_; rintro e w1 ⟨rfl, hw1⟩; subst w1)
    go_ret
    exact ⟨ret_ptr HF.out.symm, rfl⟩

end Go.Proofs.YtpichplhidiokacGreatDoor.Sv
