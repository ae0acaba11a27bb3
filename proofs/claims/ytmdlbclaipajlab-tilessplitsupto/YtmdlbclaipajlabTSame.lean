/- Lists of numbers that are alike. -/
import Derived.Test.YtmdlbclaipajlabTFind
import Derived.Deep.QuietTactic
namespace Go.Proofs.Ytmdlbclaipajlab.Tl
open Go.RowKit

set_option maxHeartbeats 400000 in
/-- Two lists of the same numbers are alike. -/
theorem sameNK (l : List Int) (ao bo : Option Addr) (c1 c2 : Nat) (w : World) (ha : RdL w ao l) (hb : RdL w bo l) (hm : l.length ≤ 17592186044416) :
    Calls Try.prog 33 #[.slice ao l.length c1, .slice bo l.length c2] w fun e w' => e = .returned (.bool true) ∧ ∃ m, w' = w.drewN m := by
  have HA : Hid (RdL w ao l) := ha
  have HB : Hid (RdL w bo l) := hb
  clear ha hb
  go_enter Try.func33, Try.ntmps33
  go_wp2
  go_loopw [13] (fun i wr => ∃ k m : Nat, k ≤ l.length ∧ i = .int .i64 k ∧ wr = w.drewN m) (fun i _ => l.length - (intOf i).toNat)
  case atStart => exact ⟨0, 0, Nat.zero_le _, rfl, rfl⟩
  case round =>
    obtain ⟨k, m, hk, rfl, rfl⟩ := hrel
    by_cases hlt : k < l.length
    · obtain ⟨b, off, rfl, hc⟩ := HA.out.resolve_left (by intro h; subst h; simp at hlt)
      obtain ⟨b', off', rfl, hc'⟩ := HB.out.resolve_left (by intro h; subst h; simp at hlt)
      have h1 := hc k hlt
      have h2 := hc' k hlt
      obtain ⟨x, hx⟩ : ∃ x, x = l.getD k 0 := ⟨_, rfl⟩
      rw [← hx] at h1 h2
      have hlt' : (k : Int) < (l.length : Int) := by omega
      clear hc hc' hx HA HB
      go_wp2_with fail
      go_quiet (fail)
      go_wp2
      go_roundw
      case rel => exact ⟨k + 1, _, by omega, by go_num, rfl⟩
      case measure => simp [intOf]; omega
    · have hge : (l.length : Int) ≤ (k : Int) := by omega
      go_wp2
      go_ret
      exact ⟨rfl, m, rfl⟩

set_option maxHeartbeats 400000 in
/-- Two lists of the same numbers are alike. -/
theorem sameNR (l : List Int) (ao bo : Option Addr) (c1 c2 : Nat) (w : World) (ha : RdL w ao l) (hb : RdL w bo l) (hm : l.length ≤ 17592186044416) :
    Calls Try.prog 51 #[.slice ao l.length c1, .slice bo l.length c2] w fun e w' => e = .returned (.bool true) ∧ ∃ m, w' = w.drewN m := by
  have HA : Hid (RdL w ao l) := ha
  have HB : Hid (RdL w bo l) := hb
  clear ha hb
  go_enter Try.func51, Try.ntmps51
  go_wp2
  go_loopw [13] (fun i wr => ∃ k m : Nat, k ≤ l.length ∧ i = .int .i64 k ∧ wr = w.drewN m) (fun i _ => l.length - (intOf i).toNat)
  case atStart => exact ⟨0, 0, Nat.zero_le _, rfl, rfl⟩
  case round =>
    obtain ⟨k, m, hk, rfl, rfl⟩ := hrel
    by_cases hlt : k < l.length
    · obtain ⟨b, off, rfl, hc⟩ := HA.out.resolve_left (by intro h; subst h; simp at hlt)
      obtain ⟨b', off', rfl, hc'⟩ := HB.out.resolve_left (by intro h; subst h; simp at hlt)
      have h1 := hc k hlt
      have h2 := hc' k hlt
      obtain ⟨x, hx⟩ : ∃ x, x = l.getD k 0 := ⟨_, rfl⟩
      rw [← hx] at h1 h2
      have hlt' : (k : Int) < (l.length : Int) := by omega
      clear hc hc' hx HA HB
      go_wp2_with fail
      go_quiet (fail)
      go_wp2
      go_roundw
      case rel => exact ⟨k + 1, _, by omega, by go_num, rfl⟩
      case measure => simp [intOf]; omega
    · have hge : (l.length : Int) ≤ (k : Int) := by omega
      go_wp2
      go_ret
      exact ⟨rfl, m, rfl⟩

end Go.Proofs.Ytmdlbclaipajlab.Tl
