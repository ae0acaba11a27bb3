/- How a length is shared. -/
import Derived.Test.YtpichplhidiokacGreatDoorTBase
import Derived.Deep.QuietTactic
namespace Go.Proofs.YtpichplhidiokacGreatDoor.Tl
open Go.RowKit

theorem shareT_none {length n k : Int} (h : n < 1 ∨ 6 < n ∨ k < 0 ∨ n ≤ k ∨ 24 < length ∨ length < n + (n - 1)) : shareT length n k = (0, 0) := by
  unfold shareT
  rw [if_pos h]

theorem below_drewN (w : World) (n : Nat) : Below w.heap.size w (w.drewN n) := ⟨rfl, rfl, rfl, Nat.le_refl _, fun _ _ => rfl⟩

set_option maxHeartbeats 1000000 in
theorem share_any (length n k : Int) (w : World) (r : Int × Int) (hr : r = shareT length n k) : Calls Tryz.prog 55 #[.int .i64 length, .int .i64 n, .int .i64 k] w fun e w' => e = .returned (.tuple #[.int .i64 r.1, .int .i64 r.2]) ∧ Below w.heap.size w w' := by
  by_cases h : n < 1 ∨ 6 < n ∨ k < 0 ∨ n ≤ k ∨ 24 < length
  · have HR : Hid (r = (0, 0)) := by
      show r = (0, 0)
      rw [hr, shareT_none (by omega)]
    clear hr
    rcases h with h | h | h | h | h
    all_goals
      go_enter Tryz.func55, Tryz.ntmps55
      go_wp2
      all_goals
        refine bodyPost_ret (by simp [results, Tryz.results55, go_sem]; rfl) rfl ?_
        rw [HR.out]
        first | exact ⟨rfl, Below.refl _ _⟩ | exact ⟨rfl, below_drewN _ _⟩ | (rw [HWE.out]; first | exact ⟨rfl, below_drewN _ _⟩ | (rw [show M + k = M + R by omega]; exact ⟨rfl, below_drewN _ _⟩))
  · have h1 : 1 ≤ n := by omega
    have h2 : n ≤ 6 := by omega
    have h3 : 0 ≤ k := by omega
    have h4 : k < n := by omega
    have h5 : length ≤ 24 := by omega
    by_cases h6 : length < n + (n - 1)
    · have HR : Hid (r = (0, 0)) := by
        show r = (0, 0)
        rw [hr, shareT_none (by omega)]
      clear hr h
      go_enter Tryz.func55, Tryz.ntmps55
      go_wp2
      all_goals
        refine bodyPost_ret (by simp [results, Tryz.results55, go_sem]; rfl) rfl ?_
        rw [HR.out]
        first | exact ⟨rfl, Below.refl _ _⟩ | exact ⟨rfl, below_drewN _ _⟩ | (rw [HWE.out]; first | exact ⟨rfl, below_drewN _ _⟩ | (rw [show M + k = M + R by omega]; exact ⟨rfl, below_drewN _ _⟩))
    · obtain ⟨E, hE⟩ : ∃ E, E = (length - (n - 1)) / n := ⟨_, rfl⟩
      obtain ⟨R, hR⟩ : ∃ R, R = (length - (n - 1)) % n := ⟨_, rfl⟩
      have hE0 : 0 ≤ E := by rw [hE]; exact Int.ediv_nonneg (by omega) (by omega)
      have hE1 : E ≤ 24 := by
        rw [hE]
        have := Int.ediv_le_self (a := length - (n - 1)) n (by omega)
        omega
      have hR0 : 0 ≤ R := by rw [hR]; exact Int.emod_nonneg _ (by omega)
      have hR1 : R < n := by rw [hR]; exact Int.emod_lt_of_pos _ (by omega)
      have hq : (length - (n - 1)).tdiv n = E := by rw [hE]; exact Int.tdiv_eq_ediv_of_nonneg (by omega)
      have hm : (length - (n - 1)).tmod n = R := by rw [hR]; exact Int.tmod_eq_emod_of_nonneg (by omega)
      obtain ⟨M, hM⟩ : ∃ M, M = k * (E + 1) := ⟨_, rfl⟩
      have hM0 : 0 ≤ M := by rw [hM]; exact Int.mul_nonneg h3 (by omega)
      have hM1 : M ≤ 150 := by
        have e1 : k * (E + 1) ≤ 6 * (E + 1) := Int.mul_le_mul_of_nonneg_right (by omega) (by omega)
        omega
      have hwr : IntKind.i64.wrap (k * (E + 1)) = M := by rw [← hM, IntKind.wrap_i64]; omega
      have HR : Hid (r = (M + min k R, if k < R then E + 1 else E)) := by
        show r = _
        rw [hr]
        unfold shareT
        rw [if_neg (by omega), ← hE, ← hR, hM]
      have hn0 : ¬ n = 0 := by omega
      have hq2 : (length - (n - 1)) / n = E := hE.symm
      have hm2 : (length - (n - 1)) % n = R := hR.symm
      have HWE : Hid (IntKind.i64.wrap ((IntKind.i64.wrap (length - (n - 1))).tdiv n) = E) := by
        show _ = _
        have e1 : IntKind.i64.wrap (length - (n - 1)) = length - (n - 1) := by rw [IntKind.wrap_i64]; omega
        rw [e1, hq, IntKind.wrap_i64]
        omega
      clear hr h hE hR hM
      by_cases hk : k < R
      · have HR2 : Hid (r = (M + k, E + 1)) := by
          show r = _
          rw [HR.out, if_pos hk, Int.min_eq_left (by omega)]
        clear HR
        go_enter Tryz.func55, Tryz.ntmps55
        go_wp2
        go_quiet (fail)
        go_wp2
        all_goals
          refine bodyPost_ret (by simp [results, Tryz.results55, go_sem]; rfl) rfl ?_
          rw [HR2.out]
          first | exact ⟨rfl, Below.refl _ _⟩ | exact ⟨rfl, below_drewN _ _⟩ | (rw [HWE.out]; first | exact ⟨rfl, below_drewN _ _⟩ | (rw [show M + k = M + R by omega]; exact ⟨rfl, below_drewN _ _⟩))
      · have HR2 : Hid (r = (M + R, E)) := by
          show r = _
          rw [HR.out, if_neg hk, Int.min_eq_right (by omega)]
        have hk' : R ≤ k := by omega
        clear HR
        go_enter Tryz.func55, Tryz.ntmps55
        go_wp2
        go_quiet (fail)
        go_wp2
        all_goals
          refine bodyPost_ret (by simp [results, Tryz.results55, go_sem]; rfl) rfl ?_
          rw [HR2.out]
          first | exact ⟨rfl, Below.refl _ _⟩ | exact ⟨rfl, below_drewN _ _⟩ | (rw [HWE.out]; first | exact ⟨rfl, below_drewN _ _⟩ | (rw [show M + k = M + R by omega]; exact ⟨rfl, below_drewN _ _⟩))

end Go.Proofs.YtpichplhidiokacGreatDoor.Tl
