/- The document's own answers: how a length is shared; the place of a pane. -/
import Derived.Test.YteenppbpjdldgabTRef2
import Derived.Test.YteenppbpjdldgabTWhere
namespace Go.Proofs.Yteenppbpjdldgab.Tl
open Go.RowKit

/-- Where a part begins, part by part. -/
def seqX (E R : Int) : Nat → Int
  | 0 => 0
  | i + 1 => seqX E R i + ((if (i : Int) < R then E + 1 else E) + 1)
theorem seqX_is (E R : Int) (hR : 0 ≤ R) (i : Nat) : seqX E R i = i * (E + 1) + min (i : Int) R := by
  induction i with
  | zero => simp [seqX]; omega
  | succ i ih =>
    unfold seqX
    rw [ih]
    have e : ((i + 1 : Nat) : Int) * (E + 1) = (i : Int) * (E + 1) + (E + 1) := by
      rw [Int.natCast_add, Int.add_mul]
      simp
    rw [e]
    split <;> omega
theorem seqX_bound (E R : Int) (hE : 0 ≤ E) (hE2 : E ≤ 24) (i : Nat) (hi : i ≤ 6) : 0 ≤ seqX E R i ∧ seqX E R i ≤ 26 * i := by
  induction i with
  | zero => simp [seqX]
  | succ i ih =>
    have := ih (by omega)
    unfold seqX
    split <;> omega

set_option maxHeartbeats 1000000 in
theorem shareR_any (length n k : Int) (w : World) (r : Int × Int) (hr : r = shareT length n k) : Calls Try.prog 29 #[.int .i64 length, .int .i64 n, .int .i64 k] w fun e w' => e = .returned (.tuple #[.int .i64 r.1, .int .i64 r.2]) ∧ w' = w := by
  by_cases h : n < 1 ∨ 6 < n ∨ k < 0 ∨ n ≤ k
  · have HR : Hid (r = (0, 0)) := by
      show r = (0, 0)
      rw [hr, shareT_none (by omega)]
    clear hr
    rcases h with h | h | h | h
    all_goals
      go_enter Try.func29, Try.ntmps29
      go_wp2
      all_goals
        refine bodyPost_ret (by simp [results, Try.results29, go_sem]; rfl) rfl ?_
        rw [HR.out]
        exact ⟨rfl, rfl⟩
  · have h1 : 1 ≤ n := by omega
    have h2 : n ≤ 6 := by omega
    have h3 : 0 ≤ k := by omega
    have h4 : k < n := by omega
    by_cases h5 : length < 2 * n - 1
    · have HR : Hid (r = (0, 0)) := by
        show r = (0, 0)
        rw [hr, shareT_none (by omega)]
      clear hr h
      go_enter Try.func29, Try.ntmps29
      go_wp2
      all_goals
        refine bodyPost_ret (by simp [results, Try.results29, go_sem]; rfl) rfl ?_
        rw [HR.out]
        exact ⟨rfl, rfl⟩
    · have h5' : 2 * n - 1 ≤ length := by omega
      by_cases h6 : 24 < length
      · have HR : Hid (r = (0, 0)) := by
          show r = (0, 0)
          rw [hr, shareT_none (by omega)]
        clear hr h
        go_enter Try.func29, Try.ntmps29
        go_wp2
        all_goals
          refine bodyPost_ret (by simp [results, Try.results29, go_sem]; rfl) rfl ?_
          rw [HR.out]
          exact ⟨rfl, rfl⟩
      · have h6' : length ≤ 24 := by omega
        obtain ⟨E, hE⟩ : ∃ E, E = (length - (n - 1)) / n := ⟨_, rfl⟩
        obtain ⟨R, hR⟩ : ∃ R, R = (length - (n - 1)) % n := ⟨_, rfl⟩
        have hE0 : 0 ≤ E := by rw [hE]; exact Int.ediv_nonneg (by omega) (by omega)
        have hE1 : E ≤ 24 := by
          rw [hE]
          have := Int.ediv_le_self (a := length - (n - 1)) n (by omega)
          omega
        have hR0 : 0 ≤ R := by rw [hR]; exact Int.emod_nonneg _ (by omega)
        have hR1 : R < n := by rw [hR]; exact Int.emod_lt_of_pos _ (by omega)
        obtain ⟨M, hM⟩ : ∃ M, M = length - n + 1 := ⟨_, rfl⟩
        have hME : length - (n - 1) = M := by omega
        rw [hME] at hE hR
        have hq : M / n = E := hE.symm
        have hmm : M % n = R := hR.symm
        have hqt : M.tdiv n = E := by rw [hE]; exact Int.tdiv_eq_ediv_of_nonneg (by omega)
        have hmt : M.tmod n = R := by rw [hR]; exact Int.tmod_eq_emod_of_nonneg (by omega)
        obtain ⟨K, rfl⟩ : ∃ K : Nat, k = K := ⟨k.toNat, by omega⟩
        have HRR : Hid (r = (seqX E R K, if (K : Int) < R then E + 1 else E)) := by
          show r = _
          rw [hr]
          unfold shareT
          rw [if_neg (by omega), hME, ← hE, ← hR, seqX_is E R hR0]
        have hn0 : ¬ n = 0 := by omega
        have hM' : length - n + 1 = M := hM.symm
        have hwM : IntKind.i64.wrap (length - n + 1) = M := by rw [hM', IntKind.wrap_i64]; omega
        have hM0 : 0 ≤ M := by omega
        have hM1 : M ≤ 24 := by omega
        clear hr h hE hR hME h5 h6 hM
        go_enter Try.func29, Try.ntmps29
        go_wp2
        go_loopw [9, 10] (fun a i wr => ∃ m : Nat, m ≤ K ∧ i = .int .i64 m ∧ a = .int .i64 (seqX E R m) ∧ wr = w) (fun _ i _ => K + 1 - (intOf i).toNat)
        case atStart => exact ⟨0, Nat.zero_le _, rfl, rfl, rfl⟩
        case round =>
          obtain ⟨m, hmk, rfl, rfl, rfl⟩ := hrel
          obtain ⟨y0, y1⟩ := seqX_bound E R hE0 hE1 m (by omega)
          have HNX : Hid (seqX E R (m + 1) = seqX E R m + ((if (m : Int) < R then E + 1 else E) + 1)) := rfl
          have HKM : Hid (m = K → r = (seqX E R m, if (m : Int) < R then E + 1 else E)) := by
            rintro rfl
            exact HRR.out
          obtain ⟨Y, hY⟩ : ∃ Y, Y = seqX E R m := ⟨_, rfl⟩
          rw [← hY] at y0 y1 HNX HKM ⊢
          clear hY HRR
          by_cases e1 : (m : Int) < R
          · by_cases e2 : m = K
            · subst e2
              go_wp2
              all_goals
                refine bodyPost_ret (by simp [results, Try.results29, go_sem]; rfl) rfl ?_
                rw [HKM.out (by first | rfl | trivial), if_pos e1]
                exact ⟨rfl, rfl⟩
            · have e2' : ¬ ((m : Int) = (K : Int)) := by omega
              go_wp2
              go_roundw
              case rel =>
                refine ⟨m + 1, by omega, by go_num, ?_, by first | rfl | trivial⟩
                rw [HNX.out, if_pos e1]
              case measure => simp [intOf]; omega
          · have e1' : R ≤ (m : Int) := by omega
            by_cases e2 : m = K
            · subst e2
              go_wp2
              all_goals
                refine bodyPost_ret (by simp [results, Try.results29, go_sem]; rfl) rfl ?_
                rw [HKM.out (by first | rfl | trivial), if_neg (by omega)]
                exact ⟨rfl, rfl⟩
            · have e2' : ¬ ((m : Int) = (K : Int)) := by omega
              go_wp2
              go_roundw
              case rel =>
                refine ⟨m + 1, by omega, by go_num, ?_, by first | rfl | trivial⟩
                rw [HNX.out, if_neg (by omega)]
              case measure => simp [intOf]; omega

end Go.Proofs.Yteenppbpjdldgab.Tl
