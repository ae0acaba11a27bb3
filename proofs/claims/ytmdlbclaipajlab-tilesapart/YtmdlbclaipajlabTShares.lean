/- TilesShares: the parts of a length. -/
import Derived.Test.YtmdlbclaipajlabTLays
namespace Go.Proofs.Ytmdlbclaipajlab.Tl
open Go.RowKit

theorem pick_any (k n : Int) (hn : 0 < n) (hn2 : n ≤ 1000) (w : World) : Calls Try.prog 30 #[.int .i64 k, .int .i64 n] w fun e w' => ∃ r, 0 ≤ r ∧ r < n ∧ e = .returned (.int .i64 r) ∧ w' = w := by
  have h1 := Int.lt_tmod_of_pos k hn
  have h2 := Int.tmod_lt_of_pos k hn
  obtain ⟨t, ht⟩ : ∃ t, t = k.tmod n := ⟨_, rfl⟩
  rw [← ht] at h1 h2
  have ht' : k.tmod n = t := ht.symm
  have hn0 : ¬ n = 0 := by omega
  have hw : IntKind.i64.wrap t = t := by rw [IntKind.wrap_i64]; omega
  clear ht
  by_cases h : t < 0
  · go_enter Try.func30, Try.ntmps30
    go_wp2
    go_ret
    exact ⟨t + n, by omega, by omega, rfl, rfl⟩
  · have h' : 0 ≤ t := by omega
    go_enter Try.func30, Try.ntmps30
    go_wp2
    go_ret
    exact ⟨t, by omega, by omega, rfl, rfl⟩

/-- The law's own sums: behind k parts. -/
structure Sm where
  sum : Int
  at0 : Int
  least : Int
  most : Int
def shS (L n : Int) : Nat → Sm
  | 0 => ⟨0, 0, 24, 0⟩
  | k + 1 => ⟨(shS L n k).sum + (shareT L n k).2, (shS L n k).at0 + ((shareT L n k).2 + 1), min (shS L n k).least (shareT L n k).2, max (shS L n k).most (shareT L n k).2⟩

def stepB (L n k : Nat) : Bool := decide ((L : Int) < 2 * (n + 1) - 1) || decide ((shareT L (n + 1) k).1 = (shS L (n + 1) k).at0 ∧ 1 ≤ (shareT L (n + 1) k).2 ∧ (shareT L (n + 1) k).2 ≤ 24 ∧ 0 ≤ (shS L (n + 1) k).sum ∧ (shS L (n + 1) k).sum ≤ 100 ∧ 0 ≤ (shS L (n + 1) k).at0 ∧ (shS L (n + 1) k).at0 ≤ 100)
def endB (L n : Nat) : Bool := decide ((L : Int) < 2 * (n + 1) - 1) || decide ((shS L (n + 1) (n + 1)).sum + (n + 1) - 1 = L ∧ (shS L (n + 1) (n + 1)).most - (shS L (n + 1) (n + 1)).least ≤ 1 ∧ 0 ≤ (shS L (n + 1) (n + 1)).sum ∧ 0 ≤ (shS L (n + 1) (n + 1)).most ∧ (shS L (n + 1) (n + 1)).most ≤ 24 ∧ 0 ≤ (shS L (n + 1) (n + 1)).least ∧ (shS L (n + 1) (n + 1)).least ≤ 24)
theorem all_steps : ((List.range 25).all fun L => (List.range 6).all fun n => (List.range (n + 1)).all fun k => stepB L n k) = true := by decide +kernel
theorem all_ends : ((List.range 25).all fun L => (List.range 6).all fun n => endB L n) = true := by decide +kernel

theorem step_ok (L n : Int) (k : Nat) (hL : 0 ≤ L) (hL2 : L < 25) (hn : 1 ≤ n) (hn2 : n ≤ 6) (hk : (k : Int) < n) (hs : ¬ L < 2 * n - 1) :
    (shareT L n k).1 = (shS L n k).at0 ∧ 1 ≤ (shareT L n k).2 ∧ (shareT L n k).2 ≤ 24 ∧ 0 ≤ (shS L n k).sum ∧ (shS L n k).sum ≤ 100 ∧ 0 ≤ (shS L n k).at0 ∧ (shS L n k).at0 ≤ 100 := by
  obtain ⟨L, rfl⟩ : ∃ m : Nat, L = m := ⟨L.toNat, by omega⟩
  obtain ⟨n, rfl⟩ : ∃ m : Nat, n = m + 1 := ⟨(n - 1).toNat, by omega⟩
  have h := all_steps
  rw [List.all_eq_true] at h
  have h := h L (List.mem_range.2 (by omega))
  rw [List.all_eq_true] at h
  have h := h n (List.mem_range.2 (by omega))
  rw [List.all_eq_true] at h
  have h := h k (List.mem_range.2 (by omega))
  unfold stepB at h
  rw [Bool.or_eq_true, decide_eq_true_eq, decide_eq_true_eq] at h
  exact h.resolve_left hs
theorem end_ok (L n : Int) (hL : 0 ≤ L) (hL2 : L < 25) (hn : 1 ≤ n) (hn2 : n ≤ 6) (k : Nat) (hk : (k : Int) = n) (hs : ¬ L < 2 * n - 1) :
    (shS L n k).sum + n - 1 = L ∧ (shS L n k).most - (shS L n k).least ≤ 1 ∧ 0 ≤ (shS L n k).sum ∧ 0 ≤ (shS L n k).most ∧ (shS L n k).most ≤ 24 ∧ 0 ≤ (shS L n k).least ∧ (shS L n k).least ≤ 24 := by
  obtain ⟨L, rfl⟩ : ∃ m : Nat, L = m := ⟨L.toNat, by omega⟩
  obtain ⟨n, rfl⟩ : ∃ m : Nat, n = m + 1 := ⟨(n - 1).toNat, by omega⟩
  have h := all_ends
  rw [List.all_eq_true] at h
  have h := h L (List.mem_range.2 (by omega))
  rw [List.all_eq_true] at h
  have h := h n (List.mem_range.2 (by omega))
  unfold endB at h
  rw [Bool.or_eq_true, decide_eq_true_eq, decide_eq_true_eq] at h
  have := h.resolve_left hs
  obtain rfl : k = n + 1 := by omega
  exact this

set_option maxHeartbeats 1000000 in
set_option maxRecDepth 100000 in
theorem tilesShares_true (length n0 : Int) (w : World) : Calls Try.prog 8 #[.int .i64 length, .int .i64 n0] w fun e w' => e = .returned (.bool true) ∧ Below w.heap.size w w' := by
  have HLY : Hid (∀ W : World, Calls Try.prog 32 #[] W fun e w' => e = .returned (.bool true) ∧ Below W.heap.size W w') := laysK
  go_enter Try.func8, Try.ntmps8
  go_wp2_with (first
    | (go_at_call_of 30 (Value.int IntKind.i64 25); refine (pick_any length 25 (by decide) (by decide) _).mono ?_; rintro e w1 ⟨L, hL1, hL2, rfl, rfl⟩)
    | (go_at_call_of 30 (Value.int IntKind.i64 6); refine (pick_any n0 6 (by decide) (by decide) _).mono ?_; rintro e w1 ⟨q, hq1, hq2, rfl, rfl⟩)
    | fail)
  obtain ⟨N, hN⟩ : ∃ N : Nat, q = N := ⟨q.toNat, by omega⟩
  subst hN
  have HSH : Hid (∀ (k : Nat) (W : World), Calls Try.prog 26 #[.int .i64 L, .int .i64 (1 + (N : Int)), .int .i64 k] W fun e w' => e = .returned (.tuple #[.int .i64 (shareT L (1 + N) k).1, .int .i64 (shareT L (1 + N) k).2]) ∧ Below W.heap.size W w') := fun k W => share_any L (1 + N) k W _ rfl
  by_cases hs : L < 2 * (1 + (N : Int)) - 1
  · have HS0 : Hid (∀ k : Nat, shareT L (1 + N) k = (0, 0)) := fun k => shareT_none (by omega)
    go_loopw [18] (fun i wr => ∃ k : Nat, k ≤ N + 1 ∧ i = .int .i64 k ∧ Below w1.heap.size w1 wr) (fun i _ => N + 1 - (intOf i).toNat)
    case atStart => exact ⟨0, Nat.zero_le _, rfl, Below.refl _ _⟩
    case round =>
      obtain ⟨k, hk, rfl, hb⟩ := hrel
      have HB : Hid (Below w1.heap.size w1 wr) := hb
      clear hb
      by_cases hlt : k < N + 1
      · have hlt' : (k : Int) < 1 + (N : Int) := by omega
        have HS1 : Hid (Calls Try.prog 26 #[.int .i64 L, .int .i64 (1 + (N : Int)), .int .i64 k] wr fun e w' => e = .returned (.tuple #[.int .i64 0, .int .i64 0]) ∧ Below wr.heap.size wr w') := by
          have := HSH.out k wr
          rw [HS0.out k] at this
          exact this
        go_wp2_with (first
          | (go_at_call 26; refine HS1.out.mono ?_; rintro e w2 ⟨rfl, hb2⟩; have HB2 : Hid (Below w1.heap.size w1 w2) := below_to HB.out hb2; clear hb2)
          | fail)
        go_roundw
        case rel => exact ⟨k + 1, by omega, by go_num, HB2.out⟩
        case measure => simp [intOf]; omega
      · have hge : 1 + (N : Int) ≤ (k : Int) := by omega
        go_wp2_with (first
          | (go_at_call 32; refine (HLY.out _).mono ?_; rintro e w2 ⟨rfl, hb2⟩; have HB2 : Hid (Below w1.heap.size w1 w2) := below_to HB.out hb2; clear hb2)
          | fail)
        go_ret
        exact ⟨rfl, HB2.out⟩
  · have hs' : 2 * (1 + (N : Int)) - 1 ≤ L := by omega
    go_loopw [5, 6, 7, 8, 18] (fun s a l m i wr => ∃ k : Nat, k ≤ N + 1 ∧ i = .int .i64 k ∧ s = .int .i64 (shS L (1 + N) k).sum ∧ a = .int .i64 (shS L (1 + N) k).at0 ∧ l = .int .i64 (shS L (1 + N) k).least ∧ m = .int .i64 (shS L (1 + N) k).most ∧ Below w1.heap.size w1 wr) (fun _ _ _ _ i _ => N + 1 - (intOf i).toNat)
    case atStart => exact ⟨0, Nat.zero_le _, rfl, rfl, rfl, rfl, rfl, Below.refl _ _⟩
    case round =>
      obtain ⟨k, hk, rfl, rfl, rfl, rfl, rfl, hb⟩ := hrel
      have HB : Hid (Below w1.heap.size w1 wr) := hb
      clear hb
      by_cases hlt : k < N + 1
      · have hlt' : (k : Int) < 1 + (N : Int) := by omega
        obtain ⟨f1, f2, f3, f4, f5, f6, f7⟩ := step_ok L (1 + N) k hL1 hL2 (by omega) (by omega) hlt' hs
        have HNX : Hid (shS L (1 + N) (k + 1) = ⟨(shS L (1 + N) k).sum + (shareT L (1 + N) k).2, (shS L (1 + N) k).at0 + ((shareT L (1 + N) k).2 + 1), min (shS L (1 + N) k).least (shareT L (1 + N) k).2, max (shS L (1 + N) k).most (shareT L (1 + N) k).2⟩) := rfl
        have HS1 : Hid (Calls Try.prog 26 #[.int .i64 L, .int .i64 (1 + (N : Int)), .int .i64 k] wr fun e w' => e = .returned (.tuple #[.int .i64 (shareT L (1 + N) k).1, .int .i64 (shareT L (1 + N) k).2]) ∧ Below wr.heap.size wr w') := HSH.out k wr
        obtain ⟨S, hS⟩ : ∃ S, S = shS L (1 + N) k := ⟨_, rfl⟩
        obtain ⟨X, hX⟩ : ∃ X, X = shareT L (1 + N) k := ⟨_, rfl⟩
        rw [← hX] at HS1 HNX f1 f2 f3
        rw [← hS] at HNX f1 f4 f5 f6 f7 ⊢
        obtain ⟨sum, at0, least, most⟩ := S
        obtain ⟨x, wd⟩ := X
        simp only at f1 f2 f3 f4 f5 f6 f7 HS1 HNX ⊢
        subst f1
        clear hS hX
        go_wp2_with (first
          | (go_at_call 26; refine HS1.out.mono ?_; rintro e w2 ⟨rfl, hb2⟩; have HB2 : Hid (Below w1.heap.size w1 w2) := below_to HB.out hb2; clear hb2)
          | fail)
        all_goals (
          go_roundw
          case rel =>
            refine ⟨k + 1, by omega, by go_num, ?_, ?_, ?_, ?_, HB2.out⟩
            all_goals (rw [HNX.out]; first | done | (simp only [Value.int.injEq, true_and]; omega))
          case measure => (simp [intOf]; omega))
      · have hge : 1 + (N : Int) ≤ (k : Int) := by omega
        obtain ⟨f1, f2, f3, f4, f5, f6, f7⟩ := end_ok L (1 + N) hL1 hL2 (by omega) (by omega) k (by omega) hs
        obtain ⟨S, hS⟩ : ∃ S, S = shS L (1 + N) k := ⟨_, rfl⟩
        rw [← hS] at f1 f2 f3 f4 f5 f6 f7 ⊢
        obtain ⟨sum, at0, least, most⟩ := S
        simp only at f1 f2 f3 f4 f5 f6 f7 ⊢
        clear hS
        have f1' : sum + (1 + (N : Int)) - 1 = L := by omega
        go_wp2_with (first
          | (go_at_call 32; refine (HLY.out _).mono ?_; rintro e w2 ⟨rfl, hb2⟩; have HB2 : Hid (Below w1.heap.size w1 w2) := below_to HB.out hb2; clear hb2)
          | fail)
        go_ret
        exact ⟨rfl, HB2.out⟩

end Go.Proofs.Ytmdlbclaipajlab.Tl
