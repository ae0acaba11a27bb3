/- What the verifier's own comparisons answer where two are alike: true; they change nothing. -/
import Derived.Test.YticjkfhhpilkmaaFeed
import Derived.BigQuiet
namespace Go.Proofs.Yticjkfhhpilkmaa
open Go.RowKit

set_option maxHeartbeats 400000 in
theorem sameNumbers_quiet (l : List Int) (a1 a2 : Option Addr) (c1 c2 : Nat) (w : World) (h1 : Rd w a1 l) (h2 : Rd w a2 l) (hm : l.length ≤ 9223372036854775807) :
    Calls Try.prog 27 #[.slice a1 l.length c1, .slice a2 l.length c2] w fun e w' => e = .returned (.bool true) ∧ ∃ n, w' = w.drewN n := by
  by_cases hl : l = []
  · subst hl
    go_enter Try.func27, Try.ntmps27
    go_wp2
    go_loop [13] (fun i => i = .int .i64 0) (fun _ => 0)
    case atStart => rfl
    case round =>
      subst hrel
      go_wp2
      go_ret
      exact ⟨rfl, 0, rfl⟩
  · rcases h1 with h | ⟨b1, o1, rfl, k1⟩
    · exact absurd h hl
    rcases h2 with h | ⟨b2, o2, rfl, k2⟩
    · exact absurd h hl
    have H1 : Hid (∀ j, j < l.length → w.cell? ⟨b1, o1 + j, none⟩ = some (.int .i64 (l.getD j 0))) := k1
    have H2 : Hid (∀ j, j < l.length → w.cell? ⟨b2, o2 + j, none⟩ = some (.int .i64 (l.getD j 0))) := k2
    clear k1 k2 hl
    go_enter Try.func27, Try.ntmps27
    go_wp2
    go_loopw [13] (fun i wr => ∃ k : Nat, k ≤ l.length ∧ i = .int .i64 k ∧ ∃ n, wr = w.drewN n) (fun i _ => l.length - (intOf i).toNat)
    case atStart => exact ⟨0, Nat.zero_le _, rfl, 0, rfl⟩
    case round =>
      obtain ⟨k, hk, rfl, nn, hb⟩ := hrel
      by_cases hlt : k < l.length
      · have d1 : wr.cell? ⟨b1, o1 + k, none⟩ = some (.int .i64 (l.getD k 0)) := by rw [hb]; exact H1.out k hlt
        have d2 : wr.cell? ⟨b2, o2 + k, none⟩ = some (.int .i64 (l.getD k 0)) := by rw [hb]; exact H2.out k hlt
        obtain ⟨x, hx⟩ : ∃ x, x = l.getD k 0 := ⟨_, rfl⟩
        rw [← hx] at d1 d2
        have HB : Hid (wr = w.drewN nn) := hb
        have hlt' : (k : Int) < (l.length : Int) := by omega
        have hk0 : (0 : Int) ≤ (k : Int) := by omega
        clear hx hb
        go_wp2
        go_region
        go_wp2
        go_roundw
        case rel => exact ⟨k + 1, by omega, by go_num, nn + 1, by rw [HB.out]; rfl⟩
        case measure => simp [intOf]; omega
      · have HB : Hid (wr = w.drewN nn) := hb
        clear hb
        go_wp2
        go_ret
        exact ⟨rfl, nn, HB.out⟩

theorem below_drewN {B : Nat} {a w : World} (h : Below B a w) (n : Nat) : Below B a (w.drewN n) := ⟨h.os, h.tape, h.output, h.size, h.block⟩

theorem sameNumbers_eq (l : List Int) (a1 a2 : Option Addr) (c1 c2 : Nat) (w : World) (h1 : Rd w a1 l) (h2 : Rd w a2 l) (hm : l.length ≤ 9223372036854775807) :
    Calls Try.prog 27 #[.slice a1 l.length c1, .slice a2 l.length c2] w fun e w' => e = .returned (.bool true) ∧ Below w.heap.size w w' := by
  refine (sameNumbers_quiet l a1 a2 c1 c2 w h1 h2 hm).mono ?_
  rintro e w' ⟨rfl, n, rfl⟩
  exact ⟨rfl, below_drewN (Below.refl _ _) n⟩

set_option maxHeartbeats 400000 in
theorem sameParser_eq (s : PS) (a1 a2 : Option Addr) (c1 c2 : Nat) (w : World) (h1 : Rd w a1 s.ps) (h2 : Rd w a2 s.ps) (hm : s.ps.length ≤ 9223372036854775807) :
    Calls Try.prog 16 #[.agg #[.int .i64 s.place, .slice a1 s.ps.length c1, .string s.pl, .bool s.lg], .agg #[.int .i64 s.place, .slice a2 s.ps.length c2, .string s.pl, .bool s.lg]] w fun e w' => e = .returned (.bool true) ∧ Below w.heap.size w w' := by
  have H1 : Hid (Rd w a1 s.ps) := h1
  have H2 : Hid (Rd w a2 s.ps) := h2
  clear h1 h2
  go_enter Try.func16, Try.ntmps16
  go_wp2_with fail
  refine (sameNumbers_eq s.ps a1 a2 c1 c2 _ (H1.out.below (((Below.refl _ _).alloc (Nat.le_refl _) _).alloc (by simp) _)) (H2.out.below (((Below.refl _ _).alloc (Nat.le_refl _) _).alloc (by simp) _)) hm).mono ?_
  rintro e w1 ⟨rfl, hb⟩
  obtain ⟨a0, a1', a2', a3, f0, f1, f2, f3⟩ := four (below_block hb (at_old (at_new w _) _) (by simp; omega))
  obtain ⟨e0, e1, e2, e3, g0, g1, g2, g3⟩ := four (below_block hb (at_new1 w _ _) (by simp))
  have HB : Hid (Below w.heap.size w w1) := (((Below.refl _ _).alloc (Nat.le_refl _) _).alloc (by simp) _).trans (hb.mono (by simp; omega))
  clear hb
  go_wp2
  go_ret
  refine ⟨ret_bool ?_, HB.out⟩
  simp

end Go.Proofs.Yticjkfhhpilkmaa
