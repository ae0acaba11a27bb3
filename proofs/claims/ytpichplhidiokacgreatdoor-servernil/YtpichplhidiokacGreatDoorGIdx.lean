/- Places of cells in numbers. -/
import Derived.Test.YtpichplhidiokacGreatDoorGGood
namespace Go.Proofs.YtpichplhidiokacGreatDoor
open Go.RowKit

theorem idx_inj {r r' c c' w : Int} (h1 : 0 ≤ c) (h2 : c < w) (h3 : 0 ≤ c') (h4 : c' < w) (h : r * w + c = r' * w + c') : r = r' ∧ c = c' := by
  have hw : 0 ≤ w := by omega
  rcases Int.lt_trichotomy r r' with hlt | he | hgt
  · have h5 : (r + 1) * w ≤ r' * w := mul_mono (by omega) hw
    rw [Int.add_mul] at h5
    omega
  · subst he
    exact ⟨rfl, by omega⟩
  · have h5 : (r' + 1) * w ≤ r * w := mul_mono (by omega) hw
    rw [Int.add_mul] at h5
    omega

theorem atG_good {g : Gr} (h : OkG g) {r c : Int} (h1 : 0 ≤ r) (h2 : r < g.high) (h3 : 0 ≤ c) (h4 : c < g.wide) : atG g r c = g.f (r * g.wide + c).toNat ∧ 0 ≤ r * g.wide + c ∧ r * g.wide + c < g.n := by
  obtain ⟨q1, q2, _⟩ := h.nums
  have hb := mul_bound h1 h2 (w := g.wide) (by omega)
  refine ⟨?_, by omega, by omega⟩
  unfold atG
  rw [if_pos ⟨h.w2, h.h2, h1, h2, h3, h4, by omega⟩]

theorem idx_lt {r t c w : Int} (h1 : 0 ≤ c) (h2 : c < w) : r * w + c < t * w ↔ r < t := by
  have hw : 0 ≤ w := by omega
  constructor
  · intro h
    by_cases h3 : r < t
    · exact h3
    · have := mul_mono (r := t) (h := r) (by omega) hw
      omega
  · intro h
    have h5 : (r + 1) * w ≤ t * w := mul_mono (by omega) hw
    rw [Int.add_mul] at h5
    omega

end Go.Proofs.YtpichplhidiokacGreatDoor
