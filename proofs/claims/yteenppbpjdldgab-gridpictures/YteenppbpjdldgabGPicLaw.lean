/- Plain: what a picture leaves alone. -/
import Derived.Test.YteenppbpjdldgabGTwo
namespace Go.Proofs.Yteenppbpjdldgab
open Go.RowKit

/-- A picture's cells: as they were, or a colour, right of and below the cursor. -/
def PicOk (g : Gr) (f : Nat → Cel) : Prop :=
  ∀ r c : Int, 0 ≤ r → r < g.high → 0 ≤ c → c < g.wide → f (r * g.wide + c).toNat = g.f (r * g.wide + c).toNat ∨ (g.row ≤ r ∧ hereC g ≤ c ∧ 1 ≤ (f (r * g.wide + c).toNat).pic)

theorem picOk_any {g : Gr} (h : OkG g) (l : List UInt8) : PicOk g (picS g l).1 ∧ g.row ≤ (picS g l).2.1 ∧ hereC g ≤ (picS g l).2.2 := by
  suffices H : ∀ (l : List UInt8) (s : (Nat → Cel) × Int × Int), (PicOk g s.1 ∧ g.row ≤ s.2.1 ∧ hereC g ≤ s.2.2) → PicOk g (l.foldl (pic1 g) s).1 ∧ g.row ≤ (l.foldl (pic1 g) s).2.1 ∧ hereC g ≤ (l.foldl (pic1 g) s).2.2 from H l _ ⟨fun _ _ _ _ _ _ => .inl rfl, Int.le_refl _, Int.le_refl _⟩
  have hk1 : 0 ≤ hereC g := by have := h.c1; have := h.w1; unfold hereC; omega
  have hr1 := h.r1
  intro l
  induction l with
  | nil => intro s hs; exact hs
  | cons x r ih =>
    intro s hs
    refine ih _ ?_
    obtain ⟨h1, h2, h3⟩ := hs
    unfold pic1
    split
    · exact ⟨h1, by simp only; omega, Int.le_refl _⟩
    · refine ⟨?_, h2, by simp only; omega⟩
      simp only
      split
      · next hin =>
        intro r c k1 k2 k3 k4
        unfold putF
        by_cases he : (r * g.wide + c).toNat = (s.2.1 * g.wide + s.2.2).toNat
        · right
          have hb := mul_bound k1 k2 (w := g.wide) (by omega)
          have hb2 := mul_bound (r := s.2.1) (by omega) hin.2.2.1 (w := g.wide) (by omega)
          obtain ⟨e1, e2⟩ := idx_inj k3 k4 (c' := s.2.2) (by omega) hin.2.2.2 (by omega : r * g.wide + c = s.2.1 * g.wide + s.2.2)
          rw [if_pos he]
          exact ⟨by omega, by omega, by simp only; omega⟩
        · rw [if_neg he]
          exact h1 r c k1 k2 k3 k4
      · exact h1

theorem atG_pic {g : Gr} (h : OkG g) (l : List UInt8) {r c : Int} (h1 : 0 ≤ r) (h2 : r < g.high) (h3 : 0 ≤ c) (h4 : c < g.wide) (fx : Nat → Cel) (hfx : fx = (picS g l).1) :
    atG ⟨g.wide, g.high, g.n, fx, g.row, g.col, g.ink, g.bold, g.top, g.bottom⟩ r c = atG g r c ∨ (g.row ≤ r ∧ hereC g ≤ c ∧ 1 ≤ (atG ⟨g.wide, g.high, g.n, fx, g.row, g.col, g.ink, g.bold, g.top, g.bottom⟩ r c).pic) := by
  obtain ⟨e, k1, k2⟩ := atG_good h h1 h2 h3 h4
  have e2 : atG ⟨g.wide, g.high, g.n, fx, g.row, g.col, g.ink, g.bold, g.top, g.bottom⟩ r c = fx (r * g.wide + c).toNat := by
    unfold atG
    exact if_pos ⟨h.w2, h.h2, h1, h2, h3, h4, k2⟩
  rw [e, e2, hfx]
  exact (picOk_any h l).1 r c h1 h2 h3 h4

end Go.Proofs.Yteenppbpjdldgab
