/- A copy of a screen, in its box. -/
import Derived.Test.YtpichplhidiokacGreatDoorGNew
import Derived.Test.YtpichplhidiokacGreatDoorGPut
namespace Go.Proofs.YtpichplhidiokacGreatDoor
open Go.RowKit

/-- Behind the copy: the box holds the screen, its list a copy. -/
structure Start (w : World) (g : Gr) (ao : Option Addr) (cap : Nat) (wx : World) : Prop where
  box : wx.heap[w.heap.size]? = some (gbox g ao cap)
  res : wx.heap[w.heap.size + 1]? = some gzero
  rd : RdS wx ao g.n g.f
  scr : 0 < g.n → ∃ b, ao = some ⟨b, 0, none⟩ ∧ w.heap.size + 2 ≤ b ∧ g.n ≤ cap ∧ Scr wx b g.n g.f
  below : Below w.heap.size w wx

theorem set_box {w : World} {B : Nat} {c0 c1 c2 c3 c4 c5 c6 c7 c8 u : Value} {t : TypeId} (h : w.heap[B]? = some (.cells #[c0, c1, c2, c3, c4, c5, c6, c7, c8] t (0, 0))) : (w.setCell ⟨B, 2, none⟩ u).heap[B]? = some (.cells #[c0, c1, u, c3, c4, c5, c6, c7, c8] t (0, 0)) := by
  have := heap_setCell_same w B 2 _ t u h
  exact this

theorem start_of {w w1 : World} {g : Gr} {ao ao' : Option Addr} {cap cap' : Nat} (h : Copied ((w.alloc (gbox g ao cap)).alloc gzero) g.n g.f ao' cap' w1) : Start w g ao' cap' (w1.setCell ⟨w.heap.size, 2, none⟩ (.slice ao' g.n cap')) := by
  have hb := h.2.2
  have hbx := below_block hb (at_old (at_new w (gbox g ao cap)) gzero) (by simp; omega)
  have hrs := below_block hb (at_new1 w (gbox g ao cap) gzero) (by simp)
  refine ⟨set_box hbx, other_set hrs (by omega), ?_, ?_, ?_⟩
  · rcases Nat.eq_zero_or_pos g.n with h0 | h0
    · exact .inl h0
    · obtain ⟨b, rfl, hb2, _, hs⟩ := h.2.1 h0
      exact (hs.set (by simp at hb2 ⊢; omega) _).rd
  · intro h0
    obtain ⟨b, rfl, hb2, hc, hs⟩ := h.2.1 h0
    exact ⟨b, rfl, by simp at hb2; omega, hc, hs.set (by simp at hb2 ⊢; omega) _⟩
  · exact (((below1 w _).alloc (by simp) _).trans (hb.mono (by simp; omega))).setCell (Nat.le_refl _) _

theorem rd_end {w : World} {g : Gr} {ao : Option Addr} {cap : Nat} {wx w2 : World} (h : Start w g ao cap wx) (hb : Below wx.heap.size wx w2) (u0 u1 u2 u3 u4 u5 u6 u7 u8 : Value) : RdS (((((((((w2.setCell ⟨w.heap.size + 1, 0, none⟩ u0).setCell ⟨w.heap.size + 1, 1, none⟩ u1).setCell ⟨w.heap.size + 1, 2, none⟩ u2).setCell ⟨w.heap.size + 1, 3, none⟩ u3).setCell ⟨w.heap.size + 1, 4, none⟩ u4).setCell ⟨w.heap.size + 1, 5, none⟩ u5).setCell ⟨w.heap.size + 1, 6, none⟩ u6).setCell ⟨w.heap.size + 1, 7, none⟩ u7).setCell ⟨w.heap.size + 1, 8, none⟩ u8) ao g.n g.f := by
  rcases Nat.eq_zero_or_pos g.n with h0 | h0
  · exact .inl h0
  · obtain ⟨b, rfl, hb2, _, hs⟩ := h.scr h0
    exact (scr_set9 (hs.below hb hs.lt) (by omega) _ _ _ _ _ _ _ _ _).rd

/-- A copy's place behind a result's box is written. -/
theorem Copied.out {w0 w w2 : World} {n : Nat} {f : Nat → Cel} {ao : Option Addr} {cap B : Nat} (h : Copied w n f ao cap w2) (h0 : Below w0.heap.size w0 w) (hB : w0.heap.size ≤ B) (hB2 : B < w.heap.size) (u0 u1 u2 u3 u4 u5 u6 u7 u8 : Value) :
    Copied w0 n f ao cap (((((((((w2.setCell ⟨B, 0, none⟩ u0).setCell ⟨B, 1, none⟩ u1).setCell ⟨B, 2, none⟩ u2).setCell ⟨B, 3, none⟩ u3).setCell ⟨B, 4, none⟩ u4).setCell ⟨B, 5, none⟩ u5).setCell ⟨B, 6, none⟩ u6).setCell ⟨B, 7, none⟩ u7).setCell ⟨B, 8, none⟩ u8) := by
  refine ⟨?_, ?_, below_set9 (h0.trans (h.2.2.mono h0.size)) hB _ _ _ _ _ _ _ _ _⟩
  · rcases Nat.eq_zero_or_pos n with h1 | h1
    · exact .inl h1
    · obtain ⟨b, rfl, hb, _, hs⟩ := h.2.1 h1
      exact (scr_set9 hs (by omega) _ _ _ _ _ _ _ _ _).rd
  · intro h1
    obtain ⟨b, rfl, hb, hc, hs⟩ := h.2.1 h1
    exact ⟨b, rfl, by have := h0.size; omega, hc, scr_set9 hs (by omega) _ _ _ _ _ _ _ _ _⟩

theorem Start.copied {w : World} {g : Gr} {ao : Option Addr} {cap : Nat} {wx w2 : World} (h : Start w g ao cap wx) (hb : Below wx.heap.size wx w2) (u0 u1 u2 u3 u4 u5 u6 u7 u8 : Value) :
    Copied w g.n g.f ao cap (((((((((w2.setCell ⟨w.heap.size + 1, 0, none⟩ u0).setCell ⟨w.heap.size + 1, 1, none⟩ u1).setCell ⟨w.heap.size + 1, 2, none⟩ u2).setCell ⟨w.heap.size + 1, 3, none⟩ u3).setCell ⟨w.heap.size + 1, 4, none⟩ u4).setCell ⟨w.heap.size + 1, 5, none⟩ u5).setCell ⟨w.heap.size + 1, 6, none⟩ u6).setCell ⟨w.heap.size + 1, 7, none⟩ u7).setCell ⟨w.heap.size + 1, 8, none⟩ u8) := by
  refine ⟨rd_end h hb _ _ _ _ _ _ _ _ _, fun h1 => ?_, below_set9 (h.below.trans (hb.mono h.below.size)) (by omega) _ _ _ _ _ _ _ _ _⟩
  obtain ⟨b, rfl, hb2, hc, hs⟩ := h.scr h1
  exact ⟨b, rfl, by omega, hc, scr_set9 (hs.below hb hs.lt) (by omega) _ _ _ _ _ _ _ _ _⟩

end Go.Proofs.YtpichplhidiokacGreatDoor
