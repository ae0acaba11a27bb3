/- Boxes of screens, and one cell of a list, written. -/
import Derived.Test.YtpichplhidiokacGreatDoorGMem
namespace Go.Proofs.YtpichplhidiokacGreatDoor
open Go.RowKit

theorem set9_same {w : World} {B : Nat} {c0 c1 c2 c3 c4 c5 c6 c7 c8 : Value} {t : TypeId} (h : w.heap[B]? = some (.cells #[c0, c1, c2, c3, c4, c5, c6, c7, c8] t (0, 0))) (u0 u1 u2 u3 u4 u5 u6 u7 u8 : Value) :
    (((((((((w.setCell ⟨B, 0, none⟩ u0).setCell ⟨B, 1, none⟩ u1).setCell ⟨B, 2, none⟩ u2).setCell ⟨B, 3, none⟩ u3).setCell ⟨B, 4, none⟩ u4).setCell ⟨B, 5, none⟩ u5).setCell ⟨B, 6, none⟩ u6).setCell ⟨B, 7, none⟩ u7).setCell ⟨B, 8, none⟩ u8).heap[B]? = some (.cells #[u0, u1, u2, u3, u4, u5, u6, u7, u8] t (0, 0)) := by
  have h0 : (w.setCell ⟨B, 0, none⟩ u0).heap[B]? = some (.cells #[u0, c1, c2, c3, c4, c5, c6, c7, c8] t (0, 0)) := heap_setCell_same _ B 0 _ t u0 h
  have h1 : ((w.setCell ⟨B, 0, none⟩ u0).setCell ⟨B, 1, none⟩ u1).heap[B]? = some (.cells #[u0, u1, c2, c3, c4, c5, c6, c7, c8] t (0, 0)) := heap_setCell_same _ B 1 _ t u1 h0
  have h2 : (((w.setCell ⟨B, 0, none⟩ u0).setCell ⟨B, 1, none⟩ u1).setCell ⟨B, 2, none⟩ u2).heap[B]? = some (.cells #[u0, u1, u2, c3, c4, c5, c6, c7, c8] t (0, 0)) := heap_setCell_same _ B 2 _ t u2 h1
  have h3 : ((((w.setCell ⟨B, 0, none⟩ u0).setCell ⟨B, 1, none⟩ u1).setCell ⟨B, 2, none⟩ u2).setCell ⟨B, 3, none⟩ u3).heap[B]? = some (.cells #[u0, u1, u2, u3, c4, c5, c6, c7, c8] t (0, 0)) := heap_setCell_same _ B 3 _ t u3 h2
  have h4 : (((((w.setCell ⟨B, 0, none⟩ u0).setCell ⟨B, 1, none⟩ u1).setCell ⟨B, 2, none⟩ u2).setCell ⟨B, 3, none⟩ u3).setCell ⟨B, 4, none⟩ u4).heap[B]? = some (.cells #[u0, u1, u2, u3, u4, c5, c6, c7, c8] t (0, 0)) := heap_setCell_same _ B 4 _ t u4 h3
  have h5 : ((((((w.setCell ⟨B, 0, none⟩ u0).setCell ⟨B, 1, none⟩ u1).setCell ⟨B, 2, none⟩ u2).setCell ⟨B, 3, none⟩ u3).setCell ⟨B, 4, none⟩ u4).setCell ⟨B, 5, none⟩ u5).heap[B]? = some (.cells #[u0, u1, u2, u3, u4, u5, c6, c7, c8] t (0, 0)) := heap_setCell_same _ B 5 _ t u5 h4
  have h6 : (((((((w.setCell ⟨B, 0, none⟩ u0).setCell ⟨B, 1, none⟩ u1).setCell ⟨B, 2, none⟩ u2).setCell ⟨B, 3, none⟩ u3).setCell ⟨B, 4, none⟩ u4).setCell ⟨B, 5, none⟩ u5).setCell ⟨B, 6, none⟩ u6).heap[B]? = some (.cells #[u0, u1, u2, u3, u4, u5, u6, c7, c8] t (0, 0)) := heap_setCell_same _ B 6 _ t u6 h5
  have h7 : ((((((((w.setCell ⟨B, 0, none⟩ u0).setCell ⟨B, 1, none⟩ u1).setCell ⟨B, 2, none⟩ u2).setCell ⟨B, 3, none⟩ u3).setCell ⟨B, 4, none⟩ u4).setCell ⟨B, 5, none⟩ u5).setCell ⟨B, 6, none⟩ u6).setCell ⟨B, 7, none⟩ u7).heap[B]? = some (.cells #[u0, u1, u2, u3, u4, u5, u6, u7, c8] t (0, 0)) := heap_setCell_same _ B 7 _ t u7 h6
  have h8 : (((((((((w.setCell ⟨B, 0, none⟩ u0).setCell ⟨B, 1, none⟩ u1).setCell ⟨B, 2, none⟩ u2).setCell ⟨B, 3, none⟩ u3).setCell ⟨B, 4, none⟩ u4).setCell ⟨B, 5, none⟩ u5).setCell ⟨B, 6, none⟩ u6).setCell ⟨B, 7, none⟩ u7).setCell ⟨B, 8, none⟩ u8).heap[B]? = some (.cells #[u0, u1, u2, u3, u4, u5, u6, u7, u8] t (0, 0)) := heap_setCell_same _ B 8 _ t u8 h7
  exact h8

theorem other_set {w : World} {B b : Nat} {o : Obj} {u : Value} {j : Nat} (h : w.heap[b]? = some o) (hne : b ≠ B) : (w.setCell ⟨B, j, none⟩ u).heap[b]? = some o := by
  rw [Below.heap_setCell _ _ _ _ hne]; exact h

theorem set9_other {w : World} {B b : Nat} {o : Obj} (h : w.heap[b]? = some o) (hne : b ≠ B) (u0 u1 u2 u3 u4 u5 u6 u7 u8 : Value) :
    (((((((((w.setCell ⟨B, 0, none⟩ u0).setCell ⟨B, 1, none⟩ u1).setCell ⟨B, 2, none⟩ u2).setCell ⟨B, 3, none⟩ u3).setCell ⟨B, 4, none⟩ u4).setCell ⟨B, 5, none⟩ u5).setCell ⟨B, 6, none⟩ u6).setCell ⟨B, 7, none⟩ u7).setCell ⟨B, 8, none⟩ u8).heap[b]? = some o :=
  other_set (other_set (other_set (other_set (other_set (other_set (other_set (other_set (other_set h hne) hne) hne) hne) hne) hne) hne) hne) hne

theorem Scr.put {w : World} {b n : Nat} {f : Nat → Cel} (h : Scr w b n f) (i o0 o1 o2 o3 : Nat) (c : Cel) (hi : i < n) (e0 : o0 = i * 4) (e1 : o1 = i * 4 + 1) (e2 : o2 = i * 4 + 2) (e3 : o3 = i * 4 + 3) :
    Scr ((((w.setCell ⟨b, o0, none⟩ (.int .i64 c.ch)).setCell ⟨b, o1, none⟩ (.int .i64 c.ink)).setCell ⟨b, o2, none⟩ (.int .i64 c.pic)).setCell ⟨b, o3, none⟩ (.bool c.bold)) b n (putF f i c) := by
  subst e0 e1 e2 e3
  obtain ⟨cur, hc, hs, hr⟩ := h
  have h0 := heap_setCell_same w b (i * 4) _ _ (.int .i64 c.ch) hc
  have h1 := heap_setCell_same _ b (i * 4 + 1) _ _ (.int .i64 c.ink) h0
  have h2 := heap_setCell_same _ b (i * 4 + 2) _ _ (.int .i64 c.pic) h1
  have h3 := heap_setCell_same _ b (i * 4 + 3) _ _ (.bool c.bold) h2
  refine ⟨_, h3, by simpa using hs, fun k hk j hj => ?_⟩
  unfold putF
  by_cases e : k = i
  · subst e
    rw [if_pos rfl]
    have hj4 : j = 0 ∨ j = 1 ∨ j = 2 ∨ j = 3 := by omega
    rcases hj4 with rfl | rfl | rfl | rfl <;> simp [cel4, Array.getElem?_setIfInBounds] <;> omega
  · rw [if_neg e, ← hr k hk j hj]
    simp only [Array.getElem?_setIfInBounds]
    rw [if_neg (by omega), if_neg (by omega), if_neg (by omega), if_neg (by omega)]

theorem grown_put {a w : World} {b o0 o1 o2 o3 : Nat} {u0 u1 u2 u3 : Value} (h : a.grownBy w (some b)) : a.grownBy ((((w.setCell ⟨b, o0, none⟩ u0).setCell ⟨b, o1, none⟩ u1).setCell ⟨b, o2, none⟩ u2).setCell ⟨b, o3, none⟩ u3) (some b) :=
  grown_set (grown_set (grown_set (grown_set h (.inr rfl) _) (.inr rfl) _) (.inr rfl) _) (.inr rfl) _

end Go.Proofs.YtpichplhidiokacGreatDoor
