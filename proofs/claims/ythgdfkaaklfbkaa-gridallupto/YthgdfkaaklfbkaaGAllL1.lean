/- What holds in the midst of GridAll. -/
import Derived.Test.YthgdfkaaklfbkaaGSizes

import Derived.Test.YthgdfkaaklfbkaaGAllNil
namespace Go.Proofs.Ythgdfkaaklfbkaa
open Go.RowKit

theorem rd_far {w : World} {ao : Option Addr} {n : Nat} {f : Nat → Cel} (h : RdS w ao n f) (hn : 0 < n) (a : Addr) (ha : ao = some a) : a.block < w.heap.size := by
  obtain ⟨b, off, rfl, hc⟩ := h.resolve_left (by omega)
  obtain rfl : (⟨b, off, none⟩ : Addr) = a := by simpa using ha
  exact World.block_lt_of_cell? _ _ (hc 0 hn).1

theorem rd_set {w : World} {ao : Option Addr} {n : Nat} {f : Nat → Cel} {B : Nat} (h : RdS w ao n f) (hf : 0 < n → ∀ a, ao = some a → a.block ≠ B) (j : Nat) (u : Value) : RdS (w.setCell ⟨B, j, none⟩ u) ao n f := by
  rcases Nat.eq_zero_or_pos n with h0 | h0
  · exact .inl h0
  · obtain ⟨b, off, rfl, hc⟩ := h.resolve_left (by omega)
    have hne : b ≠ B := hf h0 _ rfl
    have e : ∀ i, (w.setCell ⟨B, j, none⟩ u).cell? ⟨b, i, none⟩ = w.cell? ⟨b, i, none⟩ := fun i => World.cell?_setCell_other _ _ _ _ (by intro e; simp only [Addr.mk.injEq] at e; omega)
    refine .inr ⟨b, off, rfl, fun i hi => ?_⟩
    obtain ⟨a0, a1, a2, a3⟩ := hc i hi
    exact ⟨(e _).trans a0, (e _).trans a1, (e _).trans a2, (e _).trans a3⟩
theorem rd_set9 {w : World} {ao : Option Addr} {n : Nat} {f : Nat → Cel} {B : Nat} (h : RdS w ao n f) (hf : 0 < n → ∀ a, ao = some a → a.block ≠ B) (u0 u1 u2 u3 u4 u5 u6 u7 u8 : Value) :
    RdS (((((((((w.setCell ⟨B, 0, none⟩ u0).setCell ⟨B, 1, none⟩ u1).setCell ⟨B, 2, none⟩ u2).setCell ⟨B, 3, none⟩ u3).setCell ⟨B, 4, none⟩ u4).setCell ⟨B, 5, none⟩ u5).setCell ⟨B, 6, none⟩ u6).setCell ⟨B, 7, none⟩ u7).setCell ⟨B, 8, none⟩ u8) ao n f :=
  rd_set (rd_set (rd_set (rd_set (rd_set (rd_set (rd_set (rd_set (rd_set h hf _ _) hf _ _) hf _ _) hf _ _) hf _ _) hf _ _) hf _ _) hf _ _) hf _ _

/-- What holds at each round's head. -/
structure Lv (w : World) (g ra : Gr) (q0 : Int) (oa : Option Addr) (ca A Bb : Nat) (evl : List Evt) (k : Nat) (x : Gr) (q : Int) (ob : Option Addr) (cb : Nat) (wr : World) : Prop where
  ok : OkG x
  says : (q = 0 ∧ (ra, q0) = allG x (evl.drop k)) ∨ (q ≠ 0 ∧ (ra, q0) = (x, q))
  boxa : wr.heap[A]? = some (gbox ra oa ca)
  boxb : wr.heap[Bb]? = some (gbox x ob cb)
  rda : RdS wr oa ra.n ra.f
  rdb : RdS wr ob x.n x.f
  fara : 0 < ra.n → ∀ a, oa = some a → a.block ≠ Bb
  farb : 0 < x.n → ∀ a, ob = some a → a.block ≠ Bb
  ab : A < Bb
  wb : w.heap.size ≤ A
  below : Below w.heap.size w wr

theorem ok_pos {g : Gr} (ok : OkG g) : 0 < g.n := by
  obtain ⟨q1, q2, q3, q4, _⟩ := ok.nums
  have := ok.w1
  have := ok.r1
  omega

theorem lv_step {w : World} {g ra : Gr} {q0 : Int} {oa : Option Addr} {ca A Bb : Nat} {evl : List Evt} {k : Nat} {x : Gr} {ob : Option Addr} {cb : Nat} {wr w5 : World} (h : Lv w g ra q0 oa ca A Bb evl k x 0 ob cb wr) (hk : k < evl.length) {r2 : Gr × Int} (hr2 : r2 = actG x evl[k]) {o5 : Option Addr} {c5 : Nat} (hrd : RdS w5 o5 r2.1.n r2.1.f) (hb : Below wr.heap.size wr w5) (ho : o5 = ob ∨ ∃ b, o5 = some ⟨b, 0, none⟩ ∧ wr.heap.size ≤ b) :
    Lv w g ra q0 oa ca A Bb evl (k + 1) r2.1 r2.2 o5 c5 (((((((((w5.setCell ⟨Bb, 0, none⟩ (.int .i64 r2.1.wide)).setCell ⟨Bb, 1, none⟩ (.int .i64 r2.1.high)).setCell ⟨Bb, 2, none⟩ (.slice o5 r2.1.n c5)).setCell ⟨Bb, 3, none⟩ (.int .i64 r2.1.row)).setCell ⟨Bb, 4, none⟩ (.int .i64 r2.1.col)).setCell ⟨Bb, 5, none⟩ (.int .i64 r2.1.ink)).setCell ⟨Bb, 6, none⟩ (.bool r2.1.bold)).setCell ⟨Bb, 7, none⟩ (.int .i64 r2.1.top)).setCell ⟨Bb, 8, none⟩ (.int .i64 r2.1.bottom)) := by
  have hs : (ra, q0) = allG x (evl.drop k) := by
    rcases h.says with ⟨_, h⟩ | ⟨h, _⟩
    · exact h
    · exact absurd rfl h
  rw [List.drop_eq_getElem_cons hk] at hs
  have hBlt : Bb < wr.heap.size := (Array.getElem?_eq_some_iff.1 h.boxb).1
  have hAlt : A < wr.heap.size := (Array.getElem?_eq_some_iff.1 h.boxa).1
  have hg2 : goodG x = true := (goodG_iff x).2 h.ok
  have hfar : 0 < r2.1.n → ∀ a, o5 = some a → a.block ≠ Bb := by
    intro _ a ha
    rcases ho with rfl | ⟨b, rfl, hb⟩
    · exact h.farb (ok_pos h.ok) a ha
    · obtain rfl : (⟨b, 0, none⟩ : Addr) = a := by simpa using ha
      show b ≠ Bb
      omega
  have hok : OkG r2.1 ∧ ((r2.2 = 0 ∧ (ra, q0) = allG r2.1 (evl.drop (k + 1))) ∨ (r2.2 ≠ 0 ∧ (ra, q0) = (r2.1, r2.2))) := by
    unfold actG at hr2
    rw [hg2] at hr2
    simp only [if_true] at hr2
    unfold allG at hs
    by_cases hc : checkE evl[k] = 0
    · rw [if_pos hc] at hr2 hs
      rw [hr2]
      exact ⟨(ok_done h.ok _ hc).1, .inl ⟨rfl, hs⟩⟩
    · rw [if_neg hc] at hr2 hs
      rw [hr2]
      exact ⟨h.ok, .inr ⟨hc, hs⟩⟩
  have hAB := h.ab
  have hwA := h.wb
  refine ⟨hok.1, hok.2, set9_other (below_block hb h.boxa hAlt) (by omega) _ _ _ _ _ _ _ _ _, set9_same (below_block hb h.boxb hBlt) _ _ _ _ _ _ _ _ _, rd_set9 (h.rda.below hb) h.fara _ _ _ _ _ _ _ _ _, rd_set9 hrd hfar _ _ _ _ _ _ _ _ _, h.fara, hfar, h.ab, h.wb, below_set9 (h.below.trans (hb.mono h.below.size)) (by omega) _ _ _ _ _ _ _ _ _⟩

theorem lv_end {w : World} {g ra : Gr} {q0 : Int} {oa : Option Addr} {ca A Bb : Nat} {evl : List Evt} {k : Nat} {x : Gr} {q : Int} {ob : Option Addr} {cb : Nat} {wr : World} (h : Lv w g ra q0 oa ca A Bb evl k x q ob cb wr) (hk : q = 0 → evl.length ≤ k) : ra = x ∧ q0 = q := by
  rcases h.says with ⟨rfl, hs⟩ | ⟨_, hs⟩
  · rw [List.drop_eq_nil_of_le (hk rfl)] at hs
    simpa [allG] using hs
  · simpa using hs

end Go.Proofs.Ythgdfkaaklfbkaa
