/- What 'Resize' makes of a screen. -/
import Derived.Test.YteenppbpjdldgaaGTwo
namespace Go.Proofs.Yteenppbpjdldgaa
open Go.RowKit

/-- The cells of a screen of that width: what the old one has there. -/
def resF (g : Gr) (wide : Int) : Nat → Cel := fun i => atG g ((i : Int) / wide) ((i : Int) % wide)
/-- .. the first k rows of them. -/
def resK (g : Gr) (wide : Int) (k : Nat) : Nat → Cel := fun i => if (i : Int) < k * wide then resF g wide i else noCel
def resG (g : Gr) (wide high : Int) : Gr :=
  ⟨(newG wide high).wide, (newG wide high).high, (newG wide high).n, resF g (newG wide high).wide, min g.row ((newG wide high).high - 1), min g.col ((newG wide high).wide - 1), g.ink, g.bold, (newG wide high).top, (newG wide high).bottom⟩

theorem div_row {r c w : Int} (h1 : 0 ≤ c) (h2 : c < w) : (r * w + c) / w = r ∧ (r * w + c) % w = c := by
  have hw : w ≠ 0 := by omega
  constructor
  · rw [Int.add_comm, Int.add_mul_ediv_right _ _ hw, Int.ediv_eq_zero_of_lt h1 h2]; omega
  · rw [Int.add_comm, Int.add_mul_emod_self_right]; exact Int.emod_eq_of_lt h1 h2

theorem atG_out {g : Gr} {r c : Int} (h : g.high ≤ r ∨ g.wide ≤ c) : atG g r c = noCel := by
  unfold atG
  rw [if_neg (by omega)]

/-- One row more. -/
theorem resK_step {g : Gr} (h : OkG g) (W : Int) (hW : 1 ≤ W) (k n : Nat) (hk : (k : Int) < g.high) (i : Nat) (_hi : i < n) :
    layF (resK g W k) (k * W).toNat (Nat.min g.wide.toNat W.toNat) (fun j => g.f ((k * g.wide).toNat + j)) i = resK g W (k + 1) i := by
  have hw := h.w1
  have e1 : ((k + 1 : Nat) : Int) * W = k * W + W := by
    have : ((k + 1 : Nat) : Int) = (k : Int) + 1 := by omega
    rw [this, Int.add_mul]; omega
  have hkW : 0 ≤ (k : Int) * W := Int.mul_nonneg (by omega) (by omega)
  have hkg : 0 ≤ (k : Int) * g.wide := Int.mul_nonneg (by omega) (by omega)
  obtain ⟨m, hm⟩ : ∃ m, m = Nat.min g.wide.toNat W.toNat := ⟨_, rfl⟩
  have hm1 : (m : Int) = min g.wide W := by
    rw [hm]
    show ((min g.wide.toNat W.toNat : Nat) : Int) = _
    omega
  rw [← hm]
  clear hm
  unfold layF resK
  rw [e1]
  by_cases h1 : (i : Int) < k * W
  · rw [if_neg (by omega), if_pos h1, if_pos (by omega)]
  · by_cases h2 : (i : Int) < k * W + W
    · obtain ⟨j, hj⟩ : ∃ j : Nat, (i : Int) = k * W + j := ⟨i - (k * W).toNat, by omega⟩
      have hd := div_row (r := k) (c := (j : Int)) (w := W) (by omega) (by omega)
      have e2 : resF g W i = atG g k j := by unfold resF; rw [hj, hd.1, hd.2]
      rw [if_pos h2]
      by_cases h3 : (j : Int) < g.wide
      · rw [if_pos (by omega), e2]
        obtain ⟨e3, _, _⟩ := atG_good h (r := k) (c := j) (by omega) hk (by omega) h3
        rw [e3]
        show g.f _ = g.f _
        congr 1
        omega
      · rw [if_neg (by omega), if_neg (by omega), e2, atG_out (.inr (by omega))]
    · rw [if_neg (by omega), if_neg h1, if_neg h2]

theorem resK_all {g : Gr} (W H : Int) (hW : 1 ≤ W) (M n : Nat) (hn : (n : Int) = W * H) (hM : (M : Int) = min g.high H) (i : Nat) (hi : i < n) : resK g W M i = resF g W i := by
  unfold resK
  by_cases h : (i : Int) < M * W
  · rw [if_pos h]
  · rw [if_neg h]
    have h1 : (M : Int) ≤ (i : Int) / W := by
      have := Int.ediv_le_ediv (a := (M : Int) * W) (b := (i : Int)) (c := W) (by omega) (by omega)
      rw [Int.mul_ediv_cancel _ (by omega)] at this
      exact this
    have h2 : (i : Int) / W < H := by
      refine Int.ediv_lt_of_lt_mul (by omega) ?_
      rw [Int.mul_comm]
      omega
    unfold resF
    rw [atG_out (.inl (by omega))]

theorem rows_off (g : Gr) (b off cap : Nat) (r s : Int) (w : World) (hr : 0 ≤ r * g.wide) (hrs : r * g.wide < s * g.wide) (hs : s * g.wide ≤ g.n) (hn : g.n ≤ 240) (hc : g.n ≤ cap) :
    Calls Try.prog 64 #[gval g (some ⟨b, off, none⟩) cap, .int .i64 r, .int .i64 s] w fun e w' => e = .returned (.slice (some ⟨b, off + (r * g.wide).toNat * 4, none⟩) ((s * g.wide).toNat - (r * g.wide).toNat) (cap - (r * g.wide).toNat)) ∧ w' = w.alloc (gbox g (some ⟨b, off, none⟩) cap) := by
  obtain ⟨p, hp⟩ : ∃ p, p = r * g.wide := ⟨_, rfl⟩
  obtain ⟨q, hq⟩ : ∃ q, q = s * g.wide := ⟨_, rfl⟩
  go_enter Try.func64, Try.ntmps64
  go_wp2
  go_ret
  exact ⟨rfl, rfl⟩

theorem rows_off1 (g : Gr) (h : OkG g) (b off cap : Nat) (w : World) (hc : g.n ≤ cap) (r : Int) (h0 : 0 ≤ r) (h1 : r < g.high) :
    Calls Try.prog 64 #[gval g (some ⟨b, off, none⟩) cap, .int .i64 r, .int .i64 (r + 1)] w fun e w' => e = .returned (.slice (some ⟨b, off + (r * g.wide).toNat * 4, none⟩) g.wide.toNat (cap - (r * g.wide).toNat)) ∧ w' = w.alloc (gbox g (some ⟨b, off, none⟩) cap) := by
  obtain ⟨q1, q2, _⟩ := h.nums
  have hw := h.w1
  have q3 := mul_bound h0 h1 (w := g.wide) (by omega)
  have e : (r + 1) * g.wide = r * g.wide + g.wide := by rw [Int.add_mul]; omega
  have k := rows_off g b off cap r (r + 1) w (by omega) (by omega) (by omega) (by omega) hc
  rw [e] at k
  have e2 : (r * g.wide + g.wide).toNat - (r * g.wide).toNat = g.wide.toNat := by omega
  rw [e2] at k
  exact k

/-- In the midst of 'Resize': the boxes of the old screen, of the result, of the new one; the new one's cells. -/
structure RInv (w : World) (g t : Gr) (ao : Option Addr) (cap b T : Nat) (f : Nat → Cel) (wr : World) : Prop where
  one : wr.heap[w.heap.size]? = some (gbox g ao cap)
  res : wr.heap[w.heap.size + 1]? = some gzero
  two : wr.heap[T]? = some (gbox t (some ⟨b, 0, none⟩) t.n)
  scr : Scr wr b t.n f
  below : Below w.heap.size w wr
  own : w.heap.size + 2 ≤ b
  far : b < T

theorem RInv.step {w : World} {g t : Gr} {ao : Option Addr} {cap b T : Nat} {f f' : Nat → Cel} {wr w' : World} {o1 o2 : Obj} (h : RInv w g t ao cap b T f wr) (hs : Scr w' b t.n f') (hg : ((wr.alloc o1).alloc o2).drew.grownBy w' (some b)) : RInv w g t ao cap b T f' w' := by
  have h0 := h.own
  have h1 := h.far
  have hb := h.below
  refine ⟨grown_block hg (at_old (at_old h.one o1) o2) (by simp; omega), grown_block hg (at_old (at_old h.res o1) o2) (by simp; omega), grown_block hg (at_old (at_old h.two o1) o2) (by simp; omega), hs, ?_, h0, h1⟩
  exact (((hb.alloc hb.size _).alloc (by have := hb.size; simp; omega) _)).drew.trans (grown_below hg (by have := hb.size; simp; omega) (by omega))

theorem RInv.src {w : World} {g t : Gr} {b0 off cap b T : Nat} {f : Nat → Cel} {wr : World} (_h : RInv w g t (some ⟨b0, off, none⟩) cap b T f wr) (hr : RdS wr (some ⟨b0, off, none⟩) g.n g.f) (s m : Nat) (hs : s + m ≤ g.n) (o1 o2 : Obj) (i : Nat) (hi : i < m) (j : Nat) (hj : j < 4) :
    ((wr.alloc o1).alloc o2).drew.cell? ((⟨b0, off + s * 4, none⟩ : Addr).add (i * 4 + j)) = cel4 (g.f (s + i)) j := by
  have hr2 := hr.below (below2 wr o1 o2)
  rcases hr2 with h0 | ⟨b', off', ha, hc⟩
  · omega
  · simp only [Option.some.injEq, Addr.mk.injEq, and_true] at ha
    obtain ⟨rfl, rfl⟩ := ha
    obtain ⟨t0, t1, t2, t3⟩ := hc (s + i) (by omega)
    rw [add_at]
    show ((wr.alloc o1).alloc o2).cell? _ = _
    have h4 : j = 0 ∨ j = 1 ∨ j = 2 ∨ j = 3 := by omega
    rcases h4 with rfl | rfl | rfl | rfl
    · rw [show off + s * 4 + (i * 4 + 0) = off + (s + i) * 4 by omega, t0]; rfl
    · rw [show off + s * 4 + (i * 4 + 1) = off + (s + i) * 4 + 1 by omega, t1]; rfl
    · rw [show off + s * 4 + (i * 4 + 2) = off + (s + i) * 4 + 2 by omega, t2]; rfl
    · rw [show off + s * 4 + (i * 4 + 3) = off + (s + i) * 4 + 3 by omega, t3]; rfl

end Go.Proofs.Yteenppbpjdldgaa
