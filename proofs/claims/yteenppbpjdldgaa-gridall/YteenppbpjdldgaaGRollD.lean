/- What 'roll' is in the plain machine's words; the document's own 'nextRow'. -/
import Derived.Test.YteenppbpjdldgaaGRollC
namespace Go.Proofs.Yteenppbpjdldgaa
open Go.RowKit

theorem cat_row (g : Gr) (W H : Nat) (fr tt n : Int) (r c : Nat) (hr : r < H) (hc : c < W) : catF (outN g W fr tt n H) W (r * W + c) = rollRow g W fr tt n r c := by
  have hl : r < (outN g W fr tt n H).length := by rw [outN_length]; exact hr
  have e : (outN g W fr tt n H)[r] = rollRow g W fr tt n r := by simp [outN]
  rw [catF_at _ W r c hl hc, e]

/-- A place as a row and a column. -/
theorem split_idx {W H i : Nat} (hi : i < H * W) : ∃ r c, i = r * W + c ∧ r < H ∧ c < W := by
  have hW : 0 < W := by
    rcases Nat.eq_zero_or_pos W with h | h
    · subst h; simp at hi
    · exact h
  refine ⟨i / W, i % W, ?_, ?_, Nat.mod_lt _ hW⟩
  · rw [Nat.mul_comm]; exact (Nat.div_add_mod i W).symm
  · exact Nat.div_lt_of_lt_mul (by rw [Nat.mul_comm]; exact hi)

theorem idx_ltN {r t c W : Nat} (h : c < W) : r * W + c < t * W ↔ r < t := by
  constructor
  · intro h1
    rcases Nat.lt_or_ge r t with h2 | h2
    · exact h2
    · have := Nat.mul_le_mul_right W h2
      omega
  · intro h1
    have := Nat.mul_le_mul_right W (show r + 1 ≤ t by omega)
    rw [Nat.add_mul] at this
    omega

theorem roll_up (g : Gr) (W H a b m : Nat) (_ha : a ≤ b) (i : Nat) (hi : i < H * W) : catF (outN g W a b m H) W i = upF g.f (a * W) (b * W) (min m (b - a) * W) i := by
  obtain ⟨r, c, rfl, hr, hc⟩ := split_idx hi
  rw [cat_row g W H a b m r c hr hc]
  unfold rollRow upF rowF
  have e1 := idx_ltN (r := r) (t := a) hc
  have e2 := idx_ltN (r := r) (t := b) hc
  have e3 := idx_ltN (r := r + min m (b - a)) (t := b) hc
  rw [Nat.add_mul] at e3
  by_cases h1 : r < a ∨ b ≤ r
  · rw [if_pos (by omega), if_neg (by omega)]
  · rw [if_neg (by omega)]
    by_cases h2 : r + m < b
    · have hm : min m (b - a) = m := by omega
      rw [hm] at e3 ⊢
      rw [if_pos (by omega), if_pos (by omega), if_pos (by omega)]
      have e4 : ((r : Int) + (m : Int)).toNat = r + m := by omega
      rw [e4, Nat.add_mul]
      congr 1
      omega
    · rw [if_neg (by omega), if_pos (by omega), if_neg (by omega)]

theorem roll_down (g : Gr) (W H a b m : Nat) (_ha : a ≤ b) (i : Nat) (hi : i < H * W) : catF (outN g W a b (-(m : Int)) H) W i = downF g.f (a * W) (b * W) (min m (b - a) * W) i := by
  obtain ⟨r, c, rfl, hr, hc⟩ := split_idx hi
  rw [cat_row g W H a b _ r c hr hc]
  unfold rollRow downF rowF
  have e1 := idx_ltN (r := r) (t := a) hc
  have e2 := idx_ltN (r := r) (t := b) hc
  have e3 := idx_ltN (r := r) (t := a + min m (b - a)) hc
  rw [Nat.add_mul] at e3
  by_cases h1 : r < a ∨ b ≤ r
  · rw [if_pos (by omega), if_neg (by omega)]
  · rw [if_neg (by omega)]
    by_cases h2 : a + m ≤ r
    · have hm : min m (b - a) = m := by omega
      rw [hm] at e3 ⊢
      rw [if_pos (by omega), if_pos (by omega), if_pos (by omega)]
      have e4 : ((r : Int) + -(m : Int)).toNat = r - m := by omega
      have e5 : (r - m) * W + m * W = r * W := by rw [← Nat.add_mul]; congr 1; omega
      rw [e4]
      congr 1
      omega
    · rw [if_neg (by omega), if_pos (by omega), if_neg (by omega)]

/-- A function of the document's own on a screen has ended: nothing old is other than it was; the list is the old one or a new one. -/
def NEnd (w : World) (b : Nat) (x : Gr) (e : Ending) (w' : World) : Prop := ∃ b' cap', e = .returned (gval x (some ⟨b', 0, none⟩) cap') ∧ Scr w' b' x.n x.f ∧ x.n ≤ cap' ∧ (b' = b ∨ w.heap.size ≤ b') ∧ Below w.heap.size w w'

theorem roll_end (g : Gr) (ok : OkG g) (b cap : Nat) (w : World) (hS : Scr w b g.n g.f) (hc : g.n ≤ cap) (fr tt n : Int) (hfr : 0 ≤ fr) (hfr2 : fr ≤ 10) (htt : tt ≤ g.high) (hn1 : -1000 ≤ n) (hn2 : n ≤ 1000) (fx : Nat → Cel) (hfx : ∀ W H : Nat, g.wide = W → g.high = H → ∀ i, i < H * W → catF (outN g W fr tt n H) W i = fx i) :
    Calls Try.prog 76 #[gval g (some ⟨b, 0, none⟩) cap, .int .i64 fr, .int .i64 tt, .int .i64 n] w (NEnd w b ⟨g.wide, g.high, g.n, fx, g.row, g.col, g.ink, g.bold, g.top, g.bottom⟩) := by
  obtain ⟨H, hH⟩ : ∃ H : Nat, g.high = H := ⟨g.high.toNat, by have := ok.h1; omega⟩
  obtain ⟨W, hW⟩ : ∃ W : Nat, g.wide = W := ⟨g.wide.toNat, by have := ok.w1; omega⟩
  have hn : g.n = H * W := by
    have h3 : (g.n : Int) = ((H * W : Nat) : Int) := by rw [ok.nums.1, hW, hH]; simp
    omega
  refine (roll_any g ok b 0 cap w hS.rd hc W H hW hH fr tt n hfr hfr2 (by omega) hn1 hn2 _ rfl).mono ?_
  rintro e w' ⟨b', cap', rfl, hs, hcc, hb, hbel⟩
  rw [← hn] at hs hcc ⊢
  refine ⟨b', cap', rfl, hs.congr fun i hi => hfx W H hW hH i (by omega), hcc, .inr hb, hbel⟩

theorem mul_nat {a w : Int} {A W : Nat} (ha : a = A) (hw : w = W) : (a * w).toNat = A * W := by
  subst ha hw
  rw [← Int.natCast_mul]
  exact Int.toNat_natCast _

/-- The answer of a callee is handed on. -/
theorem nend_on {w w2 : World} {b b' cap' : Nat} {x : Gr} {o1 o2 : Obj} (hlt : b < w.heap.size) (hs : Scr w2 b' x.n x.f) (hc : x.n ≤ cap') (hb : b' = b ∨ ((w.alloc o1).alloc o2).heap.size ≤ b') (hbel : Below ((w.alloc o1).alloc o2).heap.size ((w.alloc o1).alloc o2) w2) (u0 u1 u2 u3 u4 u5 u6 u7 u8 : Value) :
    NEnd w b x (.returned (gval x (some ⟨b', 0, none⟩) cap')) (((((((((w2.setCell ⟨w.heap.size + 1, 0, none⟩ u0).setCell ⟨w.heap.size + 1, 1, none⟩ u1).setCell ⟨w.heap.size + 1, 2, none⟩ u2).setCell ⟨w.heap.size + 1, 3, none⟩ u3).setCell ⟨w.heap.size + 1, 4, none⟩ u4).setCell ⟨w.heap.size + 1, 5, none⟩ u5).setCell ⟨w.heap.size + 1, 6, none⟩ u6).setCell ⟨w.heap.size + 1, 7, none⟩ u7).setCell ⟨w.heap.size + 1, 8, none⟩ u8) := by
  have hb2 : Below w.heap.size w w2 := (below2 w o1 o2).trans (hbel.mono (by simp; omega))
  have hb3 : b' = b ∨ w.heap.size + 2 ≤ b' := by simp at hb; omega
  exact ⟨b', cap', rfl, scr_set9 hs (by omega) _ _ _ _ _ _ _ _ _, hc, by omega, below_set9 hb2 (by omega) _ _ _ _ _ _ _ _ _⟩

set_option maxHeartbeats 1000000 in
theorem nextRow_any (g : Gr) (h : OkG g) (b cap : Nat) (w : World) (hS : Scr w b g.n g.f) (hc : g.n ≤ cap) (x : Gr) (hx : x = rowOnG g) : Calls Try.prog 55 #[gval g (some ⟨b, 0, none⟩) cap] w (NEnd w b x) := by
  have hlt := hS.lt
  have hb0 : 1 ≤ g.bottom := by have := h.t1; have := h.t2; omega
  have hb1 : g.bottom ≤ 10 := by have := h.t3; have := h.h2; omega
  have hr0 := h.r1
  have hr1 : g.row ≤ 10 := by have := h.r2; have := h.h2; omega
  have hh1 := h.h2
  have HS : Hid (Scr w b g.n g.f ∧ g.n ≤ cap) := ⟨hS, hc⟩
  by_cases hrow : g.row = g.bottom - 1
  · have hx' : x = ⟨g.wide, g.high, g.n, upF g.f (g.top * g.wide).toNat (g.bottom * g.wide).toNat g.wide.toNat, g.row, g.col, g.ink, g.bold, g.top, g.bottom⟩ := by rw [hx]; unfold rowOnG; rw [if_pos hrow]
    have HRL : Hid (∀ w, Scr w b g.n g.f → Calls Try.prog 76 #[gval g (some ⟨b, 0, none⟩) cap, .int .i64 g.top, .int .i64 g.bottom, .int .i64 1] w (NEnd w b x)) := by
      intro w hS
      rw [hx']
      refine roll_end g h b cap w hS hc g.top g.bottom 1 h.t1 (by have := h.t2; omega) h.t3 (by omega) (by omega) _ ?_
      intro W H hW hH i hi
      obtain ⟨A, hA⟩ : ∃ A : Nat, g.top = A := ⟨g.top.toNat, by have := h.t1; omega⟩
      obtain ⟨B, hB⟩ : ∃ B : Nat, g.bottom = B := ⟨g.bottom.toNat, by omega⟩
      have hAB : A < B := by have := h.t2; omega
      have := roll_up g W H A B 1 (by omega) i hi
      rw [show min 1 (B - A) * W = W by rw [show min 1 (B - A) = 1 by omega, Nat.one_mul]] at this
      rw [mul_nat hA hW, mul_nat hB hW, show g.wide.toNat = W by omega, hA, hB]
      exact this
    have hq : (g.row == g.bottom - 1) = true := by simp [hrow]
    clear hx hx' hS h hc hrow
    go_enter Try.func55, Try.ntmps55
    go_wp2_with (go_at_call 76; refine (HRL.out _ ((HS.out.1.alloc _).alloc _)).mono ?_; rintro e w2 ⟨b', cap', rfl, hs2, hc2, hb2, hl2⟩; obtain ⟨⟨u0, u1, u2, u3, u4, u5, u6, u7, u8⟩, v⟩ := nine (below_block hl2 (at_new1 w _ _) (by simp)); have HE : Hid (∃ o1 o2 : Obj, Scr w2 b' x.n x.f ∧ x.n ≤ cap' ∧ (b' = b ∨ ((w.alloc o1).alloc o2).heap.size ≤ b') ∧ Below ((w.alloc o1).alloc o2).heap.size ((w.alloc o1).alloc o2) w2) := ⟨_, _, hs2, hc2, hb2, hl2⟩; clear hs2 hc2 hb2 hl2)
    refine bodyPost_ret (v := gval x (some ⟨b', 0, none⟩) cap') (by simp [results, Try.results55, go_sem, *]) rfl ?_
    obtain ⟨o1, o2, f1, f2, f3, f4⟩ := HE.out
    exact nend_on hlt f1 f2 f3 f4 _ _ _ _ _ _ _ _ _
  · have hq : (g.row == g.bottom - 1) = false := by simp [hrow]
    have FIN : Hid (∀ r : Int, r = min (g.row + 1) (g.high - 1) → ∀ o1 o2 : Obj, NEnd w b x (.returned (.agg #[.int .i64 g.wide, .int .i64 g.high, .slice (some ⟨b, 0, none⟩) g.n cap, .int .i64 r, .int .i64 g.col, .int .i64 g.ink, .bool g.bold, .int .i64 g.top, .int .i64 g.bottom])) ((w.alloc o1).alloc o2)) := by
      intro r hr o1 o2
      have : x = { g with row := r } := by rw [hx, hr]; unfold rowOnG; rw [if_neg hrow]
      rw [this]
      exact ⟨b, cap, rfl, (HS.out.1.alloc _).alloc _, HS.out.2, .inl rfl, below2 _ _ _⟩
    have hrh : g.row + 1 < g.high ∨ g.high ≤ g.row + 1 := by omega
    have hrl := h.r2
    clear hx hS h hc hrow
    rcases hrh with hrh | hrh
    all_goals (
      go_enter Try.func55, Try.ntmps55
      go_wp2
      refine bodyPost_ret (by simp [results, Try.results55, go_sem]; rfl) rfl ?_
      refine FIN.out _ ?_ _ _
      omega)

end Go.Proofs.Yteenppbpjdldgaa
