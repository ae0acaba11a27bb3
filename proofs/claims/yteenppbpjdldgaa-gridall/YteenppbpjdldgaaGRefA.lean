/- What the document's own 'IsCell', 'GoodGrid' and 'CopyGrid' answer. -/
import Derived.Test.YteenppbpjdldgaaGTwo
namespace Go.Proofs.Yteenppbpjdldgaa
open Go.RowKit

theorem withinR_yes (n a b : Int) (w : World) (h : a ≤ n ∧ n ≤ b) : Calls Try.prog 62 #[.int .i64 n, .int .i64 a, .int .i64 b] w fun e w' => e = .returned (.bool true) ∧ w' = w := by
  obtain ⟨h1, h2⟩ := h
  go_enter Try.func62, Try.ntmps62
  go_wp2
  go_ret
  exact ⟨rfl, rfl⟩

theorem withinR_no (n a b : Int) (w : World) (h : n < a ∨ b < n) : Calls Try.prog 62 #[.int .i64 n, .int .i64 a, .int .i64 b] w fun e w' => e = .returned (.bool false) ∧ w' = w := by
  by_cases h1 : n < a
  · clear h
    go_enter Try.func62, Try.ntmps62
    go_wp2
    go_ret
    exact ⟨rfl, rfl⟩
  · have h2 : b < n := by omega
    have h3 : a ≤ n := by omega
    clear h h1
    go_enter Try.func62, Try.ntmps62
    go_wp2
    go_ret
    exact ⟨ret_bool (by simp; omega), rfl⟩

set_option maxHeartbeats 1000000 in
theorem isCell_plain (ch ink : Int) (bold : Bool) (w : World) : Calls Try.prog 40 #[cval ⟨ch, ink, 0, bold⟩] w fun e w' => e = .returned (.bool (goodC ⟨ch, ink, 0, bold⟩)) ∧ Below w.heap.size w w' := by
  obtain ⟨p2, hp2⟩ : ∃ p2, p2 = celB ⟨ch, ink, 0, bold⟩ noCel := ⟨_, rfl⟩
  have E2 : ∀ w, (binOp .eql 49 (.agg #[.int .i64 ch, .int .i64 ink, .int .i64 0, .bool bold]) (.agg #[.int .i64 0, .int .i64 0, .int .i64 0, .bool false])).run Try.prog w = .ok (.bool p2) w := fun w => by rw [hp2]; exact eql_cell ⟨ch, ink, 0, bold⟩ noCel w
  have HG : Hid (goodC ⟨ch, ink, 0, bold⟩ = (p2 || (plainN ch && inkN ink))) := by
    show goodC ⟨ch, ink, 0, bold⟩ = _
    rw [hp2]
    simp [goodC]
  clear hp2
  obtain ⟨G, hG⟩ : ∃ G, G = goodC ⟨ch, ink, 0, bold⟩ := ⟨_, rfl⟩
  rw [← hG] at HG ⊢
  clear hG
  cases p2
  · go_enter Try.func40, Try.ntmps40
    go_wp2
    all_goals (go_ret; refine ⟨ret_bool ?_, below1 _ _⟩; rw [HG.out, Bool.eq_iff_iff]; simp only [plainN, inkN, Bool.false_or, Bool.and_eq_true, decide_eq_true_eq, Bool.false_eq_true, false_iff]; omega)
  · go_enter Try.func40, Try.ntmps40
    go_wp2
    go_ret
    exact ⟨ret_bool (by rw [HG.out]; rfl), below1 _ _⟩

set_option maxHeartbeats 1000000 in
theorem isCell_pic (ch ink pic : Int) (bold : Bool) (hpic : pic ≠ 0) (w : World) : Calls Try.prog 40 #[cval ⟨ch, ink, pic, bold⟩] w fun e w' => e = .returned (.bool (goodC ⟨ch, ink, pic, bold⟩)) ∧ Below w.heap.size w w' := by
  obtain ⟨p1, hp1⟩ : ∃ p1, p1 = celB ⟨ch, ink, pic, bold⟩ ⟨0, 0, pic, false⟩ := ⟨_, rfl⟩
  have E1 : ∀ w, (binOp .eql 49 (.agg #[.int .i64 ch, .int .i64 ink, .int .i64 pic, .bool bold]) (.agg #[.int .i64 0, .int .i64 0, .int .i64 pic, .bool false])).run Try.prog w = .ok (.bool p1) w := fun w => by rw [hp1]; exact eql_cell ⟨ch, ink, pic, bold⟩ ⟨0, 0, pic, false⟩ w
  have E2 : ∀ w, (binOp .eql 49 (.agg #[.int .i64 ch, .int .i64 ink, .int .i64 pic, .bool bold]) (.agg #[.int .i64 0, .int .i64 0, .int .i64 0, .bool false])).run Try.prog w = .ok (.bool false) w := fun w => by
    have := eql_cell ⟨ch, ink, pic, bold⟩ noCel w
    rw [show celB ⟨ch, ink, pic, bold⟩ noCel = false by simp [celB, noCel, hpic]] at this
    exact this
  have HG : Hid (goodC ⟨ch, ink, pic, bold⟩ = (p1 && decide (1 ≤ pic ∧ pic ≤ 8))) := by
    show goodC ⟨ch, ink, pic, bold⟩ = _
    rw [hp1]
    simp [goodC, celB, noCel, hpic]
  have hp0 : (pic != 0) = true := by simp [hpic]
  have hp0' : (pic == 0) = false := by simp [hpic]
  clear hp1 hpic
  obtain ⟨G, hG⟩ : ∃ G, G = goodC ⟨ch, ink, pic, bold⟩ := ⟨_, rfl⟩
  rw [← hG] at HG ⊢
  clear hG
  cases p1
  · go_enter Try.func40, Try.ntmps40
    go_wp2
    go_ret
    exact ⟨ret_bool (by rw [HG.out]; rfl), below1 _ _⟩
  · go_enter Try.func40, Try.ntmps40
    go_wp2
    all_goals (go_ret; refine ⟨ret_bool ?_, below1 _ _⟩; rw [HG.out]; first | (simp; done) | (simp; omega))

theorem isCell_any (c : Cel) (w : World) : Calls Try.prog 40 #[cval c] w fun e w' => e = .returned (.bool (goodC c)) ∧ Below w.heap.size w w' := by
  obtain ⟨ch, ink, pic, bold⟩ := c
  by_cases h : pic = 0
  · subst h; exact isCell_plain ch ink bold w
  · exact isCell_pic ch ink pic bold h w

theorem goodG_no {g : Gr} (h : ¬ OkG g) : goodG g = false := by
  cases hg : goodG g
  · rfl
  · exact absurd ((goodG_iff g).1 hg) h

set_option maxRecDepth 2000 in
set_option maxHeartbeats 4000000 in
theorem goodGrid_any (g : Gr) (ao : Option Addr) (cap : Nat) (w : World) (hr : RdS w ao g.n g.f) (hm : g.n ≤ 4398046511104) (G : Bool) (hG : G = goodG g) :
    Calls Try.prog 31 #[gval g ao cap] w fun e w' => e = .returned (.bool G) ∧ Below w.heap.size w w' := by
  have HG : Hid (G = goodG g) := hG
  have HR : Hid (RdS w ao g.n g.f) := hr
  clear hG hr
  go_enter Try.func31, Try.ntmps31
  go_wp2
  go_loopw [9] (fun i wr => ∃ k : Nat, k ≤ g.n ∧ i = .int .i64 k ∧ Below w.heap.size w wr ∧ wr.heap[w.heap.size]? = some (gbox g ao cap) ∧ upToB g.f k = true) (fun i _ => g.n - (intOf i).toNat)
  case atStart => exact ⟨0, Nat.zero_le _, rfl, below1 _ _, at_new w _, rfl⟩
  case round =>
    obtain ⟨k, hk, rfl, hb, hbx, hu⟩ := hrel
    have HU : Hid (upToB g.f k = true) := hu
    have HB : Hid (Below w.heap.size w wr) := hb
    have HBX : Hid (wr.heap[w.heap.size]? = some (gbox g ao cap)) := hbx
    obtain ⟨⟨x0, x1, x2, x3, x4, x5, x6, x7, x8⟩, z⟩ := nine hbx
    have hsz : w.heap.size < wr.heap.size := (Array.getElem?_eq_some_iff.1 hbx).1
    clear hu hbx
    by_cases hlt : k < g.n
    · obtain ⟨b, off, rfl, hc⟩ : ∃ b off, ao = some ⟨b, off, none⟩ ∧ ∀ i, i < g.n → wr.cell? ⟨b, off + i * 4, none⟩ = some (.int .i64 (g.f i).ch) ∧ wr.cell? ⟨b, off + i * 4 + 1, none⟩ = some (.int .i64 (g.f i).ink) ∧ wr.cell? ⟨b, off + i * 4 + 2, none⟩ = some (.int .i64 (g.f i).pic) ∧ wr.cell? ⟨b, off + i * 4 + 3, none⟩ = some (.bool (g.f i).bold) := by
        rcases HR.out.below hb with h0 | h0
        · omega
        · exact h0
      obtain ⟨t0, t1, t2, t3⟩ := hc k hlt
      have hlt' : (k : Int) < (g.n : Int) := by omega
      have hk0 : (0 : Int) ≤ (k : Int) := by omega
      obtain ⟨y, hy⟩ : ∃ y, y = g.f k := ⟨_, rfl⟩
      rw [← hy] at t0 t1 t2 t3
      obtain ⟨q, hq⟩ : ∃ q, q = goodC y := ⟨_, rfl⟩
      have HQ : Hid (q = goodC (g.f k)) := by rw [← hy]; exact hq
      have HC : Hid (∀ w, Calls Try.prog 40 #[.agg #[.int .i64 y.ch, .int .i64 y.ink, .int .i64 y.pic, .bool y.bold]] w fun e w' => e = .returned (.bool q) ∧ Below w.heap.size w w') := fun w => by rw [hq]; exact isCell_any y w
      clear hc hb hy hq
      cases q
      · have HF : Hid (G = false) := by
          show G = false
          rw [HG.out]
          exact goodG_no fun ok => by have := ok.cells k hlt; rw [← HQ.out] at this; cases this
        go_wp2_with (go_at_call 40; refine (HC.out _).mono ?_; rintro e w1 ⟨rfl, hb1⟩; have HB1 : Hid (Below w.heap.size w w1) := (HB.out.alloc HB.out.size _).trans (hb1.mono (by simp; have := HB.out.size; omega)); clear hb1)
        go_ret
        exact ⟨by rw [HF.out]; rfl, HB1.out⟩
      · go_wp2_with (go_at_call 40; refine (HC.out _).mono ?_; rintro e w1 ⟨rfl, hb1⟩; have HB1 : Hid (Below w.heap.size w w1 ∧ w1.heap[w.heap.size]? = some (gbox g (some ⟨b, off, none⟩) cap)) := ⟨(HB.out.alloc HB.out.size _).trans (hb1.mono (by simp; have := HB.out.size; omega)), below_block hb1 (at_old HBX.out _) (by simp; omega)⟩; clear hb1)
        go_roundw
        case rel => exact ⟨k + 1, by omega, by go_num, HB1.out.1, HB1.out.2, by rw [upToB_succ, HU.out, ← HQ.out]; rfl⟩
        case measure => simp [intOf]; omega
    · obtain rfl : k = g.n := by omega
      have HALL : Hid (∀ i, i < g.n → goodC (g.f i) = true) := (upToB_iff g.f g.n).1 HU.out
      clear hb
      by_cases c1' : ¬ (1 ≤ g.wide ∧ g.wide ≤ 24)
      · have HF : Hid (G = false) := by show G = false; rw [HG.out]; exact goodG_no fun ok => c1' ⟨ok.w1, ok.w2⟩
        go_wp2_with (go_at_call 62; first | (refine (withinR_yes _ _ _ _ (by omega)).mono ?_; rintro e w1 ⟨rfl, rfl⟩) | (refine (withinR_no _ _ _ _ (by omega)).mono ?_; rintro e w1 ⟨rfl, rfl⟩))
        go_ret
        exact ⟨by rw [HF.out]; rfl, HB.out⟩
      have c1 : 1 ≤ g.wide ∧ g.wide ≤ 24 := Classical.byContradiction c1'
      clear c1'
      by_cases c2' : ¬ (1 ≤ g.high ∧ g.high ≤ 10)
      · have HF : Hid (G = false) := by show G = false; rw [HG.out]; exact goodG_no fun ok => c2' ⟨ok.h1, ok.h2⟩
        go_wp2_with (go_at_call 62; first | (refine (withinR_yes _ _ _ _ (by omega)).mono ?_; rintro e w1 ⟨rfl, rfl⟩) | (refine (withinR_no _ _ _ _ (by omega)).mono ?_; rintro e w1 ⟨rfl, rfl⟩))
        go_ret
        exact ⟨by rw [HF.out]; rfl, HB.out⟩
      have c2 : 1 ≤ g.high ∧ g.high ≤ 10 := Classical.byContradiction c2'
      clear c2'
      have hpos : 0 ≤ g.wide * g.high := Int.mul_nonneg (by omega) (by omega)
      have hmax : g.wide * g.high ≤ 240 := by
        have h1 : g.wide * g.high ≤ 24 * g.high := mul_mono c1.2 (by omega)
        omega
      have hwr : IntKind.i64.wrap (g.wide * g.high) = g.wide * g.high := by rw [IntKind.wrap_i64]; omega
      by_cases c3' : ¬ ((g.n : Int) = g.wide * g.high)
      · have HF : Hid (G = false) := by show G = false; rw [HG.out]; exact goodG_no fun ok => c3' ok.size
        have hne : ((g.n : Int) == g.wide * g.high) = false := by simp [c3']
        clear c3'
        go_wp2_with (go_at_call 62; first | (refine (withinR_yes _ _ _ _ (by omega)).mono ?_; rintro e w1 ⟨rfl, rfl⟩) | (refine (withinR_no _ _ _ _ (by omega)).mono ?_; rintro e w1 ⟨rfl, rfl⟩))
        go_ret
        exact ⟨by rw [HF.out]; rfl, HB.out⟩
      have c3 : (g.n : Int) = g.wide * g.high := Classical.byContradiction c3'
      clear c3'
      have HC3 : Hid ((g.n : Int) = g.wide * g.high) := c3
      have hwr2 : IntKind.i64.wrap (g.wide * g.high) = (g.n : Int) := by rw [hwr]; exact c3.symm
      clear c3 hwr
      by_cases c4' : ¬ (0 ≤ g.row ∧ g.row ≤ g.high - 1)
      · have HF : Hid (G = false) := by show G = false; rw [HG.out]; exact goodG_no fun ok => c4' ⟨ok.r1, by have := ok.r2; omega⟩
        go_wp2_with (go_at_call 62; first | (refine (withinR_yes _ _ _ _ (by omega)).mono ?_; rintro e w1 ⟨rfl, rfl⟩) | (refine (withinR_no _ _ _ _ (by omega)).mono ?_; rintro e w1 ⟨rfl, rfl⟩))
        go_ret
        exact ⟨by rw [HF.out]; rfl, HB.out⟩
      have c4 : 0 ≤ g.row ∧ g.row ≤ g.high - 1 := Classical.byContradiction c4'
      clear c4'
      by_cases c5' : ¬ (0 ≤ g.col ∧ g.col ≤ g.wide)
      · have HF : Hid (G = false) := by show G = false; rw [HG.out]; exact goodG_no fun ok => c5' ⟨ok.c1, ok.c2⟩
        go_wp2_with (go_at_call 62; first | (refine (withinR_yes _ _ _ _ (by omega)).mono ?_; rintro e w1 ⟨rfl, rfl⟩) | (refine (withinR_no _ _ _ _ (by omega)).mono ?_; rintro e w1 ⟨rfl, rfl⟩))
        go_ret
        exact ⟨by rw [HF.out]; rfl, HB.out⟩
      have c5 : 0 ≤ g.col ∧ g.col ≤ g.wide := Classical.byContradiction c5'
      clear c5'
      by_cases c6' : ¬ (0 ≤ g.ink ∧ g.ink ≤ 8)
      · have HF : Hid (G = false) := by show G = false; rw [HG.out]; exact goodG_no fun ok => c6' ⟨ok.i1, ok.i2⟩
        go_wp2_with (go_at_call 62; first | (refine (withinR_yes _ _ _ _ (by omega)).mono ?_; rintro e w1 ⟨rfl, rfl⟩) | (refine (withinR_no _ _ _ _ (by omega)).mono ?_; rintro e w1 ⟨rfl, rfl⟩))
        go_ret
        exact ⟨by rw [HF.out]; rfl, HB.out⟩
      have c6 : 0 ≤ g.ink ∧ g.ink ≤ 8 := Classical.byContradiction c6'
      clear c6'
      by_cases c7' : ¬ (1 ≤ g.bottom ∧ g.bottom ≤ g.high)
      · have HF : Hid (G = false) := by show G = false; rw [HG.out]; exact goodG_no fun ok => c7' ⟨by have := ok.t1; have := ok.t2; omega, ok.t3⟩
        go_wp2_with (go_at_call 62; first | (refine (withinR_yes _ _ _ _ (by omega)).mono ?_; rintro e w1 ⟨rfl, rfl⟩) | (refine (withinR_no _ _ _ _ (by omega)).mono ?_; rintro e w1 ⟨rfl, rfl⟩))
        go_ret
        exact ⟨by rw [HF.out]; rfl, HB.out⟩
      have c7 : 1 ≤ g.bottom ∧ g.bottom ≤ g.high := Classical.byContradiction c7'
      clear c7'
      by_cases c8' : ¬ (0 ≤ g.top ∧ g.top ≤ g.bottom - 1)
      · have HF : Hid (G = false) := by show G = false; rw [HG.out]; exact goodG_no fun ok => c8' ⟨ok.t1, by have := ok.t2; omega⟩
        go_wp2_with (go_at_call 62; first | (refine (withinR_yes _ _ _ _ (by omega)).mono ?_; rintro e w1 ⟨rfl, rfl⟩) | (refine (withinR_no _ _ _ _ (by omega)).mono ?_; rintro e w1 ⟨rfl, rfl⟩))
        go_ret
        exact ⟨by rw [HF.out]; rfl, HB.out⟩
      have c8 : 0 ≤ g.top ∧ g.top ≤ g.bottom - 1 := Classical.byContradiction c8'
      clear c8'
      have HF : Hid (G = true) := by
        show G = true
        rw [HG.out]
        exact (goodG_iff g).2 ⟨c1.1, c1.2, c2.1, c2.2, HC3.out, HALL.out, c4.1, by omega, c5.1, c5.2, c6.1, c6.2, c8.1, by omega, c7.2⟩
      go_wp2_with (go_at_call 62; first | (refine (withinR_yes _ _ _ _ (by omega)).mono ?_; rintro e w1 ⟨rfl, rfl⟩) | (refine (withinR_no _ _ _ _ (by omega)).mono ?_; rintro e w1 ⟨rfl, rfl⟩))
      go_ret
      exact ⟨by rw [HF.out]; rfl, HB.out⟩

end Go.Proofs.Yteenppbpjdldgaa
