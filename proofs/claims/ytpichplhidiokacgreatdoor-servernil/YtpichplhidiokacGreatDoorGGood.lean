/- What 'GoodCell', 'Good' and its parts, and 'At' answer; they change nothing. -/
import Derived.Test.YtpichplhidiokacGreatDoorGMem
import Derived.Deep.QuietTactic
import Derived.BigQuiet
namespace Go.Proofs.YtpichplhidiokacGreatDoor
open Go.RowKit

/-- The cells lie in memory where the slice points. -/
def RdS (w : World) (ao : Option Addr) (n : Nat) (f : Nat → Cel) : Prop :=
  n = 0 ∨ ∃ b off, ao = some ⟨b, off, none⟩ ∧ ∀ i, i < n → w.cell? ⟨b, off + i * 4, none⟩ = some (.int .i64 (f i).ch) ∧ w.cell? ⟨b, off + i * 4 + 1, none⟩ = some (.int .i64 (f i).ink) ∧ w.cell? ⟨b, off + i * 4 + 2, none⟩ = some (.int .i64 (f i).pic) ∧ w.cell? ⟨b, off + i * 4 + 3, none⟩ = some (.bool (f i).bold)

theorem RdS.below {w w' : World} {ao : Option Addr} {n : Nat} {f : Nat → Cel} (h : RdS w ao n f) (hb : Below w.heap.size w w') : RdS w' ao n f := by
  rcases h with h | ⟨b, off, ha, hc⟩
  · exact .inl h
  · refine .inr ⟨b, off, ha, fun i hi => ?_⟩
    obtain ⟨h0, h1, h2, h3⟩ := hc i hi
    have hlt := World.block_lt_of_cell? _ _ h0
    simp only at hlt
    exact ⟨(hb.cell (p := ⟨b, off + i * 4, none⟩) hlt).trans h0, (hb.cell (p := ⟨b, off + i * 4 + 1, none⟩) hlt).trans h1, (hb.cell (p := ⟨b, off + i * 4 + 2, none⟩) hlt).trans h2, (hb.cell (p := ⟨b, off + i * 4 + 3, none⟩) hlt).trans h3⟩

theorem Scr.rd {w : World} {b n : Nat} {f : Nat → Cel} (h : Scr w b n f) : RdS w (some ⟨b, 0, none⟩) n f := by
  refine .inr ⟨b, 0, rfl, fun i hi => ?_⟩
  simp only [Nat.zero_add]
  exact h.cells i hi

theorem eql_cell (c d : Cel) (w : World) : (binOp .eql 67 (cval c) (cval d)).run Tryz.prog w = .ok (.bool (celB c d)) w := by
  obtain ⟨a1, a2, a3, a4⟩ := c
  obtain ⟨b1, b2, b3, b4⟩ := d
  by_cases h1 : a1 = b1
  · by_cases h2 : a2 = b2
    · by_cases h3 : a3 = b3
      · by_cases h4 : a4 = b4
        · subst h1 h2 h3 h4
          simp [go_sem, celB]
        · subst h1 h2 h3
          simp [go_sem, celB, h4]
      · subst h1 h2
        simp [go_sem, celB, h3]
    · subst h1
      simp [go_sem, celB, h2]
  · simp [go_sem, celB, h1]

theorem neq_cell (c d : Cel) (w : World) : (binOp .neq 67 (cval c) (cval d)).run Tryz.prog w = .ok (.bool (!celB c d)) w := by
  obtain ⟨a1, a2, a3, a4⟩ := c
  obtain ⟨b1, b2, b3, b4⟩ := d
  by_cases h1 : a1 = b1
  · by_cases h2 : a2 = b2
    · by_cases h3 : a3 = b3
      · by_cases h4 : a4 = b4
        · subst h1 h2 h3 h4
          simp [go_sem, celB]
        · subst h1 h2 h3
          simp [go_sem, celB, h4]
      · subst h1 h2
        simp [go_sem, celB, h3]
    · subst h1
      simp [go_sem, celB, h2]
  · simp [go_sem, celB, h1]

def atG (g : Gr) (r c : Int) : Cel := if g.wide ≤ 24 ∧ g.high ≤ 10 ∧ 0 ≤ r ∧ r < g.high ∧ 0 ≤ c ∧ c < g.wide ∧ r * g.wide + c < g.n then g.f (r * g.wide + c).toNat else noCel

set_option maxHeartbeats 1000000 in
theorem goodCell_plain (ch ink : Int) (bold : Bool) (w : World) : Calls Tryz.prog 89 #[cval ⟨ch, ink, 0, bold⟩] w fun e w' => e = .returned (.bool (goodC ⟨ch, ink, 0, bold⟩)) ∧ Below w.heap.size w w' := by
  obtain ⟨p2, hp2⟩ : ∃ p2, p2 = celB ⟨ch, ink, 0, bold⟩ noCel := ⟨_, rfl⟩
  have E2 : ∀ w, (binOp .eql 67 (.agg #[.int .i64 ch, .int .i64 ink, .int .i64 0, .bool bold]) (.agg #[.int .i64 0, .int .i64 0, .int .i64 0, .bool false])).run Tryz.prog w = .ok (.bool p2) w := fun w => by rw [hp2]; exact eql_cell ⟨ch, ink, 0, bold⟩ noCel w
  obtain ⟨q1, hq1⟩ : ∃ q, q = plainN ch := ⟨_, rfl⟩
  obtain ⟨q2, hq2⟩ : ∃ q, q = inkN ink := ⟨_, rfl⟩
  have HP : Hid (∀ w, Calls Tryz.prog 107 #[.int .i64 ch] w fun e w' => e = .returned (.bool q1) ∧ w' = w) := fun w => by rw [hq1]; exact plain_any ch w
  have HI : Hid (∀ w, Calls Tryz.prog 90 #[.int .i64 ink] w fun e w' => e = .returned (.bool q2) ∧ w' = w) := fun w => by rw [hq2]; exact ink_any ink w
  have HG : Hid (goodC ⟨ch, ink, 0, bold⟩ = (p2 || (q1 && q2))) := by
    show goodC ⟨ch, ink, 0, bold⟩ = _
    rw [hp2, hq1, hq2]
    simp [goodC]
  clear hp2 hq1 hq2
  obtain ⟨G, hG⟩ : ∃ G, G = goodC ⟨ch, ink, 0, bold⟩ := ⟨_, rfl⟩
  rw [← hG] at HG ⊢
  clear hG
  cases p2 <;> cases q1
  all_goals (
    go_enter Tryz.func89, Tryz.ntmps89
    go_wp2_with (first
      | (go_at_call 107; refine (HP.out _).mono ?_; rintro e w1 ⟨rfl, rfl⟩)
      | (go_at_call 90; refine (HI.out _).mono ?_; rintro e w1 ⟨rfl, rfl⟩)))
  all_goals (go_ret; refine ⟨ret_bool ?_, below1 _ _⟩; rw [HG.out]; simp)

set_option maxHeartbeats 1000000 in
theorem goodCell_pic (ch ink pic : Int) (bold : Bool) (hpic : pic ≠ 0) (w : World) : Calls Tryz.prog 89 #[cval ⟨ch, ink, pic, bold⟩] w fun e w' => e = .returned (.bool (goodC ⟨ch, ink, pic, bold⟩)) ∧ Below w.heap.size w w' := by
  obtain ⟨p1, hp1⟩ : ∃ p1, p1 = celB ⟨ch, ink, pic, bold⟩ ⟨0, 0, pic, false⟩ := ⟨_, rfl⟩
  have E1 : ∀ w, (binOp .eql 67 (.agg #[.int .i64 ch, .int .i64 ink, .int .i64 pic, .bool bold]) (.agg #[.int .i64 0, .int .i64 0, .int .i64 pic, .bool false])).run Tryz.prog w = .ok (.bool p1) w := fun w => by rw [hp1]; exact eql_cell ⟨ch, ink, pic, bold⟩ ⟨0, 0, pic, false⟩ w
  have E2 : ∀ w, (binOp .eql 67 (.agg #[.int .i64 ch, .int .i64 ink, .int .i64 pic, .bool bold]) (.agg #[.int .i64 0, .int .i64 0, .int .i64 0, .bool false])).run Tryz.prog w = .ok (.bool false) w := fun w => by
    have := eql_cell ⟨ch, ink, pic, bold⟩ noCel w
    rw [show celB ⟨ch, ink, pic, bold⟩ noCel = false by simp [celB, noCel, hpic]] at this
    exact this
  have HG : Hid (goodC ⟨ch, ink, pic, bold⟩ = (p1 && decide (1 ≤ pic ∧ pic ≤ 8))) := by
    show goodC ⟨ch, ink, pic, bold⟩ = _
    rw [hp1]
    simp [goodC, celB, noCel, hpic]
  have hp0 : (pic == 0) = false := by simp [hpic]
  clear hp1 hpic
  obtain ⟨G, hG⟩ : ∃ G, G = goodC ⟨ch, ink, pic, bold⟩ := ⟨_, rfl⟩
  rw [← hG] at HG ⊢
  clear hG
  cases p1
  · go_enter Tryz.func89, Tryz.ntmps89
    go_wp2
    go_ret
    exact ⟨ret_bool (by rw [HG.out]; rfl), below1 _ _⟩
  · go_enter Tryz.func89, Tryz.ntmps89
    go_wp2
    all_goals (go_ret; refine ⟨ret_bool ?_, below1 _ _⟩; rw [HG.out]; first | (simp; done) | (simp; omega))

theorem goodCell_any (c : Cel) (w : World) : Calls Tryz.prog 89 #[cval c] w fun e w' => e = .returned (.bool (goodC c)) ∧ Below w.heap.size w w' := by
  obtain ⟨ch, ink, pic, bold⟩ := c
  by_cases h : pic = 0
  · subst h; exact goodCell_plain ch ink bold w
  · exact goodCell_pic ch ink pic bold h w

theorem goodSides_any (g : Gr) (ao : Option Addr) (cap : Nat) (w : World) : Calls Tryz.prog 61 #[gval g ao cap] w fun e w' => e = .returned (.bool (sidesB g)) ∧ w' = w.alloc (gbox g ao cap) := by
  go_enter Tryz.func61, Tryz.ntmps61
  go_wp2
  all_goals (go_ret; refine ⟨ret_bool ?_, rfl⟩; rw [Bool.eq_iff_iff]; simp only [sidesB, decide_eq_true_eq, Bool.false_eq_true, false_iff]; omega)

theorem goodCursor_any (g : Gr) (ao : Option Addr) (cap : Nat) (w : World) : Calls Tryz.prog 63 #[gval g ao cap] w fun e w' => e = .returned (.bool (cursorB g)) ∧ w' = w.alloc (gbox g ao cap) := by
  go_enter Tryz.func63, Tryz.ntmps63
  go_wp2_with (go_at_call 90; refine (ink_any _ _).mono ?_; rintro e w1 ⟨rfl, rfl⟩)
  all_goals (go_ret; refine ⟨ret_bool ?_, rfl⟩; rw [Bool.eq_iff_iff]; simp only [cursorB, inkN, decide_eq_true_eq, Bool.and_eq_true, Bool.false_eq_true, false_iff]; omega)

end Go.Proofs.YtpichplhidiokacGreatDoor
