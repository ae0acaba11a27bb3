/- What 'GoodCell', 'Good' and its parts, and 'At' answer; they change nothing. -/
import Derived.Test.YteenppbpjdldgaaGMove
import Derived.Deep.QuietTactic
import Derived.BigQuiet
namespace Go.Proofs.Yteenppbpjdldgaa
open Go.RowKit

/-- The cells lie in memory where the slice points. -/
def RdS (w : World) (ao : Option Addr) (n : Nat) (f : Nat → Cel) : Prop :=
  n = 0 ∨ ∃ b off, ao = some ⟨b, off, none⟩ ∧ ∀ i, i < n → w.cell? ⟨b, off + i * 4, none⟩ = some (.int .i64 (f i).ch) ∧ w.cell? ⟨b, off + i * 4 + 1, none⟩ = some (.int .i64 (f i).ink) ∧ w.cell? ⟨b, off + i * 4 + 2, none⟩ = some (.int .i64 (f i).pic) ∧ w.cell? ⟨b, off + i * 4 + 3, none⟩ = some (.bool (f i).bold)

theorem RdS.below {w w' : World} {ao : Option Addr} {n : Nat} {f : Nat → Cel} (h : RdS w ao n f) (hb : Below w.heap.size w w') : RdS w' ao n f := by
  rcases h with h | ⟨b, off, ha, hc⟩
  · exact .inl h
  · refine .inr ⟨b, off, ha, fun i hi => ?_⟩
    obtain ⟨h0, h1, h2, h3⟩ := hc i hi
    have hlt := World.block_lt_of_cell? _ _ h0
    simp only at hlt
    exact ⟨(hb.cell (p := ⟨b, off + i * 4, none⟩) hlt).trans h0, (hb.cell (p := ⟨b, off + i * 4 + 1, none⟩) hlt).trans h1, (hb.cell (p := ⟨b, off + i * 4 + 2, none⟩) hlt).trans h2, (hb.cell (p := ⟨b, off + i * 4 + 3, none⟩) hlt).trans h3⟩

theorem Scr.rd {w : World} {b n : Nat} {f : Nat → Cel} (h : Scr w b n f) : RdS w (some ⟨b, 0, none⟩) n f := by
  refine .inr ⟨b, 0, rfl, fun i hi => ?_⟩
  simp only [Nat.zero_add]
  exact h.cells i hi

theorem eql_cell (c d : Cel) (w : World) : (binOp .eql 49 (cval c) (cval d)).run Try.prog w = .ok (.bool (celB c d)) w := by
  obtain ⟨a1, a2, a3, a4⟩ := c
  obtain ⟨b1, b2, b3, b4⟩ := d
  by_cases h1 : a1 = b1
  · by_cases h2 : a2 = b2
    · by_cases h3 : a3 = b3
      · by_cases h4 : a4 = b4
        · subst h1 h2 h3 h4
          simp [go_sem, celB]
        · subst h1 h2 h3
          simp [go_sem, celB, h4]
      · subst h1 h2
        simp [go_sem, celB, h3]
    · subst h1
      simp [go_sem, celB, h2]
  · simp [go_sem, celB, h1]

theorem neq_cell (c d : Cel) (w : World) : (binOp .neq 49 (cval c) (cval d)).run Try.prog w = .ok (.bool (!celB c d)) w := by
  obtain ⟨a1, a2, a3, a4⟩ := c
  obtain ⟨b1, b2, b3, b4⟩ := d
  by_cases h1 : a1 = b1
  · by_cases h2 : a2 = b2
    · by_cases h3 : a3 = b3
      · by_cases h4 : a4 = b4
        · subst h1 h2 h3 h4
          simp [go_sem, celB]
        · subst h1 h2 h3
          simp [go_sem, celB, h4]
      · subst h1 h2
        simp [go_sem, celB, h3]
    · subst h1
      simp [go_sem, celB, h2]
  · simp [go_sem, celB, h1]

def atG (g : Gr) (r c : Int) : Cel := if g.wide ≤ 24 ∧ g.high ≤ 10 ∧ 0 ≤ r ∧ r < g.high ∧ 0 ≤ c ∧ c < g.wide ∧ r * g.wide + c < g.n then g.f (r * g.wide + c).toNat else noCel

set_option maxHeartbeats 1000000 in
theorem goodCell_plain (ch ink : Int) (bold : Bool) (w : World) : Calls Try.prog 39 #[cval ⟨ch, ink, 0, bold⟩] w fun e w' => e = .returned (.bool (goodC ⟨ch, ink, 0, bold⟩)) ∧ Below w.heap.size w w' := by
  obtain ⟨p2, hp2⟩ : ∃ p2, p2 = celB ⟨ch, ink, 0, bold⟩ noCel := ⟨_, rfl⟩
  have E2 : ∀ w, (binOp .eql 49 (.agg #[.int .i64 ch, .int .i64 ink, .int .i64 0, .bool bold]) (.agg #[.int .i64 0, .int .i64 0, .int .i64 0, .bool false])).run Try.prog w = .ok (.bool p2) w := fun w => by rw [hp2]; exact eql_cell ⟨ch, ink, 0, bold⟩ noCel w
  obtain ⟨q1, hq1⟩ : ∃ q, q = plainN ch := ⟨_, rfl⟩
  obtain ⟨q2, hq2⟩ : ∃ q, q = inkN ink := ⟨_, rfl⟩
  have HP : Hid (∀ w, Calls Try.prog 67 #[.int .i64 ch] w fun e w' => e = .returned (.bool q1) ∧ w' = w) := fun w => by rw [hq1]; exact plain_any ch w
  have HI : Hid (∀ w, Calls Try.prog 68 #[.int .i64 ink] w fun e w' => e = .returned (.bool q2) ∧ w' = w) := fun w => by rw [hq2]; exact ink_any ink w
  have HG : Hid (goodC ⟨ch, ink, 0, bold⟩ = (p2 || (q1 && q2))) := by
    show goodC ⟨ch, ink, 0, bold⟩ = _
    rw [hp2, hq1, hq2]
    simp [goodC]
  clear hp2 hq1 hq2
  obtain ⟨G, hG⟩ : ∃ G, G = goodC ⟨ch, ink, 0, bold⟩ := ⟨_, rfl⟩
  rw [← hG] at HG ⊢
  clear hG
  cases p2 <;> cases q1
  all_goals (
    go_enter Try.func39, Try.ntmps39
    go_wp2_with (first
      | (go_at_call 67; refine (HP.out _).mono ?_; rintro e w1 ⟨rfl, rfl⟩)
      | (go_at_call 68; refine (HI.out _).mono ?_; rintro e w1 ⟨rfl, rfl⟩)))
  all_goals (go_ret; refine ⟨ret_bool ?_, below1 _ _⟩; rw [HG.out]; simp)

set_option maxHeartbeats 1000000 in
theorem goodCell_pic (ch ink pic : Int) (bold : Bool) (hpic : pic ≠ 0) (w : World) : Calls Try.prog 39 #[cval ⟨ch, ink, pic, bold⟩] w fun e w' => e = .returned (.bool (goodC ⟨ch, ink, pic, bold⟩)) ∧ Below w.heap.size w w' := by
  obtain ⟨p1, hp1⟩ : ∃ p1, p1 = celB ⟨ch, ink, pic, bold⟩ ⟨0, 0, pic, false⟩ := ⟨_, rfl⟩
  have E1 : ∀ w, (binOp .eql 49 (.agg #[.int .i64 ch, .int .i64 ink, .int .i64 pic, .bool bold]) (.agg #[.int .i64 0, .int .i64 0, .int .i64 pic, .bool false])).run Try.prog w = .ok (.bool p1) w := fun w => by rw [hp1]; exact eql_cell ⟨ch, ink, pic, bold⟩ ⟨0, 0, pic, false⟩ w
  have E2 : ∀ w, (binOp .eql 49 (.agg #[.int .i64 ch, .int .i64 ink, .int .i64 pic, .bool bold]) (.agg #[.int .i64 0, .int .i64 0, .int .i64 0, .bool false])).run Try.prog w = .ok (.bool false) w := fun w => by
    have := eql_cell ⟨ch, ink, pic, bold⟩ noCel w
    rw [show celB ⟨ch, ink, pic, bold⟩ noCel = false by simp [celB, noCel, hpic]] at this
    exact this
  have HG : Hid (goodC ⟨ch, ink, pic, bold⟩ = (p1 && decide (1 ≤ pic ∧ pic ≤ 8))) := by
    show goodC ⟨ch, ink, pic, bold⟩ = _
    rw [hp1]
    simp [goodC, celB, noCel, hpic]
  have hp0 : (pic == 0) = false := by simp [hpic]
  clear hp1 hpic
  obtain ⟨G, hG⟩ : ∃ G, G = goodC ⟨ch, ink, pic, bold⟩ := ⟨_, rfl⟩
  rw [← hG] at HG ⊢
  clear hG
  cases p1
  · go_enter Try.func39, Try.ntmps39
    go_wp2
    go_ret
    exact ⟨ret_bool (by rw [HG.out]; rfl), below1 _ _⟩
  · go_enter Try.func39, Try.ntmps39
    go_wp2
    all_goals (go_ret; refine ⟨ret_bool ?_, below1 _ _⟩; rw [HG.out]; first | (simp; done) | (simp; omega))

theorem goodCell_any (c : Cel) (w : World) : Calls Try.prog 39 #[cval c] w fun e w' => e = .returned (.bool (goodC c)) ∧ Below w.heap.size w w' := by
  obtain ⟨ch, ink, pic, bold⟩ := c
  by_cases h : pic = 0
  · subst h; exact goodCell_plain ch ink bold w
  · exact goodCell_pic ch ink pic bold h w

theorem goodSides_any (g : Gr) (ao : Option Addr) (cap : Nat) (w : World) : Calls Try.prog 59 #[gval g ao cap] w fun e w' => e = .returned (.bool (sidesB g)) ∧ w' = w.alloc (gbox g ao cap) := by
  go_enter Try.func59, Try.ntmps59
  go_wp2
  all_goals (go_ret; refine ⟨ret_bool ?_, rfl⟩; rw [Bool.eq_iff_iff]; simp only [sidesB, decide_eq_true_eq, Bool.false_eq_true, false_iff]; omega)

theorem goodCursor_any (g : Gr) (ao : Option Addr) (cap : Nat) (w : World) : Calls Try.prog 61 #[gval g ao cap] w fun e w' => e = .returned (.bool (cursorB g)) ∧ w' = w.alloc (gbox g ao cap) := by
  go_enter Try.func61, Try.ntmps61
  go_wp2_with (go_at_call 68; refine (ink_any _ _).mono ?_; rintro e w1 ⟨rfl, rfl⟩)
  all_goals (go_ret; refine ⟨ret_bool ?_, rfl⟩; rw [Bool.eq_iff_iff]; simp only [cursorB, inkN, decide_eq_true_eq, Bool.and_eq_true, Bool.false_eq_true, false_iff]; omega)

theorem atG_no {g : Gr} {r c : Int} (h : ¬ (g.wide ≤ 24 ∧ g.high ≤ 10 ∧ 0 ≤ r ∧ r < g.high ∧ 0 ≤ c ∧ c < g.wide ∧ r * g.wide + c < g.n)) : atG g r c = noCel := by unfold atG; rw [if_neg h]

set_option maxHeartbeats 1000000 in
theorem at_out (g : Gr) (ao : Option Addr) (cap : Nat) (r c : Int) (w : World) (hh : ¬ (g.wide ≤ 24 ∧ g.high ≤ 10 ∧ 0 ≤ r ∧ r < g.high ∧ 0 ≤ c ∧ c < g.wide)) :
    Calls Try.prog 37 #[gval g ao cap, .int .i64 r, .int .i64 c] w fun e w' => e = .returned (cval noCel) ∧ Below w.heap.size w w' := by
  have HB : Hid (∀ o1 o2 : Obj, Below w.heap.size w ((w.alloc o1).alloc o2)) := fun o1 o2 => ((Below.refl _ _).alloc (Nat.le_refl _) _).alloc (by simp) _
  have HB3 : Hid (∀ o1 o2 o3 : Obj, Below w.heap.size w (((w.alloc o1).alloc o2).alloc o3)) := fun o1 o2 o3 => (((Below.refl _ _).alloc (Nat.le_refl _) _).alloc (by simp) _).alloc (by simp; omega) _
  by_cases h1 : 24 < g.wide
  · clear hh
    go_enter Try.func37, Try.ntmps37
    go_wp2
    exact bodyPost_ret (v := cval noCel) (by simp [results, Try.results37, go_sem, noCel]) rfl ⟨rfl, HB.out _ _⟩
  have h1' : g.wide ≤ 24 := by omega
  by_cases h2 : 10 < g.high
  · clear hh
    go_enter Try.func37, Try.ntmps37
    go_wp2
    exact bodyPost_ret (v := cval noCel) (by simp [results, Try.results37, go_sem, noCel]) rfl ⟨rfl, HB.out _ _⟩
  have h2' : g.high ≤ 10 := by omega
  have hf : decide (0 ≤ r ∧ r < g.high ∧ 0 ≤ c ∧ c < g.wide) = false := decide_eq_false (by omega)
  have HH : Hid (∀ w, Calls Try.prog 66 #[gval g ao cap, .int .i64 r, .int .i64 c] w fun e w' => e = .returned (.bool false) ∧ w' = w.alloc (gbox g ao cap)) := fun w => by rw [← hf]; exact has_any g ao cap r c w
  clear hf h1 h2 hh
  go_enter Try.func37, Try.ntmps37
  go_wp2_with (go_at_call 66; refine (HH.out _).mono ?_; rintro e w1 ⟨rfl, rfl⟩)
  exact bodyPost_ret (v := cval noCel) (by simp [results, Try.results37, go_sem, noCel]) rfl ⟨rfl, HB3.out _ _ _⟩

set_option maxHeartbeats 1000000 in
theorem at_in (g : Gr) (ao : Option Addr) (cap : Nat) (r c : Int) (w : World) (hr : RdS w ao g.n g.f) (h1 : g.wide ≤ 24) (h2 : g.high ≤ 10) (h3 : 0 ≤ r ∧ r < g.high ∧ 0 ≤ c ∧ c < g.wide) (hm : (g.n : Int) ≤ 9223372036854775807) :
    Calls Try.prog 37 #[gval g ao cap, .int .i64 r, .int .i64 c] w fun e w' => e = .returned (cval (atG g r c)) ∧ Below w.heap.size w w' := by
  have hq := mul_bound h3.1 h3.2.1 (w := g.wide) (by omega)
  have hq2 : g.high * g.wide ≤ 10 * g.wide := mul_mono h2 (by omega)
  obtain ⟨p, hp⟩ : ∃ p, p = r * g.wide := ⟨_, rfl⟩
  have HB3 : Hid (∀ o1 o2 o3 : Obj, Below w.heap.size w (((w.alloc o1).alloc o2).alloc o3)) := fun o1 o2 o3 => (((Below.refl _ _).alloc (Nat.le_refl _) _).alloc (by simp) _).alloc (by simp; omega) _
  have hf : decide (0 ≤ r ∧ r < g.high ∧ 0 ≤ c ∧ c < g.wide) = true := decide_eq_true h3
  have HH : Hid (∀ w, Calls Try.prog 66 #[gval g ao cap, .int .i64 r, .int .i64 c] w fun e w' => e = .returned (.bool true) ∧ w' = w.alloc (gbox g ao cap)) := fun w => by rw [← hf]; exact has_any g ao cap r c w
  have hp0 : 0 ≤ p := by omega
  have hp1 : p ≤ 240 := by omega
  have hc0 := h3.2.2.1
  have hc1 : c ≤ 24 := by omega
  by_cases h4 : p + c < g.n
  · obtain ⟨b, off, rfl, hc⟩ : ∃ b off, ao = some ⟨b, off, none⟩ ∧ ∀ i, i < g.n → w.cell? ⟨b, off + i * 4, none⟩ = some (.int .i64 (g.f i).ch) ∧ w.cell? ⟨b, off + i * 4 + 1, none⟩ = some (.int .i64 (g.f i).ink) ∧ w.cell? ⟨b, off + i * 4 + 2, none⟩ = some (.int .i64 (g.f i).pic) ∧ w.cell? ⟨b, off + i * 4 + 3, none⟩ = some (.bool (g.f i).bold) := by
      rcases hr with h0 | h0
      · omega
      · exact h0
    obtain ⟨k, hk⟩ : ∃ k : Nat, p + c = k := ⟨(p + c).toNat, by omega⟩
    obtain ⟨t0, t1, t2, t3⟩ := hc k (by omega)
    have hlt := World.block_lt_of_cell? _ _ t0
    simp only at hlt
    have HX : Hid (atG g r c = g.f k) := by
      show atG g r c = g.f k
      unfold atG
      rw [if_pos ⟨h1, h2, h3.1, h3.2.1, h3.2.2.1, h3.2.2.2, by omega⟩]
      congr 1
      omega
    obtain ⟨y, hy⟩ : ∃ y, y = g.f k := ⟨_, rfl⟩
    rw [← hy] at HX t0 t1 t2 t3
    have hkn : (k : Int) < (g.n : Int) := by omega
    rw [← hp] at hq
    clear hc hr hf hy h4
    have hwr : IntKind.i64.wrap (r * g.wide) = p := by rw [← hp, IntKind.wrap_i64]; omega
    have hwr2 : IntKind.i64.wrap (p + c) = (k : Int) := by rw [hk, IntKind.wrap_i64]; omega
    have up : ∀ (j : Nat) (v : Value), w.cell? ⟨b, j, none⟩ = some v → ∀ o1 o2 o3 : Obj, (((w.alloc o1).alloc o2).alloc o3).cell? ⟨b, j, none⟩ = some v := by
      intro j v h o1 o2 o3
      rw [World.cell?_alloc_past _ _ _ (by simp; omega), World.cell?_alloc_past _ _ _ (by simp; omega), World.cell?_alloc_past _ _ _ hlt]
      exact h
    have t0' := up _ _ t0
    have t1' := up _ _ t1
    have t2' := up _ _ t2
    have t3' := up _ _ t3
    clear hp hq hq2 h3 up t0 t1 t2 t3
    go_enter Try.func37, Try.ntmps37
    go_wp2_with (go_at_call 66; refine (HH.out _).mono ?_; rintro e w1 ⟨rfl, rfl⟩)
    exact bodyPost_ret (v := cval y) (by simp [results, Try.results37, go_sem]) rfl ⟨by rw [HX.out], HB3.out _ _ _⟩
  · have HX : Hid (atG g r c = noCel) := atG_no (by rw [← hp]; omega)
    have hwr : IntKind.i64.wrap (r * g.wide) = p := by rw [← hp, IntKind.wrap_i64]; omega
    have hwr2 : IntKind.i64.wrap (p + c) = p + c := by rw [IntKind.wrap_i64]; omega
    have h4' : (g.n : Int) ≤ p + c := by omega
    clear hp hq hq2 h3 hr hf h4
    go_enter Try.func37, Try.ntmps37
    go_wp2_with (go_at_call 66; refine (HH.out _).mono ?_; rintro e w1 ⟨rfl, rfl⟩)
    exact bodyPost_ret (v := cval noCel) (by simp [results, Try.results37, go_sem, noCel]) rfl ⟨by rw [HX.out], HB3.out _ _ _⟩

theorem at_any (g : Gr) (ao : Option Addr) (cap : Nat) (r c : Int) (w : World) (hr : RdS w ao g.n g.f) (hm : (g.n : Int) ≤ 9223372036854775807) :
    Calls Try.prog 37 #[gval g ao cap, .int .i64 r, .int .i64 c] w fun e w' => e = .returned (cval (atG g r c)) ∧ Below w.heap.size w w' := by
  by_cases h : g.wide ≤ 24 ∧ g.high ≤ 10 ∧ 0 ≤ r ∧ r < g.high ∧ 0 ≤ c ∧ c < g.wide
  · exact at_in g ao cap r c w hr h.1 h.2.1 h.2.2 hm
  · rw [atG_no (fun k => h ⟨k.1, k.2.1, k.2.2.1, k.2.2.2.1, k.2.2.2.2.1, k.2.2.2.2.2.1⟩)]
    exact at_out g ao cap r c w h

end Go.Proofs.Yteenppbpjdldgaa
