/- Where the cursor is. -/
import Derived.Test.YteenppbpjdldgabPFun
import Derived.Deep.RegionHeld3
import Derived.Deep.QuietTactic
namespace Go.Proofs.Yteenppbpjdldgab.Pt
open Go.RowKit
open Go.Proofs.Yteenppbpjdldgab.Tl (Rc noRc whereT shareT inR findT goodT paneB CIt colsOf RdT RdL tval tbox rval rbox rcells zbox cv)

/-- The cursors of the screens are numbers of 64 bits. -/
def LowV (v : Vw) : Prop := ∀ p, p < 6 → -9223372036854775808 ≤ (v.gs p).row ∧ -9223372036854775808 ≤ (v.gs p).col

theorem ret_two {a b c d : Int} (h1 : a = c) (h2 : b = d) : Ending.returned (.tuple #[.int .i64 a, .int .i64 b]) = .returned (.tuple #[.int .i64 c, .int .i64 d]) := by rw [h1, h2]

theorem eql_rect (r : Rc) (w : World) : (binOp .eql 53 (rval r) (.agg #[.int .i64 0, .int .i64 0, .int .i64 0, .int .i64 0])).run Try.prog w = .ok (.bool (decide (r.row = 0 ∧ r.col = 0 ∧ r.high = 0 ∧ r.wide = 0))) w := by
  obtain ⟨a1, a2, a3, a4⟩ := r
  by_cases h1 : a1 = 0
  · by_cases h2 : a2 = 0
    · by_cases h3 : a3 = 0
      · by_cases h4 : a4 = 0
        · subst h1 h2 h3 h4
          simp [go_sem]
        · subst h1 h2 h3
          simp [go_sem, h4]
      · subst h1 h2
        simp [go_sem, h3]
    · subst h1
      simp [go_sem, h2]
  · simp [go_sem, h1]

set_option maxRecDepth 100000 in
set_option maxHeartbeats 2000000 in
theorem cursor_any (v : Vw) (l : Lay) (C : Array Value) (hC : VC v l C) (w : World) (hv : RdV w v l) (hlo : LowV v) (r : Int × Int) (hr : r = cursorV v) :
    Calls Try.prog 68 #[.agg C] w fun e w' => e = .returned (.tuple #[.int .i64 r.1, .int .i64 r.2]) ∧ Below w.heap.size w w' := by
  obtain ⟨c0, c1, c2, c3⟩ := hC.cells
  have HC : Hid (VC v l C) := hC
  have HV : Hid (RdV w v l) := hv
  have HS : Hid (C.size = 58) := hC.size
  obtain ⟨pl, hpl⟩ : ∃ x, x = v.place v.focus := ⟨_, rfl⟩
  have HP : Hid (∀ w, RdV w v l → Calls Try.prog 62 #[.agg C, .int .i64 v.focus] w fun e w' => e = .returned (rval pl) ∧ Below w.heap.size w w') := fun w hv => place_any v l C HC.out v.focus w hv pl hpl
  have hcs := place_cases v v.focus
  rw [← hpl] at hcs
  have hq := eql_rect pl
  have hnum := place_num v v.focus
  rw [← hpl] at hnum
  by_cases hz : pl.wide = 0
  · have HT : Hid (r = (0, 0)) := by
      show r = (0, 0)
      rw [hr]
      unfold cursorV
      rw [← hpl, if_pos hz]
    have hz2 : decide (pl.row = 0 ∧ pl.col = 0 ∧ pl.high = 0 ∧ pl.wide = 0) = true := decide_eq_true (by rcases hcs with e | e <;> first | omega | (rw [e]; decide))
    rw [hz2] at hq
    clear hr hC hv hpl hcs hz hz2 hnum
    go_enter Try.func68, Try.ntmps68
    go_wp2_with (first
      | (refine wpList_load_view C HS.out rfl _ rfl w.heap.size rfl (at_new w _) ?_)
      | (go_at_call 62; refine (HP.out _ (HV.out.below (below1 _ _))).mono ?_; rintro e w1 ⟨rfl, hb1⟩; have HB1 : Hid (Below w.heap.size w w1) := Tl.below_to (below1 _ _) hb1; clear hb1 c0 c1 c2 c3)
      | fail)
    go_ret2
    rw [HT.out]
    exact ⟨rfl, Tl.below_to HB1.out (below1 _ _)⟩
  · obtain ⟨m1, m2, m3, m4, m5, m6, m7, m8⟩ := hcs.resolve_left (fun e => hz (by rw [e]; rfl))
    obtain ⟨P, hP⟩ : ∃ P : Nat, v.focus = P := ⟨v.focus.toNat, by omega⟩
    have hP6 : P < 6 := by omega
    obtain ⟨x, hx⟩ : ∃ x, x = v.gs P := ⟨_, rfl⟩
    obtain ⟨ao, hao⟩ : ∃ x, x = l.ga P := ⟨_, rfl⟩
    obtain ⟨cap, hcap⟩ : ∃ x, x = l.gc P := ⟨_, rfl⟩
    have hl := hlo P hP6
    rw [← hx] at hl
    obtain ⟨hl1, hl2⟩ := hl
    have HT : Hid (r = (pl.row + min x.row (pl.high - 1), pl.col + min x.col (pl.wide - 1))) := by
      show r = _
      rw [hr]
      unfold cursorV
      rw [← hpl, if_neg hz, hP, Int.toNat_natCast, ← hx]
    have hz2 : decide (pl.row = 0 ∧ pl.col = 0 ∧ pl.high = 0 ∧ pl.wide = 0) = false := decide_eq_false (fun h => hz h.2.2.2)
    rw [hz2] at hq
    have HGR : Hid (∀ w' : World, w'.heap[w.heap.size]? = some (cbox C) → w'.rangeAt w.heap.size (1 + P * 9) (gcells x ao cap).toList) := fun w' hb => by rw [hx, hao, hcap]; exact cbox_grid HC.out hb P hP6
    rw [hP] at HP c3
    have HC3 : Hid (C[57]? = some (.int .i64 P)) := c3
    have hP0 : (0 : Int) ≤ (P : Int) := by omega
    have hP6' : (P : Int) < 6 := by omega
    obtain ⟨n1, n2, n3, n4, n5, n6, n7, n8⟩ := hnum
    have HW1 : Hid (IntKind.i64.wrap (pl.row + min x.row (pl.high - 1)) = pl.row + min x.row (pl.high - 1)) := by show _ = _; rw [IntKind.wrap_i64]; omega
    have HW2 : Hid (IntKind.i64.wrap (pl.col + min x.col (pl.wide - 1)) = pl.col + min x.col (pl.wide - 1)) := by show _ = _; rw [IntKind.wrap_i64]; omega
    clear hr hC hv hpl hcs hz hz2 hlo hx hao hcap hP m1 m2 m5 m6 m7 m8
    go_enter Try.func68, Try.ntmps68
    go_wp2_with (first
      | (refine wpList_load_view C HS.out rfl _ rfl w.heap.size rfl (at_new w _) ?_)
      | (go_at_call 62; refine (HP.out _ (HV.out.below (below1 _ _))).mono ?_; rintro e w1 ⟨rfl, hb1⟩; have HB1 : Hid (Below w.heap.size w w1 ∧ w1.heap[w.heap.size]? = some (cbox C)) := ⟨Tl.below_to (below1 _ _) hb1, below_block hb1 (at_new w _) (by simp)⟩; have k57 : (w1.alloc (rbox pl)).cell? ⟨w.heap.size, 57, none⟩ = some (.int .i64 P) := (cell_of_row _ _ 57 _ _ _ (at_old HB1.out.2 _)).trans HC3.out; clear hb1 c0 c1 c2 c3; have G := HGR.out (w1.alloc (rbox pl)) (at_old HB1.out.2 _); have g0 := G 0 _ rfl; have g1 := G 1 _ rfl; have g2 := G 2 _ rfl; have g3 := G 3 _ rfl; have g4 := G 4 _ rfl; have g5 := G 5 _ rfl; have g6 := G 6 _ rfl; have g7 := G 7 _ rfl; have g8 := G 8 _ rfl; simp only [Nat.add_zero] at g0; clear G; have hs1 : w.heap.size < w1.heap.size := Tl.at_lt HB1.out.2)
      | fail)
    obtain ⟨W, hW⟩ : ∃ W, W = (w1.alloc (rbox pl)).alloc (gbox x ao cap) := ⟨_, rfl⟩
    have HBW : Hid (Below w.heap.size w W) := by show Below w.heap.size w W; rw [hW]; exact Tl.below_to HB1.out.1 (Tl.below2 _ _ _)
    obtain ⟨⟨d0, d1, d2, d3⟩, d4⟩ := Tl.four (at_old (at_new w1 (rbox pl)) (gbox x ao cap))
    obtain ⟨⟨f0, f1, f2, f3, f4, f5, f6, f7, f8⟩, f9⟩ := nine (at_new1 w1 (rbox pl) (gbox x ao cap))
    rw [← hW] at d0 d1 d2 d3 d4 f0 f1 f2 f3 f4 f5 f6 f7 f8 f9 ⊢
    clear hW g0 g1 g2 g3 g4 g5 g6 g7 g8 k57
    rcases (show pl.high - 1 < x.row ∨ x.row ≤ pl.high - 1 by omega) with e1 | e1 <;> rcases (show pl.wide - 1 < x.col ∨ x.col ≤ pl.wide - 1 by omega) with e2 | e2
    all_goals
      go_quiet (fail)
      go_wp2
      go_ret2
      rw [HT.out]
      refine ⟨ret_two ?_ ?_, by first | exact HBW.out | exact Tl.below_to HBW.out (Tl.below_drewN _ _)⟩
      · show _ = pl.row + min x.row (pl.high - 1)
        first | omega | (rw [IntKind.wrap_i64]; omega)
      · show _ = pl.col + min x.col (pl.wide - 1)
        first | omega | (rw [IntKind.wrap_i64]; omega)

end Go.Proofs.Yteenppbpjdldgab.Pt
