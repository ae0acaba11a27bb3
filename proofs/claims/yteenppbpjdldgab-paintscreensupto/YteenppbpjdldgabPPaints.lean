/- Paint does answer: 'paints' answers true, whenever it is asked. -/
import Derived.Test.YteenppbpjdldgabPView2
namespace Go.Proofs.Yteenppbpjdldgab.Pt
open Go.RowKit
open Go.Proofs.Yteenppbpjdldgab.Tl (Rc noRc whereT shareT inR findT goodT paneB CIt colsOf RdT RdL tval tbox rval rbox rcells zbox cv)

@[reducible] def ibox : Obj := .cells #[.int .i64 2] 3
@[reducible] def sbox (a : Nat) : Obj := .cells #[.slice (some ⟨a, 0, none⟩) 1 1] 28

theorem scr_set9' {w2 : World} {b B n : Nat} {f : Nat → Cel} (h : Scr w2 b n f) (hB : B ≠ b) (u0 u1 u2 u3 u4 u5 u6 u7 u8 : Value) :
    Scr (((((((((w2.setCell ⟨B, 19, none⟩ u0).setCell ⟨B, 20, none⟩ u1).setCell ⟨B, 21, none⟩ u2).setCell ⟨B, 22, none⟩ u3).setCell ⟨B, 23, none⟩ u4).setCell ⟨B, 24, none⟩ u5).setCell ⟨B, 25, none⟩ u6).setCell ⟨B, 26, none⟩ u7).setCell ⟨B, 27, none⟩ u8) b n f :=
  ((((((((h.set hB _).set hB _).set hB _).set hB _).set hB _).set hB _).set hB _).set hB _).set hB _

theorem v2_low : LowV v2 := by
  intro p hp
  have h1 : p = 0 ∨ p = 1 ∨ p = 2 ∨ p = 3 ∨ p = 4 ∨ p = 5 := by omega
  rcases h1 with rfl | rfl | rfl | rfl | rfl | rfl <;> decide

theorem v2_read {w : World} {a b g : Nat} (ha : w.heap[a]? = some ibox) (hb : w.heap[b]? = some (sbox a)) (hg : Scr w g g2.n g2.f) : RdV w v2 (l2 a b (some ⟨g, 0, none⟩)) := by
  refine ⟨rfl, ⟨?_, ?_⟩, ?_, by simp [l2], ?_, ?_, by decide⟩
  · intro x hx
    simp only [l2, List.mem_singleton] at hx
    subst hx
    refine ⟨.inr ⟨a, 0, rfl, fun j hj => ?_⟩, fun h => by cases h⟩
    have : j = 0 := by simpa using hj
    subst this
    exact cell_of_row w a 0 _ _ _ ha
  · refine .inr ⟨b, 0, rfl, fun k hk => ?_⟩
    have : k = 0 := by simpa [l2] using hk
    subst this
    exact cell_of_row w b 0 _ _ _ hb
  · intro p hp
    by_cases e : p = 2
    · subst e
      exact hg.rd
    · left
      show (if p = 2 then g2 else zg).n = 0
      rw [if_neg e]
      rfl
  · intro x hx
    simp only [l2, List.mem_singleton] at hx
    subst hx
    simp
  · intro p hp
    show (if p = 2 then g2 else zg).n ≤ 4398046511104
    split <;> decide

set_option maxRecDepth 100000 in
set_option maxHeartbeats 4000000 in
theorem paints_any (w : World) : Calls Try.prog 40 #[] w fun e w' => e = .returned (.bool true) ∧ Below w.heap.size w w' := by
  have hE : ∀ w, (binOp .eql 33 (.agg #[.int .i64 50, .int .i64 0, .int .i64 0, .bool true]) (.agg #[.int .i64 50, .int .i64 0, .int .i64 0, .bool true])).run Try.prog w = .ok (.bool true) w := fun w => by
    have := eql_cell ⟨50, 0, 0, true⟩ ⟨50, 0, 0, true⟩ w
    simpa [celB] using this
  obtain ⟨x, hx⟩ : ∃ x, x = screenV v2 3 3 := ⟨_, rfl⟩
  have hv := v2_screen
  rw [← hx] at hv
  have hxn : x.n = 9 := hv.1
  have HX2 : Hid (x.f 2 = ⟨46, 0, 0, false⟩ ∧ x.f 6 = ⟨50, 0, 0, true⟩) := hv.2
  have HSC : Hid (∀ (a b g : Nat) w, RdV w v2 (l2 a b (some ⟨g, 0, none⟩)) → Calls Try.prog 42 #[.agg (vcells v2 (l2 a b (some ⟨g, 0, none⟩))), .int .i64 3, .int .i64 3] w fun e w' => ∃ b, e = .returned (gval x (some ⟨b, 0, none⟩) x.n) ∧ Scr w' b x.n x.f ∧ Below w.heap.size w w') := fun a b g w hv => screen_any v2 _ _ (vc _ _) 3 3 w hv v2_low x hx
  have HN : Hid (∀ w, Calls Try.prog 45 #[.int .i64 2, .int .i64 2] w fun e w' => ∃ b, e = .returned (gval g2 (some ⟨b, 0, none⟩) g2.n) ∧ Scr w' b g2.n g2.f ∧ w.heap.size ≤ b ∧ Below w.heap.size w w') := fun w => new_any 2 2 w g2 rfl
  clear hx hv
  go_enter Try.func40, Try.ntmps40
  go_upto_region 2 with (first
    | (refine wpList_build_view w.heap.size (w.heap.size + 1) rfl _ _ _ _ rfl rfl rfl rfl rfl ?_)
    | (refine wpList_alloc_view rfl rfl ?_)
    | (refine wpList_store_view _ _ _ _ rfl _ _ rfl rfl rfl ?_)
    | fail)
  obtain ⟨W0, hW0⟩ : ∃ W, W = (w.alloc ibox).alloc (sbox w.heap.size) := ⟨_, rfl⟩
  obtain ⟨C0, hC0⟩ : ∃ C, C = vcells v0 (l0 w.heap.size (w.heap.size + 1)) := ⟨_, rfl⟩
  obtain ⟨V, hV⟩ : ∃ V, V = W0.heap.size := ⟨_, rfl⟩
  have hV2 : w.heap.size + 1 < V := by rw [hV, hW0]; simp
  obtain ⟨W, hW⟩ : ∃ W, W = W0.alloc (cbox C0) := ⟨_, rfl⟩
  have HA : Hid (W.heap[w.heap.size]? = some ibox ∧ W.heap[w.heap.size + 1]? = some (sbox w.heap.size) ∧ W.heap[V]? = some (cbox C0) ∧ Below w.heap.size w W) := by
    show W.heap[w.heap.size]? = some ibox ∧ W.heap[w.heap.size + 1]? = some (sbox w.heap.size) ∧ W.heap[V]? = some (cbox C0) ∧ Below w.heap.size w W
    rw [hW, hV]
    refine ⟨at_old ?_ _, at_old ?_ _, at_new _ _, Tl.below_to ?_ (below1 _ _)⟩
    · rw [hW0]; exact at_old (at_new w _) _
    · rw [hW0]; exact at_new1 w _ _
    · rw [hW0]; exact Tl.below2 _ _ _
  have HC0 : Hid (C0 = vcells v0 (l0 w.heap.size (w.heap.size + 1))) := hC0
  rw [← hW0, ← hC0, ← hV, ← hW]
  clear hW0 hC0 hV hW
  simp only [Act.put, List.setIfInBounds_toArray, List.set_cons_zero, List.set_cons_succ]
  go_upto_region 3 with (first
    | (go_at_call 45; refine (HN.out _).mono ?_; rintro e w2 ⟨b, rfl, hs, hbb, hb2⟩; have HA2 : Hid ((w2.heap[w.heap.size]? = some ibox ∧ w2.heap[w.heap.size + 1]? = some (sbox w.heap.size) ∧ w2.heap[V]? = some (cbox C0) ∧ Below w.heap.size w w2) ∧ Scr w2 b g2.n g2.f ∧ V < b) := ⟨⟨below_block hb2 HA.out.1 (Tl.at_lt HA.out.1), below_block hb2 HA.out.2.1 (Tl.at_lt HA.out.2.1), below_block hb2 HA.out.2.2.1 (Tl.at_lt HA.out.2.2.1), Tl.below_to HA.out.2.2.2 hb2⟩, hs, Nat.lt_of_lt_of_le (Tl.at_lt HA.out.2.2.1) hbb⟩; clear hs hbb hb2; have hvb := HA2.out.1.2.2.1; rw [HC0.out] at hvb; have k0 := cell_of_row _ _ 19 _ _ _ hvb; have k1 := cell_of_row _ _ 20 _ _ _ hvb; have k2 := cell_of_row _ _ 21 _ _ _ hvb; have k3 := cell_of_row _ _ 22 _ _ _ hvb; have k4 := cell_of_row _ _ 23 _ _ _ hvb; have k5 := cell_of_row _ _ 24 _ _ _ hvb; have k6 := cell_of_row _ _ 25 _ _ _ hvb; have k7 := cell_of_row _ _ 26 _ _ _ hvb; have k8 := cell_of_row _ _ 27 _ _ _ hvb; have e0 : (vcells v0 (l0 w.heap.size (w.heap.size + 1)))[19]? = some (.int .i64 0) := rfl; have e1 : (vcells v0 (l0 w.heap.size (w.heap.size + 1)))[20]? = some (.int .i64 0) := rfl; have e2 : (vcells v0 (l0 w.heap.size (w.heap.size + 1)))[21]? = some (.slice none 0 0) := rfl; have e3 : (vcells v0 (l0 w.heap.size (w.heap.size + 1)))[22]? = some (.int .i64 0) := rfl; have e4 : (vcells v0 (l0 w.heap.size (w.heap.size + 1)))[23]? = some (.int .i64 0) := rfl; have e5 : (vcells v0 (l0 w.heap.size (w.heap.size + 1)))[24]? = some (.int .i64 0) := rfl; have e6 : (vcells v0 (l0 w.heap.size (w.heap.size + 1)))[25]? = some (.bool false) := rfl; have e7 : (vcells v0 (l0 w.heap.size (w.heap.size + 1)))[26]? = some (.int .i64 0) := rfl; have e8 : (vcells v0 (l0 w.heap.size (w.heap.size + 1)))[27]? = some (.int .i64 0) := rfl; rw [e0] at k0; rw [e1] at k1; rw [e2] at k2; rw [e3] at k3; rw [e4] at k4; rw [e5] at k5; rw [e6] at k6; rw [e7] at k7; rw [e8] at k8; have k9 : ∀ j, w2.frozen? ⟨V, j, none⟩ = false := fun j => frozen_of_row w2 V j _ _ hvb; clear hvb e0 e1 e2 e3 e4 e5 e6 e7 e8)
    | fail)
  obtain ⟨W3, hW3⟩ : ∃ W, W = (((((((((w2.setCell ⟨V, 19, none⟩ (.int .i64 g2.wide)).setCell ⟨V, 20, none⟩ (.int .i64 g2.high)).setCell ⟨V, 21, none⟩ (.slice (some ⟨b, 0, none⟩) g2.n g2.n)).setCell ⟨V, 22, none⟩ (.int .i64 g2.row)).setCell ⟨V, 23, none⟩ (.int .i64 g2.col)).setCell ⟨V, 24, none⟩ (.int .i64 g2.ink)).setCell ⟨V, 25, none⟩ (.bool g2.bold)).setCell ⟨V, 26, none⟩ (.int .i64 g2.top)).setCell ⟨V, 27, none⟩ (.int .i64 g2.bottom)) := ⟨_, rfl⟩
  have oth : ∀ (B : Nat) (o : Obj), B ≠ V → w2.heap[B]? = some o → W3.heap[B]? = some o := fun B o hne h => by
    rw [hW3, Below.heap_setCell _ _ _ _ hne, Below.heap_setCell _ _ _ _ hne, Below.heap_setCell _ _ _ _ hne, Below.heap_setCell _ _ _ _ hne, Below.heap_setCell _ _ _ _ hne, Below.heap_setCell _ _ _ _ hne, Below.heap_setCell _ _ _ _ hne, Below.heap_setCell _ _ _ _ hne, Below.heap_setCell _ _ _ _ hne]
    exact h
  obtain ⟨⟨a1, a2, a3, a4⟩, a5, a6⟩ := HA2.out
  obtain ⟨C2, hC2⟩ : ∃ C, C = vcells v2 (l2 w.heap.size (w.heap.size + 1) (some ⟨b, 0, none⟩)) := ⟨_, rfl⟩
  have HB3 : Hid (W3.heap[V]? = some (cbox C2)) := by
    show W3.heap[V]? = some (cbox C2)
    rw [hW3, hC2]
    exact put_two (by rw [← HC0.out]; exact a3)
  have HR3 : Hid (RdV W3 v2 (l2 w.heap.size (w.heap.size + 1) (some ⟨b, 0, none⟩)) ∧ Below w.heap.size w W3) := by
    refine ⟨v2_read (oth _ _ (by omega) a1) (oth _ _ (by omega) a2) ?_, ?_⟩
    · rw [hW3]
      exact scr_set9' a5 (by omega) _ _ _ _ _ _ _ _ _
    · rw [hW3]
      exact ((((((((a4.setCell (by simp; omega) _).setCell (by simp; omega) _).setCell (by simp; omega) _).setCell (by simp; omega) _).setCell (by simp; omega) _).setCell (by simp; omega) _).setCell (by simp; omega) _).setCell (by simp; omega) _).setCell (by simp; omega) _
  have HC2 : Hid (∀ w', RdV w' v2 (l2 w.heap.size (w.heap.size + 1) (some ⟨b, 0, none⟩)) → Calls Try.prog 42 #[.agg C2, .int .i64 3, .int .i64 3] w' fun e w'' => ∃ b, e = .returned (gval x (some ⟨b, 0, none⟩) x.n) ∧ Scr w'' b x.n x.f ∧ Below w'.heap.size w' w'') := fun w' h => by rw [hC2]; exact HSC.out _ _ b w' h
  have HS2 : Hid (C2.size = 58) := by show C2.size = 58; rw [hC2]; rfl
  rw [← hW3]
  clear hW3 oth a1 a2 a3 a4 a5 a6 hC2 HSC HN HA HA2 HC0 k0 k1 k2 k3 k4 k5 k6 k7 k8 k9
  go_wp2_with (first
    | (refine wpList_load_view C2 HS2.out rfl _ rfl V rfl HB3.out ?_)
    | (go_at_call 42; refine (HC2.out _ HR3.out.1).mono ?_; rintro e w4 ⟨b4, rfl, hs4, hb4⟩; have HB4 : Hid (Below w.heap.size w w4) := Tl.below_to HR3.out.2 hb4; have hl4 := hs4.lt; have p2 := hs4.cells 2 (by omega); have p6 := hs4.cells 6 (by omega); rw [HX2.out.1] at p2; rw [HX2.out.2] at p6; simp only [Nat.reduceMul, Nat.reduceAdd] at p2 p6; obtain ⟨p20, p21, p22, p23⟩ := p2; obtain ⟨p60, p61, p62, p63⟩ := p6; have ne4 : ¬ b4 = w4.heap.size := (by omega); clear hs4 hb4)
    | fail)
  go_ret
  exact ⟨rfl, Tl.below_to HB4.out (below1 _ _)⟩

end Go.Proofs.Yteenppbpjdldgab.Pt
