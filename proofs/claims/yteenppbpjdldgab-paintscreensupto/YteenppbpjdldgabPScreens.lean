/- The law: a client's screen is what the document says. -/
import Derived.Test.YteenppbpjdldgabPPaints
import Derived.Test.YteenppbpjdldgabPScrOf
import Derived.Test.YteenppbpjdldgabPSame
namespace Go.Proofs.Yteenppbpjdldgab.Pt
open Go.RowKit
open Go.Proofs.Yteenppbpjdldgab.Tl (Rc noRc whereT shareT inR findT goodT paneB CIt colsOf RdT RdL tval tbox rval rbox rcells zbox cv)

set_option maxRecDepth 100000 in
set_option maxHeartbeats 4000000 in
theorem paintScreens_true (v : Vw) (l : Lay) (C : Array Value) (hC : VC v l C) (wide high : Int) (w : World) (hv : RdV w v l) (hlo : LowV v) :
    Calls Try.prog 11 #[.agg C, .int .i64 wide, .int .i64 high] w fun e w' => e = .returned (.bool true) ∧ Below w.heap.size w w' := by
  obtain ⟨x, hx⟩ : ∃ x, x = screenV v wide high := ⟨_, rfl⟩
  have HA : Hid (∀ w, RdV w v l → Calls Try.prog 42 #[.agg C, .int .i64 wide, .int .i64 high] w fun e w' => ∃ b, e = .returned (gval x (some ⟨b, 0, none⟩) x.n) ∧ Scr w' b x.n x.f ∧ Below w.heap.size w w') := fun w hv => screen_any v l C hC wide high w hv hlo x hx
  have HB : Hid (∀ w, RdV w v l → Calls Try.prog 43 #[.agg C, .int .i64 wide, .int .i64 high] w fun e w' => ∃ b cp, e = .returned (gval x (some ⟨b, 0, none⟩) cp) ∧ Scr w' b x.n x.f ∧ Below w.heap.size w w') := fun w hv => screenOf_any v l C hC wide high w hv hlo x hx
  have hxn : x.n ≤ 4398046511104 := by
    obtain ⟨q1, q2, _⟩ := (ok_new wide high).nums
    rw [hx]
    show (newG wide high).n ≤ 4398046511104
    omega
  have HG : Hid (∀ w b1 b2 cp, Scr w b1 x.n x.f → Scr w b2 x.n x.f → Calls Try.prog 41 #[gval x (some ⟨b1, 0, none⟩) x.n, gval x (some ⟨b2, 0, none⟩) cp] w fun e w' => e = .returned (.bool true) ∧ Below w.heap.size w w') := fun w b1 b2 cp h1 h2 => sameGrid_eq x (some ⟨b1, 0, none⟩) (some ⟨b2, 0, none⟩) x.n cp w h1.rd h2.rd hxn
  have HV : Hid (RdV w v l) := hv
  have HS : Hid (C.size = 58) := hC.size
  clear hx hv hC hlo hxn
  go_enter Try.func11, Try.ntmps11
  go_wp2_with fail
  refine wp_region_noPanic ?_
  refine wp_region_held_drew (S := fun w' => w'.heap[w.heap.size]? = some (cbox C)) (by kernel_rfl) (at_new w _) (fun hHeld => ?_)
  refine wpAnyH_take (i := 0) (v := .agg C) rfl (by kernel_rfl) (by kernel_rfl) (by kernel_rfl) (fun _ _ _ h => h) (yields_view (by rfl) _ rfl w.heap.size rfl C HS.out (fun w0 h => h)) (by assumption) ?_
  try simp only [Act.put, List.setIfInBounds_toArray, List.set_cons_zero, List.set_cons_succ, List.getElem_toArray, List.getElem_cons_zero]
  refine wpAnyH_take (i := 1) (v := ?_) rfl (by kernel_rfl) (by kernel_rfl) (by kernel_rfl) (fun _ _ _ h => h) (Or.inl ⟨by rfl, ?_⟩) (by assumption) ?_
  rotate_left
  · ((intro w0 hSw; (try dsimp only at hSw); go_simp) <;> with_reducible rfl)
  try simp only [Act.put, List.setIfInBounds_toArray, List.set_cons_zero, List.set_cons_succ, List.getElem_toArray, List.getElem_cons_zero, List.getElem_cons_succ]
  refine wpAnyH_take (i := 2) (v := ?_) rfl (by kernel_rfl) (by kernel_rfl) (by kernel_rfl) (fun _ _ _ h => h) (Or.inl ⟨by rfl, ?_⟩) (by assumption) ?_
  rotate_left
  · ((intro w0 hSw; (try dsimp only at hSw); go_simp) <;> with_reducible rfl)
  try simp only [Act.put, List.setIfInBounds_toArray, List.set_cons_zero, List.set_cons_succ, List.getElem_toArray, List.getElem_cons_zero, List.getElem_cons_succ]
  refine wpAnyH_take (i := 4) (v := .agg C) rfl (by kernel_rfl) (by kernel_rfl) (by kernel_rfl) (fun _ _ _ h => h) (yields_view (by rfl) _ rfl w.heap.size rfl C HS.out (fun w0 h => h)) (by assumption) ?_
  try simp only [Act.put, List.setIfInBounds_toArray, List.set_cons_zero, List.set_cons_succ, List.getElem_toArray, List.getElem_cons_zero, List.getElem_cons_succ]
  refine wpAnyH_take (i := 5) (v := ?_) rfl (by kernel_rfl) (by kernel_rfl) (by kernel_rfl) (fun _ _ _ h => h) (Or.inl ⟨by rfl, ?_⟩) (by assumption) ?_
  rotate_left
  · ((intro w0 hSw; (try dsimp only at hSw); go_simp) <;> with_reducible rfl)
  try simp only [Act.put, List.setIfInBounds_toArray, List.set_cons_zero, List.set_cons_succ, List.getElem_toArray, List.getElem_cons_zero, List.getElem_cons_succ]
  refine wpAnyH_take (i := 6) (v := ?_) rfl (by kernel_rfl) (by kernel_rfl) (by kernel_rfl) (fun _ _ _ h => h) (Or.inl ⟨by rfl, ?_⟩) (by assumption) ?_
  rotate_left
  · ((intro w0 hSw; (try dsimp only at hSw); go_simp) <;> with_reducible rfl)
  try simp only [Act.put, List.setIfInBounds_toArray, List.set_cons_zero, List.set_cons_succ, List.getElem_toArray, List.getElem_cons_zero, List.getElem_cons_succ]
  refine wpAnyH_ready (rs := [3]) (by kernel_rfl) (by simp) ?_
  refine AllReadyH.cons rfl (fun K hK => ?_) AllReadyH.nil
  go_simp
  go_at_call 42
  refine (HA.out _ (HV.out.below (below1 _ _).drew)).mono ?_
  rintro e w1 ⟨b1, rfl, hs1, hb1⟩
  have H1 : Hid (w1.heap[w.heap.size]? = some (cbox C) ∧ Below w.heap.size w w1 ∧ Scr w1 b1 x.n x.f) := ⟨below_block hb1 (at_new w _) (by simp), Tl.below_to (below1 _ _).drew hb1, hs1⟩
  clear hs1 hb1
  try go_simp
  refine hK.out _ _ H1.out.1 (fun hHeld => ?_)
  clear hK K
  try simp only [Act.put, List.setIfInBounds_toArray, List.set_cons_zero, List.set_cons_succ, List.getElem_toArray, List.getElem_cons_zero, List.getElem_cons_succ]
  refine wpAnyH_ready (rs := [7]) (by kernel_rfl) (by simp) ?_
  refine AllReadyH.cons rfl (fun K hK => ?_) AllReadyH.nil
  go_simp
  go_at_call 43
  refine (HB.out _ (HV.out.below H1.out.2.1)).mono ?_
  rintro e w2 ⟨b2, cp, rfl, hs2, hb2⟩
  have H2 : Hid (w2.heap[w.heap.size]? = some (cbox C) ∧ Below w.heap.size w w2 ∧ Scr w2 b1 x.n x.f ∧ Scr w2 b2 x.n x.f) := ⟨below_block hb2 H1.out.1 (Tl.at_lt H1.out.1), Tl.below_to H1.out.2.1 hb2, H1.out.2.2.below hb2 H1.out.2.2.lt, hs2⟩
  clear hs2 hb2
  try go_simp
  refine hK.out _ _ H2.out.1 (fun hHeld => ?_)
  clear hK K
  try simp only [Act.put, List.setIfInBounds_toArray, List.set_cons_zero, List.set_cons_succ, List.getElem_toArray, List.getElem_cons_zero, List.getElem_cons_succ]
  refine wpAnyH_ready (rs := [8]) (by kernel_rfl) (by simp) ?_
  refine AllReadyH.cons rfl (fun K hK => ?_) AllReadyH.nil
  go_simp
  go_at_call 41
  refine (HG.out _ b1 b2 cp H2.out.2.2.1 H2.out.2.2.2).mono ?_
  rintro e w3 ⟨rfl, hb3⟩
  have H3 : Hid (w3.heap[w.heap.size]? = some (cbox C) ∧ Below w.heap.size w w3) := ⟨below_block hb3 H2.out.1 (Tl.at_lt H2.out.1), Tl.below_to H2.out.2.1 hb3⟩
  clear hb3
  try go_simp
  refine hK.out _ _ H3.out.1 (fun hHeld => ?_)
  clear hK K
  try simp only [Act.put, List.setIfInBounds_toArray, List.set_cons_zero, List.set_cons_succ, List.getElem_toArray, List.getElem_cons_zero, List.getElem_cons_succ]
  refine wpAnyH_take (i := 9) (v := ?_) rfl (by kernel_rfl) (by kernel_rfl) (by kernel_rfl) (fun _ _ _ h => h) (Or.inl ⟨by rfl, ?_⟩) (by assumption) ?_
  rotate_left
  · ((intro w0 hSw; (try dsimp only at hSw); go_simp) <;> with_reducible rfl)
  try simp only [Act.put, List.setIfInBounds_toArray, List.set_cons_zero, List.set_cons_succ, List.getElem_toArray, List.getElem_cons_zero, List.getElem_cons_succ]
  refine wpAnyH_ready (rs := [10]) (by kernel_rfl) (by simp) ?_
  refine AllReadyH.cons rfl (fun K hK => ?_) AllReadyH.nil
  go_simp
  go_at_call 40
  refine (paints_any _).mono ?_
  rintro e w4 ⟨rfl, hb4⟩
  have H4 : Hid (w4.heap[w.heap.size]? = some (cbox C) ∧ Below w.heap.size w w4) := ⟨below_block hb4 H3.out.1 (Tl.at_lt H3.out.1), Tl.below_to H3.out.2 hb4⟩
  clear hb4
  try go_simp
  refine hK.out _ _ H4.out.1 (fun hHeld => ?_)
  clear hK K
  try simp only [Act.put, List.setIfInBounds_toArray, List.set_cons_zero, List.set_cons_succ, List.getElem_toArray, List.getElem_cons_zero, List.getElem_cons_succ]
  refine wpAnyH_take (i := 11) (v := ?_) rfl (by kernel_rfl) (by kernel_rfl) (by kernel_rfl) (fun _ _ _ h => h) (Or.inl ⟨by rfl, ?_⟩) (by assumption) ?_
  rotate_left
  · ((intro w0 hSw; (try dsimp only at hSw); go_simp) <;> with_reducible rfl)
  try simp only [Act.put, List.setIfInBounds_toArray, List.set_cons_zero, List.set_cons_succ, List.getElem_toArray, List.getElem_cons_zero, List.getElem_cons_succ]
  refine wpAnyH_take (i := 12) (v := ?_) rfl (by kernel_rfl) (by kernel_rfl) (by kernel_rfl) (fun _ _ _ h => h) (Or.inl ⟨by rfl, ?_⟩) (by assumption) ?_
  rotate_left
  · ((intro w0 hSw; (try dsimp only at hSw); go_simp) <;> with_reducible rfl)
  try simp only [Act.put, List.setIfInBounds_toArray, List.set_cons_zero, List.set_cons_succ, List.getElem_toArray, List.getElem_cons_zero, List.getElem_cons_succ]
  refine wpAnyH_done (by kernel_rfl) ?_ _
  refine NoPanic.normal ?_
  go_wp2
  go_ret
  exact ⟨rfl, H4.out.2⟩

end Go.Proofs.Yteenppbpjdldgab.Pt
