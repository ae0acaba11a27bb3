/- What is to be seen at a place. -/
import Derived.Test.YteenppbpjdldgabPCellO
namespace Go.Proofs.Yteenppbpjdldgab.Pt
open Go.RowKit
open Go.Proofs.Yteenppbpjdldgab.Tl (Rc noRc whereT shareT inR findT goodT paneB CIt colsOf RdT RdL tval tbox rval rbox rcells zbox cv)

set_option maxHeartbeats 2000000 in
theorem cell_in (v : Vw) (l : Lay) (C : Array Value) (hC : VC v l C) (row col : Int) (w : World) (hv : RdV w v l) (h : withinV v row col) (r : Cel) (hr : r = cellT v row col) :
    Calls Try.prog 36 #[.agg C, .int .i64 row, .int .i64 col] w fun e w' => e = .returned (cval r) ∧ Below w.heap.size w w' := by
  obtain ⟨c0, c1, c2, c3⟩ := hC.cells
  obtain ⟨A, hA⟩ : ∃ A, A = (gall v l).toArray := ⟨_, rfl⟩
  have HA : Hid (A = (gall v l).toArray) := hA
  have HC : Hid (VC v l C) := hC
  have HV : Hid (RdV w v l) := hv
  have HH : Hid (withinV v row col) := h
  have HR : Hid (r = cellT v row col) := hr
  have HI0 : Hid (CInv w C ((w.alloc (cbox C)).alloc (kbox noCel))) := cinv_start w C
  have HS : Hid (C.size = 58) := hC.size
  obtain ⟨h1, h2, h3, h4⟩ := h
  obtain ⟨ln, hln⟩ : ∃ ln, ln = lineB v col := ⟨_, rfl⟩
  have HLN : Hid (∀ w, RdV w v l → Calls Try.prog 64 #[.agg C, .int .i64 col] w fun e w' => e = .returned (.bool ln) ∧ Below w.heap.size w w') := fun w hv => behind_any v l C HC.out col w hv ln hln
  have HL : Hid (ln = lineB v col) := hln
  clear hC hv hr hA hln
  go_enter Try.func36, Try.ntmps36
  go_wp2_with (refine wpList_load_all v l C HC.out rfl _ rfl w.heap.size rfl HI0.out.box A HA.out ?_)
  clear c0 c1 c2 c3
  go_loopw [31] (fun i wr => ∃ p : Nat, p ≤ 6 ∧ i = .int .i64 p ∧ CInv w C wr ∧ ∀ q : Nat, q < p → ¬ inR (v.place q) row col) (fun i _ => 6 - (intOf i).toNat)
  case atStart => exact ⟨0, by omega, rfl, HI0.out, fun q hq => by omega⟩
  case round =>
    obtain ⟨p, hp, rfl, hi, hno⟩ := hrel
    have HI : Hid (CInv w C wr) := hi
    have HN : Hid (∀ q : Nat, q < p → ¬ inR (v.place q) row col) := hno
    clear hi hno HI0
    by_cases hlt : p < 6
    · have hlt' : (p : Int) < 6 := by omega
      obtain ⟨x, hx⟩ : ∃ x, x = v.gs p := ⟨_, rfl⟩
      obtain ⟨ao, hao⟩ : ∃ x, x = l.ga p := ⟨_, rfl⟩
      obtain ⟨cap, hcap⟩ : ∃ x, x = l.gc p := ⟨_, rfl⟩
      obtain ⟨pl, hpl⟩ : ∃ x, x = v.place p := ⟨_, rfl⟩
      have hnum := place_num v p
      rw [← hpl] at hnum
      obtain ⟨n1, n2, n3, n4, n5, n6, n7, n8⟩ := hnum
      have HX : Hid (x = v.gs p ∧ ao = l.ga p ∧ cap = l.gc p ∧ pl = v.place p) := ⟨hx, hao, hcap, hpl⟩
      have HP : Hid (∀ w, RdV w v l → Calls Try.prog 62 #[.agg C, .int .i64 p] w fun e w' => e = .returned (rval pl) ∧ Below w.heap.size w w') := fun w hv => place_any v l C HC.out p w hv pl hpl
      obtain ⟨ins, hins⟩ : ∃ b, b = inRb pl row col := ⟨_, rfl⟩
      have HIN : Hid (∀ w, Calls Try.prog 63 #[rval pl, .int .i64 row, .int .i64 col] w fun e w' => e = .returned (.bool ins) ∧ Below w.heap.size w w') := fun w => by rw [hins]; exact inside_any pl row col w ⟨n1, n5⟩ ⟨n2, n6⟩ ⟨n3, n7⟩ ⟨n4, n8⟩
      have HIE : Hid (ins = inRb pl row col) := hins
      have hsz := Tl.at_lt HI.out.res
      clear hx hao hcap hpl hins
      cases ins with
      | true =>
        have HYI : Hid (inR (v.place p) row col) := by
          show inR (v.place p) row col
          rw [← HX.out.2.2.2]
          exact (inRb_iff _ _ _).1 HIE.out.symm
        have HAT : Hid (∀ w, RdV w v l → Calls Try.prog 14 #[gval x ao cap, .int .i64 (row - pl.row), .int .i64 (col - pl.col)] w fun e w' => e = .returned (cval r) ∧ Below w.heap.size w w') := fun w hv => by
          rw [HR.out, cellT_at v HH.out hlt HYI.out, HX.out.1, HX.out.2.1, HX.out.2.2.1, HX.out.2.2.2]
          exact at_any (v.gs p) (l.ga p) (l.gc p) _ _ w (hv.gs p hlt) (by have := hv.m3 p hlt; omega)
        have hi1 : pl.row ≤ row ∧ pl.col ≤ col ∧ row < 50 ∧ col < 50 := by
          have := HYI.out
          rw [← HX.out.2.2.2] at this
          unfold inR at this
          omega
        obtain ⟨hi1, hi2, hi3, hi4⟩ := hi1
        go_wp2_with (first
          | (refine wpList_index_grid v l rfl _ _ rfl A rfl p rfl HA.out hlt ?_; rw [← HX.out.1, ← HX.out.2.1, ← HX.out.2.2.1])
          | (refine wpList_load_view C HS.out rfl _ rfl w.heap.size rfl (at_old HI.out.box _) ?_)
          | (go_at_call 62; refine (HP.out _ (HV.out.below (Tl.below_to HI.out.below (below1 _ _)))).mono ?_; rintro e w1 ⟨rfl, hb1⟩; have HI1 : Hid (CInv w C w1 ∧ w1.heap[wr.heap.size]? = some (gbox x ao cap)) := ⟨(HI.out.next (below1 _ _)).next hb1, below_block hb1 (at_new _ _) (by simp)⟩; clear hb1)
          | (go_at_call 63; refine (HIN.out _).mono ?_; rintro e w2 ⟨rfl, hb2⟩; have HI2 : Hid (CInv w C w2) := (HI1.out.1.next (below1 _ _)).next hb2; obtain ⟨⟨g0, g1, g2, g3, g4, g5, g6, g7, g8⟩, g9⟩ := nine (below_block hb2 (at_old HI1.out.2 _) (by have := Tl.at_lt HI1.out.2; simp; omega)); obtain ⟨⟨d0, d1, d2, d3⟩, d4⟩ := Tl.four (below_block hb2 (at_new w1 _) (by simp)); clear hb2)
          | (go_at_call 14; refine (HAT.out _ (HV.out.below HI2.out.below)).mono ?_; rintro e w3 ⟨rfl, hb3⟩; have HI3 : Hid (CInv w C w3) := HI2.out.next hb3; obtain ⟨⟨k0, k1, k2, k3⟩, k4⟩ := Tl.four HI3.out.res; clear hb3)
          | fail)
        refine bodyPost_ret (v := cval r) (by simp [results, Try.results36, go_sem, *]) rfl ?_
        exact ⟨rfl, Tl.set4_below HI3.out.below (by omega) _ _ _ _⟩
      | false =>
        have HNI : Hid (¬ inR (v.place p) row col) := by
          show ¬ inR (v.place p) row col
          rw [← HX.out.2.2.2]
          exact inRb_not HIE.out.symm
        go_wp2_with (first
          | (refine wpList_index_grid v l rfl _ _ rfl A rfl p rfl HA.out hlt ?_; rw [← HX.out.1, ← HX.out.2.1, ← HX.out.2.2.1])
          | (refine wpList_load_view C HS.out rfl _ rfl w.heap.size rfl (at_old HI.out.box _) ?_)
          | (go_at_call 62; refine (HP.out _ (HV.out.below (Tl.below_to HI.out.below (below1 _ _)))).mono ?_; rintro e w1 ⟨rfl, hb1⟩; have HI1 : Hid (CInv w C w1) := (HI.out.next (below1 _ _)).next hb1; clear hb1)
          | (go_at_call 63; refine (HIN.out _).mono ?_; rintro e w2 ⟨rfl, hb2⟩; have HI2 : Hid (CInv w C w2) := (HI1.out.next (below1 _ _)).next hb2; clear hb2)
          | fail)
        go_roundw
        case rel => exact ⟨p + 1, by omega, by go_num, HI2.out, fun q hq => by
          by_cases e : q = p
          · subst e; exact HNI.out
          · exact HN.out q (by omega)⟩
        case measure => simp [intOf]; omega
    · have hge : (6 : Int) ≤ (p : Int) := by omega
      have HNO : Hid (∀ q : Nat, q < 6 → ¬ inR (v.place q) row col) := fun q hq => HN.out q (by omega)
      cases ln with
      | true =>
        have HT : Hid (r = sign 124) := by
          show r = sign 124
          rw [HR.out]
          unfold cellT
          rw [if_pos HH.out, paneAt_none v HNO.out, ← HL.out]
          rfl
        go_wp2_with (first
          | (refine wpList_load_view C HS.out rfl _ rfl w.heap.size rfl HI.out.box ?_)
          | (go_at_call 64; refine (HLN.out _ (HV.out.below HI.out.below)).mono ?_; rintro e w3 ⟨rfl, hb3⟩; have HI3 : Hid (CInv w C w3) := HI.out.next hb3; obtain ⟨⟨k0, k1, k2, k3⟩, k4⟩ := Tl.four HI3.out.res; clear hb3)
          | fail)
        refine bodyPost_ret (v := cval (sign 124)) (by simp [results, Try.results36, go_sem, sign, *]) rfl ?_
        rw [HT.out]
        exact ⟨rfl, Tl.set4_below HI3.out.below (by omega) _ _ _ _⟩
      | false =>
        have HT : Hid (r = sign 45) := by
          show r = sign 45
          rw [HR.out]
          unfold cellT
          rw [if_pos HH.out, paneAt_none v HNO.out, ← HL.out]
          rfl
        go_wp2_with (first
          | (refine wpList_load_view C HS.out rfl _ rfl w.heap.size rfl HI.out.box ?_)
          | (go_at_call 64; refine (HLN.out _ (HV.out.below HI.out.below)).mono ?_; rintro e w3 ⟨rfl, hb3⟩; have HI3 : Hid (CInv w C w3) := HI.out.next hb3; obtain ⟨⟨k0, k1, k2, k3⟩, k4⟩ := Tl.four HI3.out.res; clear hb3)
          | fail)
        refine bodyPost_ret (v := cval (sign 45)) (by simp [results, Try.results36, go_sem, sign, *]) rfl ?_
        rw [HT.out]
        exact ⟨rfl, Tl.set4_below HI3.out.below (by omega) _ _ _ _⟩

theorem cell_any (v : Vw) (l : Lay) (C : Array Value) (hC : VC v l C) (row col : Int) (w : World) (hv : RdV w v l) (r : Cel) (hr : r = cellT v row col) :
    Calls Try.prog 36 #[.agg C, .int .i64 row, .int .i64 col] w fun e w' => e = .returned (cval r) ∧ Below w.heap.size w w' := by
  by_cases h : withinV v row col
  · exact cell_in v l C hC row col w hv h r hr
  · rw [hr, cellT_out v h]
    exact cell_out v l C hC row col w h

end Go.Proofs.Yteenppbpjdldgab.Pt
