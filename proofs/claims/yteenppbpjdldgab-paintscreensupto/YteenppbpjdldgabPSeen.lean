/- The document's own answer: what is to be seen at a place. -/
import Derived.Test.YteenppbpjdldgabPSeenO
import Derived.Test.YteenppbpjdldgabPCol
import Derived.Test.YteenppbpjdldgabTRef4
import Derived.Test.YteenppbpjdldgabPAt
import Derived.Deep.RegionHeld3
namespace Go.Proofs.Yteenppbpjdldgab.Pt
open Go.RowKit
open Go.Proofs.Yteenppbpjdldgab.Tl (Rc noRc whereT shareT inR findT goodT paneB CIt colsOf RdT RdL tval tbox rval rbox rcells zbox cv)

set_option maxRecDepth 100000 in
set_option maxHeartbeats 4000000 in
theorem seen_in (v : Vw) (l : Lay) (C : Array Value) (hC : VC v l C) (row col : Int) (hr9 : row ≤ 9223372036854775807) (hc9 : col ≤ 9223372036854775807) (w : World) (hv : RdV w v l) (h : withinV v row col) (r : Cel) (hr : r = cellT v row col) :
    Calls Try.prog 37 #[.agg C, .int .i64 row, .int .i64 col] w fun e w' => e = .returned (cval r) ∧ Below w.heap.size w w' := by
  obtain ⟨c0, c1, c2, c3⟩ := hC.cells
  have HC : Hid (VC v l C) := hC
  have HV : Hid (RdV w v l) := hv
  have HH : Hid (withinV v row col) := h
  have HR : Hid (r = cellT v row col) := hr
  have HI0 : Hid (CInv w C ((w.alloc (cbox C)).alloc (kbox noCel))) := cinv_start w C
  obtain ⟨h1, h2, h3, h4⟩ := h
  have hlen : v.cols.length = l.its.length := by rw [hv.cols]; simp
  have hm := hv.m1
  have HL : Hid (v.cols.length = l.its.length) := hlen
  have HS : Hid (∀ (k : Nat) w, Calls Try.prog 29 #[.int .i64 v.wide, .int .i64 l.its.length, .int .i64 k] w fun e w' => e = .returned (.tuple #[.int .i64 (v.share k).1, .int .i64 (v.share k).2]) ∧ w' = w) := fun k w => Tl.shareR_any v.wide l.its.length k w _ (by unfold Vw.share; rw [hlen])
  have HPL : Hid (∀ (p : Int) w, RdV w v l → Calls Try.prog 31 #[tval l.co l.its.length l.cap, .int .i64 v.wide, .int .i64 v.high, .int .i64 p] w fun e w' => e = .returned (rval (v.place p)) ∧ Below w.heap.size w w') := fun p w hv => Tl.placeR_any l.its l.co l.cap v.wide v.high p w hv.rd hv.m1 hv.m2 _ (by unfold Vw.place; rw [hv.cols])
  clear hC hv hr hlen
  go_enter Try.func37, Try.ntmps37
  go_wp2_with fail
  clear c0 c1 c2 c3
  go_loopw [7] (fun i wr => ∃ p : Int, -1 ≤ p ∧ p ≤ 5 ∧ i = .int .i64 p ∧ CInv w C wr ∧ ∀ q : Nat, p < q → q < 6 → ¬ inR (v.place q) row col) (fun i _ => (intOf i + 1).toNat)
  case atStart => exact ⟨5, by omega, by omega, rfl, HI0.out, fun q hq hq2 => by omega⟩
  case round =>
    obtain ⟨p, hp0, hp, rfl, hi, hno⟩ := hrel
    have HI : Hid (CInv w C wr) := hi
    have HN : Hid (∀ q : Nat, p < q → q < 6 → ¬ inR (v.place q) row col) := hno
    obtain ⟨⟨b0, b1, b2, b3⟩, b4⟩ := cbox_cells HC.out hi.box
    clear hi hno HI0
    by_cases hlt : 0 ≤ p
    · obtain ⟨P, rfl⟩ : ∃ P : Nat, p = P := ⟨p.toNat, by omega⟩
      have hP : P < 6 := by omega
      obtain ⟨pl, hpl⟩ : ∃ x, x = v.place P := ⟨_, rfl⟩
      have hnum := place_num v P
      rw [← hpl] at hnum
      obtain ⟨n1, n2, n3, n4, n5, n6, n7, n8⟩ := hnum
      have HX : Hid (pl = v.place P) := hpl
      have HP : Hid (∀ w, RdV w v l → Calls Try.prog 31 #[tval l.co l.its.length l.cap, .int .i64 v.wide, .int .i64 v.high, .int .i64 P] w fun e w' => e = .returned (rval pl) ∧ Below w.heap.size w w') := fun w hv => by rw [hpl]; exact HPL.out P w hv
      have hsz := Tl.at_lt HI.out.res
      clear hpl HPL
      by_cases hin : inR pl row col
      · have HYI : Hid (inR (v.place P) row col) := by
          show inR (v.place P) row col
          rw [← HX.out]
          exact hin
        obtain ⟨x, hx⟩ : ∃ x, x = v.gs P := ⟨_, rfl⟩
        obtain ⟨ao, hao⟩ : ∃ x, x = l.ga P := ⟨_, rfl⟩
        obtain ⟨cap, hcap⟩ : ∃ x, x = l.gc P := ⟨_, rfl⟩
        have HCA : Hid (∀ w, RdV w v l → Calls Try.prog 65 #[gval x ao cap, .int .i64 (row - pl.row), .int .i64 (col - pl.col)] w fun e w' => e = .returned (cval r) ∧ Below w.heap.size w w') := fun w hv => by
          rw [HR.out, cellT_at v HH.out hP HYI.out, hx, hao, hcap, HX.out]
          exact cellAt_any (v.gs P) (l.ga P) (l.gc P) _ _ w (hv.gs P hP) (hv.m3 P hP)
        have HGR : Hid (∀ w' : World, w'.heap[w.heap.size]? = some (cbox C) → w'.rangeAt w.heap.size (1 + P * 9) (gcells x ao cap).toList) := fun w' hb => by rw [hx, hao, hcap]; exact cbox_grid HC.out hb P hP
        obtain ⟨q1, q2, q3, q4⟩ := hin
        have q2' : row - pl.row < pl.high := by omega
        have q4' : col - pl.col < pl.wide := by omega
        have hP' : (P : Int) < 6 := by omega
        clear hx hao hcap HN
        go_wp2_with (first
          | (go_at_call 31; refine (HP.out _ (HV.out.below HI.out.below)).mono ?_; rintro e w1 ⟨rfl, hb1⟩; have HI1 : Hid (CInv w C w1) := HI.out.next hb1; clear hb1 b0 b1 b2 b3 b4)
          | fail)
        have HI2 : Hid (CInv w C (w1.alloc (rbox pl))) := HI1.out.next (below1 _ _)
        obtain ⟨W, hW⟩ : ∃ W, W = w1.alloc (rbox pl) := ⟨_, rfl⟩
        have HD2 : Hid ((w1.alloc (rbox pl)).heap[w1.heap.size]? = some (rbox pl)) := at_new w1 (rbox pl)
        have hs1 : w.heap.size + 1 < w1.heap.size := Tl.at_lt HI1.out.res
        rw [← hW] at HI2 HD2 ⊢
        clear hW
        obtain ⟨⟨d0, d1, d2, d3⟩, d4⟩ := Tl.four HD2.out
        have G := HGR.out W HI2.out.box
        have g0 := G 0 _ rfl
        have g1 := G 1 _ rfl
        have g2 := G 2 _ rfl
        have g3 := G 3 _ rfl
        have g4 := G 4 _ rfl
        have g5 := G 5 _ rfl
        have g6 := G 6 _ rfl
        have g7 := G 7 _ rfl
        have g8 := G 8 _ rfl
        simp only [Nat.add_zero] at g0
        clear G
        have HW1 : Hid (IntKind.i64.wrap (row - pl.row) = row - pl.row) := by show _ = _; rw [IntKind.wrap_i64]; omega
        have HW2 : Hid (IntKind.i64.wrap (col - pl.col) = col - pl.col) := by show _ = _; rw [IntKind.wrap_i64]; omega
        have hP0 : (0 : Int) ≤ (P : Int) := by omega
        have ne1 : ¬ w1.heap.size = w.heap.size + 1 := by omega
        have ne2 : ¬ w.heap.size + 1 = w1.heap.size := by omega
        go_region_held3 (fun w' => (w'.cell? ⟨w.heap.size, 1 + P * 9, none⟩ = some (.int .i64 x.wide) ∧ w'.cell? ⟨w.heap.size, 1 + P * 9 + 1, none⟩ = some (.int .i64 x.high) ∧ w'.cell? ⟨w.heap.size, 1 + P * 9 + 2, none⟩ = some (.slice ao x.n cap) ∧ w'.cell? ⟨w.heap.size, 1 + P * 9 + 3, none⟩ = some (.int .i64 x.row) ∧ w'.cell? ⟨w.heap.size, 1 + P * 9 + 4, none⟩ = some (.int .i64 x.col) ∧ w'.cell? ⟨w.heap.size, 1 + P * 9 + 5, none⟩ = some (.int .i64 x.ink) ∧ w'.cell? ⟨w.heap.size, 1 + P * 9 + 6, none⟩ = some (.bool x.bold) ∧ w'.cell? ⟨w.heap.size, 1 + P * 9 + 7, none⟩ = some (.int .i64 x.top) ∧ w'.cell? ⟨w.heap.size, 1 + P * 9 + 8, none⟩ = some (.int .i64 x.bottom)) ∧ w'.cell? ⟨w1.heap.size, 0, none⟩ = some (.int .i64 pl.row) ∧ w'.cell? ⟨w1.heap.size, 1, none⟩ = some (.int .i64 pl.col)) (first | go_keep | (simp [*, World.cell?_alloc_past]))
          (first
          | (go_at_call 65; rw [HW1.out, HW2.out]; refine (HCA.out _ (HV.out.below HI2.out.below.drew)).mono ?_; rintro e w3 ⟨rfl, hb3⟩; have hb4 := Tl.below_to (Below.refl _ W).drew hb3; have HI3 : Hid (CInv w C w3) := HI2.out.next hb4; clear g0 g1 g2 g3 g4 g5 g6 g7 g8 d0 d1 d2 d3 d4; obtain ⟨⟨k0, k1, k2, k3⟩, k4⟩ := Tl.four HI3.out.res; obtain ⟨⟨d0, d1, d2, d3⟩, d4⟩ := Tl.four (below_block hb4 HD2.out (Tl.at_lt HD2.out)); have G := HGR.out w3 HI3.out.box; have g0 := G 0 _ rfl; have g1 := G 1 _ rfl; have g2 := G 2 _ rfl; have g3 := G 3 _ rfl; have g4 := G 4 _ rfl; have g5 := G 5 _ rfl; have g6 := G 6 _ rfl; have g7 := G 7 _ rfl; have g8 := G 8 _ rfl; simp only [Nat.add_zero] at g0; clear G hb3 hb4))
        go_wp2
        refine bodyPost_ret (v := cval r) (by simp [results, Try.results37, go_sem, *]) rfl ?_
        first | exact ⟨rfl, Tl.set4_below HI3.out.below (by omega) _ _ _ _⟩ | exact ⟨rfl, (Tl.set4_below (B := w.heap.size + 1) HI3.out.below (by omega) _ _ _ _).drew⟩
      · have HNI : Hid (¬ inR (v.place P) row col) := by
          show ¬ inR (v.place P) row col
          rw [← HX.out]
          exact hin
        have hcs : row < pl.row ∨ (pl.row ≤ row ∧ pl.high ≤ row - pl.row) ∨ (pl.row ≤ row ∧ row - pl.row < pl.high ∧ col < pl.col) ∨ (pl.row ≤ row ∧ row - pl.row < pl.high ∧ pl.col ≤ col ∧ pl.wide ≤ col - pl.col) := by unfold inR at hin; omega
        clear hin
        rcases hcs with q1 | ⟨q1, q2⟩ | ⟨q1, q2, q3⟩ | ⟨q1, q2, q3, q4⟩
        all_goals
          go_wp2_with (first
            | (go_at_call 31; refine (HP.out _ (HV.out.below HI.out.below)).mono ?_; rintro e w1 ⟨rfl, hb1⟩; have HI1 : Hid (CInv w C w1) := HI.out.next hb1; clear hb1 b0 b1 b2 b3 b4)
            | fail)
          go_roundw
          case rel => exact ⟨(P : Int) - 1, by omega, by omega, by go_num, HI1.out.next (below1 _ _), fun q hq hq2 => by
            by_cases e : q = P
            · subst e; exact HNI.out
            · exact HN.out q (by omega) hq2⟩
          case measure => simp [intOf]
    · have hge : p < 0 := by omega
      have HNO : Hid (∀ q : Nat, q < 6 → ¬ inR (v.place q) row col) := fun q hq => HN.out q (by omega) hq
      clear HN HPL
      go_wp2_with fail
      go_loopw [9] (fun i wr2 => ∃ k : Nat, (k = 0 ∨ k + 1 ≤ l.its.length) ∧ i = .int .i64 (k + 1 : Nat) ∧ wr2 = wr ∧ ∀ j : Nat, j < k → ¬ (0 < (v.share j).2 ∧ col = (v.share j).1 + (v.share j).2)) (fun i _ => l.its.length + 1 - (intOf i).toNat)
      case atStart => exact ⟨0, .inl rfl, rfl, rfl, fun j hj => by omega⟩
      case round =>
        obtain ⟨k, hk, rfl, hwr, hno⟩ := hrel
        subst hwr
        have HN : Hid (∀ j : Nat, j < k → ¬ (0 < (v.share j).2 ∧ col = (v.share j).1 + (v.share j).2)) := hno
        obtain ⟨⟨k0, k1, k2, k3⟩, k4⟩ := Tl.four HI.out.res
        clear hno
        by_cases hlt : k + 1 < l.its.length
        · have hlt' : ((k + 1 : Nat) : Int) < (l.its.length : Int) := by omega
          have hnx := share_next v k (by rw [HL.out]; exact hlt) col
          obtain ⟨s, hs⟩ : ∃ s, s = v.share (k + 1 : Nat) := ⟨_, rfl⟩
          have hn := share_num v (k + 1)
          have HSK := HS.out (k + 1)
          rw [← hs] at HSK hn hnx
          have HSE : Hid ((0 < (v.share k).2 ∧ col = (v.share k).1 + (v.share k).2) ↔ (0 < s.2 ∧ col = s.1 - 1)) := hnx
          obtain ⟨x, y⟩ := s
          obtain ⟨k', hk'⟩ : ∃ k' : Nat, k' = k + 1 := ⟨_, rfl⟩
          rw [← hk'] at HSK hlt'
          have HSH : Hid (∀ w, Calls Try.prog 29 #[.int .i64 v.wide, .int .i64 l.its.length, .int .i64 k'] w fun e w' => e = .returned (.tuple #[.int .i64 x, .int .i64 y]) ∧ w' = w) := HSK
          have HK' : Hid (k' = k + 1) := hk'
          simp only at hn HSE
          obtain ⟨hn0, hn1, hn2, hn3⟩ := hn
          rw [← hk']
          clear HSK hs HS hnx hk'
          by_cases e1 : 0 < y
          · by_cases e2 : col = x - 1
            · have HT : Hid (r = sign 124) := by
                show r = sign 124
                have := HSE.out.2 ⟨e1, e2⟩
                rw [HR.out]
                exact cellT_line v HH.out HNO.out (k := k) (by rw [HL.out]; exact hlt) this.1 this.2
              go_wp2_with (first
                | (go_at_call 29; refine (HSH.out _).mono ?_; rintro e w1 ⟨rfl, rfl⟩)
                | fail)
              refine bodyPost_ret (v := cval (sign 124)) (by simp [results, Try.results37, go_sem, sign, *]) rfl ?_
              rw [HT.out]
              exact ⟨rfl, Tl.set4_below HI.out.below (by omega) _ _ _ _⟩
            · have HNN : Hid (¬ (0 < (v.share k).2 ∧ col = (v.share k).1 + (v.share k).2)) := fun h => e2 (HSE.out.1 h).2
              go_wp2_with (first
                | (go_at_call 29; refine (HSH.out _).mono ?_; rintro e w1 ⟨rfl, rfl⟩)
                | fail)
              go_roundw
              case rel => exact ⟨k + 1, by omega, by rw [HK'.out]; go_num, by first | rfl | trivial, fun j hj => by
                by_cases e : j = k
                · subst e; exact HNN.out
                · exact HN.out j (by omega)⟩
              case measure => have := HK'.out; simp [intOf]; omega
          · have e1' : y ≤ 0 := by omega
            have HNN : Hid (¬ (0 < (v.share k).2 ∧ col = (v.share k).1 + (v.share k).2)) := fun h => absurd (HSE.out.1 h).1 (by omega)
            go_wp2_with (first
              | (go_at_call 29; refine (HSH.out _).mono ?_; rintro e w1 ⟨rfl, rfl⟩)
              | fail)
            go_roundw
            case rel => exact ⟨k + 1, by omega, by rw [HK'.out]; go_num, by first | rfl | trivial, fun j hj => by
              by_cases e : j = k
              · subst e; exact HNN.out
              · exact HN.out j (by omega)⟩
            case measure => have := HK'.out; simp [intOf]; omega
        · have HT : Hid (r = sign 45) := by
            show r = sign 45
            rw [HR.out]
            exact cellT_bar v HH.out HNO.out fun j hj => HN.out j (by rw [HL.out] at hj; omega)
          obtain ⟨k', hk'⟩ : ∃ k' : Nat, k' = k + 1 := ⟨_, rfl⟩
          have hge2 : (l.its.length : Int) ≤ (k' : Int) := by omega
          rw [← hk']
          clear hk'
          go_wp2_with fail
          refine bodyPost_ret (v := cval (sign 45)) (by simp [results, Try.results37, go_sem, sign, *]) rfl ?_
          rw [HT.out]
          exact ⟨rfl, Tl.set4_below HI.out.below (by omega) _ _ _ _⟩

theorem seen_any (v : Vw) (l : Lay) (C : Array Value) (hC : VC v l C) (row col : Int) (hr9 : row ≤ 9223372036854775807) (hc9 : col ≤ 9223372036854775807) (w : World) (hv : RdV w v l) (r : Cel) (hr : r = cellT v row col) :
    Calls Try.prog 37 #[.agg C, .int .i64 row, .int .i64 col] w fun e w' => e = .returned (cval r) ∧ Below w.heap.size w w' := by
  by_cases h : withinV v row col
  · exact seen_in v l C hC row col hr9 hc9 w hv h r hr
  · rw [hr, cellT_out v h]
    exact seen_out v l C hC row col w h

end Go.Proofs.Yteenppbpjdldgab.Pt
