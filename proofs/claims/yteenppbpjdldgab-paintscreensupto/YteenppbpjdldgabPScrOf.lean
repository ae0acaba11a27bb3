/- The document's own answer: a client's screen. -/
import Derived.Test.YteenppbpjdldgabPSeen
import Derived.Test.YteenppbpjdldgabPFoot
import Derived.Test.YteenppbpjdldgabPCur
import Derived.Test.YteenppbpjdldgabPScr
import Derived.Lib.MinMax
namespace Go.Proofs.Yteenppbpjdldgab.Pt
open Go.RowKit
open Go.Proofs.Yteenppbpjdldgab.Tl (Rc noRc whereT shareT inR findT goodT paneB CIt colsOf RdT RdL tval tbox rval rbox rcells zbox cv)

theorem put_put (f : Nat → Cel) (k : Nat) (y z : Cel) : putF (putF f k y) k z = putF f k z := by
  funext i
  unfold putF
  by_cases e : i = k
  · rw [if_pos e, if_pos e]
  · rw [if_neg e, if_neg e, if_neg e]

set_option maxRecDepth 100000 in
set_option maxHeartbeats 4000000 in
theorem screenOf_any (v : Vw) (l : Lay) (C : Array Value) (hC : VC v l C) (wide high : Int) (w : World) (hv : RdV w v l) (hlo : LowV v) (x : Gr) (hx : x = screenV v wide high) :
    Calls Try.prog 43 #[.agg C, .int .i64 wide, .int .i64 high] w fun e w' => ∃ b cp, e = .returned (gval x (some ⟨b, 0, none⟩) cp) ∧ Scr w' b x.n x.f ∧ Below w.heap.size w w' := by
  obtain ⟨t, ht⟩ : ∃ t, t = newG wide high := ⟨_, rfl⟩
  have ok : OkG t := by rw [ht]; exact ok_new wide high
  obtain ⟨q1, q2, _⟩ := ok.nums
  have HN : Hid (∀ w, Calls Try.prog 70 #[.int .i64 wide, .int .i64 high] w fun e w' => ∃ b cap, e = .returned (gval t (some ⟨b, 0, none⟩) cap) ∧ Scr w' b t.n t.f ∧ t.n ≤ cap ∧ w.heap.size ≤ b ∧ Below w.heap.size w w') := fun w => newGrid_any wide high w t ht
  have HTF : Hid (∀ i, t.f i = fillF v t.wide t.high 0 i) := by
    intro i
    rw [← fill_zero, ht]
    rfl
  have HV : Hid (RdV w v l) := hv
  have HC : Hid (VC v l C) := hC
  have HS : Hid (C.size = 58) := hC.size
  have HLO : Hid (LowV v) := hlo
  have HCL : Hid (∀ (row col : Int), row ≤ 240 → col ≤ 240 → ∀ w, RdV w v l → Calls Try.prog 37 #[.agg C, .int .i64 row, .int .i64 col] w fun e w' => e = .returned (cval (cellT v row col)) ∧ Below w.heap.size w w') := fun row col h1 h2 w hv => seen_any v l C hC row col (by omega) (by omega) w hv _ rfl
  have HST : Hid (∀ (col : Int), col ≤ 240 → ∀ w, RdV w v l → Calls Try.prog 39 #[.agg C, .int .i64 col] w fun e w' => e = .returned (cval (footT v col)) ∧ Below w.heap.size w w') := fun col hc w hv => foot_any v l C hC col (by omega) w hv _ rfl
  have HPL : Hid (∀ w, RdV w v l → Calls Try.prog 31 #[tval l.co l.its.length l.cap, .int .i64 v.wide, .int .i64 v.high, .int .i64 v.focus] w fun e w' => e = .returned (rval (v.place v.focus)) ∧ Below w.heap.size w w') := fun w hv => Tl.placeR_any l.its l.co l.cap v.wide v.high v.focus w hv.rd hv.m1 hv.m2 _ (by unfold Vw.place; rw [hv.cols])
  have HX : Hid (x = { t with f := cellsV v t.wide t.high, row := max 0 (min (cursorV v).1 (t.high - 1)), col := max 0 (min (cursorV v).2 (t.wide - 1)) }) := by
    show x = _
    rw [hx, ht]
    rfl
  have HT0 : Hid (t.row = 0 ∧ t.col = 0) := by rw [ht]; exact ⟨rfl, rfl⟩
  have h1 := ok.w1
  have h2 := ok.w2
  have h3 := ok.h1
  have h4 := ok.h2
  have HQ : Hid ((t.n : Int) = t.high * t.wide ∧ t.high * t.wide ≤ 240) := ⟨q1, q2⟩
  have hn9 : (t.n : Int) ≤ 240 := by omega
  obtain ⟨Wn, hWn⟩ : ∃ n : Nat, t.wide = n := ⟨t.wide.toNat, by omega⟩
  have HWH : Hid (t.wide = Wn) := hWn
  clear hx ht ok q1 q2 hv hC hlo hWn
  go_enter Try.func43, Try.ntmps43
  go_wp2_with (first
    | (go_at_call 70; refine (HN.out _).mono ?_; rintro e w1 ⟨b, cp, rfl, hs, hcp, hbb, hb1⟩; have HI0 : Hid (ScInv w C t b w1.heap.size cp (fillF v t.wide t.high 0) (w1.alloc (gbox t (some ⟨b, 0, none⟩) cp))) := ⟨at_old (below_block hb1 (at_old (at_new w _) _) (by simp; omega)) _, at_old (below_block hb1 (at_new1 w _ _) (by simp)) _, at_new _ _, (hs.congr (fun i _ => HTF.out i)).alloc _, Tl.below_to (Tl.below_to (Tl.below2 _ _ _) hb1) (below1 _ _), (by simp at hbb; omega), hs.lt⟩; clear hs hbb hb1)
    | fail)
  go_loopw [19] (fun i wr => ∃ k : Nat, k ≤ t.n ∧ i = .int .i64 k ∧ ScInv w C t b w1.heap.size cp (fillF v t.wide t.high k) wr) (fun i _ => t.n - (intOf i).toNat)
  case atStart => exact ⟨0, Nat.zero_le _, rfl, HI0.out⟩
  case round =>
    obtain ⟨k, hk, rfl, hi⟩ := hrel
    have HI : Hid (ScInv w C t b w1.heap.size cp (fillF v t.wide t.high k) wr) := hi
    obtain ⟨⟨g0, g1, g2, g3, g4, g5, g6, g7, g8⟩, g9⟩ := nine hi.g
    have n1 := hi.n1
    have n2 := hi.n2
    have ne1 : ¬ b = w1.heap.size := by omega
    have ne2 : ¬ w1.heap.size = b := by omega
    clear hi
    by_cases hlt : k < t.n
    · have hlt' : (k : Int) < (t.n : Int) := by omega
      obtain ⟨kq, hkq⟩ : ∃ q : Nat, q = k / Wn := ⟨_, rfl⟩
      obtain ⟨kc, hkc⟩ : ∃ q : Nat, q = k % Wn := ⟨_, rfl⟩
      have hW0 : 0 < Wn := by have := HWH.out; omega
      have hkc2 : kc < Wn := by rw [hkc]; exact Nat.mod_lt _ hW0
      have hI : (k : Int) = kq * t.wide + kc := by
        rw [HWH.out, hkq, hkc]
        have := Nat.div_add_mod k Wn
        have h9 : ((Wn * (k / Wn) + k % Wn : Nat) : Int) = k := by rw [this]
        push_cast at h9
        rw [Int.mul_comm]
        push_cast
        omega
      have hq9 : (kq : Int) ≤ 240 := by
        have : k / Wn ≤ k := Nat.div_le_self _ _
        omega
      have hc9 : (kc : Int) ≤ 240 := by have := HWH.out; omega
      have hqt : (k : Int).tdiv t.wide = kq := by rw [Int.tdiv_eq_ediv_of_nonneg (by omega), HWH.out, hkq]; rfl
      have hmt : (k : Int).tmod t.wide = kc := by rw [Int.tmod_eq_emod_of_nonneg (by omega), HWH.out, hkc]; rfl
      have hw0 : ¬ t.wide = 0 := by omega
      obtain ⟨y, hy⟩ : ∃ y, y = cellT v kq kc := ⟨_, rfl⟩
      have HYC : Hid (∀ w, RdV w v l → Calls Try.prog 37 #[.agg C, .int .i64 kq, .int .i64 kc] w fun e w' => e = .returned (cval y) ∧ Below w.heap.size w w') := fun w hv => by rw [hy]; exact HCL.out kq kc hq9 hc9 w hv
      have HCV : Hid (cellsV v t.wide t.high k = if (kq : Int) = t.high - 1 then footT v kc else y) := by
        show _ = _
        rw [hy]
        exact cellsV_at v (by have := HWH.out; omega) hI
      have HFC : Hid (∀ w, RdV w v l → Calls Try.prog 39 #[.agg C, .int .i64 kc] w fun e w' => e = .returned (cval (footT v kc)) ∧ Below w.heap.size w w') := fun w hv => HST.out kc hc9 w hv
      clear hkq hkc hI hy HCL HST hkc2
      go_wp2_with fail
      go_quiet (fail)
      go_wp2_with fail
      obtain ⟨WW, hWW⟩ : ∃ W, W = wr.drewN nq := ⟨_, rfl⟩
      have HJ : Hid (ScInv w C t b w1.heap.size cp (fillF v t.wide t.high k) WW) := by show ScInv w C t b w1.heap.size cp (fillF v t.wide t.high k) WW; rw [hWW]; exact HI.out.next (Tl.below_drewN _ _)
      rw [← hWW]
      clear hWW g0 g1 g2 g3 g4 g5 g6 g7 g8 g9
      obtain ⟨⟨g0, g1, g2, g3, g4, g5, g6, g7, g8⟩, g9⟩ := nine HJ.out.g
      refine wp_region_noPanic ?_
      refine wp_region_held_drew (S := fun w' => w'.heap[w.heap.size]? = some (cbox C) ∧ w'.cell? ⟨w1.heap.size, 2, none⟩ = some (.slice (some ⟨b, 0, none⟩) t.n cp)) (by kernel_rfl) ⟨HJ.out.box, g2⟩ (fun hHeld => ?_)
      refine wpAnyH_take (i := 0) (v := ?_) rfl (by kernel_rfl) (by kernel_rfl) (by kernel_rfl) (fun _ _ _ h => h) (Or.inl ⟨by rfl, ?_⟩) (by assumption) ?_
      rotate_left
      · ((intro w0 hSw; (try dsimp only at hSw); go_simp) <;> with_reducible rfl)
      try simp only [Act.put, List.setIfInBounds_toArray, List.set_cons_zero, List.set_cons_succ, List.getElem_toArray, List.getElem_cons_zero]
      refine wpAnyH_take (i := 1) (v := ?_) rfl (by kernel_rfl) (by kernel_rfl) (by kernel_rfl) (fun _ _ _ h => h) (Or.inl ⟨by rfl, ?_⟩) (by assumption) ?_
      rotate_left
      · ((intro w0 hSw; (try dsimp only at hSw); go_simp) <;> with_reducible rfl)
      try simp only [Act.put, List.setIfInBounds_toArray, List.set_cons_zero, List.set_cons_succ, List.getElem_toArray, List.getElem_cons_zero, List.getElem_cons_succ]
      refine wpAnyH_take (i := 2) (v := ?_) rfl (by kernel_rfl) (by kernel_rfl) (by kernel_rfl) (fun _ _ _ h => h) (Or.inl ⟨by rfl, ?_⟩) (by assumption) ?_
      rotate_left
      · ((intro w0 hSw; (try dsimp only at hSw); go_simp) <;> with_reducible rfl)
      try simp only [Act.put, List.setIfInBounds_toArray, List.set_cons_zero, List.set_cons_succ, List.getElem_toArray, List.getElem_cons_zero, List.getElem_cons_succ]
      refine wpAnyH_take (i := 3) (v := .agg C) rfl (by kernel_rfl) (by kernel_rfl) (by kernel_rfl) (fun _ _ _ h => h) (yields_view (by rfl) _ rfl w.heap.size rfl C HS.out (fun w0 h => h.1)) (by assumption) ?_
      try simp only [Act.put, List.setIfInBounds_toArray, List.set_cons_zero, List.set_cons_succ, List.getElem_toArray, List.getElem_cons_zero, List.getElem_cons_succ]
      refine wpAnyH_take (i := 4) (v := ?_) rfl (by kernel_rfl) (by kernel_rfl) (by kernel_rfl) (fun _ _ _ h => h) (Or.inl ⟨by rfl, ?_⟩) (by assumption) ?_
      rotate_left
      · ((intro w0 hSw; (try dsimp only at hSw); go_simp) <;> with_reducible rfl)
      try simp only [Act.put, List.setIfInBounds_toArray, List.set_cons_zero, List.set_cons_succ, List.getElem_toArray, List.getElem_cons_zero, List.getElem_cons_succ]
      refine wpAnyH_take (i := 5) (v := ?_) rfl (by kernel_rfl) (by kernel_rfl) (by kernel_rfl) (fun _ _ _ h => h) (Or.inl ⟨by rfl, ?_⟩) (by assumption) ?_
      rotate_left
      · ((intro w0 hSw; (try dsimp only at hSw); go_simp) <;> with_reducible rfl)
      try simp only [Act.put, List.setIfInBounds_toArray, List.set_cons_zero, List.set_cons_succ, List.getElem_toArray, List.getElem_cons_zero, List.getElem_cons_succ]
      refine wpAnyH_ready (rs := [6]) (by kernel_rfl) (by simp) ?_
      refine AllReadyH.cons rfl (fun K hK => ?_) AllReadyH.nil
      go_simp
      go_at_call 37
      refine (HYC.out _ (HV.out.below HJ.out.below.drew)).mono ?_
      rintro e w3 ⟨rfl, hb3⟩
      have HJ3 : Hid (ScInv w C t b w1.heap.size cp (fillF v t.wide t.high k) w3) := HJ.out.drew.next hb3
      clear g0 g1 g2 g3 g4 g5 g6 g7 g8 g9 hb3
      obtain ⟨⟨g0, g1, g2, g3, g4, g5, g6, g7, g8⟩, g9⟩ := nine HJ3.out.g
      obtain ⟨t0, t1, t2, t3⟩ := HJ3.out.scr.cells k hlt
      have hfr := HJ3.out.scr.free
      try go_simp
      refine hK.out _ _ ⟨HJ3.out.box, g2⟩ (fun hHeld => ?_)
      clear hK K
      try simp only [Act.put, List.setIfInBounds_toArray, List.set_cons_zero, List.set_cons_succ, List.getElem_toArray, List.getElem_cons_zero, List.getElem_cons_succ]
      refine wpAnyH_take (i := 7) (v := ?_) rfl (by kernel_rfl) (by kernel_rfl) (by kernel_rfl) (fun _ _ _ h => h) (Or.inl ⟨by rfl, ?_⟩) (by assumption) ?_
      rotate_left
      · ((intro w0 hSw; (try dsimp only at hSw); go_simp) <;> with_reducible rfl)
      try simp only [Act.put, List.setIfInBounds_toArray, List.set_cons_zero, List.set_cons_succ, List.getElem_toArray, List.getElem_cons_zero, List.getElem_cons_succ]
      refine wpAnyH_ready (rs := [8]) (by kernel_rfl) (by simp) ?_
      refine AllReadyH.cons rfl (fun K hK => ?_) AllReadyH.nil
      go_simp
      refine hK.out _ _ ⟨(HJ3.out.put k y hlt).box, (nine (HJ3.out.put k y hlt).g).1.2.2.1⟩ (fun hHeld => ?_)
      clear hK K
      try simp only [Act.put, List.setIfInBounds_toArray, List.set_cons_zero, List.set_cons_succ, List.getElem_toArray, List.getElem_cons_zero, List.getElem_cons_succ]
      refine wpAnyH_done (by kernel_rfl) ?_ _
      refine NoPanic.normal ?_
      obtain ⟨W4, hW4⟩ : ∃ W, W = ((((w3.setCell ⟨b, k * 4, none⟩ (.int .i64 y.ch)).setCell ⟨b, k * 4 + 1, none⟩ (.int .i64 y.ink)).setCell ⟨b, k * 4 + 2, none⟩ (.int .i64 y.pic)).setCell ⟨b, k * 4 + 3, none⟩ (.bool y.bold)) := ⟨_, rfl⟩
      have HJ4 : Hid (ScInv w C t b w1.heap.size cp (putF (fillF v t.wide t.high k) k y) W4) := by show ScInv w C t b w1.heap.size cp (putF (fillF v t.wide t.high k) k y) W4; rw [hW4]; exact HJ3.out.put k y hlt
      rw [← hW4]
      clear hW4 g0 g1 g2 g3 g4 g5 g6 g7 g8 g9 t0 t1 t2 t3 hfr
      obtain ⟨⟨g0, g1, g2, g3, g4, g5, g6, g7, g8⟩, g9⟩ := nine HJ4.out.g
      by_cases hlast : (kq : Int) = t.high - 1
      · obtain ⟨z, hz⟩ : ∃ z, z = footT v kc := ⟨_, rfl⟩
        have HZ : Hid (z = cellsV v t.wide t.high k) := by show z = _; rw [HCV.out, if_pos hlast, hz]
        have HZC : Hid (∀ w, RdV w v l → Calls Try.prog 39 #[.agg C, .int .i64 kc] w fun e w' => e = .returned (cval z) ∧ Below w.heap.size w w') := fun w hv => by rw [hz]; exact HFC.out w hv
        clear hz
        go_wp2_with fail
        refine wp_region_noPanic ?_
        refine wp_region_held_drew (S := fun w' => w'.heap[w.heap.size]? = some (cbox C) ∧ w'.cell? ⟨w1.heap.size, 2, none⟩ = some (.slice (some ⟨b, 0, none⟩) t.n cp)) (by kernel_rfl) ⟨HJ4.out.box, g2⟩ (fun hHeld => ?_)
        refine wpAnyH_take (i := 0) (v := ?_) rfl (by kernel_rfl) (by kernel_rfl) (by kernel_rfl) (fun _ _ _ h => h) (Or.inl ⟨by rfl, ?_⟩) (by assumption) ?_
        rotate_left
        · ((intro w0 hSw; (try dsimp only at hSw); go_simp) <;> with_reducible rfl)
        try simp only [Act.put, List.setIfInBounds_toArray, List.set_cons_zero, List.set_cons_succ, List.getElem_toArray, List.getElem_cons_zero]
        refine wpAnyH_take (i := 1) (v := ?_) rfl (by kernel_rfl) (by kernel_rfl) (by kernel_rfl) (fun _ _ _ h => h) (Or.inl ⟨by rfl, ?_⟩) (by assumption) ?_
        rotate_left
        · ((intro w0 hSw; (try dsimp only at hSw); go_simp) <;> with_reducible rfl)
        try simp only [Act.put, List.setIfInBounds_toArray, List.set_cons_zero, List.set_cons_succ, List.getElem_toArray, List.getElem_cons_zero, List.getElem_cons_succ]
        refine wpAnyH_take (i := 2) (v := ?_) rfl (by kernel_rfl) (by kernel_rfl) (by kernel_rfl) (fun _ _ _ h => h) (Or.inl ⟨by rfl, ?_⟩) (by assumption) ?_
        rotate_left
        · ((intro w0 hSw; (try dsimp only at hSw); go_simp) <;> with_reducible rfl)
        try simp only [Act.put, List.setIfInBounds_toArray, List.set_cons_zero, List.set_cons_succ, List.getElem_toArray, List.getElem_cons_zero, List.getElem_cons_succ]
        refine wpAnyH_take (i := 3) (v := .agg C) rfl (by kernel_rfl) (by kernel_rfl) (by kernel_rfl) (fun _ _ _ h => h) (yields_view (by rfl) _ rfl w.heap.size rfl C HS.out (fun w0 h => h.1)) (by assumption) ?_
        try simp only [Act.put, List.setIfInBounds_toArray, List.set_cons_zero, List.set_cons_succ, List.getElem_toArray, List.getElem_cons_zero, List.getElem_cons_succ]
        refine wpAnyH_take (i := 4) (v := ?_) rfl (by kernel_rfl) (by kernel_rfl) (by kernel_rfl) (fun _ _ _ h => h) (Or.inl ⟨by rfl, ?_⟩) (by assumption) ?_
        rotate_left
        · ((intro w0 hSw; (try dsimp only at hSw); go_simp) <;> with_reducible rfl)
        try simp only [Act.put, List.setIfInBounds_toArray, List.set_cons_zero, List.set_cons_succ, List.getElem_toArray, List.getElem_cons_zero, List.getElem_cons_succ]
        refine wpAnyH_ready (rs := [5]) (by kernel_rfl) (by simp) ?_
        refine AllReadyH.cons rfl (fun K hK => ?_) AllReadyH.nil
        go_simp
        go_at_call 39
        refine (HZC.out _ (HV.out.below HJ4.out.below.drew)).mono ?_
        rintro e w5 ⟨rfl, hb3⟩
        have HJ5 : Hid (ScInv w C t b w1.heap.size cp (putF (fillF v t.wide t.high k) k y) w5) := HJ4.out.drew.next hb3
        clear g0 g1 g2 g3 g4 g5 g6 g7 g8 g9 hb3
        obtain ⟨⟨g0, g1, g2, g3, g4, g5, g6, g7, g8⟩, g9⟩ := nine HJ5.out.g
        obtain ⟨t0, t1, t2, t3⟩ := HJ5.out.scr.cells k hlt
        have hfr := HJ5.out.scr.free
        try go_simp
        refine hK.out _ _ ⟨HJ5.out.box, g2⟩ (fun hHeld => ?_)
        clear hK K
        try simp only [Act.put, List.setIfInBounds_toArray, List.set_cons_zero, List.set_cons_succ, List.getElem_toArray, List.getElem_cons_zero, List.getElem_cons_succ]
        refine wpAnyH_take (i := 6) (v := ?_) rfl (by kernel_rfl) (by kernel_rfl) (by kernel_rfl) (fun _ _ _ h => h) (Or.inl ⟨by rfl, ?_⟩) (by assumption) ?_
        rotate_left
        · ((intro w0 hSw; (try dsimp only at hSw); go_simp) <;> with_reducible rfl)
        try simp only [Act.put, List.setIfInBounds_toArray, List.set_cons_zero, List.set_cons_succ, List.getElem_toArray, List.getElem_cons_zero, List.getElem_cons_succ]
        refine wpAnyH_ready (rs := [7]) (by kernel_rfl) (by simp) ?_
        refine AllReadyH.cons rfl (fun K hK => ?_) AllReadyH.nil
        go_simp
        refine hK.out _ _ ⟨(HJ5.out.put k z hlt).box, (nine (HJ5.out.put k z hlt).g).1.2.2.1⟩ (fun hHeld => ?_)
        clear hK K
        try simp only [Act.put, List.setIfInBounds_toArray, List.set_cons_zero, List.set_cons_succ, List.getElem_toArray, List.getElem_cons_zero, List.getElem_cons_succ]
        refine wpAnyH_done (by kernel_rfl) ?_ _
        refine NoPanic.normal ?_
        have HJ6 : Hid (ScInv w C t b w1.heap.size cp (fillF v t.wide t.high (k + 1)) ((((w5.setCell ⟨b, k * 4, none⟩ (.int .i64 z.ch)).setCell ⟨b, k * 4 + 1, none⟩ (.int .i64 z.ink)).setCell ⟨b, k * 4 + 2, none⟩ (.int .i64 z.pic)).setCell ⟨b, k * 4 + 3, none⟩ (.bool z.bold))) := by
          have hp := HJ5.out.put k z hlt
          rw [put_put, HZ.out, fill_put] at hp
          rw [HZ.out]
          exact hp
        go_wp2
        go_roundw
        case rel => exact ⟨k + 1, by omega, by go_num, HJ6.out⟩
        case measure => simp [intOf]; omega
      · have HJ6 : Hid (ScInv w C t b w1.heap.size cp (fillF v t.wide t.high (k + 1)) W4) := by
          have hp := HJ4.out
          have he := HCV.out
          rw [if_neg hlast] at he
          rw [← he, fill_put] at hp
          exact hp
        go_wp2
        go_roundw
        case rel => exact ⟨k + 1, by omega, by go_num, HJ6.out⟩
        case measure => simp [intOf]; omega
    · have hge : (t.n : Int) ≤ (k : Int) := by omega
      have HE : Hid (k = t.n) := (by omega : k = t.n)
      have HSC : Hid (∀ w', ScInv w C t b w1.heap.size cp (fillF v t.wide t.high k) w' → Scr w' b t.n (cellsV v t.wide t.high)) := fun w' h => h.scr.congr fun i hi => by unfold fillF; rw [HE.out, if_pos hi]
      obtain ⟨⟨b0, b1, b2, b3⟩, b4⟩ := cbox_cells HC.out HI.out.box
      obtain ⟨⟨u0, u1, u2, u3, u4, u5, u6, u7, u8⟩, u9⟩ := nine HI.out.res
      have ne3 : ¬ w1.heap.size = w.heap.size + 1 := by omega
      have ne4 : ¬ w.heap.size + 1 = w1.heap.size := by omega
      obtain ⟨pl, hpl⟩ : ∃ x, x = v.place v.focus := ⟨_, rfl⟩
      have hcs := place_cases v v.focus
      have hcu : cursorV v = if pl.wide = 0 then (0, 0) else (pl.row + min (v.gs v.focus.toNat).row (pl.high - 1), pl.col + min (v.gs v.focus.toNat).col (pl.wide - 1)) := by unfold cursorV; rw [hpl]
      have HP : Hid (∀ w, RdV w v l → Calls Try.prog 31 #[tval l.co l.its.length l.cap, .int .i64 v.wide, .int .i64 v.high, .int .i64 v.focus] w fun e w' => e = .returned (rval pl) ∧ Below w.heap.size w w') := fun w hv => by rw [hpl]; exact HPL.out w hv
      rw [← hpl] at hcs
      obtain ⟨pb, hpb⟩ : ∃ pb, pb = paneB v.focus := ⟨_, rfl⟩
      have HIP : Hid (∀ w, Calls Try.prog 57 #[.int .i64 v.focus] w fun e w' => e = .returned (.bool pb) ∧ w' = w) := fun w => by rw [hpb]; exact Tl.isPaneR_any v.focus w
      by_cases hz : pl.wide = 0
      · have HXA : Hid (x = { t with f := cellsV v t.wide t.high }) := by
          show x = _
          rw [HX.out, hcu, if_pos hz]
          obtain ⟨e1, e2⟩ := HT0.out
          have e3 : max 0 (min (0 : Int) (t.high - 1)) = t.row := by rw [e1]; omega
          have e4 : max 0 (min (0 : Int) (t.wide - 1)) = t.col := by rw [e2]; omega
          simp only [e3, e4]
        have hz' : pl.wide ≤ 0 := by omega
        clear hcu hcs hpl hpb HX HCL HST HPL hz
        cases pb with
        | false =>
          go_wp2_with (first
            | (go_at_call 57; refine (HIP.out _).mono ?_; rintro e w5 ⟨rfl, rfl⟩)
            | fail)
          refine bodyPost_ret (v := gval { t with f := cellsV v t.wide t.high } (some ⟨b, 0, none⟩) cp) (by simp [results, Try.results43, go_sem, *]) rfl ?_
          rw [HXA.out]
          exact ⟨b, cp, rfl, scr_set9 (HSC.out _ HI.out) (by omega) _ _ _ _ _ _ _ _ _, below_set9 HI.out.below (by omega) _ _ _ _ _ _ _ _ _⟩
        | true =>
          go_wp2_with (first
            | (go_at_call 57; refine (HIP.out _).mono ?_; rintro e w5 ⟨rfl, rfl⟩)
            | (go_at_call 31; refine (HP.out _ (HV.out.below HI.out.below)).mono ?_; rintro e w6 ⟨rfl, hb6⟩; have hs6 : w1.heap.size < w6.heap.size := Nat.lt_of_lt_of_le (Tl.at_lt HI.out.g) hb6.size; have HI6 : Hid (ScInv w C t b w1.heap.size cp (fillF v t.wide t.high k) (w6.alloc (rbox pl))) := (HI.out.next hb6).next (below1 _ _); clear g0 g1 g2 g3 g4 g5 g6 g7 g8 g9 u0 u1 u2 u3 u4 u5 u6 u7 u8 u9 b0 b1 b2 b3 b4 hb6; obtain ⟨⟨g0, g1, g2, g3, g4, g5, g6, g7, g8⟩, g9⟩ := nine HI6.out.g; obtain ⟨⟨u0, u1, u2, u3, u4, u5, u6, u7, u8⟩, u9⟩ := nine HI6.out.res)
            | fail)
          refine bodyPost_ret (v := gval { t with f := cellsV v t.wide t.high } (some ⟨b, 0, none⟩) cp) (by simp [results, Try.results43, go_sem, *]) rfl ?_
          rw [HXA.out]
          exact ⟨b, cp, rfl, scr_set9 (HSC.out _ HI6.out) (by omega) _ _ _ _ _ _ _ _ _, below_set9 HI6.out.below (by omega) _ _ _ _ _ _ _ _ _⟩
      · obtain ⟨m1, m2, m3, m4, m5, m6, m7, m8⟩ := hcs.resolve_left (fun e => hz (by rw [e]; rfl))
        obtain ⟨P, hP⟩ : ∃ P : Nat, v.focus = P := ⟨v.focus.toNat, by omega⟩
        have hP6 : P < 6 := by omega
        have hpt : pb = true := by rw [hpb]; simp only [paneB, decide_eq_true_eq]; omega
        subst hpt
        obtain ⟨xs, hxs⟩ : ∃ x, x = v.gs P := ⟨_, rfl⟩
        obtain ⟨ao, hao⟩ : ∃ x, x = l.ga P := ⟨_, rfl⟩
        obtain ⟨cap, hcap⟩ : ∃ x, x = l.gc P := ⟨_, rfl⟩
        have hl := HLO.out P hP6
        rw [← hxs] at hl
        obtain ⟨hl1, hl2⟩ := hl
        obtain ⟨R, hR⟩ : ∃ R, R = min (max (pl.row + min xs.row (pl.high - 1)) 0) (t.high - 1) := ⟨_, rfl⟩
        obtain ⟨Q, hQ⟩ : ∃ Q, Q = min (max (pl.col + min xs.col (pl.wide - 1)) 0) (t.wide - 1) := ⟨_, rfl⟩
        have HXA : Hid (x = { t with f := cellsV v t.wide t.high, row := R, col := Q }) := by
          show x = _
          rw [HX.out, hcu, if_neg hz, hP, Int.toNat_natCast, ← hxs]
          have e3 : max 0 (min (pl.row + min xs.row (pl.high - 1)) (t.high - 1)) = R := by rw [hR]; omega
          have e4 : max 0 (min (pl.col + min xs.col (pl.wide - 1)) (t.wide - 1)) = Q := by rw [hQ]; omega
          simp only [e3, e4]
        have HGR : Hid (∀ w' : World, w'.heap[w.heap.size]? = some (cbox C) → w'.rangeAt w.heap.size (1 + P * 9) (gcells xs ao cap).toList) := fun w' hb => by rw [hxs, hao, hcap]; exact cbox_grid HC.out hb P hP6
        rw [hP] at HP HIP b3
        have HFO : Hid (v.focus = P) := hP
        have hw1 : IntKind.i64.wrap (pl.row + min xs.row (pl.high - 1)) = pl.row + min xs.row (pl.high - 1) := by rw [IntKind.wrap_i64]; omega
        have hw2 : IntKind.i64.wrap (pl.col + min xs.col (pl.wide - 1)) = pl.col + min xs.col (pl.wide - 1) := by rw [IntKind.wrap_i64]; omega
        have hP0 : (0 : Int) ≤ (P : Int) := by omega
        have hP6' : (P : Int) < 6 := by omega
        have HRQ : Hid (R = min (max (pl.row + min xs.row (pl.high - 1)) 0) (t.high - 1) ∧ Q = min (max (pl.col + min xs.col (pl.wide - 1)) 0) (t.wide - 1)) := ⟨hR, hQ⟩
        clear hcu hcs hpl hpb HX HCL HST HPL hxs hao hcap hP hR hQ HN HTF HI0 HQ HWH HT0 HLO m7 m8 hlt hk hcp
        go_upto_region 13 with (first
          | (go_at_call 57; refine (HIP.out _).mono ?_; rintro e w5 ⟨rfl, rfl⟩)
          | (go_at_call 31; refine (HP.out _ (HV.out.below HI.out.below)).mono ?_; rintro e w6 ⟨rfl, hb6⟩; have HI6 : Hid (ScInv w C t b w1.heap.size cp (fillF v t.wide t.high k) w6) := HI.out.next hb6; clear g0 g1 g2 g3 g4 g5 g6 g7 g8 g9 u0 u1 u2 u3 u4 u5 u6 u7 u8 u9 b0 b1 b2 b3 b4 hb6)
          | fail)
        obtain ⟨W, hW⟩ : ∃ W, W = w6.alloc (rbox pl) := ⟨_, rfl⟩
        have HIW : Hid (ScInv w C t b w1.heap.size cp (fillF v t.wide t.high k) W) := by show ScInv w C t b w1.heap.size cp (fillF v t.wide t.high k) W; rw [hW]; exact HI6.out.next (below1 _ _)
        have HDW : Hid (W.heap[w6.heap.size]? = some (rbox pl)) := by show W.heap[w6.heap.size]? = some (rbox pl); rw [hW]; exact at_new _ _
        rw [← hW]
        have hx0 := Tl.at_lt HI6.out.g
        clear hW HI HI6 HIP HP
        obtain ⟨⟨d0, d1, d2, d3⟩, d4⟩ := Tl.four HDW.out
        obtain ⟨⟨b0, b1, b2, b3⟩, b4⟩ := cbox_cells HC.out HIW.out.box
        rw [HFO.out] at b3
        have G := HGR.out _ HIW.out.box
        have s0 := G 0 _ rfl
        have s1 := G 1 _ rfl
        have s2 := G 2 _ rfl
        have s3 := G 3 _ rfl
        have s4 := G 4 _ rfl
        have s5 := G 5 _ rfl
        have s6 := G 6 _ rfl
        have s7 := G 7 _ rfl
        have s8 := G 8 _ rfl
        simp only [Nat.add_zero] at s0
        clear G
        go_upto_region 15 with fail
        obtain ⟨W2, hW2⟩ : ∃ W', W' = W.alloc (gbox xs ao cap) := ⟨_, rfl⟩
        have HI2 : Hid (ScInv w C t b w1.heap.size cp (fillF v t.wide t.high k) W2) := by show ScInv w C t b w1.heap.size cp (fillF v t.wide t.high k) W2; rw [hW2]; exact HIW.out.next (below1 _ _)
        have HD2 : Hid (W2.heap[w6.heap.size]? = some (rbox pl)) := by show W2.heap[w6.heap.size]? = some (rbox pl); rw [hW2]; exact at_old HDW.out _
        have HG2 : Hid (W2.heap[W.heap.size]? = some (gbox xs ao cap)) := by show W2.heap[W.heap.size]? = some (gbox xs ao cap); rw [hW2]; exact at_new _ _
        have hx1 := Tl.at_lt HDW.out
        have hx2 := Tl.at_lt HIW.out.g
        rw [← hW2]
        clear hW2 HIW HDW d0 d1 d2 d3 d4 b0 b1 b2 b3 b4 s0 s1 s2 s3 s4 s5 s6 s7 s8 HGR
        obtain ⟨⟨d0, d1, d2, d3⟩, d4⟩ := Tl.four HD2.out
        obtain ⟨⟨f0, f1, f2, f3, f4, f5, f6, f7, f8⟩, f9⟩ := nine HG2.out
        obtain ⟨⟨g0, g1, g2, g3, g4, g5, g6, g7, g8⟩, g9⟩ := nine HI2.out.g
        obtain ⟨⟨u0, u1, u2, u3, u4, u5, u6, u7, u8⟩, u9⟩ := nine HI2.out.res
        have ne5 : ¬ W.heap.size = w1.heap.size := by omega
        have ne6 : ¬ w1.heap.size = W.heap.size := by omega
        have ne7 : ¬ w6.heap.size = w1.heap.size := by omega
        have ne8 : ¬ w1.heap.size = w6.heap.size := by omega
        go_upto_region 16 with fail
        rw [← HRQ.out.1]
        obtain ⟨W3, hW3⟩ : ∃ W', W' = W2.setCell ⟨w1.heap.size, 3, none⟩ (.int .i64 R) := ⟨_, rfl⟩
        have HI3 : Hid (ScInv w C { t with row := R } b w1.heap.size cp (fillF v t.wide t.high k) W3) := by show ScInv w C { t with row := R } b w1.heap.size cp (fillF v t.wide t.high k) W3; rw [hW3]; exact HI2.out.setRow R
        have HD3 : Hid (W3.heap[w6.heap.size]? = some (rbox pl)) := by show W3.heap[w6.heap.size]? = some (rbox pl); rw [hW3, Below.heap_setCell _ _ _ _ ne7]; exact HD2.out
        have HG3 : Hid (W3.heap[W.heap.size]? = some (gbox xs ao cap)) := by show W3.heap[W.heap.size]? = some (gbox xs ao cap); rw [hW3, Below.heap_setCell _ _ _ _ ne5]; exact HG2.out
        rw [← hW3]
        clear hW3 HI2 HD2 HG2 d0 d1 d2 d3 d4 f0 f1 f2 f3 f4 f5 f6 f7 f8 f9 g0 g1 g2 g3 g4 g5 g6 g7 g8 g9 u0 u1 u2 u3 u4 u5 u6 u7 u8 u9
        obtain ⟨⟨d0, d1, d2, d3⟩, d4⟩ := Tl.four HD3.out
        obtain ⟨⟨f0, f1, f2, f3, f4, f5, f6, f7, f8⟩, f9⟩ := nine HG3.out
        obtain ⟨⟨g0, g1, g2, g3, g4, g5, g6, g7, g8⟩, g9⟩ := nine HI3.out.g
        obtain ⟨⟨u0, u1, u2, u3, u4, u5, u6, u7, u8⟩, u9⟩ := nine HI3.out.res
        go_upto_region 17 with fail
        rw [← HRQ.out.2]
        go_wp2
        refine bodyPost_ret (v := gval { t with f := cellsV v t.wide t.high, row := R, col := Q } (some ⟨b, 0, none⟩) cp) (by simp [results, Try.results43, go_sem, *]) rfl ?_
        rw [HXA.out]
        have hs : Scr W3 b t.n (cellsV v t.wide t.high) := HI3.out.scr.congr fun i hi => by unfold fillF; rw [HE.out, if_pos hi]
        exact ⟨b, ⟨cp, rfl⟩, scr_set9 (hs.set (by simp; omega) _) (by omega) _ _ _ _ _ _ _ _ _, below_set9 (HI3.out.below.setCell (by simp; omega) _) (by omega) _ _ _ _ _ _ _ _ _⟩

end Go.Proofs.Yteenppbpjdldgab.Pt
