/- The document's own answer: the line at the foot. -/
import Derived.Test.YteenppbpjdldgabPCellO
import Derived.Test.YteenppbpjdldgabTRef1
namespace Go.Proofs.Yteenppbpjdldgab.Pt
open Go.RowKit
open Go.Proofs.Yteenppbpjdldgab.Tl (Rc noRc whereT shareT inR findT goodT paneB CIt colsOf RdT RdL tval tbox rval rbox rcells zbox cv ints)

theorem ints_cell {w : World} {base n c : Nat} {ao : Option Addr} {f : List Int} (h : w.ownsRow base 3 1 (.slice ao n c) n (ints f)) (hn : n = f.length) (k : Nat) (hk : k < n) : ∃ g, ao = some ⟨g, 0, none⟩ ∧ w.cell? ⟨g, k, none⟩ = some (.int .i64 (f.getD k 0)) := by
  subst hn
  rcases h.2 with ⟨hv, h0⟩ | ⟨g, cap, cur, hv, hb, hg, hc, _, hs, ht⟩
  · omega
  · simp only [Value.slice.injEq] at hv
    refine ⟨g, hv.1, ?_⟩
    rw [cell_of_row w g k _ _ _ hg]
    have h1 : (ints f)[k]? = some (.int .i64 (f.getD k 0)) := by simp [ints, hk]
    rw [← ht, List.getElem?_take_of_lt (by omega)] at h1
    simpa using h1

set_option maxHeartbeats 2000000 in
theorem foot_any (v : Vw) (l : Lay) (C : Array Value) (hC : VC v l C) (col : Int) (hcol : col ≤ 9223372036854775807) (w : World) (hv : RdV w v l) (r : Cel) (hr : r = footT v col) :
    Calls Try.prog 39 #[.agg C, .int .i64 col] w fun e w' => e = .returned (cval r) ∧ Below w.heap.size w w' := by
  obtain ⟨c0, c1, c2, c3⟩ := hC.cells
  obtain ⟨f, hf⟩ : ∃ f, f = v.cols.flatten := ⟨_, rfl⟩
  have hf2 : f = (colsOf l.its).flatten := by rw [hf, hv.cols]
  have HALL : Hid (∀ w, RdT w l.co l.its → Calls Try.prog 60 #[tval l.co l.its.length l.cap] w fun e w' => ∃ ao c, e = .returned (.slice ao f.length c) ∧ w'.ownsRow (w.heap.size + 1) 3 1 (.slice ao f.length c) f.length (ints f) ∧ Below w.heap.size w w') := fun w h => Tl.all_any l.its l.co l.cap w h hv.m1 (by rw [← hv.cols]; exact hv.m4) f hf2
  have HV : Hid (RdV w v l) := hv
  have HC : Hid (VC v l C) := hC
  have hfl : f.length ≤ 17592186044416 := by rw [hf]; exact hv.m4
  have HI0 : Hid (CInv w C ((w.alloc (cbox C)).alloc (kbox noCel))) := cinv_start w C
  by_cases h : 0 ≤ col ∧ col % 2 = 0 ∧ col / 2 < f.length
  · obtain ⟨K, hK⟩ : ∃ K : Nat, col = 2 * K := ⟨(col / 2).toNat, by omega⟩
    have hKf : K < f.length := by omega
    obtain ⟨q, hq⟩ : ∃ q, q = f.getD K 0 := ⟨_, rfl⟩
    have HT : Hid (r = ⟨48 + max 0 (min q 9), 0, 0, decide (q = v.focus)⟩) := by
      show r = _
      rw [hr]
      exact footT_at v hK (by rw [← hf]; exact hKf) (by rw [← hf, hq])
    have h1 : 0 ≤ col := h.1
    have hm : (Int.tmod col 2) = 0 := by rw [Int.tmod_eq_emod_of_nonneg h1]; omega
    have hqo : (Int.tdiv col 2) = K := by rw [Int.tdiv_eq_ediv_of_nonneg h1]; omega
    have hk9 : (K : Int) ≤ 9000000000000000000 := by omega
    have hKf' : (K : Int) < (f.length : Int) := by omega
    have HQ : Hid (q = f.getD K 0) := hq
    clear hC hv hr hf hf2 h hK hq
    go_enter Try.func39, Try.ntmps39
    go_wp2_with (first
      | (go_at_call 60; refine (HALL.out _ (HV.out.rd.below HI0.out.below)).mono ?_; rintro e w1 ⟨ao, cp, rfl, hown, hb1⟩; have HI1 : Hid (CInv w C w1) := HI0.out.next hb1; obtain ⟨g, rfl, hcell⟩ := ints_cell hown rfl K hKf; rw [← HQ.out] at hcell; obtain ⟨⟨b0, b1, b2, b3⟩, b4⟩ := cbox_cells HC.out HI1.out.box; obtain ⟨⟨k0, k1, k2, k3⟩, k4⟩ := Tl.four HI1.out.res; clear hown hb1 c0 c1 c2 c3)
      | fail)
    all_goals
      refine bodyPost_ret (v := cval r) (by simp [results, Try.results39, go_sem, *]; rw [HT.out]; refine ⟨?_, rfl, rfl, rfl⟩; show _ = 48 + max 0 (min q 9); omega) rfl ?_
      exact ⟨rfl, Tl.set4_below HI1.out.below (by omega) _ _ _ _⟩
  · have HT : Hid (r = sign 32) := by
      show r = sign 32
      rw [hr]
      exact footT_no v (by rw [← hf]; exact h)
    have hcs : col < 0 ∨ (0 ≤ col ∧ col % 2 = 1) ∨ (0 ≤ col ∧ col % 2 = 0 ∧ (f.length : Int) ≤ col / 2) := by omega
    clear hC hv hr hf hf2 h
    rcases hcs with h | ⟨h1, h2⟩ | ⟨h1, h2, h3⟩
    · go_enter Try.func39, Try.ntmps39
      go_wp2_with (first
        | (go_at_call 60; refine (HALL.out _ (HV.out.rd.below HI0.out.below)).mono ?_; rintro e w1 ⟨ao, cp, rfl, hown, hb1⟩; have HI1 : Hid (CInv w C w1) := HI0.out.next hb1; obtain ⟨⟨k0, k1, k2, k3⟩, k4⟩ := Tl.four HI1.out.res; clear hown hb1 c0 c1 c2 c3)
        | fail)
      refine bodyPost_ret (v := cval (sign 32)) (by simp [results, Try.results39, go_sem, sign, *]) rfl ?_
      rw [HT.out]
      exact ⟨rfl, Tl.set4_below HI1.out.below (by omega) _ _ _ _⟩
    · have hm : (Int.tmod col 2) = 1 := by rw [Int.tmod_eq_emod_of_nonneg h1]; omega
      go_enter Try.func39, Try.ntmps39
      go_wp2_with (first
        | (go_at_call 60; refine (HALL.out _ (HV.out.rd.below HI0.out.below)).mono ?_; rintro e w1 ⟨ao, cp, rfl, hown, hb1⟩; have HI1 : Hid (CInv w C w1) := HI0.out.next hb1; obtain ⟨⟨k0, k1, k2, k3⟩, k4⟩ := Tl.four HI1.out.res; clear hown hb1 c0 c1 c2 c3)
        | fail)
      refine bodyPost_ret (v := cval (sign 32)) (by simp [results, Try.results39, go_sem, sign, *]) rfl ?_
      rw [HT.out]
      exact ⟨rfl, Tl.set4_below HI1.out.below (by omega) _ _ _ _⟩
    · obtain ⟨K, hK⟩ : ∃ K : Nat, col / 2 = K := ⟨(col / 2).toNat, by omega⟩
      have hm : (Int.tmod col 2) = 0 := by rw [Int.tmod_eq_emod_of_nonneg h1]; omega
      have hqo : (Int.tdiv col 2) = K := by rw [Int.tdiv_eq_ediv_of_nonneg h1]; omega
      have hk9 : (K : Int) ≤ 9000000000000000000 := by omega
      have hKf' : (f.length : Int) ≤ (K : Int) := by omega
      clear hK h3
      go_enter Try.func39, Try.ntmps39
      go_wp2_with (first
        | (go_at_call 60; refine (HALL.out _ (HV.out.rd.below HI0.out.below)).mono ?_; rintro e w1 ⟨ao, cp, rfl, hown, hb1⟩; have HI1 : Hid (CInv w C w1) := HI0.out.next hb1; obtain ⟨⟨k0, k1, k2, k3⟩, k4⟩ := Tl.four HI1.out.res; clear hown hb1 c0 c1 c2 c3)
        | fail)
      refine bodyPost_ret (v := cval (sign 32)) (by simp [results, Try.results39, go_sem, sign, *]) rfl ?_
      rw [HT.out]
      exact ⟨rfl, Tl.set4_below HI1.out.below (by omega) _ _ _ _⟩

end Go.Proofs.Yteenppbpjdldgab.Pt
