/- The line at the foot. -/
import Derived.Test.YteenppbpjdldgabPCellO
import Derived.Deep.RegionHeld3
namespace Go.Proofs.Yteenppbpjdldgab.Pt
open Go.RowKit
open Go.Proofs.Yteenppbpjdldgab.Tl (Rc noRc whereT shareT inR findT goodT paneB CIt colsOf RdT RdL tval tbox rval rbox rcells zbox cv)

theorem flat_at {cols : List (List Int)} {i k : Nat} (hi : i < cols.length) (hk : k < cols[i].length) : (cols.take i).flatten.length + k < cols.flatten.length ∧ cols.flatten.getD ((cols.take i).flatten.length + k) 0 = cols[i][k] := by
  have h0 : cols = cols.take i ++ cols[i] :: cols.drop (i + 1) := by rw [← List.drop_eq_getElem_cons hi, List.take_append_drop]
  have e : cols.flatten = (cols.take i).flatten ++ (cols[i] ++ (cols.drop (i + 1)).flatten) := by
    conv => lhs; rw [h0]
    rw [List.flatten_append, List.flatten_cons]
  constructor
  · rw [e]; simp only [List.length_append]; omega
  · rw [List.getD_eq_getElem?_getD]
    rw [e, List.getElem?_append_right (by omega), Nat.add_sub_cancel_left, List.getElem?_append_left hk]
    simp [hk]
theorem flat_next {cols : List (List Int)} {i : Nat} (hi : i < cols.length) : (cols.take (i + 1)).flatten.length = (cols.take i).flatten.length + cols[i].length := by
  rw [List.take_succ_eq_append_getElem hi, List.flatten_append]
  simp

set_option maxHeartbeats 1000000 in
theorem status_no (C : Array Value) (col : Int) (w : World) (h : col < 0 ∨ (0 ≤ col ∧ col % 2 = 1)) :
    Calls Try.prog 38 #[.agg C, .int .i64 col] w fun e w' => e = .returned (cval (sign 32)) ∧ Below w.heap.size w w' := by
  rcases h with h | ⟨h1, h2⟩
  · go_enter Try.func38, Try.ntmps38
    go_wp2
    refine bodyPost_ret (v := cval (sign 32)) (by simp [results, Try.results38, go_sem, sign]) rfl ?_
    exact ⟨rfl, Tl.below2 _ _ _⟩
  · have hm : (Int.tmod col 2) = 1 := by rw [Int.tmod_eq_emod_of_nonneg h1]; exact h2
    go_enter Try.func38, Try.ntmps38
    go_wp2
    refine bodyPost_ret (v := cval (sign 32)) (by simp [results, Try.results38, go_sem, sign]) rfl ?_
    exact ⟨rfl, Tl.below2 _ _ _⟩

set_option maxHeartbeats 2000000 in
theorem status_yes (v : Vw) (l : Lay) (C : Array Value) (hC : VC v l C) (K : Nat) (hK : (K : Int) ≤ 9000000000000000000) (w : World) (hv : RdV w v l) (r : Cel) (hr : r = footT v (2 * K)) (col : Int) (hcol : col = 2 * K) :
    Calls Try.prog 38 #[.agg C, .int .i64 col] w fun e w' => e = .returned (cval r) ∧ Below w.heap.size w w' := by
  obtain ⟨c0, c1, c2, c3⟩ := hC.cells
  have HC : Hid (VC v l C) := hC
  have HV : Hid (RdV w v l) := hv
  have HR : Hid (r = footT v col) := by rw [hcol]; exact hr
  have HK : Hid (col = 2 * K) := hcol
  have h1 : 0 ≤ col := by omega
  have hm : (Int.tmod col 2) = 0 := by rw [Int.tmod_eq_emod_of_nonneg h1]; omega
  have hq : (Int.tdiv col 2) = K := by rw [Int.tdiv_eq_ediv_of_nonneg h1]; omega
  have hml := hv.m1
  have HI0 : Hid (CInv w C ((w.alloc (cbox C)).alloc (kbox noCel))) := cinv_start w C
  clear hC hv hr hcol
  go_enter Try.func38, Try.ntmps38
  go_wp2
  go_loopw [5, 22] (fun s5 s22 wr => ∃ i k : Nat, i ≤ l.its.length ∧ s5 = .int .i64 k ∧ s22 = .int .i64 i ∧ CInv w C wr ∧ k + ((colsOf l.its).take i).flatten.length = K) (fun _ s22 _ => l.its.length - (intOf s22).toNat)
  case atStart => exact ⟨0, K, Nat.zero_le _, rfl, rfl, HI0.out, by simp⟩
  case round =>
    obtain ⟨i, k, hi, rfl, rfl, hci, hk⟩ := hrel
    have HI : Hid (CInv w C wr) := hci
    have HKK : Hid (k + ((colsOf l.its).take i).flatten.length = K) := hk
    have hk9 : (k : Int) ≤ 9000000000000000000 := by omega
    have HCO : Hid (v.cols = colsOf l.its) := HV.out.cols
    obtain ⟨⟨b0, b1, b2, b3⟩, b4⟩ := cbox_cells HC.out hci.box
    obtain ⟨⟨k0, k1, k2, k3⟩, k4⟩ := Tl.four hci.res
    clear hci hk c0 c1 c2 c3
    by_cases hlt : i < l.its.length
    · have hlt' : (i : Int) < (l.its.length : Int) := by omega
      have HRV := HV.out.rd.below HI.out.below
      obtain ⟨b, off, hco, hc⟩ := HRV.row.resolve_left (by intro h; rw [h] at hlt; simp at hlt)
      have h0 := hc i hlt
      obtain ⟨⟨x1, x2, x3⟩, hx⟩ : ∃ x, x = l.its[i] := ⟨_, rfl⟩
      rw [← hx] at h0
      have h5 : wr.cell? ⟨b, off + i, none⟩ = some (.slice x2 x1.length x3) := h0
      have hmem : (x1, x2, x3) ∈ l.its := by rw [hx]; exact List.getElem_mem hlt
      have hxl := HV.out.m2 _ hmem
      have HRX : Hid (RdL w x2 x1) := (HV.out.rd.each _ hmem).1
      have hic : i < (colsOf l.its).length := by simpa using hlt
      have HXC : Hid ((colsOf l.its)[i] = x1) := by show _ = _; simp [← hx]
      simp only at hxl
      clear hc h0 hx hmem HRV
      by_cases hkl : k < x1.length
      · have hkl' : (k : Int) < (x1.length : Int) := by omega
        obtain ⟨bl, ol, hao, hcl⟩ := HRX.out.resolve_left (by intro h; subst h; simp at hkl)
        subst hao
        have h6w := hcl k hkl
        have hbl : bl < w.heap.size := World.block_lt_of_cell? _ _ h6w
        have h6 := (HI.out.below.cell (p := ⟨bl, ol + k, none⟩) hbl).trans h6w
        have nb1 : ¬ bl = w.heap.size + 1 := by omega
        have nb2 : ¬ w.heap.size + 1 = bl := by omega
        clear h6w
        obtain ⟨q, hq0⟩ : ∃ q, q = x1.getD k 0 := ⟨_, rfl⟩
        rw [← hq0] at h6
        obtain ⟨d, hd⟩ : ∃ d, d = 48 + max 0 (min q 9) := ⟨_, rfl⟩
        have HD : Hid (∀ w, Calls Try.prog 66 #[.int .i64 q] w fun e w' => e = .returned (.int .i64 d) ∧ w' = w) := fun w => by rw [hd]; exact digit_any q w
        have HT : Hid (r = ⟨d, 0, 0, decide (q = v.focus)⟩) := by
          show r = _
          have hkl2 : k < (colsOf l.its)[i].length := by rw [HXC.out]; exact hkl
          have hf := flat_at hic hkl2
          rw [HR.out, hd]
          refine footT_at v (k := K) HK.out ?_ ?_
          · rw [HCO.out, ← HKK.out]; omega
          · rw [HCO.out, ← HKK.out, Nat.add_comm, hf.2, hq0]
            simp only [HXC.out]
            simp [hkl]
        have hl1 := Tl.at_lt HI.out.res
        clear hcl hq0 hd HRX HXC
        go_wp2_with fail
        go_region_held3 (fun w' => w'.cell? ⟨w.heap.size, 57, none⟩ = some (.int .i64 v.focus) ∧ w'.cell? ⟨bl, ol + k, none⟩ = some (.int .i64 q)) (first | go_keep | (simp [*, World.cell?_alloc_past])) (first | (go_at_call 66; refine (HD.out _).mono ?_; rintro e w6 ⟨rfl, rfl⟩))
        go_wp2
        refine bodyPost_ret (v := cval ⟨d, 0, 0, q == v.focus⟩) (by simp [results, Try.results38, go_sem, *]) rfl ?_
        rw [HT.out]
        exact ⟨rfl, (Tl.set4_below (B := w.heap.size + 1) HI.out.below (by omega) _ _ _ _).drew⟩
      · have hkl' : (x1.length : Int) ≤ (k : Int) := by omega
        go_wp2
        go_roundw
        case rel => exact ⟨i + 1, k - x1.length, by omega, by go_num, by go_num, HI.out, by
          have := flat_next hic
          have h9 := HKK.out
          simp only [HXC.out] at this
          omega⟩
        case measure => simp [intOf]; omega
    · have hge : (l.its.length : Int) ≤ (i : Int) := by omega
      have HT : Hid (r = sign 32) := by
        show r = sign 32
        rw [HR.out]
        refine footT_no v ?_
        have h9 := HKK.out
        rw [List.take_of_length_le (by simp; omega)] at h9
        rw [HCO.out]
        have := HK.out
        omega
      go_wp2
      refine bodyPost_ret (v := cval (sign 32)) (by simp [results, Try.results38, go_sem, sign, *]) rfl ?_
      rw [HT.out]
      exact ⟨rfl, Tl.set4_below HI.out.below (by omega) _ _ _ _⟩

theorem status_any (v : Vw) (l : Lay) (C : Array Value) (hC : VC v l C) (col : Int) (hcol : col ≤ 9223372036854775807) (w : World) (hv : RdV w v l) (r : Cel) (hr : r = footT v col) :
    Calls Try.prog 38 #[.agg C, .int .i64 col] w fun e w' => e = .returned (cval r) ∧ Below w.heap.size w w' := by
  by_cases h : col < 0 ∨ (0 ≤ col ∧ col % 2 = 1)
  · rw [hr, footT_no v (by omega)]
    exact status_no C col w h
  · exact status_yes v l C hC (col / 2).toNat (by omega) w hv r (by rw [hr]; congr 1; omega) col (by omega)

end Go.Proofs.Yteenppbpjdldgab.Pt
