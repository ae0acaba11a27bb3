/- The document's own split: the making. -/
import Derived.Test.YtmdlbclaipajlabTRef7
namespace Go.Proofs.Ytmdlbclaipajlab.Tl
open Go.RowKit

theorem own_more {w w2 : World} {base n : Nat} {v : Value} {xs : List Value} {e : TypeId} (h : w.ownsRow base e 1 v n xs) (hb : base ≤ w.heap.size) {W0 : World} (hB : Below base W0 w) {o : Obj} (hg : (w.alloc o).grownBy w2 v.ownBlock) : Below base W0 w2 :=
  (hB.alloc hb o).grown hg (by simp; omega) (fun j hj => own_ge h hj)

theorem own_single' {w : World} {V base : Nat} {n : Int} (h : w.heap[V]? = some (.cells #[.int .i64 n] 3)) (hV : base ≤ V) : w.ownsRow base 3 1 (cv ([n], some ⟨V, 0, none⟩, 1)) 1 (ints [n]) :=
  ⟨rfl, .inr ⟨V, 1, _, rfl, hV, h, Nat.le_refl _, by unfold maxLen; omega, rfl, rfl⟩⟩
theorem row_two {w : World} {its : List CIt} {co : Option Addr} {cap O : Nat} {done : List CIt} {x : CIt} {v : Value} {wr : World} (h : OInv w its co cap O (done ++ [x]) v wr) {o o' : Obj} : ((wr.alloc o).alloc o').ownsRow (O + 1) 28 1 v (done.length + 1) ((done ++ [x]).map cv) := by
  have := row_below h.row (below2 wr o o')
  simpa using this

set_option maxHeartbeats 4000000 in
set_option maxRecDepth 100000 in
theorem splitR_goes (its : List CIt) (co : Option Addr) (cap : Nat) (p n : Int) (right : Bool) (w : World) (hr : RdT w co its) (hm : its.length ≤ 5864062014805) (hm2 : ∀ x ∈ its, x.1.length ≤ 17592186044416) (r : List (List Int) × Int) (hrr : r = splitT (colsOf its) p n right)
    (h1 : goodT (colsOf its) = true) (h2 : paneB n = true) (i0' j : Nat) (hf : findT p (colsOf its) = some (i0', j)) (h4 : hasT (colsOf its) n = false) :
    Calls Try.prog 17 #[tval co its.length cap, .int .i64 p, .int .i64 n, .bool right] w (SpEnd w r) := by
  obtain ⟨i0, hi0, hz0, hz1, hz2⟩ := info_parts info3
  obtain ⟨i1, hj1, hy0, hy1, hy2⟩ := info_parts infoL
  have ok := (goodT_iff _).1 h1
  have hgf := good_flat h1
  have HJ0 : Hid (JInv w its co cap ((w.alloc (tbox co its.length cap)).alloc (tbox none 0 0))) := jinv_start hr
  have HR : Hid (RdT w co its) := hr
  have HP : Hid (∀ w, Calls Try.prog 47 #[.int .i64 n] w fun e w' => e = .returned (.bool true) ∧ w' = w) := fun w => by have := isPaneR_any n w; rw [h2] at this; exact this
  have HGA : Hid (∀ W, RdT W co its → Calls Try.prog 22 #[tval co its.length cap] W fun e w' => e = .returned (.bool true) ∧ Below W.heap.size W w') := fun W h => goodR_any its co cap W h hm hm2 true h1.symm
  have HH1 : Hid (∀ W, RdT W co its → Calls Try.prog 24 #[tval co its.length cap, .int .i64 p] W fun e w' => e = .returned (.bool true) ∧ Below W.heap.size W w') := fun W h => hasR_any its co cap p W h hm hgf.2.1 true (by unfold hasT; rw [hf]; rfl)
  have HH2 : Hid (∀ W, RdT W co its → Calls Try.prog 24 #[tval co its.length cap, .int .i64 n] W fun e w' => e = .returned (.bool false) ∧ Below W.heap.size W w') := fun W h => hasR_any its co cap n W h hm hgf.2.1 false h4.symm
  have HL : Hid (∀ k (hk : k < (colsOf its).length), (colS p n right (colsOf its)[k]).length ≤ 3 ∧ ¬ (right = false ∧ i0' = k ∧ ((colsOf its).getD i0' []).length = 3) ∨ (right = false ∧ i0' = k ∧ ((colsOf its).getD i0' []).length = 3) ∧ (colS p n right (colsOf its)[k]).length = 4) := fun k hk => colS_len ok hf hk
  have HFULL : Hid ((right = false ∧ ((colsOf its).getD i0' []).length = 3) → r = (colsOf its, 5)) := by
    rintro ⟨e1, e2⟩
    rw [hrr]
    simp only [splitT, h1, h2, hf, h4, e1, e2]
    simp
  have HRES : Hid (¬ (right = false ∧ ((colsOf its).getD i0' []).length = 3) → r = (outS p n right (colsOf its), 0)) := by
    intro hn
    obtain ⟨hi, _⟩ := findT_get hf
    rw [hrr]
    cases right with
    | true =>
      rw [outS_right ok hf]
      simp [splitT, h1, h2, hf, h4]
    | false =>
      have h3 : ((colsOf its).getD i0' []).length ≠ 3 := fun e => hn ⟨rfl, e⟩
      have hg : (colsOf its).getD i0' [] = (colsOf its)[i0'] := by
        rw [List.getD_eq_getElem?_getD, List.getElem?_eq_getElem hi]
        rfl
      rw [outS_down ok hf hi, ← hg]
      simp only [splitT, h1, h2, hf, h4, h3]
      simp
  have hn6 := hgf.1
  have hiL : i0' < its.length := by obtain ⟨q, _⟩ := findT_get hf; simpa using q
  have HX3 : Hid (∀ x ∈ its, x.1.length ≤ 3) := hgf.2.2
  clear hr hm2 hrr h1 h2 h4 hf hgf ok
  go_enter Try.func17, Try.ntmps17
  go_wp2_with (first
    | (go_at_call 22; refine (HGA.out _ HJ0.out.rd).mono ?_; rintro e w1 ⟨rfl, hb1⟩; have HJ1 : Hid (JInv w its co cap w1) := HJ0.out.next hb1; clear hb1; obtain ⟨a1, a2⟩ := one HJ1.out.box; obtain ⟨a3, a4⟩ := one HJ1.out.res)
    | (go_at_call 47; refine (HP.out _).mono ?_; rintro e w2 ⟨rfl, rfl⟩)
    | (have _t := HJ3; go_at_call 24; refine (HH2.out _ HJ3.out.rd).mono ?_; rintro e w4 ⟨rfl, hb4⟩; have HJ4 : Hid (JInv w its co cap w4) := HJ3.out.next hb4; clear hb4 a1 a2 a3 a4; obtain ⟨a1, a2⟩ := one (at_old HJ4.out.box (vbox (.slice none 0 0))))
    | (go_at_call 24; refine (HH1.out _ HJ1.out.rd).mono ?_; rintro e w3 ⟨rfl, hb3⟩; have HJ3 : Hid (JInv w its co cap w3) := HJ1.out.next hb3; clear hb3 a1 a2 a3 a4; obtain ⟨a1, a2⟩ := one HJ3.out.box; obtain ⟨a3, a4⟩ := one HJ3.out.res)
    | fail)
  have HO0 : Hid (OInv w its co cap w4.heap.size [] (.slice none 0 0) (w4.alloc (vbox (.slice none 0 0)))) := HJ4.out.make HR.out
  clear a1 a2 HJ0 HJ1 HJ3 HGA HH1 HH2 HP
  go_loopw [38] (fun i wr => ∃ (k : Nat) (done : List CIt) (v : Value), k ≤ its.length ∧ i = .int .i64 k ∧ OInv w its co cap w4.heap.size done v wr ∧ colsOf done = outS p n right ((colsOf its).take k) ∧ done.length ≤ 2 * k ∧ ((right = false ∧ ((colsOf its).getD i0' []).length = 3) → k ≤ i0')) (fun i _ => its.length - (intOf i).toNat)
  case atStart => exact ⟨0, [], _, Nat.zero_le _, rfl, HO0.out, rfl, by simp, fun _ => Nat.zero_le _⟩
  case round =>
    obtain ⟨k, done, v, hk, rfl, hinv, hcols, hdl, hki⟩ := hrel
    have HKI : Hid ((right = false ∧ ((colsOf its).getD i0' []).length = 3) → k ≤ i0') := hki
    clear hki
    have HI : Hid (OInv w its co cap w4.heap.size done v wr) := hinv
    have HC : Hid (colsOf done = outS p n right ((colsOf its).take k)) := hcols
    obtain ⟨a1, a2⟩ := one HI.out.box
    obtain ⟨a3, a4⟩ := one HI.out.res
    obtain ⟨a5, a6⟩ := one HI.out.out
    have hOw : w4.heap.size < wr.heap.size := at_lt HI.out.out
    clear hinv hcols HO0
    by_cases hlt : k < its.length
    · have hlt' : (k : Int) < (its.length : Int) := by omega
      obtain ⟨b, off, rfl, hc⟩ := HI.out.rd.row.resolve_left (by intro h; subst h; simp at hlt)
      have h0 := hc k hlt
      obtain ⟨⟨x1, x2, x3⟩, hx⟩ : ∃ x, x = its[k] := ⟨_, rfl⟩
      rw [← hx] at h0
      have h1 : wr.cell? ⟨b, off + k, none⟩ = some (.slice x2 x1.length x3) := h0
      have hmem : (x1, x2, x3) ∈ its := by rw [hx]; exact List.getElem_mem hlt
      have hxl := HX3.out _ hmem
      have HRX : Hid (RdL wr x2 x1) := (HI.out.rd.each _ hmem).1
      have hkc : k < (colsOf its).length := by simpa using hlt
      have HXC : Hid ((colsOf its)[k] = x1) := by show _ = _; simp [← hx]
      simp only at hxl
      clear hc h0 hx hmem
      obtain ⟨W0, rfl⟩ : ∃ W0, W0 = wr := ⟨_, rfl⟩
      go_wp2
      go_loopw [13, 14, 44] (fun v13 h14 i wi => ∃ m : Nat, m ≤ x1.length ∧ i = .int .i64 m ∧ h14 = .bool (decide (p ∈ x1.take m)) ∧ wi.ownsRow W0.heap.size 3 1 v13 (colS p n right (x1.take m)).length (ints (colS p n right (x1.take m))) ∧ Below W0.heap.size W0 wi ∧ (colS p n right (x1.take m)).length ≤ 2 * m) (fun _ _ i _ => x1.length - (intOf i).toNat)
      case atStart => exact ⟨0, Nat.zero_le _, rfl, by simp, by simpa [colS] using World.ownsRow_nil _ _ _ _, Below.refl _ _, by simp [colS]⟩
      case round =>
        obtain ⟨m, hmx, rfl, rfl, hown, hbel, hL2⟩ := hrel
        obtain ⟨L, hL⟩ : ∃ L, L = colS p n right (x1.take m) := ⟨_, rfl⟩
        rw [← hL] at hown hL2
        have HV : Hid (wr.ownsRow W0.heap.size 3 1 u13 L.length (ints L) ∧ Below W0.heap.size W0 wr) := ⟨hown, hbel⟩
        have HLL : Hid (L = colS p n right (x1.take m)) := hL
        clear hown hbel hL
        by_cases hml : m < x1.length
        · have hml' : (m : Int) < (x1.length : Int) := by omega
          obtain ⟨bl, ol, hao, hcl⟩ := (RdL.below HRX.out HV.out.2).resolve_left (by intro h; subst h; simp at hml)
          subst hao
          have h3 := hcl m hml
          obtain ⟨q, hq⟩ : ∃ q, q = x1.getD m 0 := ⟨_, rfl⟩
          rw [← hq] at h3
          have HT : Hid (x1.take (m + 1) = x1.take m ++ [q]) := by
            show _ = _
            rw [List.take_succ_eq_append_getElem hml, hq]
            simp [hml]
          clear hcl hq
          by_cases he : q = p
          · subst he
            cases right with
            | true =>
              have HNX : Hid (colS q n true (x1.take (m + 1)) = L ++ [q] ∧ decide (q ∈ x1.take (m + 1)) = true) := by
                refine ⟨?_, ?_⟩
                · rw [HT.out, colS_snoc, ← HLL.out, if_neg (by simp)]
                · rw [HT.out]; simp
              go_wp2_with (at_builtin; refine wpList_append_own _ rfl _ _ 28 rfl W0.heap.size 3 i0 (.int .i64 0) 1 8 Try.underlying28 hi0 hz0 hz1 hz2 rfl (by decide) _ L.length (ints L) rfl (row_below HV.out.1 (below1 _ _)) ⟨wr.heap.size, 0, none⟩ 1 1 [.int .i64 q] rfl rfl (cell_one (at_new _ _)) (by intro u hu; simp at hu; subst hu; rfl) (by unfold maxLen; omega) (by omega) (by have := HV.out.2.size; simp; omega) ?_)
              intro v5 w5 hown5 hg5 _
              have HV1 : Hid (w5.ownsRow W0.heap.size 3 1 v5 (L.length + 1) (ints L ++ [.int .i64 q]) ∧ Below W0.heap.size W0 w5) := ⟨hown5, own_more HV.out.1 HV.out.2.size HV.out.2 hg5⟩
              clear hown5 hg5
              go_wp2
              go_roundw
              case rel =>
                refine ⟨m + 1, by omega, by go_num, ?_, ?_, HV1.out.2, ?_⟩
                · rw [HNX.out.2]
                · rw [HNX.out.1]
                  simpa using HV1.out.1
                · rw [HNX.out.1]
                  simp
                  omega
              case measure => simp [intOf]; omega
            | false =>
              have HNX : Hid (colS q n false (x1.take (m + 1)) = L ++ [q, n] ∧ decide (q ∈ x1.take (m + 1)) = true) := by
                refine ⟨?_, ?_⟩
                · rw [HT.out, colS_snoc, ← HLL.out, if_pos ⟨rfl, rfl⟩]
                · rw [HT.out]; simp
              go_wp2_with (at_builtin; refine wpList_append_own _ rfl _ _ 28 rfl W0.heap.size 3 i0 (.int .i64 0) 1 8 Try.underlying28 hi0 hz0 hz1 hz2 rfl (by decide) _ L.length (ints L) rfl (row_below HV.out.1 (below1 _ _)) ⟨wr.heap.size, 0, none⟩ 1 1 [.int .i64 q] rfl rfl (cell_one (at_new _ _)) (by intro u hu; simp at hu; subst hu; rfl) (by unfold maxLen; omega) (by omega) (by have := HV.out.2.size; simp; omega) ?_)
              intro v5 w5 hown5 hg5 _
              have HV1 : Hid (w5.ownsRow W0.heap.size 3 1 v5 (L.length + 1) (ints L ++ [.int .i64 q]) ∧ Below W0.heap.size W0 w5) := ⟨hown5, own_more HV.out.1 HV.out.2.size HV.out.2 hg5⟩
              clear hown5 hg5
              go_wp2_with (at_builtin; refine wpList_append_own _ rfl _ _ 28 rfl W0.heap.size 3 i0 (.int .i64 0) 1 8 Try.underlying28 hi0 hz0 hz1 hz2 rfl (by decide) _ (L.length + 1) (ints L ++ [.int .i64 q]) rfl (row_below HV1.out.1 (below1 _ _)) ⟨w5.heap.size, 0, none⟩ 1 1 [.int .i64 n] rfl rfl (cell_one (at_new _ _)) (by intro u hu; simp at hu; subst hu; rfl) (by unfold maxLen; omega) (by omega) (by have := HV1.out.2.size; simp; omega) ?_)
              intro v6 w6 hown6 hg6 _
              have HV2 : Hid (w6.ownsRow W0.heap.size 3 1 v6 (L.length + 1 + 1) (ints L ++ [.int .i64 q, .int .i64 n]) ∧ Below W0.heap.size W0 w6) := ⟨hown6, own_more HV1.out.1 HV1.out.2.size HV1.out.2 hg6⟩
              clear hown6 hg6
              go_wp2
              go_roundw
              case rel =>
                refine ⟨m + 1, by omega, by go_num, ?_, ?_, HV2.out.2, ?_⟩
                · rw [HNX.out.2]
                · rw [HNX.out.1]
                  have := HV2.out.1
                  simpa using this
                · rw [HNX.out.1]
                  simp
                  omega
              case measure => simp [intOf]; omega
          · have HNX : Hid (colS p n right (x1.take (m + 1)) = L ++ [q] ∧ decide (p ∈ x1.take (m + 1)) = decide (p ∈ x1.take m)) := by
              refine ⟨?_, ?_⟩
              · rw [HT.out, colS_snoc, ← HLL.out, if_neg (fun h => he h.1)]
              · rw [HT.out, Bool.eq_iff_iff, decide_eq_true_eq, decide_eq_true_eq, List.mem_append, List.mem_singleton]
                exact ⟨fun h => h.resolve_right (fun e => he e.symm), .inl⟩
            have he' : ¬ q = p := he
            go_wp2_with (at_builtin; refine wpList_append_own _ rfl _ _ 28 rfl W0.heap.size 3 i0 (.int .i64 0) 1 8 Try.underlying28 hi0 hz0 hz1 hz2 rfl (by decide) _ L.length (ints L) rfl (row_below HV.out.1 (below1 _ _)) ⟨wr.heap.size, 0, none⟩ 1 1 [.int .i64 q] rfl rfl (cell_one (at_new _ _)) (by intro u hu; simp at hu; subst hu; rfl) (by unfold maxLen; omega) (by omega) (by have := HV.out.2.size; simp; omega) ?_)
            intro v5 w5 hown5 hg5 _
            have HV1 : Hid (w5.ownsRow W0.heap.size 3 1 v5 (L.length + 1) (ints L ++ [.int .i64 q]) ∧ Below W0.heap.size W0 w5) := ⟨hown5, own_more HV.out.1 HV.out.2.size HV.out.2 hg5⟩
            clear hown5 hg5
            go_wp2
            go_roundw
            case rel =>
              refine ⟨m + 1, by omega, by go_num, ?_, ?_, HV1.out.2, ?_⟩
              · rw [HNX.out.2]
              · rw [HNX.out.1]
                simpa using HV1.out.1
              · rw [HNX.out.1]
                simp
                omega
            case measure => simp [intOf]; omega
        · have hge : (x1.length : Int) ≤ (m : Int) := by omega
          have hLx : L = colS p n right x1 := by rw [HLL.out, List.take_of_length_le (by omega)]
          have hpx : decide (p ∈ x1.take m) = decide (p ∈ x1) := by rw [List.take_of_length_le (by omega)]
          rw [hpx]
          have HIr : Hid (OInv w its (some ⟨b, off, none⟩) cap w4.heap.size done v wr) := HI.out.next HV.out.2
          have hsh := row_shape HV.out.1
          obtain ⟨ao, c, rfl⟩ := hsh
          have hcase := HL.out k hkc
          rw [HXC.out, ← hLx] at hcase
          have HLX : Hid (L = colS p n right x1) := hLx
          clear a1 a2 a3 a4 a5 a6 hLx hpx
          obtain ⟨a1, a2⟩ := one HIr.out.box
          obtain ⟨a3, a4⟩ := one HIr.out.res
          obtain ⟨a5, a6⟩ := one HIr.out.out
          rcases hcase with ⟨hL3, hnf⟩ | ⟨hfl, hL4⟩
          · have hL3' : ((L.length : Nat) : Int) ≤ 3 := by omega
            have HNF : Hid ((right = false ∧ ((colsOf its).getD i0' []).length = 3) → k + 1 ≤ i0') := by
              intro h
              have h1 := HKI.out h
              have h2 : i0' ≠ k := fun e => hnf ⟨h.1, e, h.2⟩
              omega
            have HNS : Hid (outS p n right ((colsOf its).take (k + 1)) = outS p n right ((colsOf its).take k) ++ L :: (if right = true ∧ p ∈ x1 then [[n]] else [])) := by
              show _ = _
              rw [List.take_succ_eq_append_getElem hkc, outS_snoc, HXC.out, ← HLX.out]
            clear hnf
            by_cases hpx : p ∈ x1
            · rw [decide_eq_true hpx]
              cases right with
              | true =>
                go_wp2_with (at_builtin; refine wpList_append_own _ rfl _ _ 39 rfl (w4.heap.size + 1) 28 i1 (.slice none 0 0) 1 24 Try.underlying39 hj1 hy0 hy1 hy2 rfl (by decide) _ done.length (done.map cv) rfl (row_below HIr.out.row (below1 _ _)) ⟨wr.heap.size, 0, none⟩ 1 1 [.slice ao L.length c] rfl rfl (cell_one (at_new _ _)) (by intro u hu; simp at hu; subst hu; rfl) (by unfold maxLen; omega) (by omega) (by have := HV.out.2.size; simp; omega) ?_)
                intro v7 w7 hown7 hg7 _
                have hs7 := row_shape hown7
                obtain ⟨c7, k7, rfl⟩ := hs7
                have HP1 : Hid (OInv w its (some ⟨b, off, none⟩) cap w4.heap.size (done ++ [(L, ao, c)]) (.slice c7 (done.length + 1) k7) (w7.setCell ⟨w4.heap.size, 0, none⟩ (.slice c7 (done.length + 1) k7))) := HIr.out.push (L, ao, c) (row_less HV.out.1 (by omega)) hown7 hg7
                have q7 := HIr.out.out2 hg7
                clear a1 a2 a3 a4 a5 a6
                obtain ⟨a5, a6⟩ := one q7
                have hs8 : w4.heap.size < w7.heap.size := at_lt q7
                clear hown7 hg7 q7
                have z7 : (w7.setCell ⟨w4.heap.size, 0, none⟩ (.slice c7 (done.length + 1) k7)).heap.size = w7.heap.size := by simp [World.setCell]
                have HV7 : Hid (∀ o, ((w7.setCell ⟨w4.heap.size, 0, none⟩ (.slice c7 (done.length + 1) k7)).alloc o).heap[w7.heap.size]? = some o) := fun o => by
                  have := at_new (w7.setCell ⟨w4.heap.size, 0, none⟩ (.slice c7 (done.length + 1) k7)) o
                  rw [z7] at this
                  exact this
                have HV8 : Hid (∀ o o', (((w7.setCell ⟨w4.heap.size, 0, none⟩ (.slice c7 (done.length + 1) k7)).alloc o).alloc o').heap[w7.heap.size + 1]? = some o') := fun o o' => by
                  have := at_new1 (w7.setCell ⟨w4.heap.size, 0, none⟩ (.slice c7 (done.length + 1) k7)) o o'
                  rw [z7] at this
                  exact this
                have HB8 : Hid (w4.heap.size + 1 ≤ (w7.setCell ⟨w4.heap.size, 0, none⟩ (.slice c7 (done.length + 1) k7)).heap.size) := by show _ ≤ _; rw [z7]; omega
                clear z7
                go_wp2_with (at_builtin; refine wpList_append_own _ rfl _ _ 39 rfl (w4.heap.size + 1) 28 i1 (.slice none 0 0) 1 24 Try.underlying39 hj1 hy0 hy1 hy2 rfl (by decide) _ (done.length + 1) ((done ++ [(L, ao, c)]).map cv) rfl (row_two HP1.out) ⟨w7.heap.size + 1, 0, none⟩ 1 1 [.slice (some ⟨w7.heap.size, 0, none⟩) 1 1] rfl rfl (cell_one (HV8.out _ _)) (by intro u hu; simp at hu; subst hu; rfl) (by unfold maxLen; omega) (by omega) (by have := HB8.out; simp; omega) ?_)
                intro v9 w9 hown9 hg9 _
                have hs9 := row_shape hown9
                obtain ⟨c9, k9, rfl⟩ := hs9
                have hlen : (done ++ [(L, ao, c)]).length = done.length + 1 := by simp
                have HP1b : Hid (OInv w its (some ⟨b, off, none⟩) cap w4.heap.size (done ++ [(L, ao, c)]) (.slice c7 (done.length + 1) k7) ((w7.setCell ⟨w4.heap.size, 0, none⟩ (.slice c7 (done.length + 1) k7)).alloc (.cells #[.int .i64 n] 3))) := HP1.out.next (below1 _ _)
                have HP2 : Hid (OInv w its (some ⟨b, off, none⟩) cap w4.heap.size (done ++ [(L, ao, c)] ++ [([n], some ⟨w7.heap.size, 0, none⟩, 1)]) (.slice c9 (done.length + 1 + 1) k9) (w9.setCell ⟨w4.heap.size, 0, none⟩ (.slice c9 (done.length + 1 + 1) k9))) :=
                  HP1b.out.push ([n], some ⟨w7.heap.size, 0, none⟩, 1) (own_single' (HV7.out _) (by omega)) (by rw [hlen, List.map_append, List.append_assoc]; exact hown9) hg9
                have q9 := HP1b.out.out2 hg9
                clear a5 a6
                obtain ⟨a5, a6⟩ := one q9
                clear hown9 hg9 q9 hlen
                go_wp2
                go_roundw
                case rel =>
                  refine ⟨k + 1, done ++ [(L, ao, c)] ++ [([n], some ⟨w7.heap.size, 0, none⟩, 1)], _, by omega, by go_num, HP2.out, ?_, by simp; omega, HNF.out⟩
                  rw [HNS.out, if_pos ⟨by first | rfl | trivial, hpx⟩, ← HC.out]
                  simp [colsOf]
                case measure => simp [intOf]; omega
              | false =>
                go_wp2_with (at_builtin; refine wpList_append_own _ rfl _ _ 39 rfl (w4.heap.size + 1) 28 i1 (.slice none 0 0) 1 24 Try.underlying39 hj1 hy0 hy1 hy2 rfl (by decide) _ done.length (done.map cv) rfl (row_below HIr.out.row (below1 _ _)) ⟨wr.heap.size, 0, none⟩ 1 1 [.slice ao L.length c] rfl rfl (cell_one (at_new _ _)) (by intro u hu; simp at hu; subst hu; rfl) (by unfold maxLen; omega) (by omega) (by have := HV.out.2.size; simp; omega) ?_)
                intro v7 w7 hown7 hg7 _
                have hs7 := row_shape hown7
                obtain ⟨c7, k7, rfl⟩ := hs7
                have HP1 : Hid (OInv w its (some ⟨b, off, none⟩) cap w4.heap.size (done ++ [(L, ao, c)]) (.slice c7 (done.length + 1) k7) (w7.setCell ⟨w4.heap.size, 0, none⟩ (.slice c7 (done.length + 1) k7))) := HIr.out.push (L, ao, c) (row_less HV.out.1 (by omega)) hown7 hg7
                have q7 := HIr.out.out2 hg7
                clear a1 a2 a3 a4 a5 a6
                obtain ⟨a5, a6⟩ := one q7
                have hs8 : w4.heap.size < w7.heap.size := at_lt q7
                clear hown7 hg7 q7
                go_wp2
                go_roundw
                case rel =>
                  refine ⟨k + 1, done ++ [(L, ao, c)], _, by omega, by go_num, HP1.out, ?_, by simp; omega, HNF.out⟩
                  rw [HNS.out, if_neg (by first | (intro h; exact absurd h.1 (by decide)) | (intro h; exact hpx h.2)), ← HC.out]
                  simp [colsOf]
                case measure => simp [intOf]; omega
            · rw [decide_eq_false hpx]
              go_wp2_with (at_builtin; refine wpList_append_own _ rfl _ _ 39 rfl (w4.heap.size + 1) 28 i1 (.slice none 0 0) 1 24 Try.underlying39 hj1 hy0 hy1 hy2 rfl (by decide) _ done.length (done.map cv) rfl (row_below HIr.out.row (below1 _ _)) ⟨wr.heap.size, 0, none⟩ 1 1 [.slice ao L.length c] rfl rfl (cell_one (at_new _ _)) (by intro u hu; simp at hu; subst hu; rfl) (by unfold maxLen; omega) (by omega) (by have := HV.out.2.size; simp; omega) ?_)
              intro v7 w7 hown7 hg7 _
              have hs7 := row_shape hown7
              obtain ⟨c7, k7, rfl⟩ := hs7
              have HP1 : Hid (OInv w its (some ⟨b, off, none⟩) cap w4.heap.size (done ++ [(L, ao, c)]) (.slice c7 (done.length + 1) k7) (w7.setCell ⟨w4.heap.size, 0, none⟩ (.slice c7 (done.length + 1) k7))) := HIr.out.push (L, ao, c) (row_less HV.out.1 (by omega)) hown7 hg7
              have q7 := HIr.out.out2 hg7
              clear a1 a2 a3 a4 a5 a6
              obtain ⟨a5, a6⟩ := one q7
              have hs8 : w4.heap.size < w7.heap.size := at_lt q7
              clear hown7 hg7 q7
              go_wp2
              go_roundw
              case rel =>
                refine ⟨k + 1, done ++ [(L, ao, c)], _, by omega, by go_num, HP1.out, ?_, by simp; omega, HNF.out⟩
                rw [HNS.out, if_neg (by first | (intro h; exact absurd h.1 (by decide)) | (intro h; exact hpx h.2)), ← HC.out]
                simp [colsOf]
              case measure => simp [intOf]; omega
          · obtain ⟨e1, e2, e3⟩ := hfl
            have HZ : Hid (r = (colsOf its, 5)) := HFULL.out ⟨e1, e3⟩
            have hL4' : (3 : Int) < ((L.length : Nat) : Int) := by omega
            subst e1
            go_wp2
            refine bodyPost_ret (v := .tuple #[tval (some ⟨b, off, none⟩) its.length cap, .int .i64 5]) (by simp [results, Try.results17, go_sem, *]) rfl ?_
            exact back_same HIr.out.old HIr.out.below 5 r HZ.out
    · have hge : (its.length : Int) ≤ (k : Int) := by omega
      have HZ : Hid (r = (colsOf done, 0)) := by
        show r = _
        have e : ¬ (right = false ∧ ((colsOf its).getD i0' []).length = 3) := fun h => by have := HKI.out h; omega
        rw [HRES.out e, HC.out, List.take_of_length_le (by simp; omega)]
      have hsh := row_shape HI.out.row
      obtain ⟨c2, k2, rfl⟩ := hsh
      go_wp2
      refine bodyPost_ret (v := .tuple #[tval c2 done.length k2, .int .i64 0]) (by simp [results, Try.results17, go_sem, *]) rfl ?_
      exact HI.out.fin r HZ.out

theorem splitR_any (its : List CIt) (co : Option Addr) (cap : Nat) (p n : Int) (right : Bool) (w : World) (hr : RdT w co its) (hm : its.length ≤ 5864062014805) (hm2 : ∀ x ∈ its, x.1.length ≤ 17592186044416) (r : List (List Int) × Int) (hrr : r = splitT (colsOf its) p n right) :
    Calls Try.prog 17 #[tval co its.length cap, .int .i64 p, .int .i64 n, .bool right] w (SpEnd w r) := by
  cases hgd : goodT (colsOf its) with
  | false => exact splitR_stops its co cap p n right w hr hm hm2 r hrr (.inl hgd)
  | true =>
    cases hpn : paneB n with
    | false => exact splitR_stops its co cap p n right w hr hm hm2 r hrr (.inr (.inl ⟨hgd, hpn⟩))
    | true =>
      cases hfd : findT p (colsOf its) with
      | none => exact splitR_stops its co cap p n right w hr hm hm2 r hrr (.inr (.inr (.inl ⟨hgd, hpn, hfd⟩)))
      | some x =>
        obtain ⟨i, j⟩ := x
        cases hhs : hasT (colsOf its) n with
        | true => exact splitR_stops its co cap p n right w hr hm hm2 r hrr (.inr (.inr (.inr ⟨hgd, hpn, by unfold hasT; rw [hfd]; rfl, hhs⟩)))
        | false => exact splitR_goes its co cap p n right w hr hm hm2 r hrr hgd hpn i j hfd hhs

end Go.Proofs.Ytmdlbclaipajlab.Tl
