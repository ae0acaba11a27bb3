/- The document's own kill. -/
import Derived.Test.YtmdlbclaipajlabTRef7
namespace Go.Proofs.Ytmdlbclaipajlab.Tl
open Go.RowKit

theorem own_more9 {w w2 : World} {base n : Nat} {v : Value} {xs : List Value} {e : TypeId} (h : w.ownsRow base e 1 v n xs) (hb : base ≤ w.heap.size) {W0 : World} (hB : Below base W0 w) {o : Obj} (hg : (w.alloc o).grownBy w2 v.ownBlock) : Below base W0 w2 :=
  (hB.alloc hb o).grown hg (by simp; omega) (fun j hj => own_ge h hj)

theorem one_flat {cols : List (List Int)} {p : Int} {i j : Nat} (ok : OkT cols) (hf : findT p cols = some (i, j)) : cols.flatten.length = 1 ↔ ((cols.getD i []).length = 1 ∧ cols.length = 1) := by
  obtain ⟨hi, hj, _⟩ := findT_get hf
  have hg : cols.getD i [] = cols[i] := by
    rw [List.getD_eq_getElem?_getD, List.getElem?_eq_getElem hi]
    rfl
  rw [hg]
  have hl := flat_len cols (fun c hc => (ok.tall c hc).1)
  constructor
  · intro h
    have h1 : cols.length = 1 := by omega
    match cols, h1 with
    | [c], _ =>
      have : i = 0 := by simp at hi; omega
      subst this
      simpa using h
  · rintro ⟨h1, h2⟩
    match cols, h2 with
    | [c], _ =>
      have : i = 0 := by simp at hi; omega
      subst this
      simpa using h1

theorem killT_is {cols : List (List Int)} {p : Int} {i j : Nat} (hg : goodT cols = true) (hf : findT p cols = some (i, j)) : killT cols p = if cols.flatten.length = 1 then (cols, 5) else (outK p cols, 0) := by
  have ok := (goodT_iff _).1 hg
  obtain ⟨hi, hj, _⟩ := findT_get hf
  have h1 := one_flat ok hf
  have hgd : cols.getD i [] = cols[i] := by
    rw [List.getD_eq_getElem?_getD, List.getElem?_eq_getElem hi]
    rfl
  have hk := outK_is ok hf hi
  unfold killT
  rw [if_neg (by simp [hg]), hf]
  simp only
  rw [hgd] at h1 ⊢
  rw [hk]
  by_cases e1 : cols[i].length = 1
  · by_cases e2 : cols.length = 1
    · rw [if_pos e1, if_pos e2, if_pos (h1.2 ⟨e1, e2⟩)]
    · rw [if_pos e1, if_neg e2, if_neg (fun h => e2 (h1.1 h).2), if_pos e1]
  · rw [if_neg e1, if_neg (fun h => e1 (h1.1 h).1), if_neg e1]

set_option maxHeartbeats 4000000 in
set_option maxRecDepth 100000 in
theorem killR_stops (its : List CIt) (co : Option Addr) (cap : Nat) (p : Int) (w : World) (hr : RdT w co its) (hm : its.length ≤ 5864062014805) (hm2 : ∀ x ∈ its, x.1.length ≤ 17592186044416) (r : List (List Int) × Int) (hrr : r = killT (colsOf its) p)
    (h : goodT (colsOf its) = false ∨ (goodT (colsOf its) = true ∧ findT p (colsOf its) = none) ∨ (goodT (colsOf its) = true ∧ hasT (colsOf its) p = true ∧ (colsOf its).flatten.length = 1)) :
    Calls Try.prog 19 #[tval co its.length cap, .int .i64 p] w (SpEnd w r) := by
  have HJ0 : Hid (JInv w its co cap ((w.alloc (tbox co its.length cap)).alloc (tbox none 0 0))) := jinv_start hr
  have HR : Hid (RdT w co its) := hr
  rcases h with h | ⟨h1, h3⟩ | ⟨h1, h3, h4⟩
  · have HRR : Hid (r = (colsOf its, 1)) := by show r = _; rw [hrr]; simp [killT, h]
    have HGA : Hid (∀ W, RdT W co its → Calls Try.prog 22 #[tval co its.length cap] W fun e w' => e = .returned (.bool false) ∧ Below W.heap.size W w') := fun W hw => goodR_any its co cap W hw hm hm2 false h.symm
    clear hr hm2 hrr h hm
    go_enter Try.func19, Try.ntmps19
    go_wp2_with (first
      | (go_at_call 22; refine (HGA.out _ HJ0.out.rd).mono ?_; rintro e w1 ⟨rfl, hb1⟩; have HJ1 : Hid (JInv w its co cap w1) := HJ0.out.next hb1; clear hb1; obtain ⟨a1, a2⟩ := one HJ1.out.box; obtain ⟨a3, a4⟩ := one HJ1.out.res)
      | fail)
    refine bodyPost_ret (v := .tuple #[tval co its.length cap, .int .i64 1]) (by simp [results, Try.results19, go_sem, *]) rfl ?_
    exact back_same HR.out HJ1.out.below 1 r HRR.out
  · have HRR : Hid (r = (colsOf its, 3)) := by show r = _; rw [hrr]; simp [killT, h1, h3]
    have hgf := good_flat h1
    have HH1 : Hid (∀ W, RdT W co its → Calls Try.prog 24 #[tval co its.length cap, .int .i64 p] W fun e w' => e = .returned (.bool false) ∧ Below W.heap.size W w') := fun W h => hasR_any its co cap p W h hm hgf.2.1 false (by unfold hasT; rw [h3]; rfl)
    have HGA : Hid (∀ W, RdT W co its → Calls Try.prog 22 #[tval co its.length cap] W fun e w' => e = .returned (.bool true) ∧ Below W.heap.size W w') := fun W hw => goodR_any its co cap W hw hm hm2 true h1.symm
    clear hr hm2 hrr h1 hm h3 hgf
    go_enter Try.func19, Try.ntmps19
    go_wp2_with (first
      | (go_at_call 22; refine (HGA.out _ HJ0.out.rd).mono ?_; rintro e w1 ⟨rfl, hb1⟩; have HJ1 : Hid (JInv w its co cap w1) := HJ0.out.next hb1; clear hb1; obtain ⟨a1, a2⟩ := one HJ1.out.box; obtain ⟨a3, a4⟩ := one HJ1.out.res)
      | (go_at_call 24; refine (HH1.out _ HJ1.out.rd).mono ?_; rintro e w3 ⟨rfl, hb3⟩; have HJ3 : Hid (JInv w its co cap w3) := HJ1.out.next hb3; clear hb3 a1 a2 a3 a4; obtain ⟨a1, a2⟩ := one HJ3.out.box; obtain ⟨a3, a4⟩ := one HJ3.out.res)
      | fail)
    refine bodyPost_ret (v := .tuple #[tval co its.length cap, .int .i64 3]) (by simp [results, Try.results19, go_sem, *]) rfl ?_
    exact back_same HR.out HJ3.out.below 3 r HRR.out
  · have HRR : Hid (r = (colsOf its, 5)) := by
      show r = _
      rw [hrr]
      cases hf : findT p (colsOf its) with
      | none => unfold hasT at h3; rw [hf] at h3; cases h3
      | some x => rw [killT_is h1 hf, if_pos h4]
    have hgf := good_flat h1
    have HH1 : Hid (∀ W, RdT W co its → Calls Try.prog 24 #[tval co its.length cap, .int .i64 p] W fun e w' => e = .returned (.bool true) ∧ Below W.heap.size W w') := fun W h => hasR_any its co cap p W h hm hgf.2.1 true h3.symm
    have HAL : Hid (∀ W, RdT W co its → Calls Try.prog 50 #[tval co its.length cap] W fun e w' => ∃ ao c, e = .returned (.slice ao 1 c) ∧ Below W.heap.size W w') := by
      intro W h
      refine (all_any its co cap W h hm hgf.2.1 _ rfl).mono ?_
      rintro e w' ⟨ao, c, rfl, _, hb⟩
      exact ⟨ao, c, by rw [h4], hb⟩
    have HGA : Hid (∀ W, RdT W co its → Calls Try.prog 22 #[tval co its.length cap] W fun e w' => e = .returned (.bool true) ∧ Below W.heap.size W w') := fun W hw => goodR_any its co cap W hw hm hm2 true h1.symm
    clear hr hm2 hrr h1 hm h3 h4 hgf
    go_enter Try.func19, Try.ntmps19
    go_wp2_with (first
      | (go_at_call 22; refine (HGA.out _ HJ0.out.rd).mono ?_; rintro e w1 ⟨rfl, hb1⟩; have HJ1 : Hid (JInv w its co cap w1) := HJ0.out.next hb1; clear hb1; obtain ⟨a1, a2⟩ := one HJ1.out.box; obtain ⟨a3, a4⟩ := one HJ1.out.res)
      | (go_at_call 24; refine (HH1.out _ HJ1.out.rd).mono ?_; rintro e w3 ⟨rfl, hb3⟩; have HJ3 : Hid (JInv w its co cap w3) := HJ1.out.next hb3; clear hb3 a1 a2 a3 a4; obtain ⟨a1, a2⟩ := one HJ3.out.box; obtain ⟨a3, a4⟩ := one HJ3.out.res)
      | (go_at_call 50; refine (HAL.out _ HJ3.out.rd).mono ?_; rintro e w4 ⟨ao, c, rfl, hb4⟩; have HJ4 : Hid (JInv w its co cap w4) := HJ3.out.next hb4; clear hb4 a1 a2 a3 a4; obtain ⟨a1, a2⟩ := one HJ4.out.box; obtain ⟨a3, a4⟩ := one HJ4.out.res)
      | fail)
    refine bodyPost_ret (v := .tuple #[tval co its.length cap, .int .i64 5]) (by simp [results, Try.results19, go_sem, *]) rfl ?_
    exact back_same HR.out HJ4.out.below 5 r HRR.out

set_option maxHeartbeats 4000000 in
set_option maxRecDepth 100000 in
theorem killR_goes (its : List CIt) (co : Option Addr) (cap : Nat) (p : Int) (w : World) (hr : RdT w co its) (hm : its.length ≤ 5864062014805) (hm2 : ∀ x ∈ its, x.1.length ≤ 17592186044416) (r : List (List Int) × Int) (hrr : r = killT (colsOf its) p)
    (h1 : goodT (colsOf its) = true) (h3 : hasT (colsOf its) p = true) (h4 : (colsOf its).flatten.length ≠ 1) :
    Calls Try.prog 19 #[tval co its.length cap, .int .i64 p] w (SpEnd w r) := by
  obtain ⟨i0, hi0, hz0, hz1, hz2⟩ := info_parts info3
  obtain ⟨i1, hj1, hy0, hy1, hy2⟩ := info_parts infoL
  have hgf := good_flat h1
  have HJ0 : Hid (JInv w its co cap ((w.alloc (tbox co its.length cap)).alloc (tbox none 0 0))) := jinv_start hr
  have HR : Hid (RdT w co its) := hr
  have HGA : Hid (∀ W, RdT W co its → Calls Try.prog 22 #[tval co its.length cap] W fun e w' => e = .returned (.bool true) ∧ Below W.heap.size W w') := fun W h => goodR_any its co cap W h hm hm2 true h1.symm
  have HH1 : Hid (∀ W, RdT W co its → Calls Try.prog 24 #[tval co its.length cap, .int .i64 p] W fun e w' => e = .returned (.bool true) ∧ Below W.heap.size W w') := fun W h => hasR_any its co cap p W h hm hgf.2.1 true h3.symm
  obtain ⟨F, hF⟩ : ∃ F, F = (colsOf its).flatten.length := ⟨_, rfl⟩
  have hF1 : (((F : Nat) : Int) == 1) = false := by simp; omega
  have HAL : Hid (∀ W, RdT W co its → Calls Try.prog 50 #[tval co its.length cap] W fun e w' => ∃ ao c, e = .returned (.slice ao F c) ∧ Below W.heap.size W w') := by
    intro W h
    refine (all_any its co cap W h hm hgf.2.1 _ rfl).mono ?_
    rintro e w' ⟨ao, c, rfl, _, hb⟩
    exact ⟨ao, c, by rw [hF], hb⟩
  have HRES : Hid (r = (outK p (colsOf its), 0)) := by
    show r = _
    rw [hrr]
    cases hf : findT p (colsOf its) with
    | none => unfold hasT at h3; rw [hf] at h3; cases h3
    | some x => rw [killT_is h1 hf, if_neg h4]
  have hn6 := hgf.1
  have HX3 : Hid (∀ x ∈ its, x.1.length ≤ 3) := hgf.2.2
  clear hr hm2 hrr h1 h3 h4 hgf hF
  go_enter Try.func19, Try.ntmps19
  go_wp2_with (first
    | (go_at_call 22; refine (HGA.out _ HJ0.out.rd).mono ?_; rintro e w1 ⟨rfl, hb1⟩; have HJ1 : Hid (JInv w its co cap w1) := HJ0.out.next hb1; clear hb1; obtain ⟨a1, a2⟩ := one HJ1.out.box; obtain ⟨a3, a4⟩ := one HJ1.out.res)
    | (go_at_call 24; refine (HH1.out _ HJ1.out.rd).mono ?_; rintro e w3 ⟨rfl, hb3⟩; have HJ3 : Hid (JInv w its co cap w3) := HJ1.out.next hb3; clear hb3 a1 a2 a3 a4; obtain ⟨a1, a2⟩ := one HJ3.out.box; obtain ⟨a3, a4⟩ := one HJ3.out.res)
    | (go_at_call 50; refine (HAL.out _ HJ3.out.rd).mono ?_; rintro e w4 ⟨ao, c, rfl, hb4⟩; have HJ4 : Hid (JInv w its co cap w4) := HJ3.out.next hb4; clear hb4 a1 a2 a3 a4; obtain ⟨a1, a2⟩ := one (at_old HJ4.out.box (vbox (.slice none 0 0))))
    | fail)
  have HO0 : Hid (OInv w its co cap w4.heap.size [] (.slice none 0 0) (w4.alloc (vbox (.slice none 0 0)))) := HJ4.out.make HR.out
  clear a1 a2 HJ0 HJ1 HJ3 HGA HH1 HAL hF1
  go_loopw [29] (fun i wr => ∃ (k : Nat) (done : List CIt) (v : Value), k ≤ its.length ∧ i = .int .i64 k ∧ OInv w its co cap w4.heap.size done v wr ∧ colsOf done = outK p ((colsOf its).take k) ∧ done.length ≤ k) (fun i _ => its.length - (intOf i).toNat)
  case atStart => exact ⟨0, [], _, Nat.zero_le _, rfl, HO0.out, rfl, by simp⟩
  case round =>
    obtain ⟨k, done, v, hk, rfl, hinv, hcols, hdl⟩ := hrel
    have HI : Hid (OInv w its co cap w4.heap.size done v wr) := hinv
    have HC : Hid (colsOf done = outK p ((colsOf its).take k)) := hcols
    obtain ⟨a1, a2⟩ := one HI.out.box
    obtain ⟨a3, a4⟩ := one HI.out.res
    obtain ⟨a5, a6⟩ := one HI.out.out
    have hOw : w4.heap.size < wr.heap.size := at_lt HI.out.out
    clear hinv hcols HO0
    by_cases hlt : k < its.length
    · have hlt' : (k : Int) < (its.length : Int) := by omega
      obtain ⟨b, off, rfl, hc⟩ := HI.out.rd.row.resolve_left (by intro h; subst h; simp at hlt)
      have h0 := hc k hlt
      obtain ⟨⟨x1, x2, x3⟩, hx⟩ : ∃ x, x = its[k] := ⟨_, rfl⟩
      rw [← hx] at h0
      have h1 : wr.cell? ⟨b, off + k, none⟩ = some (.slice x2 x1.length x3) := h0
      have hmem : (x1, x2, x3) ∈ its := by rw [hx]; exact List.getElem_mem hlt
      have hxl := HX3.out _ hmem
      have HRX : Hid (RdL wr x2 x1) := (HI.out.rd.each _ hmem).1
      have hkc : k < (colsOf its).length := by simpa using hlt
      have HXC : Hid ((colsOf its)[k] = x1) := by show _ = _; simp [← hx]
      simp only at hxl
      clear hc h0 hx hmem
      obtain ⟨W0, rfl⟩ : ∃ W0, W0 = wr := ⟨_, rfl⟩
      go_wp2
      go_loopw [9, 35] (fun v9 i wi => ∃ m : Nat, m ≤ x1.length ∧ i = .int .i64 m ∧ wi.ownsRow W0.heap.size 3 1 v9 (colK p (x1.take m)).length (ints (colK p (x1.take m))) ∧ Below W0.heap.size W0 wi ∧ (colK p (x1.take m)).length ≤ m) (fun _ i _ => x1.length - (intOf i).toNat)
      case atStart => exact ⟨0, Nat.zero_le _, rfl, by simpa [colK] using World.ownsRow_nil _ _ _ _, Below.refl _ _, by simp [colK]⟩
      case round =>
        obtain ⟨m, hmx, rfl, hown, hbel, hL2⟩ := hrel
        obtain ⟨L, hL⟩ : ∃ L, L = colK p (x1.take m) := ⟨_, rfl⟩
        rw [← hL] at hown hL2
        have HV : Hid (wr.ownsRow W0.heap.size 3 1 u9 L.length (ints L) ∧ Below W0.heap.size W0 wr) := ⟨hown, hbel⟩
        have HLL : Hid (L = colK p (x1.take m)) := hL
        clear hown hbel hL
        by_cases hml : m < x1.length
        · have hml' : (m : Int) < (x1.length : Int) := by omega
          obtain ⟨bl, ol, hao, hcl⟩ := (RdL.below HRX.out HV.out.2).resolve_left (by intro h; subst h; simp at hml)
          subst hao
          have h3 := hcl m hml
          obtain ⟨q, hq⟩ : ∃ q, q = x1.getD m 0 := ⟨_, rfl⟩
          rw [← hq] at h3
          have HT : Hid (x1.take (m + 1) = x1.take m ++ [q]) := by
            show _ = _
            rw [List.take_succ_eq_append_getElem hml, hq]
            simp [hml]
          clear hcl hq
          by_cases he : q = p
          · subst he
            have HNX : Hid (colK q (x1.take (m + 1)) = L) := by
              show _ = _
              rw [HT.out, colK_snoc, ← HLL.out, if_pos rfl, List.append_nil]
            go_wp2
            go_roundw
            case rel =>
              refine ⟨m + 1, by omega, by go_num, ?_, HV.out.2, ?_⟩
              · rw [HNX.out]
                exact HV.out.1
              · rw [HNX.out]
                omega
            case measure => simp [intOf]; omega
          · have HNX : Hid (colK p (x1.take (m + 1)) = L ++ [q]) := by
              show _ = _
              rw [HT.out, colK_snoc, ← HLL.out, if_neg he]
            have he' : ¬ q = p := he
            go_wp2_with (at_builtin; refine wpList_append_own _ rfl _ _ 28 rfl W0.heap.size 3 i0 (.int .i64 0) 1 8 Try.underlying28 hi0 hz0 hz1 hz2 rfl (by decide) _ L.length (ints L) rfl (row_below HV.out.1 (below1 _ _)) ⟨wr.heap.size, 0, none⟩ 1 1 [.int .i64 q] rfl rfl (cell_one (at_new _ _)) (by intro u hu; simp at hu; subst hu; rfl) (by unfold maxLen; omega) (by omega) (by have := HV.out.2.size; simp; omega) ?_)
            intro v5 w5 hown5 hg5 _
            have HV1 : Hid (w5.ownsRow W0.heap.size 3 1 v5 (L.length + 1) (ints L ++ [.int .i64 q]) ∧ Below W0.heap.size W0 w5) := ⟨hown5, own_more9 HV.out.1 HV.out.2.size HV.out.2 hg5⟩
            clear hown5 hg5
            go_wp2
            go_roundw
            case rel =>
              refine ⟨m + 1, by omega, by go_num, ?_, HV1.out.2, ?_⟩
              · rw [HNX.out]
                simpa using HV1.out.1
              · rw [HNX.out]
                simp
                omega
            case measure => simp [intOf]; omega
        · have hge : (x1.length : Int) ≤ (m : Int) := by omega
          have hLx : L = colK p x1 := by rw [HLL.out, List.take_of_length_le (by omega)]
          have HIr : Hid (OInv w its (some ⟨b, off, none⟩) cap w4.heap.size done v wr) := HI.out.next HV.out.2
          have hsh := row_shape HV.out.1
          obtain ⟨ao, c, rfl⟩ := hsh
          have HNS : Hid (outK p ((colsOf its).take (k + 1)) = outK p ((colsOf its).take k) ++ (if L = [] then [] else [L])) := by
            show _ = _
            rw [List.take_succ_eq_append_getElem hkc, outK_snoc, HXC.out, ← hLx]
          clear a1 a2 a3 a4 a5 a6 hLx
          obtain ⟨a1, a2⟩ := one HIr.out.box
          obtain ⟨a3, a4⟩ := one HIr.out.res
          obtain ⟨a5, a6⟩ := one HIr.out.out
          by_cases hL0 : L.length = 0
          · have hLn : L = [] := List.length_eq_zero_iff.1 hL0
            have hL0' : ((L.length : Nat) : Int) ≤ 0 := by omega
            have HLN : Hid (L = []) := hLn
            clear hLn hL0
            go_wp2
            go_roundw
            case rel =>
              refine ⟨k + 1, done, v, by omega, by go_num, HIr.out, ?_, by omega⟩
              rw [HNS.out, if_pos HLN.out, List.append_nil, HC.out]
            case measure => simp [intOf]; omega
          · have hL0' : (0 : Int) < ((L.length : Nat) : Int) := by omega
            have HLN : Hid (L ≠ []) := by show L ≠ []; intro e; rw [e] at hL0; simp at hL0
            go_wp2_with (at_builtin; refine wpList_append_own _ rfl _ _ 39 rfl (w4.heap.size + 1) 28 i1 (.slice none 0 0) 1 24 Try.underlying39 hj1 hy0 hy1 hy2 rfl (by decide) _ done.length (done.map cv) rfl (row_below HIr.out.row (below1 _ _)) ⟨wr.heap.size, 0, none⟩ 1 1 [.slice ao L.length c] rfl rfl (cell_one (at_new _ _)) (by intro u hu; simp at hu; subst hu; rfl) (by unfold maxLen; omega) (by omega) (by have := HV.out.2.size; simp; omega) ?_)
            intro v7 w7 hown7 hg7 _
            have hs7 := row_shape hown7
            obtain ⟨c7, k7, rfl⟩ := hs7
            have HP1 : Hid (OInv w its (some ⟨b, off, none⟩) cap w4.heap.size (done ++ [(L, ao, c)]) (.slice c7 (done.length + 1) k7) (w7.setCell ⟨w4.heap.size, 0, none⟩ (.slice c7 (done.length + 1) k7))) := HIr.out.push (L, ao, c) (row_less HV.out.1 (by omega)) hown7 hg7
            have q7 := HIr.out.out2 hg7
            clear a1 a2 a3 a4 a5 a6
            obtain ⟨a5, a6⟩ := one q7
            clear hown7 hg7 q7
            go_wp2
            go_roundw
            case rel =>
              refine ⟨k + 1, done ++ [(L, ao, c)], _, by omega, by go_num, HP1.out, ?_, by simp; omega⟩
              rw [HNS.out, if_neg HLN.out, ← HC.out]
              simp [colsOf]
            case measure => simp [intOf]; omega
    · have hge : (its.length : Int) ≤ (k : Int) := by omega
      have HZ : Hid (r = (colsOf done, 0)) := by
        show r = _
        rw [HRES.out, HC.out, List.take_of_length_le (by simp; omega)]
      have hsh := row_shape HI.out.row
      obtain ⟨c2, k2, rfl⟩ := hsh
      go_wp2
      refine bodyPost_ret (v := .tuple #[tval c2 done.length k2, .int .i64 0]) (by simp [results, Try.results19, go_sem, *]) rfl ?_
      exact HI.out.fin r HZ.out

theorem killR_any (its : List CIt) (co : Option Addr) (cap : Nat) (p : Int) (w : World) (hr : RdT w co its) (hm : its.length ≤ 5864062014805) (hm2 : ∀ x ∈ its, x.1.length ≤ 17592186044416) (r : List (List Int) × Int) (hrr : r = killT (colsOf its) p) :
    Calls Try.prog 19 #[tval co its.length cap, .int .i64 p] w (SpEnd w r) := by
  cases hgd : goodT (colsOf its) with
  | false => exact killR_stops its co cap p w hr hm hm2 r hrr (.inl hgd)
  | true =>
    cases hfd : findT p (colsOf its) with
    | none => exact killR_stops its co cap p w hr hm hm2 r hrr (.inr (.inl ⟨hgd, hfd⟩))
    | some x =>
      have hh : hasT (colsOf its) p = true := by unfold hasT; rw [hfd]; rfl
      by_cases h1 : (colsOf its).flatten.length = 1
      · exact killR_stops its co cap p w hr hm hm2 r hrr (.inr (.inr ⟨hgd, hh, h1⟩))
      · exact killR_goes its co cap p w hr hm hm2 r hrr hgd hh h1

end Go.Proofs.Ytmdlbclaipajlab.Tl
