/- What the document's own 'roll' makes: rows that go up or down. -/
import Derived.Test.YteenppbpjdldgaaGRollB
namespace Go.Proofs.Yteenppbpjdldgaa
open Go.RowKit

def rollRow (g : Gr) (W : Nat) (fr tt n : Int) (r : Nat) : Nat → Cel :=
  if (r : Int) < fr ∨ tt ≤ (r : Int) then rowF g W r else if fr ≤ (r : Int) + n ∧ (r : Int) + n < tt then rowF g W ((r : Int) + n).toNat else fun _ => noCel
def outN (g : Gr) (W : Nat) (fr tt n : Int) (k : Nat) : List (Nat → Cel) := (List.range k).map (rollRow g W fr tt n)
theorem outN_succ (g : Gr) (W : Nat) (fr tt n : Int) (k : Nat) : outN g W fr tt n (k + 1) = outN g W fr tt n k ++ [rollRow g W fr tt n k] := by
  unfold outN
  rw [List.range_succ, List.map_append]
  rfl
theorem outN_length (g : Gr) (W : Nat) (fr tt n : Int) (k : Nat) : (outN g W fr tt n k).length = k := by simp [outN]
theorem rowsN_get (g : Gr) (W H k : Nat) (h : k < (rowsN g W H).length) : (rowsN g W H)[k] = rowF g W k := by simp [rowsN]

set_option maxRecDepth 2000 in
set_option maxHeartbeats 4000000 in
theorem roll_any (g : Gr) (ok : OkG g) (b0 off cap : Nat) (w : World) (hr : RdS w (some ⟨b0, off, none⟩) g.n g.f) (hc : g.n ≤ cap) (W H : Nat) (hW : g.wide = W) (hH : g.high = H) (fr tt n : Int) (hfr : 0 ≤ fr) (hfr2 : fr ≤ 10) (htt : tt ≤ H) (hn1 : -1000 ≤ n) (hn2 : n ≤ 1000) (fx : Nat → Cel) (hfx : fx = catF (outN g W fr tt n H) W) :
    Calls Try.prog 76 #[gval g (some ⟨b0, off, none⟩) cap, .int .i64 fr, .int .i64 tt, .int .i64 n] w fun e w' => ∃ b cap', e = .returned (gval ⟨g.wide, g.high, H * W, fx, g.row, g.col, g.ink, g.bold, g.top, g.bottom⟩ (some ⟨b, 0, none⟩) cap') ∧ Scr w' b (H * W) fx ∧ H * W ≤ cap' ∧ w.heap.size ≤ b ∧ Below w.heap.size w w' := by
  obtain ⟨i0, hi, hz0, hz1, hz2⟩ := info_parts info49
  obtain ⟨i1, hj, hy0, hy1, hy2⟩ := info_parts info81
  have HR : Hid (RdS w (some ⟨b0, off, none⟩) g.n g.f) := hr
  have HRO : Hid (∀ w, RdS w (some ⟨b0, off, none⟩) g.n g.f → Calls Try.prog 86 #[gval g (some ⟨b0, off, none⟩) cap] w fun e w' => ∃ v items, e = .returned v ∧ LL w' (w.heap.size + 1) v W (rowsN g W H) items ∧ Below w.heap.size w w') := fun w h => rowsOf_any g ok b0 off cap w h hc W H hW hH
  have hW1 : 0 < W := by have := ok.w1; omega
  have hW2 : W ≤ 24 := by have := ok.w2; omega
  have hH1 : 0 < H := by have := ok.h1; omega
  have hH2 : H ≤ 10 := by have := ok.h2; omega
  have HWE : Hid (g.wide = (W : Int)) := hW
  have HFX : Hid (fx = catF (outN g W fr tt n H) W) := hfx
  clear hr ok hW hH hc hfx
  go_enter Try.func76, Try.ntmps76
  go_wp2_with (go_at_call 86; refine (HRO.out _ (HR.out.below (below2 _ _ _))).mono ?_; rintro e w1 ⟨v, items, rfl, hll, hb1⟩; obtain ⟨gl, capl, hv, hx1, hgl, hx2⟩ := hll.get 0 (by rw [rowsN_length]; exact hH1); clear hx1 hx2; rw [rowsN_length] at hv; subst hv; have HL : Hid (LL w1 ((w.heap.size + 1 + 1) + 1) (.slice (some ⟨gl, 0, none⟩) H capl) W (rowsN g W H) items ∧ Below w.heap.size w w1 ∧ w1.heap[w.heap.size]? = some (gbox g (some ⟨b0, off, none⟩) cap) ∧ w1.heap[w.heap.size + 1]? = some gzero) := ⟨by simpa using hll, (below2 _ _ _).trans (hb1.mono (by simp; omega)), below_block hb1 (at_old (at_new w _) _) (by simp; omega), below_block hb1 (at_new1 w _ _) (by simp)⟩; clear hll hb1)
  go_loopw [10, 16] (fun o i wr => ∃ (k : Nat) (its : List (Nat × Nat)), k ≤ H ∧ i = .int .i64 k ∧ LL wr w1.heap.size o W (outN g W fr tt n k) its ∧ Below w1.heap.size w1 wr) (fun _ i _ => H - (intOf i).toNat)
  case atStart => exact ⟨0, [], Nat.zero_le _, rfl, ⟨rfl, World.ownsRow_nil _ _ _ _, fun i h1 _ => absurd h1 (by simp [outN])⟩, Below.refl _ _⟩
  case round =>
    obtain ⟨k, its, hk, rfl, hlo, hbl⟩ := hrel
    have HO : Hid (LL wr w1.heap.size u10 W (outN g W fr tt n k) its) := hlo
    have HB : Hid (Below w1.heap.size w1 wr) := hbl
    have hsw := hbl.size
    have hsw0 : w.heap.size + 1 < w1.heap.size := (Array.getElem?_eq_some_iff.1 HL.out.2.2.2).1
    by_cases hlt : k < H
    · have hlv := HL.out.1.later hbl
      have hkr : k < (rowsN g W H).length := by rw [rowsN_length]; exact hlt
      have hlt' : (k : Int) < (H : Int) := by omega
      have hk0 : (0 : Int) ≤ (k : Int) := by omega
      by_cases hA : (k : Int) < fr ∨ tt ≤ (k : Int)
      · have HRW : Hid (rollRow g W fr tt n k = rowF g W k) := by show rollRow g W fr tt n k = _; unfold rollRow; rw [if_pos hA]
        obtain ⟨g2, cap2, he, _, hg2, hcell⟩ := hlv.get k hkr
        rw [rowsN_length] at he
        simp only [Value.slice.injEq, Option.some.injEq, Addr.mk.injEq, and_true, true_and] at he
        obtain ⟨rfl, rfl⟩ := he
        have hii : k < items.length := by rw [hlv.len]; exact hkr
        obtain ⟨e1, e2, e3⟩ := hlv.each k hkr hii
        obtain ⟨p, hp⟩ : ∃ p, p = items[k] := ⟨_, rfl⟩
        rw [← hp] at hcell e1 e2 e3
        have HS : Hid (0 ≤ p.1 ∧ W ≤ p.2 ∧ Scr wr p.1 W (rowF g W k)) := ⟨e1, e2, by rw [rowsN_get] at e3; exact e3⟩
        clear hlo hbl hlv e1 e2 e3 hp hii hkr
        by_cases hA1 : (k : Int) < fr
        · clear hA
          go_wp2_with (first | (at_builtin; refine wpList_append_lies _ rfl _ _ 81 rfl w1.heap.size 39 i1 (.slice none 0 0) 1 24 Try.underlying81 hj hy0 hy1 hy2 rfl (by decide) _ (outN g W fr tt n k).length (its.map (rv W)) rfl (HO.out.row.alloc _) ⟨wr.heap.size, 0, none⟩ 1 1 [rv W p] rfl rfl ?c1 ?c2 (by decide) ?c3 ?c4 ?c5 (wr.heap.size + 1) ?c6 ?_) | fail)
          case c1 => exact cell_one wr _ _
          case c2 => intro u hu; simp at hu; subst hu; rfl
          case c3 => unfold maxLen; rw [outN_length]; omega
          case c4 => rw [outN_length]; omega
          case c5 => simp; omega
          case c6 => simp
          · intro g' cap' w2 hown2 hgrow2 _ _
            have HF : Hid (LL w2 w1.heap.size (.slice (some ⟨g', 0, none⟩) ((outN g W fr tt n k).length + 1) cap') W (outN g W fr tt n (k + 1)) (its ++ [p]) ∧ Below w1.heap.size w1 w2) := by
              refine ⟨?_, below_row HB.out HO.out.row (Nat.le_refl _) hgrow2⟩
              rw [outN_succ, HRW.out]
              exact HO.out.grow HS.out hown2 hgrow2
            clear hown2 hgrow2
            go_wp2
            go_roundw
            case rel => exact ⟨k + 1, its ++ [p], by omega, by go_num, HF.out.1, HF.out.2⟩
            case measure => simp [intOf]; omega
        · have hA2 : tt ≤ (k : Int) := by omega
          have hA3 : fr ≤ (k : Int) := by omega
          clear hA hA1
          go_wp2_with (first | (at_builtin; refine wpList_append_lies _ rfl _ _ 81 rfl w1.heap.size 39 i1 (.slice none 0 0) 1 24 Try.underlying81 hj hy0 hy1 hy2 rfl (by decide) _ (outN g W fr tt n k).length (its.map (rv W)) rfl (HO.out.row.alloc _) ⟨wr.heap.size, 0, none⟩ 1 1 [rv W p] rfl rfl ?c1 ?c2 (by decide) ?c3 ?c4 ?c5 (wr.heap.size + 1) ?c6 ?_) | fail)
          case c1 => exact cell_one wr _ _
          case c2 => intro u hu; simp at hu; subst hu; rfl
          case c3 => unfold maxLen; rw [outN_length]; omega
          case c4 => rw [outN_length]; omega
          case c5 => simp; omega
          case c6 => simp
          · intro g' cap' w2 hown2 hgrow2 _ _
            have HF : Hid (LL w2 w1.heap.size (.slice (some ⟨g', 0, none⟩) ((outN g W fr tt n k).length + 1) cap') W (outN g W fr tt n (k + 1)) (its ++ [p]) ∧ Below w1.heap.size w1 w2) := by
              refine ⟨?_, below_row HB.out HO.out.row (Nat.le_refl _) hgrow2⟩
              rw [outN_succ, HRW.out]
              exact HO.out.grow HS.out hown2 hgrow2
            clear hown2 hgrow2
            go_wp2
            go_roundw
            case rel => exact ⟨k + 1, its ++ [p], by omega, by go_num, HF.out.1, HF.out.2⟩
            case measure => simp [intOf]; omega
      · have hA1 : fr ≤ (k : Int) := by omega
        have hA2 : (k : Int) < tt := by omega
        by_cases hB : fr ≤ (k : Int) + n ∧ (k : Int) + n < tt
        · obtain ⟨m, hm⟩ : ∃ m : Nat, (k : Int) + n = m := ⟨((k : Int) + n).toNat, by omega⟩
          have HRW : Hid (rollRow g W fr tt n k = rowF g W m) := by
            show rollRow g W fr tt n k = _
            unfold rollRow
            rw [if_neg hA, if_pos hB]
            congr 1
            omega
          have hmr : m < (rowsN g W H).length := by rw [rowsN_length]; omega
          have hmH : (m : Int) < (H : Int) := by omega
          have hm0 : (0 : Int) ≤ (m : Int) := by omega
          have hB1 : fr ≤ (m : Int) := by omega
          have hB2 : (m : Int) < tt := by omega
          obtain ⟨g2, cap2, he, _, hg2, hcell⟩ := hlv.get m hmr
          rw [rowsN_length] at he
          simp only [Value.slice.injEq, Option.some.injEq, Addr.mk.injEq, and_true, true_and] at he
          obtain ⟨rfl, rfl⟩ := he
          have hii : m < items.length := by rw [hlv.len]; exact hmr
          obtain ⟨e1, e2, e3⟩ := hlv.each m hmr hii
          obtain ⟨p, hp⟩ : ∃ p, p = items[m] := ⟨_, rfl⟩
          rw [← hp] at hcell e1 e2 e3
          have HS : Hid (0 ≤ p.1 ∧ W ≤ p.2 ∧ Scr wr p.1 W (rowF g W m)) := ⟨e1, e2, by rw [rowsN_get] at e3; exact e3⟩
          clear hlo hbl hlv e1 e2 e3 hp hii hkr hmr hA hB
          go_wp2_with (first | (at_builtin; refine wpList_append_lies _ rfl _ _ 81 rfl w1.heap.size 39 i1 (.slice none 0 0) 1 24 Try.underlying81 hj hy0 hy1 hy2 rfl (by decide) _ (outN g W fr tt n k).length (its.map (rv W)) rfl (HO.out.row.alloc _) ⟨wr.heap.size, 0, none⟩ 1 1 [rv W p] rfl rfl ?c1 ?c2 (by decide) ?c3 ?c4 ?c5 (wr.heap.size + 1) ?c6 ?_) | fail)
          case c1 => exact cell_one wr _ _
          case c2 => intro u hu; simp at hu; subst hu; rfl
          case c3 => unfold maxLen; rw [outN_length]; omega
          case c4 => rw [outN_length]; omega
          case c5 => simp; omega
          case c6 => simp
          · intro g' cap' w2 hown2 hgrow2 _ _
            have HF : Hid (LL w2 w1.heap.size (.slice (some ⟨g', 0, none⟩) ((outN g W fr tt n k).length + 1) cap') W (outN g W fr tt n (k + 1)) (its ++ [p]) ∧ Below w1.heap.size w1 w2) := by
              refine ⟨?_, below_row HB.out HO.out.row (Nat.le_refl _) hgrow2⟩
              rw [outN_succ, HRW.out]
              exact HO.out.grow HS.out hown2 hgrow2
            clear hown2 hgrow2
            go_wp2
            go_roundw
            case rel => exact ⟨k + 1, its ++ [p], by omega, by go_num, HF.out.1, HF.out.2⟩
            case measure => simp [intOf]; omega
        · have HRW : Hid (rollRow g W fr tt n k = fun _ => noCel) := by
            show rollRow g W fr tt n k = _
            unfold rollRow
            rw [if_neg hA, if_neg hB]
          obtain ⟨⟨x0, x1, x2, x3, x4, x5, x6, x7, x8⟩, z⟩ := nine (below_block hbl HL.out.2.2.1 (by omega))
          rw [HWE.out] at x0
          obtain ⟨m, hm⟩ : ∃ m, (k : Int) + n = m := ⟨_, rfl⟩
          have hcs : m < fr ∨ (fr ≤ m ∧ tt ≤ m) := by omega
          have hmb : -2000 ≤ m ∧ m ≤ 2000 := by omega
          obtain ⟨hmb1, hmb2⟩ := hmb
          clear hlo hbl hlv hkr hA hB
          rcases hcs with hc1 | ⟨hc1, hc2⟩
          · go_wp2_with (first | (at_make; refine wpList_make_full _ rfl _ _ 39 rfl wr.heap.size 49 i0 (.agg #[.int .i64 0, .int .i64 0, .int .i64 0, .bool false]) 4 Try.underlying39 hi hz0 hz1 .i64 .i64 _ _ W rfl rfl rfl rfl (by rw [hz2]; omega) (by unfold maxLen; omega) (by simp) ?_) | fail)
            intro w5 hown hg
            rw [made4] at hown
            obtain ⟨b', cap5, hv, _, _, hs⟩ := scr_of_row hown hW1
            simp only [Value.slice.injEq, Option.some.injEq, Addr.mk.injEq, and_true, true_and] at hv
            obtain ⟨rfl, rfl⟩ := hv
            have hB5 : Below wr.heap.size wr w5 := ⟨hg.os, hg.tape, hg.output, hg.size, fun j hj => hg.block j hj (by simp)⟩
            have hsz5 := hB5.size
            have HO5 : Hid (LL w5 w1.heap.size u10 W (outN g W fr tt n k) its) := HO.out.later hB5
            have HB5 : Hid (Below w1.heap.size w1 w5) := HB.out.trans (hB5.mono hsw)
            have HS5 : Hid (0 ≤ (wr.heap.size, W).1 ∧ W ≤ (wr.heap.size, W).2 ∧ Scr w5 (wr.heap.size, W).1 W (fun _ => noCel)) := ⟨Nat.zero_le _, Nat.le_refl _, hs⟩
            clear hown hg hs hB5
            go_wp2_with (first | (at_builtin; refine wpList_append_lies _ rfl _ _ 81 rfl w1.heap.size 39 i1 (.slice none 0 0) 1 24 Try.underlying81 hj hy0 hy1 hy2 rfl (by decide) _ (outN g W fr tt n k).length (its.map (rv W)) rfl (HO5.out.row.alloc _) ⟨w5.heap.size, 0, none⟩ 1 1 [rv W (wr.heap.size, W)] rfl rfl (cell_one w5 _ _) (by intro u hu; simp at hu; subst hu; rfl) (by decide) (by unfold maxLen; rw [outN_length]; omega) (by rw [outN_length]; omega) (by simp; omega) (w5.heap.size + 1) (by simp) ?_) | fail)
            · intro g' cap' w2 hown2 hgrow2 _ _
              have HF : Hid (LL w2 w1.heap.size (.slice (some ⟨g', 0, none⟩) ((outN g W fr tt n k).length + 1) cap') W (outN g W fr tt n (k + 1)) (its ++ [(wr.heap.size, W)]) ∧ Below w1.heap.size w1 w2) := by
                refine ⟨?_, below_row HB5.out HO5.out.row (Nat.le_refl _) hgrow2⟩
                rw [outN_succ, HRW.out]
                exact HO5.out.grow HS5.out hown2 hgrow2
              clear hown2 hgrow2
              go_wp2
              go_roundw
              case rel => exact ⟨k + 1, its ++ [(wr.heap.size, W)], by omega, by go_num, HF.out.1, HF.out.2⟩
              case measure => simp [intOf]; omega
          · go_wp2_with (first | (at_make; refine wpList_make_full _ rfl _ _ 39 rfl wr.heap.size 49 i0 (.agg #[.int .i64 0, .int .i64 0, .int .i64 0, .bool false]) 4 Try.underlying39 hi hz0 hz1 .i64 .i64 _ _ W rfl rfl rfl rfl (by rw [hz2]; omega) (by unfold maxLen; omega) (by simp) ?_) | fail)
            intro w5 hown hg
            rw [made4] at hown
            obtain ⟨b', cap5, hv, _, _, hs⟩ := scr_of_row hown hW1
            simp only [Value.slice.injEq, Option.some.injEq, Addr.mk.injEq, and_true, true_and] at hv
            obtain ⟨rfl, rfl⟩ := hv
            have hB5 : Below wr.heap.size wr w5 := ⟨hg.os, hg.tape, hg.output, hg.size, fun j hj => hg.block j hj (by simp)⟩
            have hsz5 := hB5.size
            have HO5 : Hid (LL w5 w1.heap.size u10 W (outN g W fr tt n k) its) := HO.out.later hB5
            have HB5 : Hid (Below w1.heap.size w1 w5) := HB.out.trans (hB5.mono hsw)
            have HS5 : Hid (0 ≤ (wr.heap.size, W).1 ∧ W ≤ (wr.heap.size, W).2 ∧ Scr w5 (wr.heap.size, W).1 W (fun _ => noCel)) := ⟨Nat.zero_le _, Nat.le_refl _, hs⟩
            clear hown hg hs hB5
            go_wp2_with (first | (at_builtin; refine wpList_append_lies _ rfl _ _ 81 rfl w1.heap.size 39 i1 (.slice none 0 0) 1 24 Try.underlying81 hj hy0 hy1 hy2 rfl (by decide) _ (outN g W fr tt n k).length (its.map (rv W)) rfl (HO5.out.row.alloc _) ⟨w5.heap.size, 0, none⟩ 1 1 [rv W (wr.heap.size, W)] rfl rfl (cell_one w5 _ _) (by intro u hu; simp at hu; subst hu; rfl) (by decide) (by unfold maxLen; rw [outN_length]; omega) (by rw [outN_length]; omega) (by simp; omega) (w5.heap.size + 1) (by simp) ?_) | fail)
            · intro g' cap' w2 hown2 hgrow2 _ _
              have HF : Hid (LL w2 w1.heap.size (.slice (some ⟨g', 0, none⟩) ((outN g W fr tt n k).length + 1) cap') W (outN g W fr tt n (k + 1)) (its ++ [(wr.heap.size, W)]) ∧ Below w1.heap.size w1 w2) := by
                refine ⟨?_, below_row HB5.out HO5.out.row (Nat.le_refl _) hgrow2⟩
                rw [outN_succ, HRW.out]
                exact HO5.out.grow HS5.out hown2 hgrow2
              clear hown2 hgrow2
              go_wp2
              go_roundw
              case rel => exact ⟨k + 1, its ++ [(wr.heap.size, W)], by omega, by go_num, HF.out.1, HF.out.2⟩
              case measure => simp [intOf]; omega
    · have HK : Hid (k = H) := (by omega : k = H)
      have hge : (H : Int) ≤ (k : Int) := by omega
      have hf := HO.out
      rw [HK.out] at hf
      have HRI : Hid (Calls Try.prog 87 #[gval g (some ⟨b0, off, none⟩) cap, u10] wr fun e w' => ∃ b cap', e = .returned (gval ⟨g.wide, g.high, H * W, fx, g.row, g.col, g.ink, g.bold, g.top, g.bottom⟩ (some ⟨b, 0, none⟩) cap') ∧ Scr w' b (H * W) fx ∧ H * W ≤ cap' ∧ wr.heap.size ≤ b ∧ Below wr.heap.size wr w') := rowsIn_any g (some ⟨b0, off, none⟩) cap u10 W H w1.heap.size (outN g W fr tt n H) its wr hf (outN_length _ _ _ _ _ _) hH1 hH2 hW1 hW2 fx HFX.out
      obtain ⟨⟨x0, x1, x2, x3, x4, x5, x6, x7, x8⟩, z⟩ := nine (below_block hbl HL.out.2.2.1 (by omega))
      have HRS : Hid (wr.heap[w.heap.size + 1]? = some gzero) := below_block hbl HL.out.2.2.2 hsw0
      clear hlo hbl hf
      go_wp2_with (go_at_call 87; refine HRI.out.mono ?_; rintro e w6 ⟨b, cap', rfl, hs6, hc6, hb6, hl6⟩; have HE : Hid (Scr w6 b (H * W) fx ∧ H * W ≤ cap' ∧ wr.heap.size ≤ b ∧ Below wr.heap.size wr w6) := ⟨hs6, hc6, hb6, hl6⟩; obtain ⟨⟨y0, y1, y2, y3, y4, y5, y6, y7, y8⟩, z1⟩ := nine (below_block hl6 HRS.out (Array.getElem?_eq_some_iff.1 HRS.out).1); clear hs6 hc6 hb6 hl6)
      refine bodyPost_ret (v := gval ⟨g.wide, g.high, H * W, fx, g.row, g.col, g.ink, g.bold, g.top, g.bottom⟩ (some ⟨b, 0, none⟩) cap') (by simp [results, Try.results76, go_sem, *]) rfl ?_
      obtain ⟨f1, f2, f3, f4⟩ := HE.out
      have hB6 : Below w.heap.size w w6 := (HL.out.2.1.trans (HB.out.mono (by omega))).trans (f4.mono (by omega))
      exact ⟨b, cap', rfl, scr_set9 f1 (by omega) _ _ _ _ _ _ _ _ _, f2, by omega, below_set9 hB6 (by omega) _ _ _ _ _ _ _ _ _⟩

end Go.Proofs.Yteenppbpjdldgaa
