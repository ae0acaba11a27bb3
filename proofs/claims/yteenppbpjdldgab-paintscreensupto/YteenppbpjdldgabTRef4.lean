/- The document's own answers: the place of a pane. -/
import Derived.Test.YteenppbpjdldgabTRef3
namespace Go.Proofs.Yteenppbpjdldgab.Tl
open Go.RowKit

theorem find_uniq {cols : List (List Int)} (ok : OkT cols) {k j : Nat} (hk : k < cols.length) (hj : j < cols[k].length) {p : Int} (h : cols[k][j] = p) : findT p cols = some (k, j) := by
  obtain ⟨rest, e⟩ := flat_split hk hj
  have hn := ok.once
  rw [e, List.nodup_append] at hn
  have hne : ∀ q ∈ (cols.take k).flatten ++ cols[k].take j, q ≠ p := fun q hq => by
    have := hn.2.2 q hq cols[k][j] (by simp)
    rw [h] at this
    exact this
  refine findT_at hk (idx_at hj h (fun i hi => ?_)) (fun i hi => ?_)
  · refine hne _ (List.mem_append_right _ ?_)
    rw [List.mem_take_iff_getElem]
    exact ⟨i, by omega, rfl⟩
  · rw [idx_none]
    intro hm
    refine hne p (List.mem_append_left _ (List.mem_flatten.2 ⟨cols[i]'(by omega), ?_, hm⟩)) rfl
    rw [List.mem_take_iff_getElem]
    exact ⟨i, by omega, rfl⟩

theorem share_pos (length n k : Int) : 0 ≤ (shareT length n k).2 := by
  unfold shareT
  split
  · simp
  · rename_i h
    have : 0 ≤ (length - (n - 1)) / n := Int.ediv_nonneg (by omega) (by omega)
    simp only
    split <;> omega

set_option maxHeartbeats 2000000 in
set_option maxRecDepth 100000 in
theorem placeR_any (its : List CIt) (co : Option Addr) (cap : Nat) (wide high p : Int) (w : World) (hr : RdT w co its) (hm : its.length ≤ 5864062014805) (hm2 : ∀ x ∈ its, x.1.length ≤ 17592186044416) (r : Rc) (hrc : r = whereT (colsOf its) wide high p) :
    Calls Try.prog 31 #[tval co its.length cap, .int .i64 wide, .int .i64 high, .int .i64 p] w fun e w' => e = .returned (rval r) ∧ Below w.heap.size w w' := by
  obtain ⟨g, hg⟩ : ∃ g, g = goodT (colsOf its) := ⟨_, rfl⟩
  have HG : Hid (∀ W, RdT W co its → Calls Try.prog 24 #[tval co its.length cap] W fun e w' => e = .returned (.bool g) ∧ Below W.heap.size W w') := fun W h => goodR_any its co cap W h hm hm2 g hg
  have HW0 : Hid (WInv w its co cap ((w.alloc (tbox co its.length cap)).alloc zbox)) := winv_start hr
  have HM : Hid (∀ x ∈ its, x.1.length ≤ 17592186044416) := hm2
  have HRC : Hid (r = whereT (colsOf its) wide high p) := hrc
  have HGD : Hid (g = goodT (colsOf its)) := hg
  clear hr hm2 hrc hg
  cases g with
  | false =>
    have HZ : Hid (r = noRc) := by
      show r = _
      rw [HRC.out]
      unfold whereT
      rw [if_pos HGD.out.symm]
    go_enter Try.func31, Try.ntmps31
    go_wp2_with (first
      | (go_at_call 24; refine (HG.out _ HW0.out.rd).mono ?_; rintro e w1 ⟨rfl, hb1⟩; have HW1 : Hid (WInv w its co cap w1) := HW0.out.next hb1; obtain ⟨a1, a2⟩ := one HW1.out.box; obtain ⟨⟨a3, a4, a5, a6⟩, a7⟩ := four HW1.out.res; clear hb1)
      | fail)
    refine bodyPost_ret (v := rval noRc) (by simp [results, Try.results31, go_sem, noRc, *]) rfl ?_
    rw [HZ.out]
    exact ⟨rfl, set4_below HW1.out.below (by omega) _ _ _ _⟩
  | true =>
    have HOK : Hid (OkT (colsOf its)) := (goodT_iff _).1 HGD.out.symm
    have HS : Hid (∀ (a b c : Int) (W : World), Calls Try.prog 29 #[.int .i64 a, .int .i64 b, .int .i64 c] W fun e w' => e = .returned (.tuple #[.int .i64 (shareT a b c).1, .int .i64 (shareT a b c).2]) ∧ w' = W) := fun a b c W => shareR_any a b c W _ rfl
    go_enter Try.func31, Try.ntmps31
    go_wp2_with (first
      | (go_at_call 24; refine (HG.out _ HW0.out.rd).mono ?_; rintro e w1 ⟨rfl, hb1⟩; have HW1 : Hid (WInv w its co cap w1) := HW0.out.next hb1; obtain ⟨a1, a2⟩ := one HW1.out.box; obtain ⟨⟨a3, a4, a5, a6⟩, a7⟩ := four HW1.out.res; clear hb1)
      | fail)
    go_loopw [24] (fun i wr => ∃ k : Nat, k ≤ its.length ∧ i = .int .i64 k ∧ wr = w1 ∧ ∀ i0 j0, findT p (colsOf its) = some (i0, j0) → i0 < k → r = noRc) (fun i _ => its.length - (intOf i).toNat)
    case atStart => exact ⟨0, Nat.zero_le _, rfl, rfl, fun _ _ _ h => by omega⟩
    case round =>
      obtain ⟨k, hk, rfl, rfl, hno⟩ := hrel
      have HNO : Hid (∀ i0 j0, findT p (colsOf its) = some (i0, j0) → i0 < k → r = noRc) := hno
      clear hno
      by_cases hlt : k < its.length
      · have hlt' : (k : Int) < (its.length : Int) := by omega
        obtain ⟨b, off, rfl, hc⟩ := HW1.out.rd.row.resolve_left (by intro h; subst h; simp at hlt)
        have h0 := hc k hlt
        obtain ⟨⟨x1, x2, x3⟩, hx⟩ : ∃ x, x = its[k] := ⟨_, rfl⟩
        rw [← hx] at h0
        have h1 : wr.cell? ⟨b, off + k, none⟩ = some (.slice x2 x1.length x3) := h0
        have hmem : (x1, x2, x3) ∈ its := by rw [hx]; exact List.getElem_mem hlt
        have hxl := HM.out _ hmem
        have HRX : Hid (RdL wr x2 x1) := (HW1.out.rd.each _ hmem).1
        have hkc : k < (colsOf its).length := by simpa using hlt
        have HXC : Hid ((colsOf its)[k] = x1) := by show _ = _; simp [← hx]
        simp only at hxl
        clear hc h0 hx hmem
        go_wp2
        go_loopw [31] (fun i wr2 => ∃ j : Nat, j ≤ x1.length ∧ i = .int .i64 j ∧ wr2 = wr ∧ ∀ i0 j0, findT p (colsOf its) = some (i0, j0) → (i0 < k ∨ (i0 = k ∧ j0 < j)) → r = noRc) (fun i _ => x1.length - (intOf i).toNat)
        case atStart => exact ⟨0, Nat.zero_le _, rfl, rfl, fun i0 j0 h1 h2 => HNO.out i0 j0 h1 (by omega)⟩
        case round =>
          obtain ⟨j, hj, rfl, hwr, hno2⟩ := hrel
          subst hwr
          have HN2 : Hid (∀ i0 j0, findT p (colsOf its) = some (i0, j0) → (i0 < k ∨ (i0 = k ∧ j0 < j)) → r = noRc) := hno2
          clear hno2
          by_cases hjl : j < x1.length
          · have hjl' : (j : Int) < (x1.length : Int) := by omega
            have hjc : j < (colsOf its)[k].length := by rw [HXC.out]; exact hjl
            obtain ⟨bl, ol, hao, hcl⟩ := HRX.out.resolve_left (by intro h; subst h; simp at hjl)
            subst hao
            have h3 := hcl j hjl
            obtain ⟨q, hq⟩ : ∃ q, q = x1.getD j 0 := ⟨_, rfl⟩
            rw [← hq] at h3
            have HQ : Hid ((colsOf its)[k][j] = q) := by
              show _ = _
              simp only [HXC.out]
              rw [hq]
              simp [hjl]
            clear hcl hq
            by_cases he : q = p
            · subst he
              have HFD : Hid (findT q (colsOf its) = some (k, j)) := find_uniq HOK.out hkc hjc HQ.out
              obtain ⟨s1, hs1⟩ : ∃ s, s = shareT wide its.length k := ⟨_, rfl⟩
              obtain ⟨s2, hs2⟩ : ∃ s, s = shareT high x1.length j := ⟨_, rfl⟩
              have hp1 : 0 ≤ s1.2 := by rw [hs1]; exact share_pos _ _ _
              have hp2 : 0 ≤ s2.2 := by rw [hs2]; exact share_pos _ _ _
              have HH1 : Hid (∀ W, Calls Try.prog 29 #[.int .i64 wide, .int .i64 its.length, .int .i64 k] W fun e w' => e = .returned (.tuple #[.int .i64 s1.1, .int .i64 s1.2]) ∧ w' = W) := fun W => by rw [hs1]; exact HS.out _ _ _ W
              have HH2 : Hid (∀ W, Calls Try.prog 29 #[.int .i64 high, .int .i64 x1.length, .int .i64 j] W fun e w' => e = .returned (.tuple #[.int .i64 s2.1, .int .i64 s2.2]) ∧ w' = W) := fun W => by rw [hs2]; exact HS.out _ _ _ W
              have HRV : Hid (r = if s1.2 = 0 ∨ s2.2 = 0 then noRc else ⟨s2.1, s1.1, s2.2, s1.2⟩) := by
                show r = _
                rw [HRC.out]
                unfold whereT
                rw [if_neg (by rw [← HGD.out]; simp), HFD.out]
                have hgx : (colsOf its).getD k [] = x1 := by
                  rw [← HXC.out]
                  simp [hlt]
                simp only [hgx, hs1, hs2, colsOf, List.length_map]
              clear hs1 hs2 HRC
              obtain ⟨sx, sw⟩ := s1
              obtain ⟨sy, sh⟩ := s2
              simp only at hp1 hp2 HH1 HH2 HRV
              by_cases e1 : 0 < sw
              · by_cases e2 : 0 < sh
                · have HZ : Hid (r = ⟨sy, sx, sh, sw⟩) := by show r = _; rw [HRV.out, if_neg (by omega)]
                  go_wp2_with (first
                    | (go_at_call_of 29 (Value.int IntKind.i64 wide); refine (HH1.out _).mono ?_; rintro e w3 ⟨rfl, rfl⟩)
                    | (go_at_call_of 29 (Value.int IntKind.i64 high); refine (HH2.out _).mono ?_; rintro e w3 ⟨rfl, rfl⟩)
                    | fail)
                  refine bodyPost_ret (v := rval ⟨sy, sx, sh, sw⟩) (by simp [results, Try.results31, go_sem, *]) rfl ?_
                  rw [HZ.out]
                  exact ⟨rfl, set4_below HW1.out.below (by omega) _ _ _ _⟩
                · have e2' : sh ≤ 0 := by omega
                  have HZ : Hid (r = noRc) := by show r = _; rw [HRV.out, if_pos (by omega)]
                  go_wp2_with (first
                    | (go_at_call_of 29 (Value.int IntKind.i64 wide); refine (HH1.out _).mono ?_; rintro e w3 ⟨rfl, rfl⟩)
                    | (go_at_call_of 29 (Value.int IntKind.i64 high); refine (HH2.out _).mono ?_; rintro e w3 ⟨rfl, rfl⟩)
                    | fail)
                  go_roundw
                  case rel => exact ⟨j + 1, by omega, by go_num, by first | rfl | trivial, fun _ _ _ _ => HZ.out⟩
                  case measure => simp [intOf]; omega
              · have e1' : sw ≤ 0 := by omega
                have HZ : Hid (r = noRc) := by show r = _; rw [HRV.out, if_pos (by omega)]
                go_wp2_with (first
                  | (go_at_call_of 29 (Value.int IntKind.i64 wide); refine (HH1.out _).mono ?_; rintro e w3 ⟨rfl, rfl⟩)
                  | (go_at_call_of 29 (Value.int IntKind.i64 high); refine (HH2.out _).mono ?_; rintro e w3 ⟨rfl, rfl⟩)
                  | fail)
                go_roundw
                case rel => exact ⟨j + 1, by omega, by go_num, by first | rfl | trivial, fun _ _ _ _ => HZ.out⟩
                case measure => simp [intOf]; omega
            · have HNE : Hid (∀ i0 j0, findT p (colsOf its) = some (i0, j0) → ¬ (i0 = k ∧ j0 = j)) := by
                rintro i0 j0 hf ⟨rfl, rfl⟩
                obtain ⟨_, _, e⟩ := findT_get hf
                exact he (HQ.out.symm.trans e)
              have he' : ¬ q = p := he
              go_wp2
              go_roundw
              case rel => exact ⟨j + 1, by omega, by go_num, by first | rfl | trivial, fun i0 j0 hf h => HN2.out i0 j0 hf (by have := HNE.out i0 j0 hf; omega)⟩
              case measure => simp [intOf]; omega
          · have hjge : (x1.length : Int) ≤ (j : Int) := by omega
            have HJB : Hid (∀ i0 j0, findT p (colsOf its) = some (i0, j0) → i0 = k → j0 < j) := by
              rintro i0 j0 hf rfl
              obtain ⟨g1, g2, _⟩ := findT_get hf
              rw [HXC.out] at g2
              omega
            go_wp2
            go_roundw
            case rel => exact ⟨k + 1, by omega, by go_num, by first | rfl | trivial, fun i0 j0 hf h => HN2.out i0 j0 hf (by have := HJB.out i0 j0 hf; omega)⟩
            case measure => simp [intOf]; omega
      · have hge : (its.length : Int) ≤ (k : Int) := by omega
        have HZ : Hid (r = noRc) := by
          show r = _
          cases hf : findT p (colsOf its) with
          | none =>
            rw [HRC.out]
            unfold whereT
            rw [if_neg (by rw [← HGD.out]; simp), hf]
          | some x =>
            obtain ⟨i0, j0⟩ := x
            obtain ⟨g1, _⟩ := findT_get hf
            exact HNO.out i0 j0 hf (by simp at g1; omega)
        go_wp2
        refine bodyPost_ret (v := rval noRc) (by simp [results, Try.results31, go_sem, noRc, *]) rfl ?_
        rw [HZ.out]
        exact ⟨rfl, set4_below HW1.out.below (by omega) _ _ _ _⟩

end Go.Proofs.Yteenppbpjdldgab.Tl
