/- The document's own answers: whether panes are laid out; whether one is there. -/
import Derived.Test.YteenppbpjdldgabTRef1
namespace Go.Proofs.Yteenppbpjdldgab.Tl
open Go.RowKit

theorem flat_bound : ∀ (cols : List (List Int)), (∀ c ∈ cols, c.length ≤ 3) → cols.flatten.length ≤ 3 * cols.length
  | [], _ => by simp
  | c :: r, h => by
    have h1 := h c (by simp)
    have h2 := flat_bound r (fun d hd => h d (by simp [hd]))
    simp only [List.flatten_cons, List.length_append, List.length_cons]
    omega

set_option maxHeartbeats 400000 in
theorem hasR_any (its : List CIt) (co : Option Addr) (cap : Nat) (p : Int) (w : World) (hr : RdT w co its) (hm : its.length ≤ 5864062014805) (hm2 : (colsOf its).flatten.length ≤ 17592186044416) (h : Bool) (hh : h = hasT (colsOf its) p) :
    Calls Try.prog 26 #[tval co its.length cap, .int .i64 p] w fun e w' => e = .returned (.bool h) ∧ Below w.heap.size w w' := by
  obtain ⟨f, hf⟩ : ∃ f, f = (colsOf its).flatten := ⟨_, rfl⟩
  have HA : Hid (Calls Try.prog 60 #[tval co its.length cap] (w.alloc (tbox co its.length cap)) fun e w' => ∃ ao c, e = .returned (.slice ao f.length c) ∧ RdL w' ao f ∧ Below w.heap.size w w') := by
    refine (all_any its co cap _ (hr.below (below1 _ _)) hm hm2 f hf).mono ?_
    rintro e w' ⟨ao, c, rfl, ho, hb⟩
    exact ⟨ao, c, rfl, (row_rd (x := (f, ao, c)) ho).1, below_to (below1 _ _) hb⟩
  have HH : Hid (h = decide (p ∈ f)) := by
    show h = _
    rw [hh, Bool.eq_iff_iff, hasT_iff, decide_eq_true_eq, hf]
  have hfl : f.length ≤ 17592186044416 := by rw [hf]; exact hm2
  obtain ⟨b0, z0⟩ := one (at_new w (tbox co its.length cap))
  clear hr hm hm2 hh hf
  go_enter Try.func26, Try.ntmps26
  go_wp2_with (first
    | (go_at_call 60; refine HA.out.mono ?_; rintro e w1 ⟨ao, c, rfl, hrd, hb1⟩; have HB : Hid (RdL w1 ao f ∧ Below w.heap.size w w1) := ⟨hrd, hb1⟩; clear hrd hb1 b0 z0)
    | fail)
  go_loopw [10] (fun i wr => ∃ k : Nat, k ≤ f.length ∧ i = .int .i64 k ∧ wr = w1 ∧ ∀ j (hj : j < f.length), j < k → f[j] ≠ p) (fun i _ => f.length - (intOf i).toNat)
  case atStart => exact ⟨0, Nat.zero_le _, rfl, rfl, fun j _ h => by omega⟩
  case round =>
    obtain ⟨k, hk, rfl, rfl, hb⟩ := hrel
    have HN : Hid (∀ j (hj : j < f.length), j < k → f[j] ≠ p) := hb
    clear hb
    by_cases hlt : k < f.length
    · obtain ⟨b, off, rfl, hc⟩ := HB.out.1.resolve_left (by intro h; subst h; simp at hlt)
      have h1 := hc k hlt
      obtain ⟨x, hx⟩ : ∃ x, x = f.getD k 0 := ⟨_, rfl⟩
      rw [← hx] at h1
      have HX : Hid (f[k] = x) := by show f[k] = x; rw [hx]; simp [hlt]
      have hlt' : (k : Int) < (f.length : Int) := by omega
      clear hc hx
      by_cases he : p = x
      · have HE : Hid (h = true) := by
          show h = true
          rw [HH.out, decide_eq_true_eq, he, ← HX.out]
          exact List.getElem_mem hlt
        go_wp2
        go_ret
        exact ⟨ret_bool HE.out.symm, HB.out.2⟩
      · have HE : Hid (f[k] ≠ p) := by show f[k] ≠ p; rw [HX.out]; exact fun e => he e.symm
        go_wp2
        go_roundw
        case rel => exact ⟨k + 1, by omega, by go_num, by first | rfl | trivial, fun j hj h => if e : j = k then by subst e; exact HE.out else HN.out j hj (by omega)⟩
        case measure => simp [intOf]; omega
    · have hge : (f.length : Int) ≤ (k : Int) := by omega
      have HE : Hid (h = false) := by
        show h = false
        rw [HH.out, decide_eq_false_iff_not]
        intro hm
        obtain ⟨i, hi, e⟩ := List.getElem_of_mem hm
        exact HN.out i hi (by omega) e
      go_wp2
      go_ret
      exact ⟨ret_bool HE.out.symm, HB.out.2⟩

/-- What was seen of the list so far. -/
def OkTo (f : List Int) (k : Nat) : Prop := ∀ j (hj : j < f.length), j < k → paneB f[j] = true ∧ ∀ i (hi : i < j), f[i] ≠ f[j]

theorem okTo_good {cols : List (List Int)} {f : List Int} (hf : f = cols.flatten) (ht : ∀ c ∈ cols, 1 ≤ c.length ∧ c.length ≤ 3) (h : OkTo f f.length) : goodT cols = decide (0 < f.length) := by
  subst hf
  rw [Bool.eq_iff_iff, goodT_iff, decide_eq_true_eq]
  constructor
  · intro ok
    cases cols with
    | nil => exact absurd ok.some (by simp)
    | cons c r =>
      have := (ht c (by simp)).1
      simp only [List.flatten_cons, List.length_append]
      omega
  · intro hl
    refine ⟨?_, ht, fun p hp => ?_, ?_⟩
    · cases cols with
      | nil => simp at hl
      | cons c r => simp
    · obtain ⟨i, hi, rfl⟩ := List.getElem_of_mem hp
      exact (h i hi hi).1
    · unfold List.Nodup
      rw [List.pairwise_iff_getElem]
      intro i j hi hj hij
      exact (h j hj hj).2 i hij

theorem bad_flat {cols : List (List Int)} {f : List Int} (hf : f = cols.flatten) {k : Nat} (hk : k < f.length) (h : paneB f[k] = false) : goodT cols = false := goodT_not fun ok => by
  subst hf
  have := ok.pane _ (List.getElem_mem hk)
  rw [h] at this
  cases this
theorem bad_flat2 {cols : List (List Int)} {f : List Int} (hf : f = cols.flatten) {j k : Nat} (hk : k < f.length) (hj : j < k) (h : f[j] = f[k]) : goodT cols = false := goodT_not fun ok => by
  subst hf
  have := ok.once
  unfold List.Nodup at this
  rw [List.pairwise_iff_getElem] at this
  exact this j k (by omega) hk hj h

set_option maxHeartbeats 1000000 in
set_option maxRecDepth 100000 in
theorem goodR_any (its : List CIt) (co : Option Addr) (cap : Nat) (w : World) (hr : RdT w co its) (hm : its.length ≤ 5864062014805) (hm2 : ∀ x ∈ its, x.1.length ≤ 17592186044416) (g : Bool) (hg : g = goodT (colsOf its)) :
    Calls Try.prog 24 #[tval co its.length cap] w fun e w' => e = .returned (.bool g) ∧ Below w.heap.size w w' := by
  have HR : Hid (RdT (w.alloc (tbox co its.length cap)) co its) := hr.below (below1 _ _)
  have HM : Hid (∀ x ∈ its, x.1.length ≤ 17592186044416) := hm2
  have HG : Hid (g = goodT (colsOf its)) := hg
  have HP : Hid (∀ p w, Calls Try.prog 57 #[.int .i64 p] w fun e w' => e = .returned (.bool (paneB p)) ∧ w' = w) := isPaneR_any
  obtain ⟨b0, z0⟩ := one (at_new w (tbox co its.length cap))
  clear hr hm2 hg
  go_enter Try.func24, Try.ntmps24
  go_wp2
  go_loopw [13] (fun i wr => ∃ k : Nat, k ≤ its.length ∧ i = .int .i64 k ∧ wr = w.alloc (tbox co its.length cap) ∧ ∀ j (hj : j < its.length), j < k → 1 ≤ its[j].1.length ∧ its[j].1.length ≤ 3) (fun i _ => its.length - (intOf i).toNat)
  case atStart => exact ⟨0, Nat.zero_le _, rfl, rfl, fun j _ h => by omega⟩
  case round =>
    obtain ⟨k, hk, rfl, rfl, htl⟩ := hrel
    have HT : Hid (∀ j (hj : j < its.length), j < k → 1 ≤ its[j].1.length ∧ its[j].1.length ≤ 3) := htl
    clear htl
    by_cases hlt : k < its.length
    · obtain ⟨b, off, rfl, hc⟩ := HR.out.row.resolve_left (by intro h; subst h; simp at hlt)
      have h0 := hc k hlt
      obtain ⟨⟨x1, x2, x3⟩, hx⟩ : ∃ x, x = its[k] := ⟨_, rfl⟩
      rw [← hx] at h0
      have h1 : (w.alloc (tbox (some ⟨b, off, none⟩) its.length cap)).cell? ⟨b, off + k, none⟩ = some (.slice x2 x1.length x3) := h0
      have hxl := HM.out (x1, x2, x3) (by rw [hx]; exact List.getElem_mem hlt)
      have HX : Hid ((x1, x2, x3) = its[k]) := hx
      have hkc : k < (colsOf its).length := by simpa using hlt
      have HXC : Hid ((colsOf its)[k] = x1) := by show _ = _; simp [← hx]
      have hlt' : (k : Int) < (its.length : Int) := by omega
      simp only at hxl
      clear hc hx h0
      by_cases hs : x1.length < 1
      · have HG2 : Hid (g = false) := by
          show g = _
          rw [HG.out]
          exact goodT_not (bad_tall hkc (by rw [HXC.out]; omega))
        have hs' : (x1.length : Int) < 1 := by omega
        go_wp2
        go_ret
        exact ⟨ret_bool HG2.out.symm, below1 _ _⟩
      · have hs' : (1 : Int) ≤ (x1.length : Int) := by omega
        by_cases hs2 : 3 < x1.length
        · have HG2 : Hid (g = false) := by
            show g = _
            rw [HG.out]
            exact goodT_not (bad_tall hkc (by rw [HXC.out]; omega))
          have hs2' : (3 : Int) < (x1.length : Int) := by omega
          go_wp2
          go_ret
          exact ⟨ret_bool HG2.out.symm, below1 _ _⟩
        · have hs2' : (x1.length : Int) ≤ 3 := by omega
          go_wp2
          go_roundw
          case rel =>
            refine ⟨k + 1, by omega, by go_num, by first | rfl | trivial, fun j hj h => ?_⟩
            by_cases e : j = k
            · subst e
              rw [← HX.out]
              simp only
              omega
            · exact HT.out j hj (by omega)
          case measure => simp [intOf]; omega
    · have hge : (its.length : Int) ≤ (k : Int) := by omega
      obtain ⟨f, hf⟩ : ∃ f, f = (colsOf its).flatten := ⟨_, rfl⟩
      have HTA : Hid (∀ c ∈ colsOf its, 1 ≤ c.length ∧ c.length ≤ 3) := by
        intro c hc
        obtain ⟨i, hi, rfl⟩ := List.getElem_of_mem hc
        simp only [List.getElem_map]
        exact HT.out i (by simpa using hi) (by simp at hi; omega)
      have hfl : f.length ≤ 17592186044416 := by
        have := flat_bound (colsOf its) (fun c hc => (HTA.out c hc).2)
        rw [← hf] at this
        simp only [colsOf, List.length_map] at this
        omega
      have HA : Hid (Calls Try.prog 60 #[tval co its.length cap] (w.alloc (tbox co its.length cap)) fun e w' => ∃ ao c, e = .returned (.slice ao f.length c) ∧ f.length ≤ c ∧ RdL w' ao f ∧ Below w.heap.size w w') := by
        refine (all_any its co cap _ HR.out hm (by rw [← hf]; exact hfl) f hf).mono ?_
        rintro e w' ⟨ao, c, rfl, ho, hb⟩
        refine ⟨ao, c, rfl, ?_, (row_rd (x := (f, ao, c)) ho).1, below_to (below1 _ _) hb⟩
        rcases ho.2 with ⟨hv, h0⟩ | ⟨_, _, _, hv, _, _, hc, _⟩
        · rw [h0]; exact Nat.zero_le _
        · simp only [Value.slice.injEq] at hv
          omega
      have HFL : Hid (f = (colsOf its).flatten) := hf
      clear hf
      go_wp2_with (first
        | (go_at_call 60; refine HA.out.mono ?_; rintro e w1 ⟨ao, c, rfl, hfc, hrd, hb1⟩; have HB : Hid (RdL w1 ao f ∧ Below w.heap.size w w1) := ⟨hrd, hb1⟩; clear hrd hb1 b0 z0)
        | fail)
      go_loopw [30] (fun i wr => ∃ k : Nat, k ≤ f.length ∧ i = .int .i64 k ∧ wr = w1 ∧ OkTo f k) (fun i _ => f.length - (intOf i).toNat)
      case atStart => exact ⟨0, Nat.zero_le _, rfl, rfl, fun j _ h => by omega⟩
      case round =>
        obtain ⟨k2, hk2, rfl, rfl, hok⟩ := hrel
        have HO : Hid (OkTo f k2) := hok
        clear hok
        by_cases hlt2 : k2 < f.length
        · obtain ⟨b, off, rfl, hc⟩ := HB.out.1.resolve_left (by intro h; subst h; simp at hlt2)
          have h1 := hc k2 hlt2
          obtain ⟨p, hp⟩ : ∃ p, p = f.getD k2 0 := ⟨_, rfl⟩
          rw [← hp] at h1
          have HPX : Hid (f[k2] = p) := by show _ = _; rw [hp]; simp [hlt2]
          have HCS : Hid (∀ j, j < f.length → wr.cell? ⟨b, off + j, none⟩ = some (.int .i64 (f.getD j 0))) := hc
          have hlt2' : (k2 : Int) < (f.length : Int) := by omega
          have hk2c : (k2 : Int) ≤ (c : Int) := by omega
          have hk20 : (0 : Int) ≤ (k2 : Int) := by omega
          clear hc hp
          by_cases hpn : paneB p = true
          · go_wp2_with (go_at_call 57; refine (HP.out _ _).mono ?_; rintro e w2 ⟨rfl, rfl⟩)
            go_loopw [42] (fun i wr2 => ∃ j : Nat, j ≤ k2 ∧ i = .int .i64 j ∧ wr2 = w2 ∧ ∀ i (hi : i < f.length), i < j → f[i] ≠ p) (fun i _ => k2 - (intOf i).toNat)
            case atStart => exact ⟨0, Nat.zero_le _, rfl, rfl, fun j _ h => by omega⟩
            case round =>
              obtain ⟨j, hj, rfl, rfl, hne⟩ := hrel
              have HNE : Hid (∀ i (hi : i < f.length), i < j → f[i] ≠ p) := hne
              clear hne
              by_cases hjl : j < k2
              · have hjf : j < f.length := by omega
                have h3 := HCS.out j hjf
                obtain ⟨q, hq⟩ : ∃ q, q = f.getD j 0 := ⟨_, rfl⟩
                rw [← hq] at h3
                have HQ : Hid (f[j] = q) := by show _ = _; rw [hq]; simp [hjf]
                have hjl' : (j : Int) < (k2 : Int) := by omega
                clear hq
                by_cases he : p = q
                · have HG2 : Hid (g = false) := by
                    show g = _
                    rw [HG.out]
                    exact bad_flat2 HFL.out hlt2 hjl (by rw [HQ.out, HPX.out, he])
                  go_wp2
                  go_ret
                  exact ⟨ret_bool HG2.out.symm, HB.out.2⟩
                · have HE : Hid (f[j] ≠ p) := by show f[j] ≠ p; rw [HQ.out]; exact fun e => he e.symm
                  go_wp2
                  go_roundw
                  case rel => exact ⟨j + 1, by omega, by go_num, by first | rfl | trivial, fun i hi h => if e : i = j then by subst e; exact HE.out else HNE.out i hi (by omega)⟩
                  case measure => simp [intOf]; omega
              · have hjge : (k2 : Int) ≤ (j : Int) := by omega
                go_wp2
                go_roundw
                case rel =>
                  refine ⟨k2 + 1, by omega, by go_num, by first | rfl | trivial, fun i hi h => ?_⟩
                  by_cases e : i = k2
                  · subst e
                    rw [HPX.out]
                    exact ⟨hpn, fun i' hi' => HNE.out i' (by omega) (by omega)⟩
                  · exact HO.out i hi (by omega)
                case measure => simp [intOf]; omega
          · have hpn' : paneB p = false := by simpa using hpn
            have HG2 : Hid (g = false) := by
              show g = _
              rw [HG.out]
              exact bad_flat HFL.out hlt2 (by rw [HPX.out]; exact hpn')
            go_wp2_with (go_at_call 57; refine (HP.out _ _).mono ?_; rintro e w2 ⟨rfl, rfl⟩)
            go_ret
            exact ⟨ret_bool HG2.out.symm, HB.out.2⟩
        · have hge2 : (f.length : Int) ≤ (k2 : Int) := by omega
          have HG2 : Hid (g = decide (0 < f.length)) := by
            show g = _
            rw [HG.out]
            have ho := HO.out
            rw [show k2 = f.length by omega] at ho
            exact okTo_good HFL.out HTA.out ho
          go_wp2
          go_ret
          refine ⟨ret_bool ?_, HB.out.2⟩
          rw [HG2.out, Bool.eq_iff_iff]

end Go.Proofs.Yteenppbpjdldgab.Tl
