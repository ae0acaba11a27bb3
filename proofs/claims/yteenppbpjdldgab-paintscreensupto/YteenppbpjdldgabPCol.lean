/- Is there a line in a column of cells? -/
import Derived.Test.YteenppbpjdldgabPFun
namespace Go.Proofs.Yteenppbpjdldgab.Pt
open Go.RowKit
open Go.Proofs.Yteenppbpjdldgab.Tl (Rc noRc whereT shareT inR findT goodT paneB CIt colsOf RdT RdL tval tbox rval rbox rcells zbox cv)

theorem share_num (v : Vw) (k : Nat) : 0 ≤ (v.share k).1 ∧ (v.share k).1 ≤ 24 ∧ 0 ≤ (v.share k).2 ∧ (v.share k).2 ≤ 24 := by
  unfold Vw.share
  by_cases h : 0 ≤ v.wide ∧ v.wide < 25
  · rcases Tl.share_in v.wide v.cols.length k h.1 h.2 with e | e
    · rw [e]; decide
    · omega
  · rw [share_far h]; decide

theorem lineB_true (v : Vw) {col : Int} {k : Nat} (hk : k + 1 < v.cols.length) (h1 : 0 < (v.share k).2) (h2 : col = (v.share k).1 + (v.share k).2) : lineB v col = true :=
  List.any_eq_true.2 ⟨k, List.mem_range.2 (by omega), decide_eq_true ⟨h1, h2⟩⟩
theorem lineB_false (v : Vw) {col : Int} (hl : ∀ k : Nat, k + 1 < v.cols.length → ¬ (0 < (v.share k).2 ∧ col = (v.share k).1 + (v.share k).2)) : lineB v col = false := by
  refine List.any_eq_false.2 fun k hk e => hl k ?_ (of_decide_eq_true e)
  have := List.mem_range.1 hk
  omega

set_option maxHeartbeats 1000000 in
theorem behind_any (v : Vw) (l : Lay) (C : Array Value) (hC : VC v l C) (col : Int) (w : World) (hv : RdV w v l) (r : Bool) (hr : r = lineB v col) :
    Calls Try.prog 64 #[.agg C, .int .i64 col] w fun e w' => e = .returned (.bool r) ∧ Below w.heap.size w w' := by
  have hlen : v.cols.length = l.its.length := by rw [hv.cols]; simp
  have hm := hv.m1
  have HS : Hid (∀ (k : Nat) w, Calls Try.prog 28 #[.int .i64 v.wide, .int .i64 l.its.length, .int .i64 k] w fun e w' => e = .returned (.tuple #[.int .i64 (v.share k).1, .int .i64 (v.share k).2]) ∧ Below w.heap.size w w') := fun k w => Tl.share_any v.wide l.its.length k w _ (by unfold Vw.share; rw [hlen])
  have HC : Hid (VC v l C) := hC
  have HL : Hid (v.cols.length = l.its.length) := hlen
  have HR : Hid (r = lineB v col) := hr
  obtain ⟨c0, c1, c2, c3⟩ := hC.cells
  clear hr hv hC hlen
  go_enter Try.func64, Try.ntmps64
  go_wp2
  clear c0 c1 c2 c3
  go_loopw [15] (fun i wr => ∃ k : Nat, (k = 0 ∨ k + 1 ≤ l.its.length) ∧ i = .int .i64 k ∧ wr.heap[w.heap.size]? = some (cbox C) ∧ Below w.heap.size w wr ∧ ∀ j : Nat, j < k → ¬ (0 < (v.share j).2 ∧ col = (v.share j).1 + (v.share j).2)) (fun i _ => l.its.length - (intOf i).toNat)
  case atStart => exact ⟨0, .inl rfl, rfl, at_new _ _, below1 _ _, fun j hj => by omega⟩
  case round =>
    obtain ⟨k, hk, rfl, hb, hbel, hno⟩ := hrel
    have HB : Hid (wr.heap[w.heap.size]? = some (cbox C) ∧ Below w.heap.size w wr) := ⟨hb, hbel⟩
    have HN : Hid (∀ j : Nat, j < k → ¬ (0 < (v.share j).2 ∧ col = (v.share j).1 + (v.share j).2)) := hno
    obtain ⟨⟨b0, b1, b2, b3⟩, b4⟩ := cbox_cells HC.out hb
    clear hb hbel hno
    by_cases hlt : k + 1 < l.its.length
    · have hlt' : (k : Int) < (l.its.length : Int) - 1 := by omega
      obtain ⟨s, hs⟩ : ∃ s, s = v.share k := ⟨_, rfl⟩
      have hn := share_num v k
      have HSK := HS.out k
      have HSE : Hid (s = v.share k) := hs
      rw [← hs] at HSK hn
      obtain ⟨x, y⟩ := s
      have HSH : Hid (∀ w, Calls Try.prog 28 #[.int .i64 v.wide, .int .i64 l.its.length, .int .i64 k] w fun e w' => e = .returned (.tuple #[.int .i64 x, .int .i64 y]) ∧ Below w.heap.size w w') := HSK
      simp only at hn
      obtain ⟨hn0, hn1, hn2, hn3⟩ := hn
      clear HSK hs HS
      by_cases h1 : 0 < y
      · by_cases h2 : col = x + y
        · have HT : Hid (r = true) := by
            show r = true
            rw [HR.out]
            exact lineB_true v (by rw [HL.out]; exact hlt) (by rw [← HSE.out]; exact h1) (by rw [← HSE.out]; exact h2)
          go_wp2_with (go_at_call 28; refine (HSH.out _).mono ?_; rintro e w1 ⟨rfl, hb1⟩; have HB1 : Hid (Below w.heap.size w w1) := Tl.below_to HB.out.2 hb1; clear hb1)
          go_ret
          rw [HT.out]
          exact ⟨rfl, HB1.out⟩
        · have HB2 : Hid (∀ w1, Below wr.heap.size wr w1 → w1.heap[w.heap.size]? = some (cbox C) ∧ Below w.heap.size w w1) := fun w1 hb1 => ⟨below_block hb1 HB.out.1 (Tl.at_lt HB.out.1), Tl.below_to HB.out.2 hb1⟩
          go_wp2_with (go_at_call 28; refine (HSH.out _).mono ?_; rintro e w1 ⟨rfl, hb1⟩; have HB1 : Hid (w1.heap[w.heap.size]? = some (cbox C) ∧ Below w.heap.size w w1) := HB2.out w1 hb1; clear hb1)
          go_roundw
          case rel => exact ⟨k + 1, by omega, by go_num, HB1.out.1, HB1.out.2, fun j hj => by
            by_cases e : j = k
            · subst e; rw [← HSE.out]; exact fun h => h2 h.2
            · exact HN.out j (by omega)⟩
          case measure => simp [intOf]; omega
      · have h1' : y ≤ 0 := by omega
        have HB2 : Hid (∀ w1, Below wr.heap.size wr w1 → w1.heap[w.heap.size]? = some (cbox C) ∧ Below w.heap.size w w1) := fun w1 hb1 => ⟨below_block hb1 HB.out.1 (Tl.at_lt HB.out.1), Tl.below_to HB.out.2 hb1⟩
        go_wp2_with (go_at_call 28; refine (HSH.out _).mono ?_; rintro e w1 ⟨rfl, hb1⟩; have HB1 : Hid (w1.heap[w.heap.size]? = some (cbox C) ∧ Below w.heap.size w w1) := HB2.out w1 hb1; clear hb1)
        go_roundw
        case rel => exact ⟨k + 1, by omega, by go_num, HB1.out.1, HB1.out.2, fun j hj => by
          by_cases e : j = k
          · subst e; rw [← HSE.out]; intro h; have := h.1; simp only at this; omega
          · exact HN.out j (by omega)⟩
        case measure => simp [intOf]; omega
    · have hge : (l.its.length : Int) - 1 ≤ (k : Int) := by omega
      have HF : Hid (r = false) := by
        show r = false
        rw [HR.out]
        exact lineB_false v fun j hj => HN.out j (by rw [HL.out] at hj; omega)
      go_wp2
      go_ret
      rw [HF.out]
      exact ⟨rfl, HB.out.2⟩

end Go.Proofs.Yteenppbpjdldgab.Pt
