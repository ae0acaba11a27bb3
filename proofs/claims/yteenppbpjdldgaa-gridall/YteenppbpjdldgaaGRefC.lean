/- What the document's own 'NewGrid' and 'CellAt' answer. -/
import Derived.Test.YteenppbpjdldgaaGTwo
import Derived.Deep.AppendLies
namespace Go.Proofs.Yteenppbpjdldgaa
open Go.RowKit

@[reducible] def nbox (a c : Int) (ao : Option Addr) (k cap : Nat) : Obj := .cells #[.int .i64 a, .int .i64 c, .slice ao k cap, .int .i64 0, .int .i64 0, .int .i64 0, .bool false, .int .i64 0, .int .i64 0] 41

/-- At each round's head: as many empty cells as rounds. -/
structure NInv (w : World) (a c : Int) (k : Nat) (ao : Option Addr) (cap : Nat) (wr : World) : Prop where
  box : wr.heap[w.heap.size + 1]? = some (nbox a c ao k cap)
  res : wr.heap[w.heap.size]? = some gzero
  row : wr.ownsRow (w.heap.size + 2) 49 4 (.slice ao k cap) k (flatC (fun _ => noCel) k)
  below : Below w.heap.size w wr

theorem row_set {w : World} {base n : Nat} {ao : Option Addr} {cap : Nat} {xs : List Value} (h : w.ownsRow base 49 4 (.slice ao n cap) n xs) {p : Addr} (hp : p.block < base) (u : Value) : (w.setCell p u).ownsRow base 49 4 (.slice ao n cap) n xs := by
  refine ⟨h.1, ?_⟩
  rcases h.2 with h0 | ⟨g, c, cur, hv, hb, hg, rest⟩
  · exact .inl h0
  · exact .inr ⟨g, c, cur, hv, hb, by rw [Below.heap_setCell _ _ _ _ (by omega)]; exact hg, rest⟩

theorem row_ne {w : World} {base n B : Nat} {ao : Option Addr} {cap : Nat} {xs : List Value} (h : w.ownsRow base 49 4 (.slice ao n cap) n xs) (hB : B < base) : some B ≠ (Value.slice ao n cap).ownBlock := by
  cases ao with
  | none => simp [Value.ownBlock]
  | some a =>
    intro e
    simp only [Value.ownBlock, Option.some.injEq] at e
    have := (World.ownsRow.lt h a.block rfl).1
    omega

theorem NInv.step {w : World} {a c : Int} {k : Nat} {ao : Option Addr} {cap : Nat} {wr w1 : World} {o : Obj} {g' cap' : Nat} (h : NInv w a c k ao cap wr) (hown : w1.ownsRow (w.heap.size + 2) 49 4 (.slice (some ⟨g', 0, none⟩) (k + 1) cap') (k + 1) (flatC (fun _ => noCel) k ++ flatC (fun _ => noCel) 1)) (hg : (wr.alloc o).grownBy w1 (Value.slice ao k cap).ownBlock) :
    NInv w a c (k + 1) (some ⟨g', 0, none⟩) cap' (w1.setCell ⟨w.heap.size + 1, 2, none⟩ (.slice (some ⟨g', 0, none⟩) (k + 1) cap')) := by
  have hb := h.below
  have hbs := hb.size
  have hsz : w.heap.size + 1 < wr.heap.size := (Array.getElem?_eq_some_iff.1 h.box).1
  have e : flatC (fun _ => noCel) k ++ flatC (fun _ => noCel) 1 = flatC (fun _ => noCel) (k + 1) := (flatC_succ (fun _ => noCel) k).symm
  rw [e] at hown
  have hB : Below w.heap.size w w1 := by
    refine (hb.alloc hbs o).grown hg (by simp; omega) fun j hj => ?_
    rcases Nat.lt_or_ge j w.heap.size with h1 | h1
    · exact absurd hj.symm (row_ne h.row (by omega))
    · exact h1
  exact ⟨set_box (grown_block hg (at_old h.box o) (row_ne h.row (by omega))), other_set (grown_block hg (at_old h.res o) (row_ne h.row (by omega))) (by omega), row_set hown (by simp) _, hB.setCell (by simp) _⟩

theorem one_src (w : World) (j : Nat) (u : Value) (hu : (flatC (fun _ => noCel) 1)[j]? = some u) : (w.alloc (.cells #[.int .i64 0, .int .i64 0, .int .i64 0, .bool false] 49)).cell? ((⟨w.heap.size, 0, none⟩ : Addr).add j) = some u := by
  obtain ⟨⟨t0, t1, t2, t3⟩, _⟩ := four (at_new w (.cells #[.int .i64 0, .int .i64 0, .int .i64 0, .bool false] 49))
  have hj : j < 4 := by have := (List.getElem?_eq_some_iff.1 hu).1; rwa [flatC_length] at this
  rw [add_at]
  have h4 : j = 0 ∨ j = 1 ∨ j = 2 ∨ j = 3 := by omega
  rcases h4 with rfl | rfl | rfl | rfl
  · rw [Nat.zero_add, t0, ← hu]; rfl
  · rw [Nat.zero_add, t1, ← hu]; rfl
  · rw [Nat.zero_add, t2, ← hu]; rfl
  · rw [Nat.zero_add, t3, ← hu]; rfl

set_option maxRecDepth 2000 in
set_option maxHeartbeats 2000000 in
theorem newGrid_any (wide high : Int) (w : World) (x : Gr) (hx : x = newG wide high) :
    Calls Try.prog 36 #[.int .i64 wide, .int .i64 high] w fun e w' => ∃ b cap, e = .returned (gval x (some ⟨b, 0, none⟩) cap) ∧ Scr w' b x.n x.f ∧ x.n ≤ cap ∧ w.heap.size ≤ b ∧ Below w.heap.size w w' := by
  obtain ⟨i0, hi, hz0, hz1, hz2⟩ := info_parts info49
  obtain ⟨a, ha⟩ : ∃ a, a = max 1 (min wide 24) := ⟨_, rfl⟩
  obtain ⟨c, hc⟩ : ∃ c, c = max 1 (min high 10) := ⟨_, rfl⟩
  have h1 : 1 ≤ a := by omega
  have h2 : a ≤ 24 := by omega
  have h3 : 1 ≤ c := by omega
  have h4 : c ≤ 10 := by omega
  have hp : 0 ≤ a * c := Int.mul_nonneg (by omega) (by omega)
  have hp1 : 1 ≤ a * c := by
    have : 1 * c ≤ a * c := mul_mono h1 (by omega)
    omega
  have hp2 : a * c ≤ 240 := by
    have : a * c ≤ 24 * c := mul_mono h2 (by omega)
    omega
  obtain ⟨n, hn⟩ : ∃ n : Nat, a * c = n := ⟨(a * c).toNat, by omega⟩
  have HX : Hid (x = ⟨a, c, n, fun _ => noCel, 0, 0, 0, false, 0, c⟩) := by
    show x = _
    rw [hx]
    unfold newG
    rw [← ha, ← hc, hn]
    simp
  have hwr : IntKind.i64.wrap (a * c) = (n : Int) := by rw [← hn, IntKind.wrap_i64]; omega
  have hn1 : 0 < n := by omega
  have hn2 : n ≤ 240 := by omega
  have HA : Hid (a = max 1 (min wide 24) ∧ c = max 1 (min high 10)) := ⟨ha, hc⟩
  clear hx ha hc hp hp1 hp2 hn
  go_enter Try.func36, Try.ntmps36
  go_upto_region 1 with fail
  go_cut [5] from 6 to 12 (fun s5 wx => s5 = .pointer (some ⟨w.heap.size + 1, 0, none⟩) ∧ ∃ a' c', a' = a ∧ c' = c ∧ wx = (w.alloc gzero).alloc (nbox a' c' none 0 0))
  case first =>
    obtain ⟨ha, hc⟩ := HA.out
    go_wp2_with fail
    have hif1 : (if wide < 1 then (1 : Int) else wide) = max wide 1 := by split <;> omega
    have hif2 : (if high < 1 then (1 : Int) else high) = max high 1 := by split <;> omega
    all_goals (go_meet; refine ⟨rfl, _, _, ?_, ?_, rfl⟩ <;> omega)
  case rest =>
    obtain ⟨rfl, a', c', rfl, rfl, rfl⟩ := hcut
    have HI0 : Hid (NInv w a' c' 0 none 0 ((w.alloc gzero).alloc (nbox a' c' none 0 0))) := ⟨at_new1 w _ _, at_old (at_new w _) _, World.ownsRow_nil _ _ _ _, below2 _ _ _⟩
    go_wp2_with fail
    go_loopw [18] (fun i wr => ∃ (k : Nat) (ao : Option Addr) (cap : Nat), k ≤ n ∧ i = .int .i64 k ∧ NInv w a' c' k ao cap wr) (fun i _ => n - (intOf i).toNat)
    case atStart => exact ⟨0, none, 0, Nat.zero_le _, rfl, HI0.out⟩
    case round =>
      obtain ⟨k, ao, cap, hk, rfl, hv⟩ := hrel
      have HV : Hid (NInv w a' c' k ao cap wr) := hv
      obtain ⟨⟨x0, x1, x2, x3, x4, x5, x6, x7, x8⟩, z⟩ := nine hv.box
      obtain ⟨⟨u0, u1, u2, u3, u4, u5, u6, u7, u8⟩, v⟩ := nine hv.res
      have hsz : w.heap.size + 1 < wr.heap.size := (Array.getElem?_eq_some_iff.1 hv.box).1
      clear hv
      by_cases hlt : k < n
      · have hlt' : (k : Int) < (n : Int) := by omega
        have hk0 : (0 : Int) ≤ (k : Int) := by omega
        go_wp2_with (first | (at_builtin; refine wpList_append_lies _ rfl _ _ 39 rfl (w.heap.size + 2) 49 i0 (.agg #[.int .i64 0, .int .i64 0, .int .i64 0, .bool false]) 4 32 Try.underlying39 hi hz0 hz1 hz2 rfl (by decide) _ k (flatC (fun _ => noCel) k) rfl (HV.out.row.alloc _) ⟨wr.heap.size, 0, none⟩ 1 1 (flatC (fun _ => noCel) 1) rfl rfl ?c1 ?c2 (by decide) ?c3 ?c4 ?c5 (wr.heap.size + 1) ?c6 ?_) | fail)
        case c1 => exact one_src wr
        case c2 => exact flatC_one _ 1
        case c3 => unfold maxLen; omega
        case c4 => omega
        case c5 => simp; omega
        case c6 => simp
        · intro g' cap' w1 hown hgrow _ _
          have HN : Hid (NInv w a' c' (k + 1) (some ⟨g', 0, none⟩) cap' (w1.setCell ⟨w.heap.size + 1, 2, none⟩ (.slice (some ⟨g', 0, none⟩) (k + 1) cap'))) := HV.out.step hown hgrow
          obtain ⟨⟨y0, y1, y2, y3, y4, y5, y6, y7, y8⟩, z1⟩ := nine (grown_block hgrow (at_old HV.out.box _) (row_ne HV.out.row (by omega)))
          clear hown hgrow
          go_wp2
          go_roundw
          case rel => exact ⟨k + 1, some ⟨g', 0, none⟩, cap', by omega, by go_num, HN.out⟩
          case measure => simp [intOf]; omega
      · have HK : Hid (k = n) := (by omega : k = n)
        have hge : (n : Int) ≤ (k : Int) := by omega
        have hne1 : w.heap.size ≠ w.heap.size + 1 := by omega
        go_wp2
        refine bodyPost_ret (v := gval ⟨a', c', k, fun _ => noCel, 0, 0, 0, false, 0, c'⟩ ao cap) (by simp [results, Try.results36, go_sem, *]) rfl ?_
        obtain ⟨b, cap2, hve, hbb, hcc, hss⟩ := scr_of_row HV.out.row (by have := HK.out; omega)
        simp only [Value.slice.injEq] at hve
        obtain ⟨rfl, _, rfl⟩ := hve
        have hkn := HK.out
        rw [HX.out]
        subst hkn
        exact ⟨b, _, rfl, scr_set9 (hss.set (by simp; omega) _) (by omega) _ _ _ _ _ _ _ _ _, hcc, by omega, below_set9 (HV.out.below.setCell (by simp) _) (Nat.le_refl _) _ _ _ _ _ _ _ _ _⟩

end Go.Proofs.Yteenppbpjdldgaa
