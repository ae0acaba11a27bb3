/- The document's own answers: all panes by their order; whether they are laid out; whether one is there. -/
import Derived.Test.YteenppbpjdldgabTCopy
import Derived.Lib.AppendZeros
namespace Go.Proofs.Yteenppbpjdldgab.Tl
open Go.RowKit

theorem isPaneR_any (p : Int) (w : World) : Calls Try.prog 57 #[.int .i64 p] w fun e w' => e = .returned (.bool (paneB p)) ∧ w' = w := by
  by_cases h1 : 0 ≤ p
  · go_enter Try.func57, Try.ntmps57
    go_wp2
    go_ret
    exact ⟨ret_bool (by simp [paneB, h1]), rfl⟩
  · have h1' : p < 0 := by omega
    go_enter Try.func57, Try.ntmps57
    go_wp2
    go_ret
    exact ⟨ret_bool (by simp [paneB]; omega), rfl⟩

theorem own_ge {w : World} {base sz n j : Nat} {e : TypeId} {v : Value} {xs : List Value} (h : w.ownsRow base e sz v n xs) (hj : v.ownBlock = some j) : base ≤ j := by
  rcases h.2 with ⟨rfl, _⟩ | ⟨g, cap, cur, rfl, hb, _⟩
  · simp [Value.ownBlock] at hj
  · simp only [Value.ownBlock, Option.some.injEq] at hj
    omega

/-- In the midst of gathering. -/
structure LInv (w : World) (its : List CIt) (co : Option Addr) (cap : Nat) (l : List Int) (v : Value) (wr : World) : Prop where
  row : wr.ownsRow (w.heap.size + 1) 3 1 v l.length (ints l)
  box : wr.heap[w.heap.size]? = some (tbox co its.length cap)
  below : Below w.heap.size w wr

theorem LInv.more {w : World} {its : List CIt} {co : Option Addr} {cap : Nat} {l m : List Int} {v v' : Value} {wr w2 : World} (h : LInv w its co cap l v wr) (hown : w2.ownsRow (w.heap.size + 1) 3 1 v' (l.length + m.length) (ints l ++ ints m)) (hg : wr.grownBy w2 v.ownBlock) : LInv w its co cap (l ++ m) v' w2 := by
  refine ⟨by simpa using hown, ?_, h.below.grown hg h.below.size (fun j hj => by have := own_ge h.row hj; omega)⟩
  rw [hg.block _ (at_lt h.box) (fun e => by have := own_ge h.row e.symm; omega)]
  exact h.box

set_option maxHeartbeats 1000000 in
set_option maxRecDepth 100000 in
theorem all_any (its : List CIt) (co : Option Addr) (cap : Nat) (w : World) (hr : RdT w co its) (hm : its.length ≤ 5864062014805) (hm2 : (colsOf its).flatten.length ≤ 17592186044416) (f : List Int) (hf : f = (colsOf its).flatten) :
    Calls Try.prog 60 #[tval co its.length cap] w fun e w' => ∃ ao c, e = .returned (.slice ao f.length c) ∧ w'.ownsRow (w.heap.size + 1) 3 1 (.slice ao f.length c) f.length (ints f) ∧ Below w.heap.size w w' := by
  obtain ⟨i0, hi, hz0, hz1, hz2⟩ := info_parts info3
  have HR : Hid (RdT w co its) := hr
  have HF : Hid (f = (colsOf its).flatten) := hf
  have HM : Hid (∀ k (hk : k < its.length), ((colsOf its).take k).flatten.length + its[k].1.length ≤ 17592186044416) := by
    intro k hk
    have hk' : k < (colsOf its).length := by simpa using hk
    have h0 : (colsOf its) = (colsOf its).take k ++ (colsOf its)[k] :: (colsOf its).drop (k + 1) := by rw [← List.drop_eq_getElem_cons hk', List.take_append_drop]
    have e := congrArg (fun l : List (List Int) => l.flatten.length) h0
    simp only [List.flatten_append, List.flatten_cons, List.length_append] at e
    simp only [List.getElem_map] at e
    omega
  obtain ⟨b0, z0⟩ := one (at_new w (tbox co its.length cap))
  clear hr hm2 hf
  go_enter Try.func60, Try.ntmps60
  go_wp2
  go_loopw [3, 9] (fun v i wr => ∃ k : Nat, k ≤ its.length ∧ i = .int .i64 k ∧ LInv w its co cap ((colsOf its).take k).flatten v wr) (fun _ i _ => its.length - (intOf i).toNat)
  case atStart => exact ⟨0, Nat.zero_le _, rfl, by simpa using World.ownsRow_nil _ _ _ _, at_new _ _, below1 _ _⟩
  case round =>
    obtain ⟨k, hk, rfl, hi⟩ := hrel
    have HI : Hid (LInv w its co cap ((colsOf its).take k).flatten u3 wr) := hi
    clear hi
    by_cases hlt : k < its.length
    · have hlt' : (k : Int) < (its.length : Int) := by omega
      have hrd := HR.out.below HI.out.below
      obtain ⟨b, off, rfl, hc⟩ := hrd.row.resolve_left (by intro h; subst h; simp at hlt)
      have h0 := hc k hlt
      have hml := HM.out k hlt
      obtain ⟨⟨x1, x2, x3⟩, hx⟩ : ∃ x, x = its[k] := ⟨_, rfl⟩
      rw [← hx] at h0 hml
      have h1 : wr.cell? ⟨b, off + k, none⟩ = some (.slice x2 x1.length x3) := h0
      have hmem : (x1, x2, x3) ∈ its := by rw [hx]; exact List.getElem_mem hlt
      have hrx := hrd.each _ hmem
      have HNX : Hid (((colsOf its).take (k + 1)).flatten = ((colsOf its).take k).flatten ++ x1) := by
        show _ = _
        rw [List.take_succ_eq_append_getElem (by simpa using hlt), List.flatten_append]
        simp [← hx]
      simp only at hml hrx
      obtain ⟨L, hL⟩ : ∃ L, L = ((colsOf its).take k).flatten := ⟨_, rfl⟩
      rw [← hL] at HI HNX hml
      have hsz : w.heap.size < wr.heap.size := at_lt HI.out.box
      clear hc h0 hx hmem hrd hL
      cases x2 with
      | none =>
        obtain ⟨rfl, rfl⟩ := hrx.2 rfl
        clear hrx
        have HRUN : Hid (∀ ty, (Builtin.append_ #[28, 28] ty #[u3, .slice none 0 0]).run Try.prog wr = .ok u3 wr) := fun ty => run_append_owned_none wr (w.heap.size + 1) 28 ty 3 i0 1 Try.underlying28 hi u3 _ _ HI.out.row
        go_wp2_with (at_builtin; refine Lib.wpList_append_run _ rfl _ _ _ _ rfl _ _ rfl rfl _ _ (HRUN.out _) ?_)
        go_roundw
        case rel =>
          refine ⟨k + 1, by omega, by go_num, ?_⟩
          rw [HNX.out, List.append_nil]
          exact HI.out
        case measure => simp [intOf]; omega
      | some a =>
        have HSRC : Hid (∀ j u, (ints x1)[j]? = some u → wr.cell? (a.add j) = some u) := fun j u hu => rd_src hrx.1 j u hu
        clear hrx
        go_wp2_with (at_builtin; refine wpList_append_own _ rfl _ _ 28 rfl (w.heap.size + 1) 3 i0 (.int .i64 0) 1 8 Try.underlying28 hi hz0 hz1 hz2 rfl (by decide) _ _ _ rfl HI.out.row a x1.length x3 (ints x1) rfl (by simp) HSRC.out (ints_one x1) (by unfold maxLen; omega) (by omega) (by omega) ?_)
        intro v' w2 hown hgrow _
        have HI2 : Hid (LInv w its _ cap (L ++ x1) v' w2) := HI.out.more hown hgrow
        clear hown hgrow
        go_wp2
        go_roundw
        case rel =>
          refine ⟨k + 1, by omega, by go_num, ?_⟩
          rw [HNX.out]
          exact HI2.out
        case measure => simp [intOf]; omega
    · have hge : (its.length : Int) ≤ (k : Int) := by omega
      have HK : Hid (((colsOf its).take k).flatten = f) := by
        show _ = _
        rw [HF.out, List.take_of_length_le (by simp; omega)]
      go_wp2
      go_ret
      have h := HI.out
      rw [HK.out] at h
      obtain ⟨ao, c, hv⟩ := row_shape h.row
      subst hv
      exact ⟨ao, c, rfl, h.row, h.below⟩

end Go.Proofs.Yteenppbpjdldgab.Tl
