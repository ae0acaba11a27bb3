/- What 'New' and 'slices.Clone' make: lists of their own. -/
import Derived.Test.YtpichplhidiokacGreatDoorGGood
import Derived.OwnWalk
import Derived.Deep.RegionWith
namespace Go.Proofs.YtpichplhidiokacGreatDoor
open Go.RowKit

theorem scr_of_row {w : World} {base n : Nat} {v : Value} {f : Nat → Cel} (h : w.ownsRow base 67 4 v n (flatC f n)) (hn : 0 < n) : ∃ g cap, v = .slice (some ⟨g, 0, none⟩) n cap ∧ base ≤ g ∧ n ≤ cap ∧ Scr w g n f := by
  rcases h.2 with ⟨_, h0⟩ | ⟨g, cap, cur, hv, hb, hg, hc, _, hs, ht⟩
  · omega
  · refine ⟨g, cap, hv, hb, hc, cur, hg, by rw [hs]; exact Nat.mul_le_mul_right 4 hc, fun i hi j hj => ?_⟩
    have h1 := flatC_get f n i j hi hj
    rw [← ht, List.getElem?_take_of_lt (by omega)] at h1
    simpa using h1

theorem scr_set9 {w2 : World} {b B n : Nat} {f : Nat → Cel} (h : Scr w2 b n f) (hB : b ≠ B) (u0 u1 u2 u3 u4 u5 u6 u7 u8 : Value) :
    Scr (((((((((w2.setCell ⟨B, 0, none⟩ u0).setCell ⟨B, 1, none⟩ u1).setCell ⟨B, 2, none⟩ u2).setCell ⟨B, 3, none⟩ u3).setCell ⟨B, 4, none⟩ u4).setCell ⟨B, 5, none⟩ u5).setCell ⟨B, 6, none⟩ u6).setCell ⟨B, 7, none⟩ u7).setCell ⟨B, 8, none⟩ u8) b n f := by
  have step : ∀ (w2 : World) (j : Nat) (u : Value), Scr w2 b n f → Scr (w2.setCell ⟨B, j, none⟩ u) b n f := fun w2 j u h => h.set (fun e => hB e.symm) _
  exact step _ _ _ (step _ _ _ (step _ _ _ (step _ _ _ (step _ _ _ (step _ _ _ (step _ _ _ (step _ _ _ (step _ _ _ h))))))))
theorem below_set9 {w w2 : World} {b B : Nat} (h : Below b w w2) (hB : b ≤ B) (u0 u1 u2 u3 u4 u5 u6 u7 u8 : Value) :
    Below b w (((((((((w2.setCell ⟨B, 0, none⟩ u0).setCell ⟨B, 1, none⟩ u1).setCell ⟨B, 2, none⟩ u2).setCell ⟨B, 3, none⟩ u3).setCell ⟨B, 4, none⟩ u4).setCell ⟨B, 5, none⟩ u5).setCell ⟨B, 6, none⟩ u6).setCell ⟨B, 7, none⟩ u7).setCell ⟨B, 8, none⟩ u8) := by
  have step : ∀ (w2 : World) (j : Nat) (u : Value), Below b w w2 → Below b w (w2.setCell ⟨B, j, none⟩ u) := fun w2 j u h => h.setCell hB _
  exact step _ _ _ (step _ _ _ (step _ _ _ (step _ _ _ (step _ _ _ (step _ _ _ (step _ _ _ (step _ _ _ (step _ _ _ h))))))))

theorem made4 (m : Nat) : (madeCells #[.int .i64 0, .int .i64 0, .int .i64 0, .bool false] (m * 4)).toList = flatC (fun _ => noCel) m := zeros4 m

set_option maxHeartbeats 1000000 in
theorem new_any (wide high : Int) (w : World) (x : Gr) (hx : x = newG wide high) :
    Calls Tryz.prog 47 #[.int .i64 wide, .int .i64 high] w fun e w' => ∃ b, e = .returned (gval x (some ⟨b, 0, none⟩) x.n) ∧ Scr w' b x.n x.f ∧ w.heap.size ≤ b ∧ Below w.heap.size w w' := by
  obtain ⟨i0, hi, hz0, hz1, hz2⟩ := info_parts info49
  obtain ⟨a, ha⟩ : ∃ a, a = max 1 (min wide 24) := ⟨_, rfl⟩
  obtain ⟨c, hc⟩ : ∃ c, c = max 1 (min high 10) := ⟨_, rfl⟩
  have HW1 : Hid (∀ w, Calls Tryz.prog 77 #[.int .i64 wide, .int .i64 1, .int .i64 24] w fun e w' => e = .returned (.int .i64 a) ∧ w' = w) := fun w => by rw [ha]; exact within_any wide 1 24 w
  have HW2 : Hid (∀ w, Calls Tryz.prog 77 #[.int .i64 high, .int .i64 1, .int .i64 10] w fun e w' => e = .returned (.int .i64 c) ∧ w' = w) := fun w => by rw [hc]; exact within_any high 1 10 w
  have h1 : 1 ≤ a := by omega
  have h2 : a ≤ 24 := by omega
  have h3 : 1 ≤ c := by omega
  have h4 : c ≤ 10 := by omega
  have hp : 0 ≤ a * c := Int.mul_nonneg (by omega) (by omega)
  have hp1 : 1 ≤ a * c := by
    have : 1 * c ≤ a * c := mul_mono h1 (by omega)
    omega
  have hp2 : a * c ≤ 240 := by
    have : a * c ≤ 24 * c := mul_mono h2 (by omega)
    omega
  obtain ⟨n, hn⟩ : ∃ n : Nat, a * c = n := ⟨(a * c).toNat, by omega⟩
  have HX : Hid (x = ⟨a, c, n, fun _ => noCel, 0, 0, 0, false, 0, c⟩) := by
    show x = _
    rw [hx]
    unfold newG
    rw [← ha, ← hc, hn]
    simp
  have hwr : IntKind.i64.wrap (a * c) = (n : Int) := by rw [← hn, IntKind.wrap_i64]; omega
  have hn1 : 0 < n := by omega
  have hn2 : n ≤ 240 := by omega
  clear hx ha hc hp hp1 hp2 hn
  go_enter Tryz.func47, Tryz.ntmps47
  go_wp2_with (first
    | (go_at_call_of 77 (Value.int IntKind.i64 24); refine (HW1.out _).mono ?_; rintro e w1 ⟨rfl, rfl⟩)
    | (go_at_call_of 77 (Value.int IntKind.i64 10); refine (HW2.out _).mono ?_; rintro e w1 ⟨rfl, rfl⟩)
    | (at_make; refine wpList_make_full _ rfl _ _ 35 rfl w.heap.size 67 i0 (.agg #[.int .i64 0, .int .i64 0, .int .i64 0, .bool false]) 4 Tryz.underlying35 hi hz0 hz1 .i64 .i64 _ _ n rfl rfl rfl rfl (by rw [hz2]; omega) (by unfold maxLen; omega) (by simp) ?_))
  intro w1 hown hg
  rw [made4] at hown
  obtain ⟨b', cap', hv, _, _, hs⟩ := scr_of_row hown hn1
  simp only [Value.slice.injEq, Option.some.injEq, Addr.mk.injEq, and_true, true_and] at hv
  obtain ⟨rfl, rfl⟩ := hv
  obtain ⟨⟨u0, u1, u2, u3, u4, u5, u6, u7, u8⟩, v⟩ := nine (grown_block hg (at_new w _) (by simp))
  have HF : Hid (Scr w1 (w.heap.size + 1) n (fun _ => noCel) ∧ Below w.heap.size w w1) := ⟨hs, (below1 w _).trans ⟨hg.os, hg.tape, hg.output, hg.size, fun k hk => hg.block k (by simp; omega) (by simp)⟩⟩
  clear hown hg hs
  go_wp2
  refine bodyPost_ret (v := gval ⟨a, c, n, fun _ => noCel, 0, 0, 0, false, 0, c⟩ (some ⟨w.heap.size + 1, 0, none⟩) n) (by simp [results, Tryz.results47, go_sem, *]) rfl ?_
  rw [HX.out]
  exact ⟨w.heap.size + 1, rfl, scr_set9 HF.out.1 (by omega) _ _ _ _ _ _ _ _ _, by omega, below_set9 HF.out.2 (Nat.le_refl _) _ _ _ _ _ _ _ _ _⟩

theorem nilCells (w : World) (a : Option Addr) (n c : Nat) : (binOp .eql 35 (.slice a n c) (.slice none 0 0)).run Tryz.prog w = .ok (.bool a.isNone) w := Lib.run_eql_slice_nil w 35 67 a n c 0 0 Tryz.underlying35

/-- A copy of a list. -/
def Copied (w : World) (n : Nat) (f : Nat → Cel) (ao : Option Addr) (cap : Nat) (w' : World) : Prop :=
  RdS w' ao n f ∧ (0 < n → ∃ b, ao = some ⟨b, 0, none⟩ ∧ w.heap.size ≤ b ∧ n ≤ cap ∧ Scr w' b n f) ∧ Below w.heap.size w w'

set_option maxHeartbeats 400000 in
theorem clone_nil (w : World) : Calls Tryz.prog 46 #[.slice none 0 0] w fun e w' => e = .returned (.slice none 0 0) ∧ w' = w := by
  have hn := nilCells
  go_enter Tryz.func46, Tryz.ntmps46
  go_wp2
  go_ret
  exact ⟨rfl, rfl⟩

theorem row_shape {w : World} {base n : Nat} {v : Value} {f : Nat → Cel} (h : w.ownsRow base 67 4 v n (flatC f n)) : ∃ ao cap, v = .slice ao n cap ∧ RdS w ao n f ∧ (0 < n → ∃ b, ao = some ⟨b, 0, none⟩ ∧ base ≤ b ∧ n ≤ cap ∧ Scr w b n f) := by
  rcases Nat.eq_zero_or_pos n with h0 | h0
  · subst h0
    rcases h.2 with ⟨hv, _⟩ | ⟨g, cap, cur, hv, _⟩
    · exact ⟨none, 0, hv, .inl rfl, fun h => absurd h (by omega)⟩
    · exact ⟨_, _, hv, .inl rfl, fun h => absurd h (by omega)⟩
  · obtain ⟨g, cap, hv, hb, hc, hs⟩ := scr_of_row h h0
    exact ⟨_, _, hv, hs.rd, fun _ => ⟨g, rfl, hb, hc, hs⟩⟩

set_option maxHeartbeats 400000 in
theorem clone_some (a : Addr) (cap n : Nat) (f : Nat → Cel) (w : World) (hr : RdS w (some a) n f) (hm : n * 32 ≤ 140737488355328) :
    Calls Tryz.prog 46 #[.slice (some a) n cap] w fun e w' => ∃ ao' cap', e = .returned (.slice ao' n cap') ∧ Copied w n f ao' cap' w' := by
  obtain ⟨i0, hi, hz0, hz1, hz2⟩ := info_parts info49
  have hn := nilCells
  have HR : Hid (∀ j u, (flatC f n)[j]? = some u → (w.alloc (.cells #[] 67)).cell? (a.add j) = some u) := by
    intro j u hu
    have hj : j < n * 4 := by have := (List.getElem?_eq_some_iff.1 hu).1; rwa [flatC_length] at this
    rcases hr.below (below1 w (.cells #[] 67)) with h0 | ⟨b, off, ha, hc⟩
    · omega
    · simp only [Option.some.injEq] at ha
      subst ha
      have e : j = (j / 4) * 4 + j % 4 := by omega
      rw [add_at]
      obtain ⟨t0, t1, t2, t3⟩ := hc (j / 4) (by omega)
      rw [e, flatC_get f n _ _ (by omega) (by omega)] at hu
      rw [← hu]
      have h4 : j % 4 = 0 ∨ j % 4 = 1 ∨ j % 4 = 2 ∨ j % 4 = 3 := by omega
      rcases h4 with h | h | h | h
      · rw [h, show off + j = off + j / 4 * 4 by omega, t0]; rfl
      · rw [h, show off + j = off + j / 4 * 4 + 1 by omega, t1]; rfl
      · rw [h, show off + j = off + j / 4 * 4 + 2 by omega, t2]; rfl
      · rw [h, show off + j = off + j / 4 * 4 + 3 by omega, t3]; rfl
  clear hr
  go_enter Tryz.func46, Tryz.ntmps46
  go_wp2_with (first | (at_builtin; refine wpList_append_own _ rfl _ _ 35 rfl w.heap.size 67 i0 (.agg #[.int .i64 0, .int .i64 0, .int .i64 0, .bool false]) 4 32 Tryz.underlying35 hi hz0 hz1 hz2 rfl (by decide) _ 0 [] rfl (World.ownsRow_made w #[] 0 (Nat.le_refl _) (by decide) rfl) a n cap (flatC f n) rfl (flatC_length f n) HR.out (flatC_one f n) (by unfold maxLen; omega) (by omega) (by simp) ?_) | go_in)
  intro v' w1 hown hgrow _
  obtain ⟨ao, c, rfl, ho, ho2⟩ := row_shape hown
  clear hown
  have HB : Hid (Copied w n f ao c w1) := ⟨ho, ho2, ((Below.refl _ _).alloc (Nat.le_refl _) _).grown hgrow (by simp) (fun k hk => by simp [Value.ownBlock] at hk; omega)⟩
  clear ho hgrow ho2
  go_wp2
  go_ret
  exact ⟨ao, c, rfl, HB.out⟩

theorem clone_any (ao : Option Addr) (cap n : Nat) (f : Nat → Cel) (w : World) (hr : RdS w ao n f) (hn : ao = none → n = 0 ∧ cap = 0) (hm : n * 32 ≤ 140737488355328) :
    Calls Tryz.prog 46 #[.slice ao n cap] w fun e w' => ∃ ao' cap', e = .returned (.slice ao' n cap') ∧ Copied w n f ao' cap' w' := by
  cases ao with
  | none =>
    obtain ⟨rfl, rfl⟩ := hn rfl
    refine (clone_nil w).mono ?_
    rintro e w' ⟨rfl, rfl⟩
    exact ⟨none, 0, rfl, .inl rfl, fun h => absurd h (by omega), Below.refl _ _⟩
  | some a => exact clone_some a cap n f w hr hm

end Go.Proofs.YtpichplhidiokacGreatDoor
