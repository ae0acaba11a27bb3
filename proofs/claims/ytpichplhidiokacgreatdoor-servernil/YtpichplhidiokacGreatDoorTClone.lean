/- What 'slices.Clone' makes of a column. -/
import Derived.Test.YtpichplhidiokacGreatDoorTGood
namespace Go.Proofs.YtpichplhidiokacGreatDoor.Tl
open Go.RowKit

@[reducible] def ints (l : List Int) : List Value := l.map (Value.int .i64)
theorem info3 : (Tryz.prog.info? 3).map (fun i => (i.zero, i.size, i.bytes)) = some (some (.int .i64 0), 1, 8) := by kernel_rfl
theorem infoL : (Tryz.prog.info? 48).map (fun i => (i.zero, i.size, i.bytes)) = some (some (.slice none 0 0), 1, 24) := by kernel_rfl
theorem nilL (w : World) (a : Option Addr) (n c : Nat) : (binOp .eql 48 (.slice a n c) (.slice none 0 0)).run Tryz.prog w = .ok (.bool a.isNone) w := Lib.run_eql_slice_nil w 48 3 a n c 0 0 Tryz.underlying48
theorem add_at (b o j : Nat) : (⟨b, o, none⟩ : Addr).add j = ⟨b, o + j, none⟩ := by unfold Addr.add; split <;> simp_all
theorem ints_one (l : List Int) : ∀ v ∈ ints l, v.oneCell' = true := by
  intro v hv
  obtain ⟨x, _, rfl⟩ := List.mem_map.1 hv
  rfl

theorem row_shape {base : Nat} {e : TypeId} {w : World} {v : Value} {n : Nat} {xs : List Value} (h : w.ownsRow base e 1 v n xs) : ∃ ao cap, v = .slice ao n cap := by
  rcases h.2 with ⟨rfl, h0⟩ | ⟨g, cap, cur, rfl, _⟩
  · exact ⟨none, 0, by rw [h0]⟩
  · exact ⟨_, _, rfl⟩

theorem rd_src {w : World} {a : Addr} {l : List Int} (hr : RdL w (some a) l) (j : Nat) (u : Value) (hu : (ints l)[j]? = some u) : w.cell? (a.add j) = some u := by
  have hj : j < l.length := by have := (List.getElem?_eq_some_iff.1 hu).1; simpa using this
  rcases hr with h | ⟨b, off, ha, hc⟩
  · subst h; simp at hj
  · simp only [Option.some.injEq] at ha
    subst ha
    rw [add_at, hc j hj]
    simp [ints, hj] at hu
    simp [hj, hu]

set_option maxHeartbeats 400000 in
theorem clone_nil (w : World) : Calls Tryz.prog 45 #[.slice none 0 0] w fun e w' => e = .returned (.slice none 0 0) ∧ w' = w := by
  have hn := nilL
  go_enter Tryz.func45, Tryz.ntmps45
  go_wp2
  go_ret
  exact ⟨rfl, rfl⟩

set_option maxHeartbeats 400000 in
theorem clone_some (a : Addr) (cap : Nat) (l : List Int) (w : World) (hr : RdL w (some a) l) (hm : l.length ≤ 17592186044416) :
    Calls Tryz.prog 45 #[.slice (some a) l.length cap] w fun e w' => ∃ ao' cap', e = .returned (.slice ao' l.length cap') ∧ w'.ownsRow w.heap.size 3 1 (.slice ao' l.length cap') l.length (ints l) ∧ Below w.heap.size w w' := by
  obtain ⟨i0, hi, hz0, hz1, hz2⟩ := info_parts info3
  have hn := nilL
  have HR : Hid (∀ j u, (ints l)[j]? = some u → (w.alloc (.cells #[] 3)).cell? (a.add j) = some u) := fun j u hu => rd_src (hr.below (below1 w _)) j u hu
  clear hr
  go_enter Tryz.func45, Tryz.ntmps45
  go_wp2_with (first | (at_builtin; refine wpList_append_own _ rfl _ _ 48 rfl w.heap.size 3 i0 (.int .i64 0) 1 8 Tryz.underlying48 hi hz0 hz1 hz2 rfl (by decide) _ 0 [] rfl (World.ownsRow_made w #[] 0 (Nat.le_refl _) (by decide) rfl) a l.length cap (ints l) rfl (by simp) HR.out (ints_one l) (by unfold maxLen; omega) (by omega) (by simp) ?_) | go_in)
  intro v' w1 hown hgrow _
  obtain ⟨ao, c, rfl⟩ := row_shape hown
  have HB : Hid (Below w.heap.size w w1) := ((Below.refl _ _).alloc (Nat.le_refl _) _).grown hgrow (by simp) (fun k hk => by simp [Value.ownBlock] at hk; omega)
  have HO : Hid (w1.ownsRow w.heap.size 3 1 (.slice ao l.length c) l.length (ints l)) := hown
  clear hown hgrow
  go_wp2
  go_ret
  exact ⟨ao, c, rfl, HO.out, HB.out⟩

theorem clone_any (x : CIt) (w : World) (hr : RdL w x.2.1 x.1) (hn : x.2.1 = none → x.1 = [] ∧ x.2.2 = 0) (hm : x.1.length ≤ 17592186044416) :
    Calls Tryz.prog 45 #[.slice x.2.1 x.1.length x.2.2] w fun e w' => ∃ ao' cap', e = .returned (.slice ao' x.1.length cap') ∧ w'.ownsRow w.heap.size 3 1 (.slice ao' x.1.length cap') x.1.length (ints x.1) ∧ Below w.heap.size w w' := by
  obtain ⟨l, ao, cap⟩ := x
  cases ao with
  | none =>
    obtain ⟨h1, h2⟩ := hn rfl
    simp only at h1 h2
    subst h1 h2
    refine (clone_nil w).mono ?_
    rintro e w' ⟨rfl, rfl⟩
    exact ⟨none, 0, rfl, World.ownsRow_nil _ _ _ _, Below.refl _ _⟩
  | some a => exact clone_some a cap l w hr hm

theorem row_below {w w' : World} {base sz n : Nat} {e : TypeId} {v : Value} {xs : List Value} (h : w.ownsRow base e sz v n xs) (hb : Below w.heap.size w w') : w'.ownsRow base e sz v n xs := by
  refine ⟨h.1, ?_⟩
  rcases h.2 with h0 | ⟨g, c, cur, hv, hbb, hg, rest⟩
  · exact .inl h0
  · exact .inr ⟨g, c, cur, hv, hbb, below_block hb hg (at_lt hg), rest⟩
theorem row_set {w : World} {base sz n B j : Nat} {e : TypeId} {v u : Value} {xs : List Value} (h : w.ownsRow base e sz v n xs) (hB : B < base) : (w.setCell ⟨B, j, none⟩ u).ownsRow base e sz v n xs := by
  refine ⟨h.1, ?_⟩
  rcases h.2 with h0 | ⟨g, c, cur, hv, hbb, hg, rest⟩
  · exact .inl h0
  · refine .inr ⟨g, c, cur, hv, hbb, ?_, rest⟩
    rw [Below.heap_setCell _ _ _ _ (by simp; omega)]
    exact hg
theorem row_less {w : World} {base base' sz n : Nat} {e : TypeId} {v : Value} {xs : List Value} (h : w.ownsRow base e sz v n xs) (hB : base' ≤ base) : w.ownsRow base' e sz v n xs := by
  refine ⟨h.1, ?_⟩
  rcases h.2 with h0 | ⟨g, c, cur, hv, hbb, rest⟩
  · exact .inl h0
  · exact .inr ⟨g, c, cur, hv, by omega, rest⟩

theorem row_rd {w : World} {base : Nat} {x : CIt} (h : w.ownsRow base 3 1 (cv x) x.1.length (ints x.1)) : RdL w x.2.1 x.1 ∧ (x.2.1 = none → x.1 = [] ∧ x.2.2 = 0) := by
  obtain ⟨l, ao, cap⟩ := x
  rcases h.2 with ⟨hv, h0⟩ | ⟨g, c, cur, hv, hb, hg, hc, _, hs, ht⟩
  · simp only [cv, Value.slice.injEq] at hv h0
    obtain ⟨rfl, _, rfl⟩ := hv
    have : l = [] := List.length_eq_zero_iff.1 h0
    exact ⟨.inl this, fun _ => ⟨this, rfl⟩⟩
  · simp only [cv, Value.slice.injEq] at hv ht hs hc
    obtain ⟨rfl, _, rfl⟩ := hv
    refine ⟨.inr ⟨g, 0, rfl, fun j hj => ?_⟩, fun h => by cases h⟩
    have e1 : (ints l)[j]? = some (.int .i64 (l.getD j 0)) := by simp only at hj; simp [hj]
    rw [← ht, List.getElem?_take_of_lt (by simp only at hj; omega)] at e1
    simp only [World.cell?, hg, Nat.zero_add]
    simpa using e1

end Go.Proofs.YtpichplhidiokacGreatDoor.Tl
