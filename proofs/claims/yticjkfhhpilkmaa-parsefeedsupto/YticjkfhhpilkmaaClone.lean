/- What 'Good' and 'slices.Clone' do to the world: the one answers whether a parser is good; the other makes a row of its own that holds the same numbers. -/
import Derived.Test.YticjkfhhpilkmaaGood
namespace Go.Proofs.Yticjkfhhpilkmaa
open Go.RowKit

theorem bcell {W w1 : World} (hb : Below W.heap.size W w1) : (∀ b o, b < W.heap.size → w1.cell? ⟨b, o, none⟩ = W.cell? ⟨b, o, none⟩) ∧ (∀ b o, b < W.heap.size → w1.frozen? ⟨b, o, none⟩ = W.frozen? ⟨b, o, none⟩) :=
  ⟨fun b o h => hb.cell (p := ⟨b, o, none⟩) h, fun b o h => hb.frozen (p := ⟨b, o, none⟩) h⟩

theorem below_block {w w' : World} {B b : Nat} {o : Obj} (hb : Below B w w') (h : w.heap[b]? = some o) (hB : b < B) : w'.heap[b]? = some o := by
  rw [hb.block b hB]; exact h

theorem below_up {w w1 : World} {o : Obj} (hb : Below (w.alloc o).heap.size (w.alloc o) w1) : Below w.heap.size w w1 :=
  ((Below.refl _ _).alloc (Nat.le_refl _) _).trans (hb.mono (by simp))

set_option maxHeartbeats 400000 in
theorem good_any (s : PS) (ao : Option Addr) (cap : Nat) (w : World) (hr : Rd w ao s.ps) (hm : s.ps.length ≤ 9223372036854775807) :
    Calls Try.prog 12 #[.agg #[.int .i64 s.place, .slice ao s.ps.length cap, .string s.pl, .bool s.lg]] w fun e w' => e = .returned (.bool (goodB s)) ∧ Below w.heap.size w w' := by
  have HR : Hid (Rd w ao s.ps) := hr
  clear hr
  by_cases h0 : 0 ≤ s.place
  · by_cases h4 : s.place ≤ 4
    · have hp : plcB s = true := by simp [plcB, h0, h4]
      have HP : Hid (plcB s = true) := hp
      clear hp
      go_enter Try.func12, Try.ntmps12
      go_wp2_with (first | (go_at_call 24; go_in) | fail)
      refine (goodParams_any s ao cap _ (HR.out.below ((Below.refl _ _).alloc (Nat.le_refl _) _)) hm).mono ?_
      rintro e w1 ⟨rfl, hb1⟩
      obtain ⟨a0, a1, a2, a3, f0, f1, f2, f3⟩ := four (below_block hb1 (at_new w _) (by simp))
      have HB : Hid (Below w.heap.size w w1) := below_up hb1
      clear hb1
      cases hpar : parB s
      · go_wp2
        go_ret
        exact ⟨ret_bool (by simp [goodB, hpar]), HB.out⟩
      · go_wp2_with fail
        refine (goodPayload_any s ao s.ps.length cap _).mono ?_
        rintro e w2 ⟨rfl, hb2⟩
        have HB2 : Hid (Below w.heap.size w w2) := HB.out.trans (hb2.mono HB.out.size)
        clear hb2
        go_wp2
        go_ret
        exact ⟨ret_bool (by simp [goodB, hpar, HP.out]), HB2.out⟩
    · have HP : Hid (goodB s = false) := by show goodB s = false; simp [goodB, plcB, h4]
      have h4' : 4 < s.place := by omega
      go_enter Try.func12, Try.ntmps12
      go_wp2
      go_ret
      exact ⟨ret_bool HP.out.symm, (Below.refl _ _).alloc (Nat.le_refl _) _⟩
  · have HP : Hid (goodB s = false) := by show goodB s = false; simp [goodB, plcB, h0]
    have h0' : s.place < 0 := by omega
    go_enter Try.func12, Try.ntmps12
    go_wp2
    go_ret
    exact ⟨ret_bool HP.out.symm, (Below.refl _ _).alloc (Nat.le_refl _) _⟩

theorem nil22 (w : World) (a : Option Addr) (n c : Nat) : (binOp .eql 22 (.slice a n c) (.slice none 0 0)).run Try.prog w = .ok (.bool a.isNone) w := Lib.run_eql_slice_nil w 22 3 a n c 0 0 Try.underlying22

set_option maxHeartbeats 400000 in
theorem clone_nil (w : World) : Calls Try.prog 18 #[.slice none 0 0] w fun e w' => e = .returned (.slice none 0 0) ∧ w' = w := by
  have hn := nil22
  go_enter Try.func18, Try.ntmps18
  go_wp2
  go_ret
  exact ⟨rfl, rfl⟩

theorem own_shape {base : Nat} {w : World} {v : Value} {l : List Int} (h : w.ownsRow base 3 1 v l.length (ints l)) : ∃ ao cap, v = .slice ao l.length cap ∧ Own base w ao cap l := by
  rcases h.2 with ⟨rfl, h0⟩ | ⟨g, cap, cur, rfl, _⟩
  · exact ⟨none, 0, by rw [h0], by unfold Own; rw [h0] at h ⊢; exact h⟩
  · exact ⟨_, _, rfl, h⟩

set_option maxHeartbeats 400000 in
theorem clone_some (a : Addr) (cap : Nat) (l : List Int) (w : World) (hr : Rd w (some a) l) (hm : l.length * 8 ≤ 140737488355328) :
    Calls Try.prog 18 #[.slice (some a) l.length cap] w fun e w' => ∃ ao' cap', e = .returned (.slice ao' l.length cap') ∧ Own w.heap.size w' ao' cap' l ∧ Below w.heap.size w w' := by
  obtain ⟨i0, hi, hz0, hz1, hz2⟩ := info_parts info3
  have hn := nil22
  have HR : Hid (∀ j u, (ints l)[j]? = some u → (w.alloc (.cells #[] 3)).cell? (a.add j) = some u) := by
    intro j u hu
    have hr' := hr.below ((Below.refl _ _).alloc (Nat.le_refl _) (.cells #[] 3))
    have hj : j < l.length := by have := (List.getElem?_eq_some_iff.1 hu).1; simpa [ints] using this
    rcases hr' with h | ⟨b, off, ha, hc⟩
    · subst h; simp at hj
    · simp only [Option.some.injEq] at ha
      subst ha
      have e : (⟨b, off, none⟩ : Addr).add j = ⟨b, off + j, none⟩ := by unfold Addr.add; split <;> simp_all
      rw [e, hc j hj]
      simp [ints, hj] at hu
      simp [hj, hu]
  clear hr
  go_enter Try.func18, Try.ntmps18
  go_wp2_with (first | (at_builtin; refine wpList_append_own _ rfl _ _ 22 rfl w.heap.size 3 i0 (.int .i64 0) 1 8 Try.underlying22 hi hz0 hz1 hz2 rfl (by decide) _ 0 [] rfl (World.ownsRow_made w #[] 0 (Nat.le_refl _) (by decide) rfl) a l.length cap (ints l) rfl (by simp [ints]) HR.out (by simp [ints]; intros; rfl) (by unfold maxLen; omega) (by omega) (by simp) ?_) | go_in)
  intro v' w1 hown hgrow _
  obtain ⟨ao, c, rfl, ho⟩ := own_shape hown
  clear hown
  have HB : Hid (Below w.heap.size w w1) := ((Below.refl _ _).alloc (Nat.le_refl _) _).grown hgrow (by simp) (fun k hk => by simp [Value.ownBlock] at hk; omega)
  have HO : Hid (Own w.heap.size w1 ao c l) := ho
  clear ho hgrow
  go_wp2
  go_ret
  exact ⟨ao, c, rfl, HO.out, HB.out⟩

theorem clone_any (ao : Option Addr) (cap : Nat) (l : List Int) (w : World) (hr : Rd w ao l) (hn : ao = none → l.length = 0 ∧ cap = 0) (hm : l.length * 8 ≤ 140737488355328) :
    Calls Try.prog 18 #[.slice ao l.length cap] w fun e w' => ∃ ao' cap', e = .returned (.slice ao' l.length cap') ∧ Own w.heap.size w' ao' cap' l ∧ Below w.heap.size w w' := by
  cases ao with
  | none =>
    obtain ⟨h1, rfl⟩ := hn rfl
    obtain rfl := List.length_eq_zero_iff.1 h1
    refine (clone_nil w).mono ?_
    rintro e w' ⟨rfl, rfl⟩
    exact ⟨none, 0, rfl, own_nil _ _, Below.refl _ _⟩
  | some a => exact clone_some a cap l w hr hm

end Go.Proofs.Yticjkfhhpilkmaa
