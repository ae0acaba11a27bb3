/- The document's own 'csi': its numbers; the letters A, B, C, D, and those that are nothing. -/
import Derived.Test.YteenppbpjdldgaaGRollD
import Derived.Test.YteenppbpjdldgaaGRefG
namespace Go.Proofs.Yteenppbpjdldgaa
open Go.RowKit

set_option maxHeartbeats 400000 in
theorem given_any (l : List Int) (ao : Option Addr) (cap i : Nat) (w : World) (hr : RdL w ao l) (hi : i ≤ 1) :
    Calls Try.prog 77 #[.slice ao l.length cap, .int .i64 i] w fun e w' => e = .returned (.int .i64 (numP l i)) ∧ w' = w := by
  by_cases h : i < l.length
  · obtain ⟨b, off, rfl, hc⟩ := hr.resolve_left (fun e => by rw [e] at h; simp at h)
    have t := hc i h
    obtain ⟨y, hy⟩ : ∃ y, y = l.getD i 0 := ⟨_, rfl⟩
    rw [← hy] at t
    have HX : Hid (numP l i = max 0 (min y 999)) := by show numP l i = _; rw [hy]; rfl
    have hlt : (i : Int) < (l.length : Int) := by omega
    have hi0 : (0 : Int) ≤ (i : Int) := by omega
    clear hc hy hr h hi
    by_cases hneg : y < 0
    · go_enter Try.func77, Try.ntmps77
      go_wp2
      go_ret
      exact ⟨ret_int (by rw [HX.out]; omega), rfl⟩
    · have hneg' : 0 ≤ y := by omega
      clear hneg
      go_enter Try.func77, Try.ntmps77
      go_wp2
      all_goals (go_ret; exact ⟨ret_int (by rw [HX.out]; omega), rfl⟩)
  · have HX : Hid (numP l i = 0) := by
      show numP l i = 0
      unfold numP
      rw [List.getD_eq_getElem?_getD, List.getElem?_eq_none (by omega)]
      rfl
    have hge : (l.length : Int) ≤ (i : Int) := by omega
    clear h hr
    go_enter Try.func77, Try.ntmps77
    go_wp2
    go_ret
    exact ⟨by rw [HX.out]; rfl, rfl⟩

/-- The first and the second number, wherever they are asked for. -/
def GNums (w : World) (lo : Option Addr) (ln lc : Nat) (p q : Int) : Prop :=
  ∀ w', Below w.heap.size w w' → (Calls Try.prog 77 #[.slice lo ln lc, .int .i64 0] w' fun e w'' => e = .returned (.int .i64 p) ∧ w'' = w') ∧ (Calls Try.prog 77 #[.slice lo ln lc, .int .i64 1] w' fun e w'' => e = .returned (.int .i64 q) ∧ w'' = w')

theorem max_if (p : Int) : (if p < 1 then (1 : Int) else p) = max p 1 := by split <;> omega
theorem min_if (a b : Int) : (if b < a then b else a) = min a b := by split <;> omega

set_option maxRecDepth 20000 in
set_option maxHeartbeats 2000000 in
theorem rcsiC (g : Gr) (h : OkG g) (b cap : Nat) (w : World) (hS : Scr w b g.n g.f) (hc : g.n ≤ cap) (lo : Option Addr) (ln lc : Nat) (p q : Int) (HN : Hid (GNums w lo ln lc p q)) (hp0 : 0 ≤ p) (hp9 : p ≤ 999) (m : Int) (hm : m = max p 1) (x : Gr) (hx : x = { g with col := min (g.col + m) (g.wide - 1) }) :
    Calls Try.prog 56 #[gval g (some ⟨b, 0, none⟩) cap, .int .i64 67, .slice lo ln lc] w (GEndN w b x) := by
  have HS : Hid (Scr w b g.n g.f ∧ g.n ≤ cap) := ⟨hS, hc⟩
  have hc0 := h.c1
  have hc1 := h.c2
  have hw0 := h.w1
  have hw1 := h.w2
  obtain ⟨q1, q2, q3, q4, _⟩ := h.nums
  obtain ⟨P, hP⟩ : ∃ P, P = g.row * g.wide := ⟨_, rfl⟩
  have hwrP : IntKind.i64.wrap (g.row * g.wide) = P := by rw [← hP, IntKind.wrap_i64]; omega
  have hP0 : 0 ≤ P := by omega
  have hP1 : P ≤ 240 := by omega
  have FIN : Hid (∀ r : Int, r = min (g.col + m) (g.wide - 1) → ∀ o1 o2 : Obj, GEndN w b x (.returned (.agg #[.int .i64 g.wide, .int .i64 g.high, .slice (some ⟨b, 0, none⟩) g.n cap, .int .i64 g.row, .int .i64 r, .int .i64 g.ink, .bool g.bold, .int .i64 g.top, .int .i64 g.bottom])) ((w.alloc o1).alloc o2)) := by
    intro r hr o1 o2
    rw [hx, ← hr]
    exact ⟨b, cap, rfl, (HS.out.1.alloc _).alloc _, HS.out.2, grown_alloc (grown_alloc (grown_refl _ _) _) _, .inl rfl⟩
  have hmx : (if p < 1 then (1 : Int) else p) = m := by rw [max_if, hm]
  obtain ⟨k, hk⟩ : ∃ k, (if g.wide - 1 < g.col then g.wide - 1 else g.col) = k := ⟨_, rfl⟩
  have hk0 : 0 ≤ k := by rw [← hk]; split <;> omega
  have hk1 : k ≤ 24 := by rw [← hk]; split <;> omega
  have hm1 : 1 ≤ m := by omega
  have hm9 : m ≤ 999 := by omega
  clear hS h hx hc q1 q2 q3 q4 hP hm hp0 hp9
  go_enter Try.func56, Try.ntmps56
  go_wp2_with (first
    | (go_at_call_of 77 (Value.int IntKind.i64 0); refine (HN.out _ (below2 _ _ _)).1.mono ?_; rintro e w1 ⟨rfl, rfl⟩)
    | (go_at_call_of 77 (Value.int IntKind.i64 1); refine (HN.out _ (below2 _ _ _)).2.mono ?_; rintro e w1 ⟨rfl, rfl⟩))
  all_goals (refine bodyPost_ret (by simp [results, Try.results56, go_sem]; rfl) rfl ?_; refine FIN.out _ ?_ _ _; omega)

end Go.Proofs.Yteenppbpjdldgaa
