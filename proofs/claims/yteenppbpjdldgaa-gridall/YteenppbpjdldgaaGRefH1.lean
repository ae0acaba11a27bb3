/- The document's own 'csi': the letters D and r, and those that are nothing. -/
import Derived.Test.YteenppbpjdldgaaGRefH
namespace Go.Proofs.Yteenppbpjdldgaa
open Go.RowKit

set_option maxRecDepth 20000 in
set_option maxHeartbeats 4000000 in
theorem rcsiD (g : Gr) (h : OkG g) (b cap : Nat) (w : World) (hS : Scr w b g.n g.f) (hc : g.n ≤ cap) (lo : Option Addr) (ln lc : Nat) (p q : Int) (HN : Hid (GNums w lo ln lc p q)) (hp0 : 0 ≤ p) (hp9 : p ≤ 999) (m : Int) (hm : m = max p 1) (x : Gr) (hx : x = { g with col := max (hereC g - m) 0 }) :
    Calls Try.prog 56 #[gval g (some ⟨b, 0, none⟩) cap, .int .i64 68, .slice lo ln lc] w (GEndN w b x) := by
  have hlt := hS.lt
  have HS : Hid (Scr w b g.n g.f ∧ g.n ≤ cap) := ⟨hS, hc⟩
  have hc0 := h.c1
  have hc1 := h.c2
  have hw0 := h.w1
  have hw1 := h.w2
  have hr0 := h.r1
  have hr2 := h.r2
  have hh0 := h.h1
  have hh1 := h.h2
  obtain ⟨q1, q2, q3, q4, _⟩ := h.nums
  obtain ⟨P, hP⟩ : ∃ P, P = g.row * g.wide := ⟨_, rfl⟩
  have hwrP : IntKind.i64.wrap (g.row * g.wide) = P := by rw [← hP, IntKind.wrap_i64]; omega
  have hP0 : 0 ≤ P := by omega
  have hP1 : P ≤ 240 := by omega
  have hmx : (if p < 1 then (1 : Int) else p) = m := by rw [max_if, hm]
  obtain ⟨k, hk⟩ : ∃ k, (if g.wide - 1 < g.col then g.wide - 1 else g.col) = k := ⟨_, rfl⟩
  have HKC : Hid (k = hereC g) := by show k = hereC g; rw [← hk]; unfold hereC; split <;> omega
  have hk0 : 0 ≤ k := by rw [← hk]; split <;> omega
  have hk1 : k ≤ 24 := by rw [← hk]; split <;> omega
  have hm1 : 1 ≤ m := by omega
  have hm9 : m ≤ 999 := by omega
  have FIN : Hid (∀ r : Int, r = max (k - m) 0 → ∀ o1 o2 : Obj, GEndN w b x (.returned (.agg #[.int .i64 g.wide, .int .i64 g.high, .slice (some ⟨b, 0, none⟩) g.n cap, .int .i64 g.row, .int .i64 r, .int .i64 g.ink, .bool g.bold, .int .i64 g.top, .int .i64 g.bottom])) ((w.alloc o1).alloc o2)) := by
    intro r hr o1 o2
    rw [hx, ← HKC.out, ← hr]
    exact ⟨b, cap, rfl, (HS.out.1.alloc _).alloc _, HS.out.2, grown_alloc (grown_alloc (grown_refl _ _) _) _, .inl rfl⟩
  clear hS h hx hc q1 q2 q3 q4 hP hm hp0 hp9
  go_enter Try.func56, Try.ntmps56
  go_wp2_with (first
    | (go_at_call_of 77 (Value.int IntKind.i64 0); refine (HN.out _ (below2 _ _ _)).1.mono ?_; rintro e w1 ⟨rfl, rfl⟩)
    | (go_at_call_of 77 (Value.int IntKind.i64 1); refine (HN.out _ (below2 _ _ _)).2.mono ?_; rintro e w1 ⟨rfl, rfl⟩))
  all_goals (refine bodyPost_ret (by simp [results, Try.results56, go_sem]; rfl) rfl ?_; refine FIN.out _ ?_ _ _; omega)

set_option maxRecDepth 20000 in
set_option maxHeartbeats 4000000 in
theorem rcsi_r (g : Gr) (h : OkG g) (b cap : Nat) (w : World) (hS : Scr w b g.n g.f) (hc : g.n ≤ cap) (lo : Option Addr) (ln lc : Nat) (p q : Int) (HN : Hid (GNums w lo ln lc p q)) (hp0 : 0 ≤ p) (hp9 : p ≤ 999) (hq0 : 0 ≤ q) (hq9 : q ≤ 999) (m : Int) (hm : m = max p 1) (x : Gr) (hx : x = scrollG g m q) :
    Calls Try.prog 56 #[gval g (some ⟨b, 0, none⟩) cap, .int .i64 114, .slice lo ln lc] w (GEndN w b x) := by
  have hlt := hS.lt
  have HS : Hid (Scr w b g.n g.f ∧ g.n ≤ cap) := ⟨hS, hc⟩
  have hc0 := h.c1
  have hc1 := h.c2
  have hw0 := h.w1
  have hw1 := h.w2
  have hr0 := h.r1
  have hr2 := h.r2
  have hh0 := h.h1
  have hh1 := h.h2
  obtain ⟨q1, q2, q3, q4, _⟩ := h.nums
  obtain ⟨P, hP⟩ : ∃ P, P = g.row * g.wide := ⟨_, rfl⟩
  have hwrP : IntKind.i64.wrap (g.row * g.wide) = P := by rw [← hP, IntKind.wrap_i64]; omega
  have hP0 : 0 ≤ P := by omega
  have hP1 : P ≤ 240 := by omega
  have hmx : (if p < 1 then (1 : Int) else p) = m := by rw [max_if, hm]
  obtain ⟨k, hk⟩ : ∃ k, (if g.wide - 1 < g.col then g.wide - 1 else g.col) = k := ⟨_, rfl⟩
  have HKC : Hid (k = hereC g) := by show k = hereC g; rw [← hk]; unfold hereC; split <;> omega
  have hk0 : 0 ≤ k := by rw [← hk]; split <;> omega
  have hk1 : k ≤ 24 := by rw [← hk]; split <;> omega
  have hm1 : 1 ≤ m := by omega
  have hm9 : m ≤ 999 := by omega
  have FIN1 : Hid (∀ bt : Int, bt = botN g q → m ≤ bt → ∀ o1 o2 : Obj, GEndN w b x (.returned (.agg #[.int .i64 g.wide, .int .i64 g.high, .slice (some ⟨b, 0, none⟩) g.n cap, .int .i64 0, .int .i64 0, .int .i64 g.ink, .bool g.bold, .int .i64 (m - 1), .int .i64 bt])) ((w.alloc o1).alloc o2)) := by
    intro bt hb1 hle o1 o2
    have e : x = ⟨g.wide, g.high, g.n, g.f, 0, 0, g.ink, g.bold, m - 1, bt⟩ := by rw [hx]; unfold scrollG; rw [← hb1, if_pos hle]
    rw [e]
    exact ⟨b, cap, rfl, (HS.out.1.alloc _).alloc _, HS.out.2, grown_alloc (grown_alloc (grown_refl _ _) _) _, .inl rfl⟩
  have FIN2 : Hid (∀ bt : Int, bt = botN g q → bt < m → ∀ o1 o2 : Obj, GEndN w b x (.returned (.agg #[.int .i64 g.wide, .int .i64 g.high, .slice (some ⟨b, 0, none⟩) g.n cap, .int .i64 g.row, .int .i64 g.col, .int .i64 g.ink, .bool g.bold, .int .i64 g.top, .int .i64 g.bottom])) ((w.alloc o1).alloc o2)) := by
    intro bt hb1 hle o1 o2
    have e : x = g := by rw [hx]; unfold scrollG; rw [← hb1, if_neg (by omega)]
    rw [e]
    exact ⟨b, cap, rfl, (HS.out.1.alloc _).alloc _, HS.out.2, grown_alloc (grown_alloc (grown_refl _ _) _) _, .inl rfl⟩
  have hcs : (q = 0 ∧ g.high = botN g q) ∨ ((q == 0) = false ∧ g.high < q ∧ g.high = botN g q) ∨ ((q == 0) = false ∧ q ≤ g.high ∧ q = botN g q) := by
    unfold botN
    by_cases hz : q = 0
    · left; exact ⟨hz, by rw [if_pos (.inl hz)]⟩
    · right
      by_cases hgt : g.high < q
      · left; exact ⟨by simp [hz], hgt, by rw [if_pos (.inr hgt)]⟩
      · right; exact ⟨by simp [hz], by omega, by rw [if_neg (by omega)]⟩
  clear hS h hx hc q1 q2 q3 q4 hP hm hp0 hp9
  rcases hcs with ⟨hz, hbt⟩ | ⟨hz, hgt, hbt⟩ | ⟨hz, hgt, hbt⟩
  · subst hz
    have HBT : Hid _ := hbt
    clear hbt
    by_cases hle : m ≤ g.high
    · go_enter Try.func56, Try.ntmps56
      go_wp2_with (first
    | (go_at_call_of 77 (Value.int IntKind.i64 0); refine (HN.out _ (below2 _ _ _)).1.mono ?_; rintro e w1 ⟨rfl, rfl⟩)
    | (go_at_call_of 77 (Value.int IntKind.i64 1); refine (HN.out _ (below2 _ _ _)).2.mono ?_; rintro e w1 ⟨rfl, rfl⟩))
      refine bodyPost_ret (by simp [results, Try.results56, go_sem]; rfl) rfl ?_
      exact FIN1.out _ HBT.out hle _ _
    · have hle' : g.high < m := by omega
      go_enter Try.func56, Try.ntmps56
      go_wp2_with (first
    | (go_at_call_of 77 (Value.int IntKind.i64 0); refine (HN.out _ (below2 _ _ _)).1.mono ?_; rintro e w1 ⟨rfl, rfl⟩)
    | (go_at_call_of 77 (Value.int IntKind.i64 1); refine (HN.out _ (below2 _ _ _)).2.mono ?_; rintro e w1 ⟨rfl, rfl⟩))
      refine bodyPost_ret (by simp [results, Try.results56, go_sem]; rfl) rfl ?_
      exact FIN2.out _ HBT.out hle' _ _
  · have HBT : Hid _ := hbt
    clear hbt
    by_cases hle : m ≤ g.high
    · go_enter Try.func56, Try.ntmps56
      go_wp2_with (first
    | (go_at_call_of 77 (Value.int IntKind.i64 0); refine (HN.out _ (below2 _ _ _)).1.mono ?_; rintro e w1 ⟨rfl, rfl⟩)
    | (go_at_call_of 77 (Value.int IntKind.i64 1); refine (HN.out _ (below2 _ _ _)).2.mono ?_; rintro e w1 ⟨rfl, rfl⟩))
      refine bodyPost_ret (by simp [results, Try.results56, go_sem]; rfl) rfl ?_
      exact FIN1.out _ HBT.out hle _ _
    · have hle' : g.high < m := by omega
      go_enter Try.func56, Try.ntmps56
      go_wp2_with (first
    | (go_at_call_of 77 (Value.int IntKind.i64 0); refine (HN.out _ (below2 _ _ _)).1.mono ?_; rintro e w1 ⟨rfl, rfl⟩)
    | (go_at_call_of 77 (Value.int IntKind.i64 1); refine (HN.out _ (below2 _ _ _)).2.mono ?_; rintro e w1 ⟨rfl, rfl⟩))
      refine bodyPost_ret (by simp [results, Try.results56, go_sem]; rfl) rfl ?_
      exact FIN2.out _ HBT.out hle' _ _
  · have HBT : Hid _ := hbt
    clear hbt
    by_cases hle : m ≤ q
    · go_enter Try.func56, Try.ntmps56
      go_wp2_with (first
    | (go_at_call_of 77 (Value.int IntKind.i64 0); refine (HN.out _ (below2 _ _ _)).1.mono ?_; rintro e w1 ⟨rfl, rfl⟩)
    | (go_at_call_of 77 (Value.int IntKind.i64 1); refine (HN.out _ (below2 _ _ _)).2.mono ?_; rintro e w1 ⟨rfl, rfl⟩))
      refine bodyPost_ret (by simp [results, Try.results56, go_sem]; rfl) rfl ?_
      exact FIN1.out _ HBT.out hle _ _
    · have hle' : q < m := by omega
      go_enter Try.func56, Try.ntmps56
      go_wp2_with (first
    | (go_at_call_of 77 (Value.int IntKind.i64 0); refine (HN.out _ (below2 _ _ _)).1.mono ?_; rintro e w1 ⟨rfl, rfl⟩)
    | (go_at_call_of 77 (Value.int IntKind.i64 1); refine (HN.out _ (below2 _ _ _)).2.mono ?_; rintro e w1 ⟨rfl, rfl⟩))
      refine bodyPost_ret (by simp [results, Try.results56, go_sem]; rfl) rfl ?_
      exact FIN2.out _ HBT.out hle' _ _

set_option maxRecDepth 20000 in
set_option maxHeartbeats 4000000 in
theorem rcsiNone (g : Gr) (h : OkG g) (b cap : Nat) (w : World) (hS : Scr w b g.n g.f) (hc : g.n ≤ cap) (lo : Option Addr) (ln lc : Nat) (p q : Int) (HN : Hid (GNums w lo ln lc p q)) (hp0 : 0 ≤ p) (hp9 : p ≤ 999) (c : Int) (h0 : c ≠ 65) (h1 : c ≠ 66) (h2 : c ≠ 67) (h3 : c ≠ 68) (h4 : c ≠ 72) (h5 : c ≠ 74) (h6 : c ≠ 75) (h7 : c ≠ 76) (h8 : c ≠ 77) (h9 : c ≠ 109) (h10 : c ≠ 114) (m : Int) (hm : m = max p 1) (x : Gr) (hx : x = g) :
    Calls Try.prog 56 #[gval g (some ⟨b, 0, none⟩) cap, .int .i64 c, .slice lo ln lc] w (GEndN w b x) := by
  have hlt := hS.lt
  have HS : Hid (Scr w b g.n g.f ∧ g.n ≤ cap) := ⟨hS, hc⟩
  have hc0 := h.c1
  have hc1 := h.c2
  have hw0 := h.w1
  have hw1 := h.w2
  have hr0 := h.r1
  have hr2 := h.r2
  have hh0 := h.h1
  have hh1 := h.h2
  obtain ⟨q1, q2, q3, q4, _⟩ := h.nums
  obtain ⟨P, hP⟩ : ∃ P, P = g.row * g.wide := ⟨_, rfl⟩
  have hwrP : IntKind.i64.wrap (g.row * g.wide) = P := by rw [← hP, IntKind.wrap_i64]; omega
  have hP0 : 0 ≤ P := by omega
  have hP1 : P ≤ 240 := by omega
  have hmx : (if p < 1 then (1 : Int) else p) = m := by rw [max_if, hm]
  obtain ⟨k, hk⟩ : ∃ k, (if g.wide - 1 < g.col then g.wide - 1 else g.col) = k := ⟨_, rfl⟩
  have HKC : Hid (k = hereC g) := by show k = hereC g; rw [← hk]; unfold hereC; split <;> omega
  have hk0 : 0 ≤ k := by rw [← hk]; split <;> omega
  have hk1 : k ≤ 24 := by rw [← hk]; split <;> omega
  have hm1 : 1 ≤ m := by omega
  have hm9 : m ≤ 999 := by omega
  have e0 : (c == 65) = false := by simp [h0]
  have e1 : (c == 66) = false := by simp [h1]
  have e2 : (c == 67) = false := by simp [h2]
  have e3 : (c == 68) = false := by simp [h3]
  have e4 : (c == 72) = false := by simp [h4]
  have e5 : (c == 74) = false := by simp [h5]
  have e6 : (c == 75) = false := by simp [h6]
  have e7 : (c == 76) = false := by simp [h7]
  have e8 : (c == 77) = false := by simp [h8]
  have e9 : (c == 109) = false := by simp [h9]
  have e10 : (c == 114) = false := by simp [h10]
  have FIN : Hid (∀ o1 o2 : Obj, GEndN w b x (.returned (.agg #[.int .i64 g.wide, .int .i64 g.high, .slice (some ⟨b, 0, none⟩) g.n cap, .int .i64 g.row, .int .i64 g.col, .int .i64 g.ink, .bool g.bold, .int .i64 g.top, .int .i64 g.bottom])) ((w.alloc o1).alloc o2)) := by
    intro o1 o2
    rw [hx]
    exact ⟨b, cap, rfl, (HS.out.1.alloc _).alloc _, HS.out.2, grown_alloc (grown_alloc (grown_refl _ _) _) _, .inl rfl⟩
  clear hS h hx hc q1 q2 q3 q4 hP hm hp0 hp9
  clear h0 h1 h2 h3 h4 h5 h6 h7 h8 h9 h10
  go_enter Try.func56, Try.ntmps56
  go_wp2_with (first
    | (go_at_call_of 77 (Value.int IntKind.i64 0); refine (HN.out _ (below2 _ _ _)).1.mono ?_; rintro e w1 ⟨rfl, rfl⟩)
    | (go_at_call_of 77 (Value.int IntKind.i64 1); refine (HN.out _ (below2 _ _ _)).2.mono ?_; rintro e w1 ⟨rfl, rfl⟩))
  all_goals (refine bodyPost_ret (by simp [results, Try.results56, go_sem]; rfl) rfl ?_; exact FIN.out _ _)

end Go.Proofs.Yteenppbpjdldgaa
