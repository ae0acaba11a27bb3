/- What 'commanded' does to a screen: the letters that move the cursor, and those that are nothing. -/
import Derived.Test.YtpichplhidiokacGreatDoorGDones
import Derived.Test.YtpichplhidiokacGreatDoorGNum
namespace Go.Proofs.YtpichplhidiokacGreatDoor
open Go.RowKit

/-- The first and the second number of a command, wherever they are asked for. -/
def Nums (w : World) (lo : Option Addr) (ln lc : Nat) (p q : Int) : Prop :=
  ∀ w', Below w.heap.size w w' → (Calls Tryz.prog 128 #[.slice lo ln lc, .int .i64 0] w' fun e w'' => e = .returned (.int .i64 p) ∧ w'' = w') ∧ (Calls Tryz.prog 128 #[.slice lo ln lc, .int .i64 1] w' fun e w'' => e = .returned (.int .i64 q) ∧ w'' = w')

theorem below2 (w : World) (o1 o2 : Obj) : Below w.heap.size w ((w.alloc o1).alloc o2) := (below1 _ _).alloc (by simp) _

theorem gend2 {w : World} {g : Gr} {b cap : Nat} (HS : Hid (Scr w b g.n g.f)) (row col : Int) (o1 o2 : Obj) : GEnd w b cap { g with row := row, col := col } (.returned (gval { g with row := row, col := col } (some ⟨b, 0, none⟩) cap)) ((w.alloc o1).alloc o2) :=
  ⟨rfl, (HS.out.alloc _).alloc _, grown_alloc (grown_alloc (grown_refl _ _) _) _⟩
theorem gend3 {w : World} {g : Gr} {b cap : Nat} (HS : Hid (Scr w b g.n g.f)) (row col : Int) (o1 o2 o3 : Obj) : GEnd w b cap { g with row := row, col := col } (.returned (gval { g with row := row, col := col } (some ⟨b, 0, none⟩) cap)) (((w.alloc o1).alloc o2).alloc o3) :=
  ⟨rfl, ((HS.out.alloc _).alloc _).alloc _, grown_alloc (grown_alloc (grown_alloc (grown_refl _ _) _) _) _⟩

set_option maxHeartbeats 2000000 in
theorem csiA (g : Gr) (h : OkG g) (b cap : Nat) (w : World) (hS : Scr w b g.n g.f) (lo : Option Addr) (ln lc : Nat) (p q : Int) (HN : Hid (Nums w lo ln lc p q)) (hp0 : 0 ≤ p) (hp9 : p ≤ 999) (m : Int) (hm : m = max p 1) (x : Gr) (hx : x = { g with row := max (g.row - m) 0 }) :
    Calls Tryz.prog 110 #[gval g (some ⟨b, 0, none⟩) cap, .int .i64 65, .slice lo ln lc] w (GEnd w b cap x) := by
  have HS : Hid (Scr w b g.n g.f) := hS
  have hr0 := h.r1
  have hr1 : g.row ≤ 10 := by have := h.r2; have := h.h2; omega
  have hh0 := h.h1
  have hh1 := h.h2

  have FIN : Hid (∀ r : Int, r = max (g.row - m) 0 → ∀ o1 o2 : Obj, GEnd w b cap x (.returned (.agg #[.int .i64 g.wide, .int .i64 g.high, .slice (some ⟨b, 0, none⟩) g.n cap, .int .i64 r, .int .i64 g.col, .int .i64 g.ink, .bool g.bold, .int .i64 g.top, .int .i64 g.bottom])) ((w.alloc o1).alloc o2)) := by
    intro r hr o1 o2
    rw [hx, ← hr]
    exact gend2 HS r g.col o1 o2
  clear hS h hx
  by_cases hp : p < 1
  · obtain rfl : p = 0 := by omega
    obtain rfl : m = 1 := by omega
    clear hm
    go_enter Tryz.func110, Tryz.ntmps110
    go_wp2_with (first
      | (go_at_call_of 128 (Value.int IntKind.i64 0); refine (HN.out _ (below2 _ _ _)).1.mono ?_; rintro e w1 ⟨rfl, rfl⟩)
      | (go_at_call_of 128 (Value.int IntKind.i64 1); refine (HN.out _ (below2 _ _ _)).2.mono ?_; rintro e w1 ⟨rfl, rfl⟩))
    all_goals (refine bodyPost_ret (by simp [results, Tryz.results110, go_sem]; rfl) rfl ?_; refine FIN.out _ ?_ _ _; omega)
  · obtain rfl : m = p := by omega
    clear hm
    go_enter Tryz.func110, Tryz.ntmps110
    go_wp2_with (first
      | (go_at_call_of 128 (Value.int IntKind.i64 0); refine (HN.out _ (below2 _ _ _)).1.mono ?_; rintro e w1 ⟨rfl, rfl⟩)
      | (go_at_call_of 128 (Value.int IntKind.i64 1); refine (HN.out _ (below2 _ _ _)).2.mono ?_; rintro e w1 ⟨rfl, rfl⟩))
    all_goals (refine bodyPost_ret (by simp [results, Tryz.results110, go_sem]; rfl) rfl ?_; refine FIN.out _ ?_ _ _; omega)

set_option maxHeartbeats 2000000 in
theorem csiB (g : Gr) (h : OkG g) (b cap : Nat) (w : World) (hS : Scr w b g.n g.f) (lo : Option Addr) (ln lc : Nat) (p q : Int) (HN : Hid (Nums w lo ln lc p q)) (hp0 : 0 ≤ p) (hp9 : p ≤ 999) (m : Int) (hm : m = max p 1) (x : Gr) (hx : x = { g with row := min (g.row + m) (g.high - 1) }) :
    Calls Tryz.prog 110 #[gval g (some ⟨b, 0, none⟩) cap, .int .i64 66, .slice lo ln lc] w (GEnd w b cap x) := by
  have HS : Hid (Scr w b g.n g.f) := hS
  have hr0 := h.r1
  have hr1 : g.row ≤ 10 := by have := h.r2; have := h.h2; omega
  have hh0 := h.h1
  have hh1 := h.h2

  have FIN : Hid (∀ r : Int, r = min (g.row + m) (g.high - 1) → ∀ o1 o2 : Obj, GEnd w b cap x (.returned (.agg #[.int .i64 g.wide, .int .i64 g.high, .slice (some ⟨b, 0, none⟩) g.n cap, .int .i64 r, .int .i64 g.col, .int .i64 g.ink, .bool g.bold, .int .i64 g.top, .int .i64 g.bottom])) ((w.alloc o1).alloc o2)) := by
    intro r hr o1 o2
    rw [hx, ← hr]
    exact gend2 HS r g.col o1 o2
  clear hS h hx
  by_cases hp : p < 1
  · obtain rfl : p = 0 := by omega
    obtain rfl : m = 1 := by omega
    clear hm
    go_enter Tryz.func110, Tryz.ntmps110
    go_wp2_with (first
      | (go_at_call_of 128 (Value.int IntKind.i64 0); refine (HN.out _ (below2 _ _ _)).1.mono ?_; rintro e w1 ⟨rfl, rfl⟩)
      | (go_at_call_of 128 (Value.int IntKind.i64 1); refine (HN.out _ (below2 _ _ _)).2.mono ?_; rintro e w1 ⟨rfl, rfl⟩))
    all_goals (refine bodyPost_ret (by simp [results, Tryz.results110, go_sem]; rfl) rfl ?_; refine FIN.out _ ?_ _ _; omega)
  · obtain rfl : m = p := by omega
    clear hm
    go_enter Tryz.func110, Tryz.ntmps110
    go_wp2_with (first
      | (go_at_call_of 128 (Value.int IntKind.i64 0); refine (HN.out _ (below2 _ _ _)).1.mono ?_; rintro e w1 ⟨rfl, rfl⟩)
      | (go_at_call_of 128 (Value.int IntKind.i64 1); refine (HN.out _ (below2 _ _ _)).2.mono ?_; rintro e w1 ⟨rfl, rfl⟩))
    all_goals (refine bodyPost_ret (by simp [results, Tryz.results110, go_sem]; rfl) rfl ?_; refine FIN.out _ ?_ _ _; omega)

set_option maxHeartbeats 2000000 in
theorem csiC (g : Gr) (h : OkG g) (b cap : Nat) (w : World) (hS : Scr w b g.n g.f) (lo : Option Addr) (ln lc : Nat) (p q : Int) (HN : Hid (Nums w lo ln lc p q)) (hp0 : 0 ≤ p) (hp9 : p ≤ 999) (m : Int) (hm : m = max p 1) (x : Gr) (hx : x = { g with col := min (g.col + m) (g.wide - 1) }) :
    Calls Tryz.prog 110 #[gval g (some ⟨b, 0, none⟩) cap, .int .i64 67, .slice lo ln lc] w (GEnd w b cap x) := by
  have HS : Hid (Scr w b g.n g.f) := hS
  have hc0 := h.c1
  have hc1 := h.c2
  have hw0 := h.w1
  have hw1 := h.w2

  have FIN : Hid (∀ r : Int, r = min (g.col + m) (g.wide - 1) → ∀ o1 o2 : Obj, GEnd w b cap x (.returned (.agg #[.int .i64 g.wide, .int .i64 g.high, .slice (some ⟨b, 0, none⟩) g.n cap, .int .i64 g.row, .int .i64 r, .int .i64 g.ink, .bool g.bold, .int .i64 g.top, .int .i64 g.bottom])) ((w.alloc o1).alloc o2)) := by
    intro r hr o1 o2
    rw [hx, ← hr]
    exact gend2 HS g.row r o1 o2
  clear hS h hx
  by_cases hp : p < 1
  · obtain rfl : p = 0 := by omega
    obtain rfl : m = 1 := by omega
    clear hm
    go_enter Tryz.func110, Tryz.ntmps110
    go_wp2_with (first
      | (go_at_call_of 128 (Value.int IntKind.i64 0); refine (HN.out _ (below2 _ _ _)).1.mono ?_; rintro e w1 ⟨rfl, rfl⟩)
      | (go_at_call_of 128 (Value.int IntKind.i64 1); refine (HN.out _ (below2 _ _ _)).2.mono ?_; rintro e w1 ⟨rfl, rfl⟩))
    all_goals (refine bodyPost_ret (by simp [results, Tryz.results110, go_sem]; rfl) rfl ?_; refine FIN.out _ ?_ _ _; omega)
  · obtain rfl : m = p := by omega
    clear hm
    go_enter Tryz.func110, Tryz.ntmps110
    go_wp2_with (first
      | (go_at_call_of 128 (Value.int IntKind.i64 0); refine (HN.out _ (below2 _ _ _)).1.mono ?_; rintro e w1 ⟨rfl, rfl⟩)
      | (go_at_call_of 128 (Value.int IntKind.i64 1); refine (HN.out _ (below2 _ _ _)).2.mono ?_; rintro e w1 ⟨rfl, rfl⟩))
    all_goals (refine bodyPost_ret (by simp [results, Tryz.results110, go_sem]; rfl) rfl ?_; refine FIN.out _ ?_ _ _; omega)

set_option maxHeartbeats 2000000 in
theorem csiD (g : Gr) (h : OkG g) (b cap : Nat) (w : World) (hS : Scr w b g.n g.f) (lo : Option Addr) (ln lc : Nat) (p q : Int) (HN : Hid (Nums w lo ln lc p q)) (hp0 : 0 ≤ p) (hp9 : p ≤ 999) (m : Int) (hm : m = max p 1) (x : Gr) (hx : x = { g with col := max (hereC g - m) 0 }) :
    Calls Tryz.prog 110 #[gval g (some ⟨b, 0, none⟩) cap, .int .i64 68, .slice lo ln lc] w (GEnd w b cap x) := by
  have HS : Hid (Scr w b g.n g.f) := hS
  have hc0 := h.c1
  have hc1 := h.c2
  have hw0 := h.w1
  have hw1 := h.w2
  have hk1 : 0 ≤ hereC g := by unfold hereC; omega
  have hk2 : hereC g ≤ 24 := by unfold hereC; omega
  obtain ⟨k, hk⟩ : ∃ k, k = hereC g := ⟨_, rfl⟩
  have HH : Hid (∀ w, Calls Tryz.prog 127 #[gval g (some ⟨b, 0, none⟩) cap] w fun e w' => e = .returned (.int .i64 k) ∧ w' = w.alloc (gbox g (some ⟨b, 0, none⟩) cap)) := by
    intro w
    rw [hk]
    exact here_any g _ cap w ⟨by omega, by omega⟩
  rw [← hk] at hk1 hk2 hx
  clear hk
  have FIN : Hid (∀ r : Int, r = max (k - m) 0 → ∀ o1 o2 o3 : Obj, GEnd w b cap x (.returned (.agg #[.int .i64 g.wide, .int .i64 g.high, .slice (some ⟨b, 0, none⟩) g.n cap, .int .i64 g.row, .int .i64 r, .int .i64 g.ink, .bool g.bold, .int .i64 g.top, .int .i64 g.bottom])) (((w.alloc o1).alloc o2).alloc o3)) := by
    intro r hr o1 o2 o3
    rw [hx, ← hr]
    exact gend3 HS g.row r o1 o2 o3
  clear hS h hx
  by_cases hp : p < 1
  · obtain rfl : p = 0 := by omega
    obtain rfl : m = 1 := by omega
    clear hm
    go_enter Tryz.func110, Tryz.ntmps110
    go_wp2_with (first
      | (go_at_call_of 128 (Value.int IntKind.i64 0); refine (HN.out _ (below2 _ _ _)).1.mono ?_; rintro e w1 ⟨rfl, rfl⟩)
      | (go_at_call_of 128 (Value.int IntKind.i64 1); refine (HN.out _ (below2 _ _ _)).2.mono ?_; rintro e w1 ⟨rfl, rfl⟩)
      | (go_at_call 127; refine (HH.out _).mono ?_; rintro e w1 ⟨rfl, rfl⟩))
    all_goals (refine bodyPost_ret (by simp [results, Tryz.results110, go_sem]; rfl) rfl ?_; refine FIN.out _ ?_ _ _ _; omega)
  · obtain rfl : m = p := by omega
    clear hm
    go_enter Tryz.func110, Tryz.ntmps110
    go_wp2_with (first
      | (go_at_call_of 128 (Value.int IntKind.i64 0); refine (HN.out _ (below2 _ _ _)).1.mono ?_; rintro e w1 ⟨rfl, rfl⟩)
      | (go_at_call_of 128 (Value.int IntKind.i64 1); refine (HN.out _ (below2 _ _ _)).2.mono ?_; rintro e w1 ⟨rfl, rfl⟩)
      | (go_at_call 127; refine (HH.out _).mono ?_; rintro e w1 ⟨rfl, rfl⟩))
    all_goals (refine bodyPost_ret (by simp [results, Tryz.results110, go_sem]; rfl) rfl ?_; refine FIN.out _ ?_ _ _ _; omega)

set_option maxHeartbeats 2000000 in
theorem csiH (g : Gr) (h : OkG g) (b cap : Nat) (w : World) (hS : Scr w b g.n g.f) (lo : Option Addr) (ln lc : Nat) (p q : Int) (HN : Hid (Nums w lo ln lc p q)) (hp0 : 0 ≤ p) (hp9 : p ≤ 999) (hq0 : 0 ≤ q) (hq9 : q ≤ 999) (m : Int) (hm : m = max p 1) (x : Gr) (hx : x = { g with row := min m g.high - 1, col := max 1 (min q g.wide) - 1 }) :
    Calls Tryz.prog 110 #[gval g (some ⟨b, 0, none⟩) cap, .int .i64 72, .slice lo ln lc] w (GEnd w b cap x) := by
  have HS : Hid (Scr w b g.n g.f) := hS
  have hr0 := h.r1
  have hr1 : g.row ≤ 10 := by have := h.r2; have := h.h2; omega
  have hh0 := h.h1
  have hh1 := h.h2
  have hc0 := h.c1
  have hc1 := h.c2
  have hw0 := h.w1
  have hw1 := h.w2

  have FIN : Hid (∀ r c : Int, r = min m g.high - 1 → c = max 1 (min q g.wide) - 1 → ∀ o1 o2 : Obj, GEnd w b cap x (.returned (.agg #[.int .i64 g.wide, .int .i64 g.high, .slice (some ⟨b, 0, none⟩) g.n cap, .int .i64 r, .int .i64 c, .int .i64 g.ink, .bool g.bold, .int .i64 g.top, .int .i64 g.bottom])) ((w.alloc o1).alloc o2)) := by
    intro r c hr hc o1 o2
    rw [hx, ← hr, ← hc]
    exact gend2 HS r c o1 o2
  clear hS h hx
  by_cases hp : p < 1
  · obtain rfl : p = 0 := by omega
    obtain rfl : m = 1 := by omega
    clear hm
    go_enter Tryz.func110, Tryz.ntmps110
    go_wp2_with (first
      | (go_at_call_of 128 (Value.int IntKind.i64 0); refine (HN.out _ (below2 _ _ _)).1.mono ?_; rintro e w1 ⟨rfl, rfl⟩)
      | (go_at_call_of 128 (Value.int IntKind.i64 1); refine (HN.out _ (below2 _ _ _)).2.mono ?_; rintro e w1 ⟨rfl, rfl⟩)
      | (go_at_call 77; refine (within_any _ _ _ _).mono ?_; rintro e w1 ⟨rfl, rfl⟩))
    all_goals (refine bodyPost_ret (by simp [results, Tryz.results110, go_sem]; rfl) rfl ?_; refine FIN.out _ _ ?_ ?_ _ _ <;> omega)
  · obtain rfl : m = p := by omega
    clear hm
    go_enter Tryz.func110, Tryz.ntmps110
    go_wp2_with (first
      | (go_at_call_of 128 (Value.int IntKind.i64 0); refine (HN.out _ (below2 _ _ _)).1.mono ?_; rintro e w1 ⟨rfl, rfl⟩)
      | (go_at_call_of 128 (Value.int IntKind.i64 1); refine (HN.out _ (below2 _ _ _)).2.mono ?_; rintro e w1 ⟨rfl, rfl⟩)
      | (go_at_call 77; refine (within_any _ _ _ _).mono ?_; rintro e w1 ⟨rfl, rfl⟩))
    all_goals (refine bodyPost_ret (by simp [results, Tryz.results110, go_sem]; rfl) rfl ?_; refine FIN.out _ _ ?_ ?_ _ _ <;> omega)

set_option maxHeartbeats 2000000 in
theorem csiNone (g : Gr) (b cap : Nat) (w : World) (hS : Scr w b g.n g.f) (lo : Option Addr) (ln lc : Nat) (p q : Int) (HN : Hid (Nums w lo ln lc p q)) (c : Int) (h0 : c ≠ 65) (h1 : c ≠ 66) (h2 : c ≠ 67) (h3 : c ≠ 68) (h4 : c ≠ 72) (h5 : c ≠ 74) (h6 : c ≠ 75) (h7 : c ≠ 76) (h8 : c ≠ 77) (h9 : c ≠ 109) (h10 : c ≠ 114) :
    Calls Tryz.prog 110 #[gval g (some ⟨b, 0, none⟩) cap, .int .i64 c, .slice lo ln lc] w (GEnd w b cap g) := by
  have HS : Hid (Scr w b g.n g.f) := hS
  have e0 : (c == 65) = false := by simp [h0]
  have e1 : (c == 66) = false := by simp [h1]
  have e2 : (c == 67) = false := by simp [h2]
  have e3 : (c == 68) = false := by simp [h3]
  have e4 : (c == 72) = false := by simp [h4]
  have e5 : (c == 74) = false := by simp [h5]
  have e6 : (c == 75) = false := by simp [h6]
  have e7 : (c == 76) = false := by simp [h7]
  have e8 : (c == 77) = false := by simp [h8]
  have e9 : (c == 109) = false := by simp [h9]
  have e10 : (c == 114) = false := by simp [h10]
  clear hS h0 h1 h2 h3 h4 h5 h6 h7 h8 h9 h10
  by_cases hp : p < 1
  all_goals (
    go_enter Tryz.func110, Tryz.ntmps110
    go_wp2_with (first
      | (go_at_call_of 128 (Value.int IntKind.i64 0); refine (HN.out _ (below2 _ _ _)).1.mono ?_; rintro e w1 ⟨rfl, rfl⟩)
      | (go_at_call_of 128 (Value.int IntKind.i64 1); refine (HN.out _ (below2 _ _ _)).2.mono ?_; rintro e w1 ⟨rfl, rfl⟩))
    refine bodyPost_ret (by simp [results, Tryz.results110, go_sem]; rfl) rfl ?_
    exact ⟨rfl, (HS.out.alloc _).alloc _, grown_alloc (grown_alloc (grown_refl _ _) _) _⟩)

end Go.Proofs.YtpichplhidiokacGreatDoor
