/- The document's own 'csi': the letter H. -/
import Derived.Test.YteenppbpjdldgaaGRefH2
namespace Go.Proofs.Yteenppbpjdldgaa
open Go.RowKit

set_option maxRecDepth 20000 in
set_option maxHeartbeats 4000000 in
theorem rcsiH (g : Gr) (h : OkG g) (b cap : Nat) (w : World) (hS : Scr w b g.n g.f) (hc : g.n ≤ cap) (lo : Option Addr) (ln lc : Nat) (p q : Int) (HN : Hid (GNums w lo ln lc p q)) (hp0 : 0 ≤ p) (hp9 : p ≤ 999) (hq0 : 0 ≤ q) (hq9 : q ≤ 999) (m : Int) (hm : m = max p 1) (x : Gr) (hx : x = { g with row := min m g.high - 1, col := max 1 (min q g.wide) - 1 }) :
    Calls Try.prog 56 #[gval g (some ⟨b, 0, none⟩) cap, .int .i64 72, .slice lo ln lc] w (GEndN w b x) := by
  have hlt := hS.lt
  have HS : Hid (Scr w b g.n g.f ∧ g.n ≤ cap) := ⟨hS, hc⟩
  have hc0 := h.c1
  have hc1 := h.c2
  have hw0 := h.w1
  have hw1 := h.w2
  have hr0 := h.r1
  have hr2 := h.r2
  have hh0 := h.h1
  have hh1 := h.h2
  obtain ⟨q1, q2, q3, q4, _⟩ := h.nums
  obtain ⟨P, hP⟩ : ∃ P, P = g.row * g.wide := ⟨_, rfl⟩
  have hwrP : IntKind.i64.wrap (g.row * g.wide) = P := by rw [← hP, IntKind.wrap_i64]; omega
  have hP0 : 0 ≤ P := by omega
  have hP1 : P ≤ 240 := by omega
  have hmx : (if p < 1 then (1 : Int) else p) = m := by rw [max_if, hm]
  obtain ⟨k, hk⟩ : ∃ k, (if g.wide - 1 < g.col then g.wide - 1 else g.col) = k := ⟨_, rfl⟩
  have HKC : Hid (k = hereC g) := by show k = hereC g; rw [← hk]; unfold hereC; split <;> omega
  have hk0 : 0 ≤ k := by rw [← hk]; split <;> omega
  have hk1 : k ≤ 24 := by rw [← hk]; split <;> omega
  have hm1 : 1 ≤ m := by omega
  have hm9 : m ≤ 999 := by omega
  obtain ⟨R, hR⟩ : ∃ R, (if g.high < m then g.high else m) = R := ⟨_, rfl⟩
  obtain ⟨Q, hQ⟩ : ∃ Q, (if q < 1 then (1 : Int) else q) = Q := ⟨_, rfl⟩
  obtain ⟨C, hC⟩ : ∃ C, (if g.wide < Q then g.wide else Q) = C := ⟨_, rfl⟩
  have hR1 : R = min m g.high := by rw [← hR, min_if]
  have hQ1 : Q = max q 1 := by rw [← hQ, max_if]
  have hC1 : C = min Q g.wide := by rw [← hC, min_if]
  have HE : Hid (x = ⟨g.wide, g.high, g.n, g.f, R - 1, C - 1, g.ink, g.bold, g.top, g.bottom⟩) := by
    show x = _
    rw [hx, show R - 1 = min m g.high - 1 by omega, show C - 1 = max 1 (min q g.wide) - 1 by omega]
  have FIN : Hid (∀ o1 o2 : Obj, GEndN w b x (.returned (.agg #[.int .i64 g.wide, .int .i64 g.high, .slice (some ⟨b, 0, none⟩) g.n cap, .int .i64 (R - 1), .int .i64 (C - 1), .int .i64 g.ink, .bool g.bold, .int .i64 g.top, .int .i64 g.bottom])) ((w.alloc o1).alloc o2).drew) := by
    intro o1 o2
    rw [HE.out]
    exact ⟨b, cap, rfl, Scr.drew ((HS.out.1.alloc _).alloc _), HS.out.2, grown_drew (grown_alloc (grown_alloc (grown_refl _ _) _) _), .inl rfl⟩
  have hR2 : 1 ≤ R := by omega
  have hR3 : R ≤ 10 := by omega
  have hC2 : 1 ≤ C := by omega
  have hC3 : C ≤ 24 := by omega
  clear hR1 hQ1 hC1
  clear hS h hx hc q1 q2 q3 q4 hP hm hp0 hp9
  go_enter Try.func56, Try.ntmps56
  go_wp2_with (first
    | (go_at_call_of 77 (Value.int IntKind.i64 0); refine (HN.out _ (below2 _ _ _)).1.mono ?_; rintro e w1 ⟨rfl, rfl⟩)
    | (go_at_call_of 77 (Value.int IntKind.i64 1); refine (HN.out _ (below2 _ _ _)).2.mono ?_; rintro e w1 ⟨rfl, rfl⟩)
    | fail)
  go_region_held3 (fun w' => w'.cell? ⟨w.heap.size, 0, none⟩ = some (.int .i64 g.wide) ∧ w'.cell? ⟨w.heap.size, 1, none⟩ = some (.int .i64 g.high)) (first | go_keep | (simp [*, World.cell?_alloc_past]))
    (first
    | (go_at_call_of 77 (Value.int IntKind.i64 1); refine (HN.out _ (by first | exact below2 _ _ _ | exact below_drewN (below2 _ _ _) _)).2.mono ?_; rintro e w1 ⟨rfl, rfl⟩)
    | fail)
  all_goals (go_wp2; refine bodyPost_ret (by simp [results, Try.results56, go_sem]; rfl) rfl ?_; exact FIN.out _ _)

end Go.Proofs.Yteenppbpjdldgaa
