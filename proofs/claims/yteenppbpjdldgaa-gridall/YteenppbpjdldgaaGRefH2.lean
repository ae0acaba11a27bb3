/- The document's own 'csi': the letters A, B and m. -/
import Derived.Test.YteenppbpjdldgaaGRefH
namespace Go.Proofs.Yteenppbpjdldgaa
open Go.RowKit

theorem Box9.row {w : World} {x : Gr} {ao : Option Addr} {cap : Nat} {wr : World} (h : Box9 w x ao cap wr) (k : Int) : Box9 w { x with row := k } ao cap (wr.setCell ⟨w.heap.size, 3, none⟩ (.int .i64 k)) := by
  have h1 := heap_setCell_same wr w.heap.size 3 _ _ (.int .i64 k) h.box
  exact ⟨h1, other_set h.res (by omega), h.below.setCell (Nat.le_refl _) _⟩

theorem box_end {w wr : World} {x : Gr} {b cap n : Nat} {f : Nat → Cel} (HB : Hid (Box9 w x (some ⟨b, 0, none⟩) cap wr)) (HS : Hid (Scr w b n f ∧ n ≤ cap)) (hn : x.n = n) (hf : x.f = f) (u0 u1 u2 u3 u4 u5 u6 u7 u8 : Value) :
    GEndN w b x (.returned (gval x (some ⟨b, 0, none⟩) cap)) (((((((((wr.setCell ⟨w.heap.size + 1, 0, none⟩ u0).setCell ⟨w.heap.size + 1, 1, none⟩ u1).setCell ⟨w.heap.size + 1, 2, none⟩ u2).setCell ⟨w.heap.size + 1, 3, none⟩ u3).setCell ⟨w.heap.size + 1, 4, none⟩ u4).setCell ⟨w.heap.size + 1, 5, none⟩ u5).setCell ⟨w.heap.size + 1, 6, none⟩ u6).setCell ⟨w.heap.size + 1, 7, none⟩ u7).setCell ⟨w.heap.size + 1, 8, none⟩ u8) := by
  have hlt := HS.out.1.lt
  subst hn hf
  exact ⟨b, cap, rfl, scr_set9 (HS.out.1.below HB.out.below hlt) (by omega) _ _ _ _ _ _ _ _ _, HS.out.2, Below.toGrown (below_set9 HB.out.below (by omega) _ _ _ _ _ _ _ _ _) _, .inl rfl⟩

set_option maxRecDepth 20000 in
set_option maxHeartbeats 4000000 in
theorem rcsiA (g : Gr) (h : OkG g) (b cap : Nat) (w : World) (hS : Scr w b g.n g.f) (hc : g.n ≤ cap) (lo : Option Addr) (ln lc : Nat) (p q : Int) (HN : Hid (GNums w lo ln lc p q)) (hp0 : 0 ≤ p) (hp9 : p ≤ 999) (m : Int) (hm : m = max p 1) (x : Gr) (hx : x = { g with row := max (g.row - m) 0 }) :
    Calls Try.prog 56 #[gval g (some ⟨b, 0, none⟩) cap, .int .i64 65, .slice lo ln lc] w (GEndN w b x) := by
  have hlt := hS.lt
  have HS : Hid (Scr w b g.n g.f ∧ g.n ≤ cap) := ⟨hS, hc⟩
  have hc0 := h.c1
  have hc1 := h.c2
  have hw0 := h.w1
  have hw1 := h.w2
  have hr0 := h.r1
  have hr2 := h.r2
  have hh0 := h.h1
  have hh1 := h.h2
  obtain ⟨q1, q2, q3, q4, _⟩ := h.nums
  obtain ⟨P, hP⟩ : ∃ P, P = g.row * g.wide := ⟨_, rfl⟩
  have hwrP : IntKind.i64.wrap (g.row * g.wide) = P := by rw [← hP, IntKind.wrap_i64]; omega
  have hP0 : 0 ≤ P := by omega
  have hP1 : P ≤ 240 := by omega
  have hmx : (if p < 1 then (1 : Int) else p) = m := by rw [max_if, hm]
  obtain ⟨k, hk⟩ : ∃ k, (if g.wide - 1 < g.col then g.wide - 1 else g.col) = k := ⟨_, rfl⟩
  have HKC : Hid (k = hereC g) := by show k = hereC g; rw [← hk]; unfold hereC; split <;> omega
  have hk0 : 0 ≤ k := by rw [← hk]; split <;> omega
  have hk1 : k ≤ 24 := by rw [← hk]; split <;> omega
  have hm1 : 1 ≤ m := by omega
  have hm9 : m ≤ 999 := by omega
  obtain ⟨M, hM⟩ : ∃ M : Nat, m = M := ⟨m.toNat, by omega⟩
  have HX : Hid (x = { g with row := max (g.row - m) 0 }) := hx
  have HM : Hid (m = (M : Int)) := hM
  clear hS h hx hc q1 q2 q3 q4 hP hm hp0 hp9
  rw [hM] at hmx
  have hM9 : M ≤ 999 := by omega
  clear hM hm1 hm9
  go_enter Try.func56, Try.ntmps56
  go_wp2_with (first
    | (go_at_call_of 77 (Value.int IntKind.i64 0); refine (HN.out _ (below2 _ _ _)).1.mono ?_; rintro e w1 ⟨rfl, rfl⟩)
    | (go_at_call_of 77 (Value.int IntKind.i64 1); refine (HN.out _ (below2 _ _ _)).2.mono ?_; rintro e w1 ⟨rfl, rfl⟩))
  go_loopw [34] (fun i wr => ∃ k : Nat, k ≤ M ∧ i = .int .i64 k ∧ Box9 w { g with row := max (g.row - k) 0 } (some ⟨b, 0, none⟩) cap wr) (fun i _ => M - (intOf i).toNat)
  case atStart => exact ⟨0, Nat.zero_le _, rfl, by rw [show max (g.row - ((0 : Nat) : Int)) 0 = g.row by omega]; exact ⟨at_old (at_new w _) _, at_new1 w _ _, below2 _ _ _⟩⟩
  case round =>
    obtain ⟨j, hj, rfl, hb⟩ := hrel
    obtain ⟨R, hR⟩ : ∃ R, R = max (g.row - j) 0 := ⟨_, rfl⟩
    rw [← hR] at hb
    have HB : Hid (Box9 w { g with row := R } (some ⟨b, 0, none⟩) cap wr) := hb
    have HR : Hid (R = max (g.row - j) 0) := hR
    obtain ⟨⟨x0, x1, x2, x3, x4, x5, x6, x7, x8⟩, z⟩ := nine hb.box
    obtain ⟨⟨u0, u1, u2, u3, u4, u5, u6, u7, u8⟩, v⟩ := nine hb.res
    have hRa : 0 ≤ R := by omega
    have hRb : R ≤ 10 := by omega
    clear hb hR
    by_cases hl : j < M
    · have hl' : (j : Int) < (M : Int) := by omega
      by_cases hgo : 0 < R
      · go_wp2
        go_roundw
        case rel => exact ⟨j + 1, by omega, by go_num, by rw [show max (g.row - ((j + 1 : Nat) : Int)) 0 = R - 1 by have := HR.out; omega]; exact HB.out.row _⟩
        case measure => simp [intOf]; omega
      · have hgo' : R ≤ 0 := by omega
        clear hgo
        go_wp2
        go_roundw
        case rel => exact ⟨j + 1, by omega, by go_num, by rw [show max (g.row - ((j + 1 : Nat) : Int)) 0 = R by have := HR.out; omega]; exact HB.out⟩
        case measure => simp [intOf]; omega
    · have hge : (M : Int) ≤ (j : Int) := by omega
      have HE : Hid (x = { g with row := R }) := by
        show x = _
        rw [HX.out, HR.out]
        congr 1
        have := HM.out
        omega
      go_wp2
      refine bodyPost_ret (v := gval { g with row := R } (some ⟨b, 0, none⟩) cap) (by simp [results, Try.results56, go_sem, *]) rfl ?_
      rw [HE.out]
      exact box_end HB HS rfl rfl _ _ _ _ _ _ _ _ _

set_option maxRecDepth 20000 in
set_option maxHeartbeats 4000000 in
theorem rcsiB (g : Gr) (h : OkG g) (b cap : Nat) (w : World) (hS : Scr w b g.n g.f) (hc : g.n ≤ cap) (lo : Option Addr) (ln lc : Nat) (p q : Int) (HN : Hid (GNums w lo ln lc p q)) (hp0 : 0 ≤ p) (hp9 : p ≤ 999) (m : Int) (hm : m = max p 1) (x : Gr) (hx : x = { g with row := min (g.row + m) (g.high - 1) }) :
    Calls Try.prog 56 #[gval g (some ⟨b, 0, none⟩) cap, .int .i64 66, .slice lo ln lc] w (GEndN w b x) := by
  have hlt := hS.lt
  have HS : Hid (Scr w b g.n g.f ∧ g.n ≤ cap) := ⟨hS, hc⟩
  have hc0 := h.c1
  have hc1 := h.c2
  have hw0 := h.w1
  have hw1 := h.w2
  have hr0 := h.r1
  have hr2 := h.r2
  have hh0 := h.h1
  have hh1 := h.h2
  obtain ⟨q1, q2, q3, q4, _⟩ := h.nums
  obtain ⟨P, hP⟩ : ∃ P, P = g.row * g.wide := ⟨_, rfl⟩
  have hwrP : IntKind.i64.wrap (g.row * g.wide) = P := by rw [← hP, IntKind.wrap_i64]; omega
  have hP0 : 0 ≤ P := by omega
  have hP1 : P ≤ 240 := by omega
  have hmx : (if p < 1 then (1 : Int) else p) = m := by rw [max_if, hm]
  obtain ⟨k, hk⟩ : ∃ k, (if g.wide - 1 < g.col then g.wide - 1 else g.col) = k := ⟨_, rfl⟩
  have HKC : Hid (k = hereC g) := by show k = hereC g; rw [← hk]; unfold hereC; split <;> omega
  have hk0 : 0 ≤ k := by rw [← hk]; split <;> omega
  have hk1 : k ≤ 24 := by rw [← hk]; split <;> omega
  have hm1 : 1 ≤ m := by omega
  have hm9 : m ≤ 999 := by omega
  obtain ⟨M, hM⟩ : ∃ M : Nat, m = M := ⟨m.toNat, by omega⟩
  have HX : Hid (x = { g with row := min (g.row + m) (g.high - 1) }) := hx
  have HM : Hid (m = (M : Int)) := hM
  clear hS h hx hc q1 q2 q3 q4 hP hm hp0 hp9
  rw [hM] at hmx
  have hM9 : M ≤ 999 := by omega
  clear hM hm1 hm9
  go_enter Try.func56, Try.ntmps56
  go_wp2_with (first
    | (go_at_call_of 77 (Value.int IntKind.i64 0); refine (HN.out _ (below2 _ _ _)).1.mono ?_; rintro e w1 ⟨rfl, rfl⟩)
    | (go_at_call_of 77 (Value.int IntKind.i64 1); refine (HN.out _ (below2 _ _ _)).2.mono ?_; rintro e w1 ⟨rfl, rfl⟩))
  go_loopw [47] (fun i wr => ∃ k : Nat, k ≤ M ∧ i = .int .i64 k ∧ Box9 w { g with row := min (g.row + k) (g.high - 1) } (some ⟨b, 0, none⟩) cap wr) (fun i _ => M - (intOf i).toNat)
  case atStart => exact ⟨0, Nat.zero_le _, rfl, by rw [show min (g.row + ((0 : Nat) : Int)) (g.high - 1) = g.row by omega]; exact ⟨at_old (at_new w _) _, at_new1 w _ _, below2 _ _ _⟩⟩
  case round =>
    obtain ⟨j, hj, rfl, hb⟩ := hrel
    obtain ⟨R, hR⟩ : ∃ R, R = min (g.row + j) (g.high - 1) := ⟨_, rfl⟩
    rw [← hR] at hb
    have HB : Hid (Box9 w { g with row := R } (some ⟨b, 0, none⟩) cap wr) := hb
    have HR : Hid (R = min (g.row + j) (g.high - 1)) := hR
    obtain ⟨⟨x0, x1, x2, x3, x4, x5, x6, x7, x8⟩, z⟩ := nine hb.box
    obtain ⟨⟨u0, u1, u2, u3, u4, u5, u6, u7, u8⟩, v⟩ := nine hb.res
    have hRa : 0 ≤ R := by omega
    have hRb : R ≤ 10 := by omega
    clear hb hR
    by_cases hl : j < M
    · have hl' : (j : Int) < (M : Int) := by omega
      by_cases hgo : R < g.high - 1
      · go_wp2
        go_roundw
        case rel => exact ⟨j + 1, by omega, by go_num, by rw [show min (g.row + ((j + 1 : Nat) : Int)) (g.high - 1) = R + 1 by have := HR.out; omega]; exact HB.out.row _⟩
        case measure => simp [intOf]; omega
      · have hgo' : g.high - 1 ≤ R := by omega
        clear hgo
        go_wp2
        go_roundw
        case rel => exact ⟨j + 1, by omega, by go_num, by rw [show min (g.row + ((j + 1 : Nat) : Int)) (g.high - 1) = R by have := HR.out; omega]; exact HB.out⟩
        case measure => simp [intOf]; omega
    · have hge : (M : Int) ≤ (j : Int) := by omega
      have HE : Hid (x = { g with row := R }) := by
        show x = _
        rw [HX.out, HR.out]
        congr 1
        have := HM.out
        omega
      go_wp2
      refine bodyPost_ret (v := gval { g with row := R } (some ⟨b, 0, none⟩) cap) (by simp [results, Try.results56, go_sem, *]) rfl ?_
      rw [HE.out]
      exact box_end HB HS rfl rfl _ _ _ _ _ _ _ _ _

end Go.Proofs.Yteenppbpjdldgaa
