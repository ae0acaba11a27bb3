/- The document's own 'csi': the letter m. -/
import Derived.Test.YteenppbpjdldgaaGRefH2
namespace Go.Proofs.Yteenppbpjdldgaa
open Go.RowKit

set_option maxRecDepth 20000 in
set_option maxHeartbeats 4000000 in
theorem rcsi_m (g : Gr) (h : OkG g) (b cap : Nat) (w : World) (hS : Scr w b g.n g.f) (hc : g.n ≤ cap) (lo : Option Addr) (ln lc : Nat) (p q : Int) (HN : Hid (GNums w lo ln lc p q)) (hp0 : 0 ≤ p) (hp9 : p ≤ 999) (l : List Int) (hl : l.length ≤ 140737488355328) (hln : ln = l.length) (hr : RdL w lo l) (m : Int) (hm : m = max p 1) (x : Gr) (hx : x = inkG g l) :
    Calls Try.prog 56 #[gval g (some ⟨b, 0, none⟩) cap, .int .i64 109, .slice lo ln lc] w (GEndN w b x) := by
  have hlt := hS.lt
  have HS : Hid (Scr w b g.n g.f ∧ g.n ≤ cap) := ⟨hS, hc⟩
  have hc0 := h.c1
  have hc1 := h.c2
  have hw0 := h.w1
  have hw1 := h.w2
  have hr0 := h.r1
  have hr2 := h.r2
  have hh0 := h.h1
  have hh1 := h.h2
  obtain ⟨q1, q2, q3, q4, _⟩ := h.nums
  obtain ⟨P, hP⟩ : ∃ P, P = g.row * g.wide := ⟨_, rfl⟩
  have hwrP : IntKind.i64.wrap (g.row * g.wide) = P := by rw [← hP, IntKind.wrap_i64]; omega
  have hP0 : 0 ≤ P := by omega
  have hP1 : P ≤ 240 := by omega
  have hmx : (if p < 1 then (1 : Int) else p) = m := by rw [max_if, hm]
  obtain ⟨k, hk⟩ : ∃ k, (if g.wide - 1 < g.col then g.wide - 1 else g.col) = k := ⟨_, rfl⟩
  have HKC : Hid (k = hereC g) := by show k = hereC g; rw [← hk]; unfold hereC; split <;> omega
  have hk0 : 0 ≤ k := by rw [← hk]; split <;> omega
  have hk1 : k ≤ 24 := by rw [← hk]; split <;> omega
  have hm1 : 1 ≤ m := by omega
  have hm9 : m ≤ 999 := by omega
  have HR : Hid (RdL w lo l) := hr
  have HX : Hid (x = inkG g l) := hx
  obtain ⟨_, _, _, e3, e4⟩ := ok_ink h l
  have HE2 : Hid (x.n = g.n ∧ x.f = g.f) := ⟨by rw [hx]; exact e3, by rw [hx]; exact e4⟩
  clear hr e3 e4
  subst hln
  clear hS h hx hc q1 q2 q3 q4 hP hm hp0 hp9
  go_enter Try.func56, Try.ntmps56
  go_wp2_with (first
    | (go_at_call_of 77 (Value.int IntKind.i64 0); refine (HN.out _ (below2 _ _ _)).1.mono ?_; rintro e w1 ⟨rfl, rfl⟩)
    | (go_at_call_of 77 (Value.int IntKind.i64 1); refine (HN.out _ (below2 _ _ _)).2.mono ?_; rintro e w1 ⟨rfl, rfl⟩))
  go_loopw [175] (fun i wr => ∃ k : Nat, k ≤ l.length ∧ i = .int .i64 k ∧ Box9 w (inkG g (l.take k)) (some ⟨b, 0, none⟩) cap wr) (fun i _ => l.length - (intOf i).toNat)
  case atStart => exact ⟨0, Nat.zero_le _, rfl, at_old (at_new w _) _, at_new1 w _ _, below2 _ _ _⟩
  case round =>
    obtain ⟨k', hk', rfl, hb⟩ := hrel
    obtain ⟨x0, hx0⟩ : ∃ x0, x0 = inkG g (l.take k') := ⟨_, rfl⟩
    rw [← hx0] at hb
    have HB : Hid (Box9 w x0 (some ⟨b, 0, none⟩) cap wr) := hb
    by_cases hlt' : k' < l.length
    · obtain ⟨b2, off, rfl, hc⟩ := (HR.out.below hb.below).resolve_left (fun e => by rw [e] at hlt'; simp at hlt')
      have t := hc k' hlt'
      obtain ⟨y, hy⟩ : ∃ y, y = l.getD k' 0 := ⟨_, rfl⟩
      rw [← hy] at t
      have HNN : Hid (inkG g (l.take (k' + 1)) = ink1 x0 y) := by show inkG g (l.take (k' + 1)) = _; rw [hx0, hy]; exact ink_snoc hlt'
      obtain ⟨⟨x0', x1, x2, x3, x4, x5, x6, x7, x8⟩, z⟩ := nine hb.box
      have hlt'' : (k' : Int) < (l.length : Int) := by omega
      have hk0' : (0 : Int) ≤ (k' : Int) := by omega
      clear hc hy hb hx0
      by_cases h0 : y = 0
      · subst h0
        go_wp2
        go_roundw
        case rel => exact ⟨k' + 1, by omega, by go_num, by rw [HNN.out]; exact (HB.out.ink 0).bold false⟩
        case measure => simp [intOf]; omega
      by_cases h1 : y = 1
      · subst h1
        go_wp2
        go_roundw
        case rel => exact ⟨k' + 1, by omega, by go_num, by rw [HNN.out]; exact HB.out.bold true⟩
        case measure => simp [intOf]; omega
      by_cases h2 : y = 22
      · subst h2
        go_wp2
        go_roundw
        case rel => exact ⟨k' + 1, by omega, by go_num, by rw [HNN.out]; exact HB.out.bold false⟩
        case measure => simp [intOf]; omega
      by_cases h4 : y = 39
      · subst h4
        go_wp2
        go_roundw
        case rel => exact ⟨k' + 1, by omega, by go_num, by rw [HNN.out]; exact HB.out.ink 0⟩
        case measure => simp [intOf]; omega
      have e0 : (y == 0) = false := by simp [h0]
      have e1 : (y == 1) = false := by simp [h1]
      have e2 : (y == 22) = false := by simp [h2]
      have e4 : (y == 39) = false := by simp [h4]
      by_cases h3 : 30 ≤ y ∧ y ≤ 37
      · have HN2 : Hid (inkG g (l.take (k' + 1)) = { x0 with ink := y - 29 }) := by
          show inkG g (l.take (k' + 1)) = _
          rw [HNN.out]; unfold ink1; rw [if_neg h0, if_neg h1, if_neg h2, if_pos h3]
        obtain ⟨h31, h32⟩ := h3
        clear h0 h1 h2 h4
        go_wp2
        go_roundw
        case rel => exact ⟨k' + 1, by omega, by go_num, by rw [HN2.out]; exact HB.out.ink (y - 29)⟩
        case measure => simp [intOf]; omega
      · have HN2 : Hid (inkG g (l.take (k' + 1)) = x0) := by
          show inkG g (l.take (k' + 1)) = _
          rw [HNN.out]; unfold ink1; rw [if_neg h0, if_neg h1, if_neg h2, if_neg h3, if_neg h4]
        by_cases h31 : 30 ≤ y
        · have h32 : 37 < y := by omega
          clear h0 h1 h2 h4 h3
          go_wp2
          go_roundw
          case rel => exact ⟨k' + 1, by omega, by go_num, by rw [HN2.out]; exact HB.out⟩
          case measure => simp [intOf]; omega
        · have h31' : y < 30 := by omega
          clear h0 h1 h2 h4 h3 h31
          go_wp2
          go_roundw
          case rel => exact ⟨k' + 1, by omega, by go_num, by rw [HN2.out]; exact HB.out⟩
          case measure => simp [intOf]; omega
    · have HE : Hid (x = x0) := by
        show x = x0
        rw [HX.out, hx0, List.take_of_length_le (by omega)]
      obtain ⟨⟨x0', x1, x2, x3, x4, x5, x6, x7, x8⟩, z⟩ := nine hb.box
      obtain ⟨⟨u0, u1, u2, u3, u4, u5, u6, u7, u8⟩, v⟩ := nine hb.res
      have hge : (l.length : Int) ≤ (k' : Int) := by omega
      clear hb hx0
      go_wp2
      refine bodyPost_ret (v := gval x0 (some ⟨b, 0, none⟩) cap) (by simp [results, Try.results56, go_sem, *]) rfl ?_
      have e1 := HE2.out.1
      have e2 := HE2.out.2
      rw [HE.out] at e1 e2 ⊢
      exact box_end HB HS e1 e2 _ _ _ _ _ _ _ _ _

end Go.Proofs.Yteenppbpjdldgaa
