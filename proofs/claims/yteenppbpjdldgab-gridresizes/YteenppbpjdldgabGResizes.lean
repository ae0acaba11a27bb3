/- What 'GridResizes' answers: true. -/
import Derived.Test.YteenppbpjdldgabGResize3
namespace Go.Proofs.Yteenppbpjdldgab
open Go.RowKit

set_option maxHeartbeats 1000000 in
theorem resizes_no (g : Gr) (ao : Option Addr) (cap : Nat) (wide high : Int) (w : World) (x : Gr) (q : Int) (h0 : q ≠ 0)
    (HD : Hid (∀ w', Below w.heap.size w w' → Calls Try.prog 15 #[gval g ao cap, .int .i64 wide, .int .i64 high] w' (AllEnd w' (x, q)))) :
    Calls Try.prog 4 #[gval g ao cap, .int .i64 wide, .int .i64 high] w fun e w' => e = .returned (.bool true) ∧ Below w.heap.size w w' := by
  have he : (q == 0) = false := by simp [h0]
  have he2 : (q != 0) = true := by simp [h0]
  go_enter Try.func4, Try.ntmps4
  go_wp2_with (first
    | (go_at_call 15; refine (HD.out _ (below1 _ _)).mono ?_; rintro e w2 ⟨ao2, cap2, rfl, hcp⟩; have HB : Hid (Below w.heap.size w w2) := below_up hcp.2.2; clear hcp)
    | (go_at_call 13; refine (shows_any _).mono ?_; rintro e w3 ⟨rfl, hb3⟩; have HB3 : Hid (Below w.heap.size w w3) := (HB.out.alloc HB.out.size _).trans (hb3.mono (by have := HB.out.size; simp; omega)); clear hb3))
  go_ret
  exact ⟨rfl, HB3.out⟩

set_option maxRecDepth 2000 in
set_option maxHeartbeats 4000000 in
theorem resizes_yes (g : Gr) (ok : OkG g) (ao : Option Addr) (cap : Nat) (wide high : Int) (w : World) (hr : RdS w ao g.n g.f) (x : Gr) (hx : x = resG g wide high)
    (HD : Hid (∀ w', Below w.heap.size w w' → Calls Try.prog 15 #[gval g ao cap, .int .i64 wide, .int .i64 high] w' (AllEnd w' (x, 0)))) :
    Calls Try.prog 4 #[gval g ao cap, .int .i64 wide, .int .i64 high] w fun e w' => e = .returned (.bool true) ∧ Below w.heap.size w w' := by
  have okx : OkG x := by rw [hx]; exact ok_res ok wide high
  have HAT : Hid (∀ (wr : World) (ax : Option Addr) (cx B : Nat) (r c : Int), Two w g x ao ax cap cx B wr → 0 ≤ r → r < x.high → 0 ≤ c → c < x.wide → Calls Try.prog 14 #[gval x ax cx, .int .i64 r, .int .i64 c] wr fun e w' => e = .returned (cval (atG g r c)) ∧ Below wr.heap.size wr w') := by
    intro wr ax cx B r c h2 h3 h4 h5 h6
    rw [hx] at h4 h6
    rw [← atG_res ok wide high h3 h4 h5 h6, ← hx]
    exact at_any x ax cx r c wr h2.rx (by obtain ⟨q1, q2, _⟩ := okx.nums; omega)
  have HAG : Hid (∀ (wr : World) (ax : Option Addr) (cx B : Nat) (r c : Int), Two w g x ao ax cap cx B wr → Calls Try.prog 14 #[gval g ao cap, .int .i64 r, .int .i64 c] wr fun e w' => e = .returned (cval (atG g r c)) ∧ Below wr.heap.size wr w') := fun wr ax cx B r c h2 => at_any g ao cap r c wr h2.rg (by obtain ⟨q1, q2, _⟩ := ok.nums; omega)
  have HGD : Hid (∀ w ax cx, RdS w ax x.n x.f → Calls Try.prog 16 #[gval x ax cx] w fun e w' => e = .returned (.bool true) ∧ Below w.heap.size w w') := fun w ax cx h1 => good_any x ax cx w h1 (by obtain ⟨q1, q2, _⟩ := okx.nums; omega) true ((goodG_iff x).2 okx).symm
  have HR : Hid (RdS w ao g.n g.f) := hr
  obtain ⟨H, hH⟩ : ∃ H : Nat, x.high = H := ⟨x.high.toNat, by have := okx.h1; omega⟩
  obtain ⟨Wd, hW⟩ : ∃ W : Nat, x.wide = W := ⟨x.wide.toNat, by have := okx.w1; omega⟩
  have hH2 : H ≤ 10 := by have := okx.h2; omega
  have hW2 : Wd ≤ 24 := by have := okx.w2; omega
  have HHW : Hid (x.high = H ∧ x.wide = Wd) := ⟨hH, hW⟩
  have HWH : Hid (x.wide = max 1 (min wide 24) ∧ x.high = max 1 (min high 10)) := by rw [hx]; exact ⟨rfl, rfl⟩
  clear hr hx ok okx hH hW
  go_enter Try.func4, Try.ntmps4
  go_wp2_with (first
    | (go_at_call 15; refine (HD.out _ (below1 _ _)).mono ?_; rintro e w2 ⟨ax, cx, rfl, hcp⟩; have HT : Hid (Two w g x ao ax cap cx w2.heap.size (w2.alloc (gbox x ax cx))) := two_of HR.out rfl hcp; have hsz : w.heap.size < w2.heap.size := (by have := hcp.2.2.size; simp at this; omega); clear hcp)
    | (go_at_call 13; refine (shows_any _).mono ?_; rintro e w3 ⟨rfl, hb3⟩; have HT3 : Hid (Two w g x ao ax cap cx w2.heap.size w3) := HT.out.later hb3; obtain ⟨⟨y0, y1, y2, y3, y4, y5, y6, y7, y8⟩, z3⟩ := nine HT3.out.two; clear hb3))
  clear y0 y1 y2 y3 y4 y5 y6 y7 y8 z3 HT HD HR
  go_loopw [27] (fun i wr => ∃ k : Nat, k ≤ H ∧ i = .int .i64 k ∧ Two w g x ao ax cap cx w2.heap.size wr) (fun i _ => H - (intOf i).toNat)
  case atStart => exact ⟨0, Nat.zero_le _, rfl, HT3.out⟩
  case round =>
    obtain ⟨k, hk, rfl, ht⟩ := hrel
    have HT4 : Hid (Two w g x ao ax cap cx w2.heap.size wr) := ht
    obtain ⟨⟨x0, x1, x2, x3, x4, x5, x6, x7, x8⟩, z⟩ := nine ht.two
    clear ht
    by_cases hlt : k < H
    · have hlt' : (k : Int) < x.high := by rw [HHW.out.1]; omega
      have hk0 : (0 : Int) ≤ (k : Int) := by omega
      go_wp2
      clear x0 x1 x2 x3 x4 x5 x6 x7 x8 z
      go_loopw [32] (fun j ws => ∃ m : Nat, m ≤ Wd ∧ j = .int .i64 m ∧ Two w g x ao ax cap cx w2.heap.size ws) (fun j _ => Wd - (intOf j).toNat)
      case atStart => exact ⟨0, Nat.zero_le _, rfl, HT4.out⟩
      case round =>
        obtain ⟨m, hm, rfl, ht5⟩ := hrel
        rename_i wr0 wr
        have HTi : Hid (Two w g x ao ax cap cx w2.heap.size wr) := ht5
        obtain ⟨⟨x0, x1, x2, x3, x4, x5, x6, x7, x8⟩, z⟩ := nine ht5.one
        obtain ⟨⟨y0, y1, y2, y3, y4, y5, y6, y7, y8⟩, z3⟩ := nine ht5.two
        have hl1 := ht5.lt1
        have hl2 := ht5.lt2
        clear ht5
        by_cases hlm : m < Wd
        · have hlm' : (m : Int) < x.wide := by rw [HHW.out.2]; omega
          have hm0 : (0 : Int) ≤ (m : Int) := by omega
          obtain ⟨y, hy⟩ : ∃ y, y = atG g k m := ⟨_, rfl⟩
          have HGA : Hid (∀ wr, Two w g x ao ax cap cx w2.heap.size wr → Calls Try.prog 14 #[gval g ao cap, .int .i64 k, .int .i64 m] wr fun e w' => e = .returned (cval y) ∧ Below wr.heap.size wr w') := fun wr h => by rw [hy]; exact HAG.out wr ax cx _ k m h
          have HXA : Hid (∀ wr, Two w g x ao ax cap cx w2.heap.size wr → Calls Try.prog 14 #[gval x ax cx, .int .i64 k, .int .i64 m] wr fun e w' => e = .returned (cval y) ∧ Below wr.heap.size wr w') := fun wr h => by rw [hy]; exact HAT.out wr ax cx _ k m h hk0 hlt' hm0 hlm'
          clear hy HAT HAG
          go_wp2_with fail
          go_region_held3 (fun w' => (w'.cell? ⟨w2.heap.size, 0, none⟩ = some (.int .i64 x.wide) ∧ w'.cell? ⟨w2.heap.size, 1, none⟩ = some (.int .i64 x.high) ∧ w'.cell? ⟨w2.heap.size, 2, none⟩ = some (.slice ax x.n cx) ∧ w'.cell? ⟨w2.heap.size, 3, none⟩ = some (.int .i64 x.row) ∧ w'.cell? ⟨w2.heap.size, 4, none⟩ = some (.int .i64 x.col) ∧ w'.cell? ⟨w2.heap.size, 5, none⟩ = some (.int .i64 x.ink) ∧ w'.cell? ⟨w2.heap.size, 6, none⟩ = some (.bool x.bold) ∧ w'.cell? ⟨w2.heap.size, 7, none⟩ = some (.int .i64 x.top) ∧ w'.cell? ⟨w2.heap.size, 8, none⟩ = some (.int .i64 x.bottom)) ∧ (w'.cell? ⟨w.heap.size, 0, none⟩ = some (.int .i64 g.wide) ∧ w'.cell? ⟨w.heap.size, 1, none⟩ = some (.int .i64 g.high) ∧ w'.cell? ⟨w.heap.size, 2, none⟩ = some (.slice ao g.n cap) ∧ w'.cell? ⟨w.heap.size, 3, none⟩ = some (.int .i64 g.row) ∧ w'.cell? ⟨w.heap.size, 4, none⟩ = some (.int .i64 g.col) ∧ w'.cell? ⟨w.heap.size, 5, none⟩ = some (.int .i64 g.ink) ∧ w'.cell? ⟨w.heap.size, 6, none⟩ = some (.bool g.bold) ∧ w'.cell? ⟨w.heap.size, 7, none⟩ = some (.int .i64 g.top) ∧ w'.cell? ⟨w.heap.size, 8, none⟩ = some (.int .i64 g.bottom))) (first | go_keep | (simp [*, World.cell?_alloc_past]))
            (first
            | (have _t := HT6; go_at_call 14; refine (HGA.out _ HT6.out).mono ?_; rintro e w7 ⟨rfl, hb7⟩; have HT7 : Hid (Two w g x ao ax cap cx w2.heap.size w7) := HT6.out.later hb7; obtain ⟨⟨a0, a1, a2, a3, a4, a5, a6, a7, a8⟩, a9⟩ := nine HT7.out.two; obtain ⟨⟨b0, b1, b2, b3, b4, b5, b6, b7, b8⟩, b9⟩ := nine HT7.out.one; clear hb7)
            | (go_at_call 14; refine (HXA.out _ HTi.out.drew).mono ?_; rintro e w6 ⟨rfl, hb6⟩; have HT6 : Hid (Two w g x ao ax cap cx w2.heap.size w6) := HTi.out.drew.later hb6; obtain ⟨⟨c0, c1, c2, c3, c4, c5, c6, c7, c8⟩, c9⟩ := nine HT6.out.two; obtain ⟨⟨d0, d1, d2, d3, d4, d5, d6, d7, d8⟩, d9⟩ := nine HT6.out.one; clear hb6))
          go_wp2
          go_roundw
          case rel => exact ⟨m + 1, by omega, by go_num, HT7.out⟩
          case measure => simp [intOf]; omega
        · have hge : x.wide ≤ (m : Int) := by rw [HHW.out.2]; omega
          go_wp2
          go_roundw
          case rel => exact ⟨k + 1, by omega, by go_num, HTi.out⟩
          case measure => simp [intOf]; omega
    · have hge : x.high ≤ (k : Int) := by rw [HHW.out.1]; omega
      go_wp2_with (go_at_call 16; refine (HGD.out _ ax cx HT4.out.rx).mono ?_; rintro e1 w4 ⟨rfl, hb4⟩; have HT8 : Hid (Two w g x ao ax cap cx w2.heap.size w4) := HT4.out.later hb4; obtain ⟨⟨t0, t1, t2, t3, t4, t5, t6, t7, t8⟩, z8⟩ := nine HT8.out.two; clear hb4)
      all_goals (
        go_ret
        refine ⟨ret_bool ?_, HT8.out.below⟩
        obtain ⟨e1, e2⟩ := HWH.out
        have hif : (if 10 < high then (10 : Int) else high) = min high 10 := by split <;> omega
        first
        | (exfalso; omega)
        | (rw [beq_iff_eq]; omega))

theorem resizes_any (g : Gr) (ao : Option Addr) (cap : Nat) (wide high : Int) (w : World) (hr : RdS w ao g.n g.f) (hn : ao = none → g.n = 0 ∧ cap = 0) (hm : g.n ≤ 4398046511104) (hc : g.n ≤ cap) :
    Calls Try.prog 4 #[gval g ao cap, .int .i64 wide, .int .i64 high] w fun e w' => e = .returned (.bool true) ∧ Below w.heap.size w w' := by
  obtain ⟨r, hrr⟩ : ∃ r, r = resR g wide high := ⟨_, rfl⟩
  have HD : ∀ w', Below w.heap.size w w' → Calls Try.prog 15 #[gval g ao cap, .int .i64 wide, .int .i64 high] w' (AllEnd w' r) :=
    fun w' hb => resize_any g ao cap wide high w' (hr.below hb) hn hm hc r hrr
  unfold resR at hrr
  cases hg : goodG g
  · rw [hg] at hrr
    rw [hrr] at HD
    exact resizes_no g ao cap wide high w g 1 (by omega) HD
  · rw [hg] at hrr
    rw [hrr] at HD
    exact resizes_yes g ((goodG_iff g).1 hg) ao cap wide high w hr _ rfl HD

end Go.Proofs.Yteenppbpjdldgab
