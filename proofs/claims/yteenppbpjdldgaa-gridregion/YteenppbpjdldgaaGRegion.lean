/- What 'GridRegion' answers: true. -/
import Derived.Test.YteenppbpjdldgaaGKGood
import Derived.Test.YteenppbpjdldgaaGScrolls
import Derived.Test.YteenppbpjdldgaaGKeeps
namespace Go.Proofs.Yteenppbpjdldgaa
open Go.RowKit

theorem atG_keep {g x : Gr} (h : OkG g) (hx : Keeps g x) {r c : Int} (h1 : 0 ≤ r) (h2 : r < g.high) (h3 : 0 ≤ c) (h4 : c < g.wide) (h5 : r < g.top ∨ g.bottom ≤ r) : atG x r c = atG g r c := by
  obtain ⟨e, k1, k2⟩ := atG_good h h1 h2 h3 h4
  obtain ⟨x1, x2, x3, x4⟩ := hx
  obtain ⟨_, _, _, _, q5, q6, _⟩ := h.nums
  have e2 : atG x r c = x.f (r * g.wide + c).toNat := by
    unfold atG
    rw [x1, x2, x3, if_pos ⟨h.w2, h.h2, h1, h2, h3, h4, k2⟩]
  rw [e, e2]
  refine x4 _ ?_
  have b1 := idx_lt (r := r) (t := g.top) h3 h4
  have b2 := idx_lt (r := r) (t := g.bottom) h3 h4
  omega

set_option maxHeartbeats 1000000 in
theorem region1 (g : Gr) (ao : Option Addr) (cap : Nat) (c0 : Int) (ps : List Int) (pl : ByteArray) (eo : Option Addr) (ec : Nat) (w : World) :
    Calls Try.prog 13 #[gval g ao cap, eval ⟨1, c0, ps, pl⟩ eo ec] w fun e w' => e = .returned (.bool true) ∧ Below w.heap.size w w' := by
  go_enter Try.func13, Try.ntmps13
  go_wp2_with (go_at_call 42; refine (shows_any _).mono ?_; rintro e w3 ⟨rfl, hb3⟩; have HB3 : Hid (Below w.heap.size w w3) := (below2 _ _ _).trans (hb3.mono (by simp; omega)); clear hb3)
  go_ret
  exact ⟨rfl, HB3.out⟩

set_option maxHeartbeats 1000000 in
theorem region4 (g : Gr) (ao : Option Addr) (cap : Nat) (c0 : Int) (ps : List Int) (pl : ByteArray) (eo : Option Addr) (ec : Nat) (w : World) :
    Calls Try.prog 13 #[gval g ao cap, eval ⟨4, c0, ps, pl⟩ eo ec] w fun e w' => e = .returned (.bool true) ∧ Below w.heap.size w w' := by
  go_enter Try.func13, Try.ntmps13
  go_wp2_with (go_at_call 42; refine (shows_any _).mono ?_; rintro e w3 ⟨rfl, hb3⟩; have HB3 : Hid (Below w.heap.size w w3) := (below2 _ _ _).trans (hb3.mono (by simp; omega)); clear hb3)
  go_ret
  exact ⟨rfl, HB3.out⟩

set_option maxHeartbeats 1000000 in
theorem region5 (g : Gr) (ao : Option Addr) (cap : Nat) (c0 : Int) (ps : List Int) (pl : ByteArray) (eo : Option Addr) (ec : Nat) (w : World) :
    Calls Try.prog 13 #[gval g ao cap, eval ⟨5, c0, ps, pl⟩ eo ec] w fun e w' => e = .returned (.bool true) ∧ Below w.heap.size w w' := by
  go_enter Try.func13, Try.ntmps13
  go_wp2_with (go_at_call 42; refine (shows_any _).mono ?_; rintro e w3 ⟨rfl, hb3⟩; have HB3 : Hid (Below w.heap.size w w3) := (below2 _ _ _).trans (hb3.mono (by simp; omega)); clear hb3)
  go_ret
  exact ⟨rfl, HB3.out⟩

set_option maxHeartbeats 1000000 in
theorem regionJ (g : Gr) (ao : Option Addr) (cap : Nat) (ps : List Int) (pl : ByteArray) (eo : Option Addr) (ec : Nat) (w : World) :
    Calls Try.prog 13 #[gval g ao cap, eval ⟨3, 74, ps, pl⟩ eo ec] w fun e w' => e = .returned (.bool true) ∧ Below w.heap.size w w' := by
  go_enter Try.func13, Try.ntmps13
  go_wp2_with (go_at_call 42; refine (shows_any _).mono ?_; rintro e w3 ⟨rfl, hb3⟩; have HB3 : Hid (Below w.heap.size w w3) := (below2 _ _ _).trans (hb3.mono (by simp; omega)); clear hb3)
  go_ret
  exact ⟨rfl, HB3.out⟩

set_option maxHeartbeats 1000000 in
theorem regionK (g : Gr) (ao : Option Addr) (cap : Nat) (ps : List Int) (pl : ByteArray) (eo : Option Addr) (ec : Nat) (w : World) :
    Calls Try.prog 13 #[gval g ao cap, eval ⟨3, 75, ps, pl⟩ eo ec] w fun e w' => e = .returned (.bool true) ∧ Below w.heap.size w w' := by
  go_enter Try.func13, Try.ntmps13
  go_wp2_with (go_at_call 42; refine (shows_any _).mono ?_; rintro e w3 ⟨rfl, hb3⟩; have HB3 : Hid (Below w.heap.size w w3) := (below2 _ _ _).trans (hb3.mono (by simp; omega)); clear hb3)
  go_ret
  exact ⟨rfl, HB3.out⟩

set_option maxHeartbeats 1000000 in
theorem region_no2 (g : Gr) (ao : Option Addr) (cap : Nat) (kind c0 : Int) (ps : List Int) (pl : ByteArray) (eo : Option Addr) (ec : Nat) (w : World) (x : Gr) (q : Int) (h0 : q ≠ 0) (h1 : kind ≠ 1) (h4 : kind ≠ 4) (h5 : kind ≠ 5) (h3 : kind ≠ 3)
    (HD : Hid (∀ w', Below w.heap.size w w' → Calls Try.prog 27 #[gval g ao cap, eval ⟨kind, c0, ps, pl⟩ eo ec] w' (AllEnd w' (x, q)))) :
    Calls Try.prog 13 #[gval g ao cap, eval ⟨kind, c0, ps, pl⟩ eo ec] w fun e w' => e = .returned (.bool true) ∧ Below w.heap.size w w' := by
  have he : (q == 0) = false := by simp [h0]
  have he2 : (q != 0) = true := by simp [h0]
  have e1 : (kind == 1) = false := by simp [h1]
  have e4 : (kind == 4) = false := by simp [h4]
  have e5 : (kind == 5) = false := by simp [h5]
  have e3 : (kind == 3) = false := by simp [h3]
  clear h0 h1 h4 h5 h3
  go_enter Try.func13, Try.ntmps13
  go_wp2_with (first
    | (go_at_call 27; refine (HD.out _ (below2 _ _ _)).mono ?_; rintro e w2 ⟨ao2, cap2, rfl, hcp⟩; have HB : Hid (Below w.heap.size w w2) := (below2 _ _ _).trans (hcp.2.2.mono (by simp; omega)); clear hcp)
    | (go_at_call 42; refine (shows_any _).mono ?_; rintro e w3 ⟨rfl, hb3⟩; have HB3 : Hid (Below w.heap.size w w3) := (HB.out.alloc HB.out.size _).trans (hb3.mono (by have := HB.out.size; simp; omega)); clear hb3))
  go_ret
  exact ⟨rfl, HB3.out⟩

set_option maxHeartbeats 1000000 in
theorem region_no3 (g : Gr) (ao : Option Addr) (cap : Nat) (kind c0 : Int) (ps : List Int) (pl : ByteArray) (eo : Option Addr) (ec : Nat) (w : World) (x : Gr) (q : Int) (h0 : q ≠ 0) (h1 : kind ≠ 1) (h4 : kind ≠ 4) (h5 : kind ≠ 5) (h3 : kind = 3) (hJ : c0 ≠ 74) (hK : c0 ≠ 75)
    (HD : Hid (∀ w', Below w.heap.size w w' → Calls Try.prog 27 #[gval g ao cap, eval ⟨kind, c0, ps, pl⟩ eo ec] w' (AllEnd w' (x, q)))) :
    Calls Try.prog 13 #[gval g ao cap, eval ⟨kind, c0, ps, pl⟩ eo ec] w fun e w' => e = .returned (.bool true) ∧ Below w.heap.size w w' := by
  have he : (q == 0) = false := by simp [h0]
  have he2 : (q != 0) = true := by simp [h0]
  have e1 : (kind == 1) = false := by simp [h1]
  have e4 : (kind == 4) = false := by simp [h4]
  have e5 : (kind == 5) = false := by simp [h5]
  subst h3
  have eJ : (c0 == 74) = false := by simp [hJ]
  have eK : (c0 == 75) = false := by simp [hK]
  clear h0 h1 h4 h5 hJ hK e1 e4 e5
  go_enter Try.func13, Try.ntmps13
  go_wp2_with (first
    | (go_at_call 27; refine (HD.out _ (below2 _ _ _)).mono ?_; rintro e w2 ⟨ao2, cap2, rfl, hcp⟩; have HB : Hid (Below w.heap.size w w2) := (below2 _ _ _).trans (hcp.2.2.mono (by simp; omega)); clear hcp)
    | (go_at_call 42; refine (shows_any _).mono ?_; rintro e w3 ⟨rfl, hb3⟩; have HB3 : Hid (Below w.heap.size w w3) := (HB.out.alloc HB.out.size _).trans (hb3.mono (by have := HB.out.size; simp; omega)); clear hb3))
  go_ret
  exact ⟨rfl, HB3.out⟩

set_option maxRecDepth 2000 in
set_option maxHeartbeats 4000000 in
theorem region_yes2 (g : Gr) (ok : OkG g) (ao : Option Addr) (cap : Nat) (c0 : Int) (ps : List Int) (pl : ByteArray) (eo : Option Addr) (ec : Nat) (w : World) (hr : RdS w ao g.n g.f) (x : Gr) (hx : Keeps g x)
    (HD : Hid (∀ w', Below w.heap.size w w' → Calls Try.prog 27 #[gval g ao cap, eval ⟨2, c0, ps, pl⟩ eo ec] w' (AllEnd w' (x, 0)))) :
    Calls Try.prog 13 #[gval g ao cap, eval ⟨2, c0, ps, pl⟩ eo ec] w fun e w' => e = .returned (.bool true) ∧ Below w.heap.size w w' := by
  have HAT : Hid (∀ (wr : World) (ax : Option Addr) (cx B : Nat) (r c : Int), Two w g x ao ax cap cx B wr → 0 ≤ r → r < g.high → 0 ≤ c → c < g.wide → (r < g.top ∨ g.bottom ≤ r) → Calls Try.prog 37 #[gval x ax cx, .int .i64 r, .int .i64 c] wr fun e w' => e = .returned (cval (atG g r c)) ∧ Below wr.heap.size wr w') := by
    intro wr ax cx B r c h2 h3 h4 h5 h6 h7
    rw [← atG_keep ok hx h3 h4 h5 h6 h7]
    exact at_any x ax cx r c wr h2.rx (by obtain ⟨q1, q2, _⟩ := ok.nums; have := hx.2.2.1; omega)
  have HAG : Hid (∀ (wr : World) (ax : Option Addr) (cx B : Nat) (r c : Int), Two w g x ao ax cap cx B wr → Calls Try.prog 37 #[gval g ao cap, .int .i64 r, .int .i64 c] wr fun e w' => e = .returned (cval (atG g r c)) ∧ Below wr.heap.size wr w') := fun wr ax cx B r c h2 => at_any g ao cap r c wr h2.rg (by obtain ⟨q1, q2, _⟩ := ok.nums; omega)
  have HR : Hid (RdS w ao g.n g.f) := hr
  obtain ⟨H, hH⟩ : ∃ H : Nat, g.high = H := ⟨g.high.toNat, by have := ok.h1; omega⟩
  obtain ⟨Wd, hW⟩ : ∃ W : Nat, g.wide = W := ⟨g.wide.toNat, by have := ok.w1; omega⟩
  have hH2 : H ≤ 10 := by have := ok.h2; omega
  have hW2 : Wd ≤ 24 := by have := ok.w2; omega
  have HHW : Hid (g.high = H ∧ g.wide = Wd) := ⟨hH, hW⟩
  clear hr hx ok hH hW
  go_enter Try.func13, Try.ntmps13
  go_wp2_with (first
    | (go_at_call 27; refine (HD.out _ (below2 _ _ _)).mono ?_; rintro e w2 ⟨ax, cx, rfl, hcp⟩; have HT : Hid (Two w g x ao ax cap cx w2.heap.size (w2.alloc (gbox x ax cx))) := two_of2 HR.out rfl hcp; obtain ⟨⟨x0, x1, x2, x3, x4, x5, x6, x7, x8⟩, z⟩ := nine (below_block hcp.2.2 (at_old (at_new w _) _) (by simp; omega)); have hsz : w.heap.size < w2.heap.size := (by have := hcp.2.2.size; simp at this; omega); clear hcp)
    | (go_at_call 42; refine (shows_any _).mono ?_; rintro e w3 ⟨rfl, hb3⟩; have HT3 : Hid (Two w g x ao ax cap cx w2.heap.size w3) := HT.out.later hb3; obtain ⟨⟨y0, y1, y2, y3, y4, y5, y6, y7, y8⟩, z3⟩ := nine HT3.out.one; clear hb3))
  clear x0 x1 x2 x3 x4 x5 x6 x7 x8 z y0 y1 y2 y3 y4 y5 y6 y7 y8 z3 HT HD HR
  go_loopw [53] (fun i wr => ∃ k : Nat, k ≤ H ∧ i = .int .i64 k ∧ Two w g x ao ax cap cx w2.heap.size wr) (fun i _ => H - (intOf i).toNat)
  case atStart => exact ⟨0, Nat.zero_le _, rfl, HT3.out⟩
  case round =>
    obtain ⟨k, hk, rfl, ht⟩ := hrel
    have HT4 : Hid (Two w g x ao ax cap cx w2.heap.size wr) := ht
    obtain ⟨⟨x0, x1, x2, x3, x4, x5, x6, x7, x8⟩, z⟩ := nine ht.one
    clear ht
    by_cases hlt : k < H
    · have hlt' : (k : Int) < g.high := by rw [HHW.out.1]; omega
      have hk0 : (0 : Int) ≤ (k : Int) := by omega
      go_wp2
      clear x0 x1 x2 x3 x4 x5 x6 x7 x8 z
      go_loopw [58] (fun j ws => ∃ m : Nat, m ≤ Wd ∧ j = .int .i64 m ∧ Two w g x ao ax cap cx w2.heap.size ws) (fun j _ => Wd - (intOf j).toNat)
      case atStart => exact ⟨0, Nat.zero_le _, rfl, HT4.out⟩
      case round =>
        obtain ⟨m, hm, rfl, ht5⟩ := hrel
        rename_i wr0 wr
        have HTi : Hid (Two w g x ao ax cap cx w2.heap.size wr) := ht5
        obtain ⟨⟨x0, x1, x2, x3, x4, x5, x6, x7, x8⟩, z⟩ := nine ht5.one
        obtain ⟨⟨y0, y1, y2, y3, y4, y5, y6, y7, y8⟩, z3⟩ := nine ht5.two
        have hl1 := ht5.lt1
        have hl2 := ht5.lt2
        clear ht5
        by_cases hlm : m < Wd
        · have hlm' : (m : Int) < g.wide := by rw [HHW.out.2]; omega
          have hm0 : (0 : Int) ≤ (m : Int) := by omega
          by_cases hin : (k : Int) < g.top ∨ g.bottom ≤ (k : Int)
          · obtain ⟨y, hy⟩ : ∃ y, y = atG g k m := ⟨_, rfl⟩
            have HGA : Hid (∀ wr, Two w g x ao ax cap cx w2.heap.size wr → Calls Try.prog 37 #[gval g ao cap, .int .i64 k, .int .i64 m] wr fun e w' => e = .returned (cval y) ∧ Below wr.heap.size wr w') := fun wr h => by rw [hy]; exact HAG.out wr ax cx _ k m h
            have HXA : Hid (∀ wr, Two w g x ao ax cap cx w2.heap.size wr → Calls Try.prog 37 #[gval x ax cx, .int .i64 k, .int .i64 m] wr fun e w' => e = .returned (cval y) ∧ Below wr.heap.size wr w') := fun wr h => by rw [hy]; exact HAT.out wr ax cx _ k m h hk0 hlt' hm0 hlm' hin
            cases hd1 : decide ((k : Int) < g.top)
            · have hd2 : decide (g.bottom ≤ (k : Int)) = true := by
                have : ¬ (k : Int) < g.top := of_decide_eq_false hd1
                simp only [decide_eq_true_eq]
                omega
              
              clear hy hin HAT HAG
              go_wp2_with fail
              first
              | (
                  go_region_held3 (fun w' => (w'.cell? ⟨w2.heap.size, 0, none⟩ = some (.int .i64 x.wide) ∧ w'.cell? ⟨w2.heap.size, 1, none⟩ = some (.int .i64 x.high) ∧ w'.cell? ⟨w2.heap.size, 2, none⟩ = some (.slice ax x.n cx) ∧ w'.cell? ⟨w2.heap.size, 3, none⟩ = some (.int .i64 x.row) ∧ w'.cell? ⟨w2.heap.size, 4, none⟩ = some (.int .i64 x.col) ∧ w'.cell? ⟨w2.heap.size, 5, none⟩ = some (.int .i64 x.ink) ∧ w'.cell? ⟨w2.heap.size, 6, none⟩ = some (.bool x.bold) ∧ w'.cell? ⟨w2.heap.size, 7, none⟩ = some (.int .i64 x.top) ∧ w'.cell? ⟨w2.heap.size, 8, none⟩ = some (.int .i64 x.bottom)) ∧ (w'.cell? ⟨w.heap.size, 0, none⟩ = some (.int .i64 g.wide) ∧ w'.cell? ⟨w.heap.size, 1, none⟩ = some (.int .i64 g.high) ∧ w'.cell? ⟨w.heap.size, 2, none⟩ = some (.slice ao g.n cap) ∧ w'.cell? ⟨w.heap.size, 3, none⟩ = some (.int .i64 g.row) ∧ w'.cell? ⟨w.heap.size, 4, none⟩ = some (.int .i64 g.col) ∧ w'.cell? ⟨w.heap.size, 5, none⟩ = some (.int .i64 g.ink) ∧ w'.cell? ⟨w.heap.size, 6, none⟩ = some (.bool g.bold) ∧ w'.cell? ⟨w.heap.size, 7, none⟩ = some (.int .i64 g.top) ∧ w'.cell? ⟨w.heap.size, 8, none⟩ = some (.int .i64 g.bottom))) (first | go_keep | (simp [*, World.cell?_alloc_past]))
                    (first
                    | (have _t := HT6; go_at_call 37; refine (HGA.out _ HT6.out).mono ?_; rintro e w7 ⟨rfl, hb7⟩; have HT7 : Hid (Two w g x ao ax cap cx w2.heap.size w7) := HT6.out.later hb7; obtain ⟨⟨a0, a1, a2, a3, a4, a5, a6, a7, a8⟩, a9⟩ := nine HT7.out.two; obtain ⟨⟨b0, b1, b2, b3, b4, b5, b6, b7, b8⟩, b9⟩ := nine HT7.out.one; clear hb7)
                    | (go_at_call 37; refine (HXA.out _ HTi.out.drew).mono ?_; rintro e w6 ⟨rfl, hb6⟩; have HT6 : Hid (Two w g x ao ax cap cx w2.heap.size w6) := HTi.out.drew.later hb6; obtain ⟨⟨c0, c1, c2, c3, c4, c5, c6, c7, c8⟩, c9⟩ := nine HT6.out.two; obtain ⟨⟨d0, d1, d2, d3, d4, d5, d6, d7, d8⟩, d9⟩ := nine HT6.out.one; clear hb6)))
              | fail
              go_wp2
              go_roundw
              case rel => exact ⟨m + 1, by omega, by go_num, HT7.out⟩
              case measure => simp [intOf]; omega
            · have hd1' : (k : Int) < g.top := of_decide_eq_true hd1
              clear hy hin HAT HAG
              go_wp2_with fail
              refine wp_region_held_drew (S := (fun w' => (w'.cell? ⟨w2.heap.size, 0, none⟩ = some (.int .i64 x.wide) ∧ w'.cell? ⟨w2.heap.size, 1, none⟩ = some (.int .i64 x.high) ∧ w'.cell? ⟨w2.heap.size, 2, none⟩ = some (.slice ax x.n cx) ∧ w'.cell? ⟨w2.heap.size, 3, none⟩ = some (.int .i64 x.row) ∧ w'.cell? ⟨w2.heap.size, 4, none⟩ = some (.int .i64 x.col) ∧ w'.cell? ⟨w2.heap.size, 5, none⟩ = some (.int .i64 x.ink) ∧ w'.cell? ⟨w2.heap.size, 6, none⟩ = some (.bool x.bold) ∧ w'.cell? ⟨w2.heap.size, 7, none⟩ = some (.int .i64 x.top) ∧ w'.cell? ⟨w2.heap.size, 8, none⟩ = some (.int .i64 x.bottom)) ∧ (w'.cell? ⟨w.heap.size, 0, none⟩ = some (.int .i64 g.wide) ∧ w'.cell? ⟨w.heap.size, 1, none⟩ = some (.int .i64 g.high) ∧ w'.cell? ⟨w.heap.size, 2, none⟩ = some (.slice ao g.n cap) ∧ w'.cell? ⟨w.heap.size, 3, none⟩ = some (.int .i64 g.row) ∧ w'.cell? ⟨w.heap.size, 4, none⟩ = some (.int .i64 g.col) ∧ w'.cell? ⟨w.heap.size, 5, none⟩ = some (.int .i64 g.ink) ∧ w'.cell? ⟨w.heap.size, 6, none⟩ = some (.bool g.bold) ∧ w'.cell? ⟨w.heap.size, 7, none⟩ = some (.int .i64 g.top) ∧ w'.cell? ⟨w.heap.size, 8, none⟩ = some (.int .i64 g.bottom)))) (by kernel_rfl) (by (first | go_keep | (simp [*, World.cell?_alloc_past]))) (fun hHeld => ?_)
              refine wpAnyH_take (i := 0) (v := .int .i64 k) rfl (by kernel_rfl) (by kernel_rfl) (by kernel_rfl) (fun _ _ _ h => h) (Or.inl ⟨by kernel_rfl, by intro w hSw; (try dsimp only at hSw); go_simp⟩) (by assumption) ?_
              simp only [Act.put, List.setIfInBounds_toArray]
              refine wpAnyH_take (i := 1) (v := .pointer (some ⟨w.heap.size, 7, none⟩)) rfl (by kernel_rfl) (by kernel_rfl) (by kernel_rfl) (fun _ _ _ h => h) (Or.inl ⟨by kernel_rfl, by intro w hSw; (try dsimp only at hSw); go_simp⟩) (by assumption) ?_
              simp only [Act.put]
              refine wpAnyH_take (i := 2) (v := .int .i64 g.top) rfl (by kernel_rfl) (by kernel_rfl) (by kernel_rfl) (fun _ _ _ h => h) (Or.inl ⟨by kernel_rfl, by intro w hSw; (try dsimp only at hSw); go_simp⟩) (by assumption) ?_
              simp only [Act.put]
              refine wpAnyH_take (i := 3) (v := .bool true) rfl (by kernel_rfl) (by kernel_rfl) (by kernel_rfl) (fun _ _ _ h => h) (Or.inl ⟨by kernel_rfl, by intro w hSw; (try dsimp only at hSw); go_simp⟩) (by assumption) ?_
              simp only [Act.put]
              refine wpAnyH_take (i := 4) (v := .bool true) rfl (by kernel_rfl) (by kernel_rfl) (by kernel_rfl) (fun _ _ _ h => h) (Or.inl ⟨by kernel_rfl, by intro w hSw; (try dsimp only at hSw); go_simp⟩) (by assumption) ?_
              simp only [Act.put]
              refine wpAnyH_take (i := 5) (v := undef) rfl (by kernel_rfl) (by kernel_rfl) (by kernel_rfl) (fun _ _ _ h => h) (Or.inr ⟨by kernel_rfl, rfl⟩) (by assumption) ?_
              simp only [Act.put]
              refine wpAnyH_take (i := 6) (v := undef) rfl (by kernel_rfl) (by kernel_rfl) (by kernel_rfl) (fun _ _ _ h => h) (Or.inr ⟨by kernel_rfl, rfl⟩) (by assumption) ?_
              simp only [Act.put]
              refine wpAnyH_take (i := 7) (v := undef) rfl (by kernel_rfl) (by kernel_rfl) (by kernel_rfl) (fun _ _ _ h => h) (Or.inr ⟨by kernel_rfl, rfl⟩) (by assumption) ?_
              simp only [Act.put]
              refine wpAnyH_take (i := 8) (v := undef) rfl (by kernel_rfl) (by kernel_rfl) (by kernel_rfl) (fun _ _ _ h => h) (Or.inr ⟨by kernel_rfl, rfl⟩) (by assumption) ?_
              simp only [Act.put]
              refine wpAnyH_take (i := 9) (v := .bool true) rfl (by kernel_rfl) (by kernel_rfl) (by kernel_rfl) (fun _ _ _ h => h) (Or.inl ⟨by kernel_rfl, by intro w hSw; (try dsimp only at hSw); go_simp⟩) (by assumption) ?_
              simp only [Act.put]
              refine wpAnyH_take (i := 10) (v := .bool true) rfl (by kernel_rfl) (by kernel_rfl) (by kernel_rfl) (fun _ _ _ h => h) (Or.inl ⟨by kernel_rfl, by intro w hSw; (try dsimp only at hSw); go_simp⟩) (by assumption) ?_
              simp only [Act.put]
              refine wpAnyH_take (i := 11) (v := gval x ax cx) rfl (by kernel_rfl) (by kernel_rfl) (by kernel_rfl) (fun _ _ _ h => h) (Or.inl ⟨by kernel_rfl, by intro w hSw; (try dsimp only at hSw); go_simp⟩) (by assumption) ?_
              simp only [Act.put]
              refine wpAnyH_take (i := 12) (v := .int .i64 k) rfl (by kernel_rfl) (by kernel_rfl) (by kernel_rfl) (fun _ _ _ h => h) (Or.inl ⟨by kernel_rfl, by intro w hSw; (try dsimp only at hSw); go_simp⟩) (by assumption) ?_
              simp only [Act.put]
              refine wpAnyH_take (i := 13) (v := .int .i64 m) rfl (by kernel_rfl) (by kernel_rfl) (by kernel_rfl) (fun _ _ _ h => h) (Or.inl ⟨by kernel_rfl, by intro w hSw; (try dsimp only at hSw); go_simp⟩) (by assumption) ?_
              simp only [Act.put]
              refine wpAnyH_take (i := 15) (v := gval g ao cap) rfl (by kernel_rfl) (by kernel_rfl) (by kernel_rfl) (fun _ _ _ h => h) (Or.inl ⟨by kernel_rfl, by intro w hSw; (try dsimp only at hSw); go_simp⟩) (by assumption) ?_
              simp only [Act.put]
              refine wpAnyH_take (i := 16) (v := .int .i64 k) rfl (by kernel_rfl) (by kernel_rfl) (by kernel_rfl) (fun _ _ _ h => h) (Or.inl ⟨by kernel_rfl, by intro w hSw; (try dsimp only at hSw); go_simp⟩) (by assumption) ?_
              simp only [Act.put]
              refine wpAnyH_take (i := 17) (v := .int .i64 m) rfl (by kernel_rfl) (by kernel_rfl) (by kernel_rfl) (fun _ _ _ h => h) (Or.inl ⟨by kernel_rfl, by intro w hSw; (try dsimp only at hSw); go_simp⟩) (by assumption) ?_
              simp only [Act.put]
              refine wpAnyH_ready (rs := [14]) (by kernel_rfl) (by simp) ?_
              refine AllReadyH.cons rfl (fun K hK => ?_) AllReadyH.nil
              go_simp
              go_at_call 37; refine (HXA.out _ HTi.out.drew).mono ?_; rintro e w6 ⟨rfl, hb6⟩; have HT6 : Hid (Two w g x ao ax cap cx w2.heap.size w6) := HTi.out.drew.later hb6; obtain ⟨⟨c0, c1, c2, c3, c4, c5, c6, c7, c8⟩, c9⟩ := nine HT6.out.two; obtain ⟨⟨d0, d1, d2, d3, d4, d5, d6, d7, d8⟩, d9⟩ := nine HT6.out.one; clear hb6
              refine hK.out _ _ ?_ (fun hHeld => ?_)
              · try dsimp only
                (first | go_keep | (simp [*, World.cell?_alloc_past]))
              clear hK K
              try simp only [Act.put, List.setIfInBounds_toArray, List.set_cons_zero, List.set_cons_succ]
              refine wpAnyH_ready (rs := [18]) (by kernel_rfl) (by simp) ?_
              refine AllReadyH.cons rfl (fun K hK => ?_) AllReadyH.nil
              go_simp
              go_at_call 37; refine (HGA.out _ HT6.out).mono ?_; rintro e w7 ⟨rfl, hb7⟩; have HT7 : Hid (Two w g x ao ax cap cx w2.heap.size w7) := HT6.out.later hb7; obtain ⟨⟨a0, a1, a2, a3, a4, a5, a6, a7, a8⟩, a9⟩ := nine HT7.out.two; obtain ⟨⟨b0, b1, b2, b3, b4, b5, b6, b7, b8⟩, b9⟩ := nine HT7.out.one; clear hb7
              refine hK.out _ _ ?_ (fun hHeld => ?_)
              · try dsimp only
                (first | go_keep | (simp [*, World.cell?_alloc_past]))
              clear hK K
              try simp only [Act.put, List.setIfInBounds_toArray, List.set_cons_zero, List.set_cons_succ]
              refine wpAnyH_take (i := 19) (v := .bool false) rfl (by kernel_rfl) (by kernel_rfl) (by kernel_rfl) (fun _ _ _ h => h) (Or.inl ⟨by kernel_rfl, by intro w hSw; (try dsimp only at hSw); go_simp⟩) (by assumption) ?_
              simp only [Act.put, List.setIfInBounds_toArray]
              refine wpAnyH_take (i := 20) (v := .bool false) rfl (by kernel_rfl) (by kernel_rfl) (by kernel_rfl) (fun _ _ _ h => h) (Or.inl ⟨by kernel_rfl, by intro w hSw; (try dsimp only at hSw); go_simp⟩) (by assumption) ?_
              simp only [Act.put]
              refine wpAnyH_done (by kernel_rfl) ?_ _
              go_wp2
              go_roundw
              case rel => exact ⟨m + 1, by omega, by go_num, HT7.out⟩
              case measure => simp [intOf]; omega
          · have hd1 : decide ((k : Int) < g.top) = false := by simp only [decide_eq_false_iff_not]; omega
            have hd2 : decide (g.bottom ≤ (k : Int)) = false := by simp only [decide_eq_false_iff_not]; omega
            clear hin HAT HAG
            go_wp2_with fail
            go_quiet (fail)
            go_wp2
            go_roundw
            case rel => exact ⟨m + 1, by omega, by go_num, HTi.out.later (below_drewN (Below.refl _ _) _)⟩
            case measure => simp [intOf]; omega
        · have hge : g.wide ≤ (m : Int) := by rw [HHW.out.2]; omega
          go_wp2
          go_roundw
          case rel => exact ⟨k + 1, by omega, by go_num, HTi.out⟩
          case measure => simp [intOf]; omega
    · have hge : g.high ≤ (k : Int) := by rw [HHW.out.1]; omega
      go_wp2
      go_ret
      exact ⟨rfl, HT4.out.below⟩

set_option maxRecDepth 2000 in
set_option maxHeartbeats 4000000 in
theorem region_yes3 (g : Gr) (ok : OkG g) (ao : Option Addr) (cap : Nat) (c0 : Int) (ps : List Int) (pl : ByteArray) (eo : Option Addr) (ec : Nat) (w : World) (hr : RdS w ao g.n g.f) (x : Gr) (hx : Keeps g x) (eJ : (c0 == 74) = false) (eK : (c0 == 75) = false)
    (HD : Hid (∀ w', Below w.heap.size w w' → Calls Try.prog 27 #[gval g ao cap, eval ⟨3, c0, ps, pl⟩ eo ec] w' (AllEnd w' (x, 0)))) :
    Calls Try.prog 13 #[gval g ao cap, eval ⟨3, c0, ps, pl⟩ eo ec] w fun e w' => e = .returned (.bool true) ∧ Below w.heap.size w w' := by
  have HAT : Hid (∀ (wr : World) (ax : Option Addr) (cx B : Nat) (r c : Int), Two w g x ao ax cap cx B wr → 0 ≤ r → r < g.high → 0 ≤ c → c < g.wide → (r < g.top ∨ g.bottom ≤ r) → Calls Try.prog 37 #[gval x ax cx, .int .i64 r, .int .i64 c] wr fun e w' => e = .returned (cval (atG g r c)) ∧ Below wr.heap.size wr w') := by
    intro wr ax cx B r c h2 h3 h4 h5 h6 h7
    rw [← atG_keep ok hx h3 h4 h5 h6 h7]
    exact at_any x ax cx r c wr h2.rx (by obtain ⟨q1, q2, _⟩ := ok.nums; have := hx.2.2.1; omega)
  have HAG : Hid (∀ (wr : World) (ax : Option Addr) (cx B : Nat) (r c : Int), Two w g x ao ax cap cx B wr → Calls Try.prog 37 #[gval g ao cap, .int .i64 r, .int .i64 c] wr fun e w' => e = .returned (cval (atG g r c)) ∧ Below wr.heap.size wr w') := fun wr ax cx B r c h2 => at_any g ao cap r c wr h2.rg (by obtain ⟨q1, q2, _⟩ := ok.nums; omega)
  have HR : Hid (RdS w ao g.n g.f) := hr
  obtain ⟨H, hH⟩ : ∃ H : Nat, g.high = H := ⟨g.high.toNat, by have := ok.h1; omega⟩
  obtain ⟨Wd, hW⟩ : ∃ W : Nat, g.wide = W := ⟨g.wide.toNat, by have := ok.w1; omega⟩
  have hH2 : H ≤ 10 := by have := ok.h2; omega
  have hW2 : Wd ≤ 24 := by have := ok.w2; omega
  have HHW : Hid (g.high = H ∧ g.wide = Wd) := ⟨hH, hW⟩
  clear hr hx ok hH hW
  go_enter Try.func13, Try.ntmps13
  go_wp2_with (first
    | (go_at_call 27; refine (HD.out _ (below2 _ _ _)).mono ?_; rintro e w2 ⟨ax, cx, rfl, hcp⟩; have HT : Hid (Two w g x ao ax cap cx w2.heap.size (w2.alloc (gbox x ax cx))) := two_of2 HR.out rfl hcp; obtain ⟨⟨x0, x1, x2, x3, x4, x5, x6, x7, x8⟩, z⟩ := nine (below_block hcp.2.2 (at_old (at_new w _) _) (by simp; omega)); have hsz : w.heap.size < w2.heap.size := (by have := hcp.2.2.size; simp at this; omega); clear hcp)
    | (go_at_call 42; refine (shows_any _).mono ?_; rintro e w3 ⟨rfl, hb3⟩; have HT3 : Hid (Two w g x ao ax cap cx w2.heap.size w3) := HT.out.later hb3; obtain ⟨⟨y0, y1, y2, y3, y4, y5, y6, y7, y8⟩, z3⟩ := nine HT3.out.one; clear hb3))
  clear x0 x1 x2 x3 x4 x5 x6 x7 x8 z y0 y1 y2 y3 y4 y5 y6 y7 y8 z3 HT HD HR
  go_loopw [53] (fun i wr => ∃ k : Nat, k ≤ H ∧ i = .int .i64 k ∧ Two w g x ao ax cap cx w2.heap.size wr) (fun i _ => H - (intOf i).toNat)
  case atStart => exact ⟨0, Nat.zero_le _, rfl, HT3.out⟩
  case round =>
    obtain ⟨k, hk, rfl, ht⟩ := hrel
    have HT4 : Hid (Two w g x ao ax cap cx w2.heap.size wr) := ht
    obtain ⟨⟨x0, x1, x2, x3, x4, x5, x6, x7, x8⟩, z⟩ := nine ht.one
    clear ht
    by_cases hlt : k < H
    · have hlt' : (k : Int) < g.high := by rw [HHW.out.1]; omega
      have hk0 : (0 : Int) ≤ (k : Int) := by omega
      go_wp2
      clear x0 x1 x2 x3 x4 x5 x6 x7 x8 z
      go_loopw [58] (fun j ws => ∃ m : Nat, m ≤ Wd ∧ j = .int .i64 m ∧ Two w g x ao ax cap cx w2.heap.size ws) (fun j _ => Wd - (intOf j).toNat)
      case atStart => exact ⟨0, Nat.zero_le _, rfl, HT4.out⟩
      case round =>
        obtain ⟨m, hm, rfl, ht5⟩ := hrel
        rename_i wr0 wr
        have HTi : Hid (Two w g x ao ax cap cx w2.heap.size wr) := ht5
        obtain ⟨⟨x0, x1, x2, x3, x4, x5, x6, x7, x8⟩, z⟩ := nine ht5.one
        obtain ⟨⟨y0, y1, y2, y3, y4, y5, y6, y7, y8⟩, z3⟩ := nine ht5.two
        have hl1 := ht5.lt1
        have hl2 := ht5.lt2
        clear ht5
        by_cases hlm : m < Wd
        · have hlm' : (m : Int) < g.wide := by rw [HHW.out.2]; omega
          have hm0 : (0 : Int) ≤ (m : Int) := by omega
          by_cases hin : (k : Int) < g.top ∨ g.bottom ≤ (k : Int)
          · obtain ⟨y, hy⟩ : ∃ y, y = atG g k m := ⟨_, rfl⟩
            have HGA : Hid (∀ wr, Two w g x ao ax cap cx w2.heap.size wr → Calls Try.prog 37 #[gval g ao cap, .int .i64 k, .int .i64 m] wr fun e w' => e = .returned (cval y) ∧ Below wr.heap.size wr w') := fun wr h => by rw [hy]; exact HAG.out wr ax cx _ k m h
            have HXA : Hid (∀ wr, Two w g x ao ax cap cx w2.heap.size wr → Calls Try.prog 37 #[gval x ax cx, .int .i64 k, .int .i64 m] wr fun e w' => e = .returned (cval y) ∧ Below wr.heap.size wr w') := fun wr h => by rw [hy]; exact HAT.out wr ax cx _ k m h hk0 hlt' hm0 hlm' hin
            cases hd1 : decide ((k : Int) < g.top)
            · have hd2 : decide (g.bottom ≤ (k : Int)) = true := by
                have : ¬ (k : Int) < g.top := of_decide_eq_false hd1
                simp only [decide_eq_true_eq]
                omega
              
              clear hy hin HAT HAG
              go_wp2_with fail
              first
              | (
                  go_region_held3 (fun w' => (w'.cell? ⟨w2.heap.size, 0, none⟩ = some (.int .i64 x.wide) ∧ w'.cell? ⟨w2.heap.size, 1, none⟩ = some (.int .i64 x.high) ∧ w'.cell? ⟨w2.heap.size, 2, none⟩ = some (.slice ax x.n cx) ∧ w'.cell? ⟨w2.heap.size, 3, none⟩ = some (.int .i64 x.row) ∧ w'.cell? ⟨w2.heap.size, 4, none⟩ = some (.int .i64 x.col) ∧ w'.cell? ⟨w2.heap.size, 5, none⟩ = some (.int .i64 x.ink) ∧ w'.cell? ⟨w2.heap.size, 6, none⟩ = some (.bool x.bold) ∧ w'.cell? ⟨w2.heap.size, 7, none⟩ = some (.int .i64 x.top) ∧ w'.cell? ⟨w2.heap.size, 8, none⟩ = some (.int .i64 x.bottom)) ∧ (w'.cell? ⟨w.heap.size, 0, none⟩ = some (.int .i64 g.wide) ∧ w'.cell? ⟨w.heap.size, 1, none⟩ = some (.int .i64 g.high) ∧ w'.cell? ⟨w.heap.size, 2, none⟩ = some (.slice ao g.n cap) ∧ w'.cell? ⟨w.heap.size, 3, none⟩ = some (.int .i64 g.row) ∧ w'.cell? ⟨w.heap.size, 4, none⟩ = some (.int .i64 g.col) ∧ w'.cell? ⟨w.heap.size, 5, none⟩ = some (.int .i64 g.ink) ∧ w'.cell? ⟨w.heap.size, 6, none⟩ = some (.bool g.bold) ∧ w'.cell? ⟨w.heap.size, 7, none⟩ = some (.int .i64 g.top) ∧ w'.cell? ⟨w.heap.size, 8, none⟩ = some (.int .i64 g.bottom))) (first | go_keep | (simp [*, World.cell?_alloc_past]))
                    (first
                    | (have _t := HT6; go_at_call 37; refine (HGA.out _ HT6.out).mono ?_; rintro e w7 ⟨rfl, hb7⟩; have HT7 : Hid (Two w g x ao ax cap cx w2.heap.size w7) := HT6.out.later hb7; obtain ⟨⟨a0, a1, a2, a3, a4, a5, a6, a7, a8⟩, a9⟩ := nine HT7.out.two; obtain ⟨⟨b0, b1, b2, b3, b4, b5, b6, b7, b8⟩, b9⟩ := nine HT7.out.one; clear hb7)
                    | (go_at_call 37; refine (HXA.out _ HTi.out.drew).mono ?_; rintro e w6 ⟨rfl, hb6⟩; have HT6 : Hid (Two w g x ao ax cap cx w2.heap.size w6) := HTi.out.drew.later hb6; obtain ⟨⟨c0, c1, c2, c3, c4, c5, c6, c7, c8⟩, c9⟩ := nine HT6.out.two; obtain ⟨⟨d0, d1, d2, d3, d4, d5, d6, d7, d8⟩, d9⟩ := nine HT6.out.one; clear hb6)))
              | fail
              go_wp2
              go_roundw
              case rel => exact ⟨m + 1, by omega, by go_num, HT7.out⟩
              case measure => simp [intOf]; omega
            · have hd1' : (k : Int) < g.top := of_decide_eq_true hd1
              clear hy hin HAT HAG
              go_wp2_with fail
              refine wp_region_held_drew (S := (fun w' => (w'.cell? ⟨w2.heap.size, 0, none⟩ = some (.int .i64 x.wide) ∧ w'.cell? ⟨w2.heap.size, 1, none⟩ = some (.int .i64 x.high) ∧ w'.cell? ⟨w2.heap.size, 2, none⟩ = some (.slice ax x.n cx) ∧ w'.cell? ⟨w2.heap.size, 3, none⟩ = some (.int .i64 x.row) ∧ w'.cell? ⟨w2.heap.size, 4, none⟩ = some (.int .i64 x.col) ∧ w'.cell? ⟨w2.heap.size, 5, none⟩ = some (.int .i64 x.ink) ∧ w'.cell? ⟨w2.heap.size, 6, none⟩ = some (.bool x.bold) ∧ w'.cell? ⟨w2.heap.size, 7, none⟩ = some (.int .i64 x.top) ∧ w'.cell? ⟨w2.heap.size, 8, none⟩ = some (.int .i64 x.bottom)) ∧ (w'.cell? ⟨w.heap.size, 0, none⟩ = some (.int .i64 g.wide) ∧ w'.cell? ⟨w.heap.size, 1, none⟩ = some (.int .i64 g.high) ∧ w'.cell? ⟨w.heap.size, 2, none⟩ = some (.slice ao g.n cap) ∧ w'.cell? ⟨w.heap.size, 3, none⟩ = some (.int .i64 g.row) ∧ w'.cell? ⟨w.heap.size, 4, none⟩ = some (.int .i64 g.col) ∧ w'.cell? ⟨w.heap.size, 5, none⟩ = some (.int .i64 g.ink) ∧ w'.cell? ⟨w.heap.size, 6, none⟩ = some (.bool g.bold) ∧ w'.cell? ⟨w.heap.size, 7, none⟩ = some (.int .i64 g.top) ∧ w'.cell? ⟨w.heap.size, 8, none⟩ = some (.int .i64 g.bottom)))) (by kernel_rfl) (by (first | go_keep | (simp [*, World.cell?_alloc_past]))) (fun hHeld => ?_)
              refine wpAnyH_take (i := 0) (v := .int .i64 k) rfl (by kernel_rfl) (by kernel_rfl) (by kernel_rfl) (fun _ _ _ h => h) (Or.inl ⟨by kernel_rfl, by intro w hSw; (try dsimp only at hSw); go_simp⟩) (by assumption) ?_
              simp only [Act.put, List.setIfInBounds_toArray]
              refine wpAnyH_take (i := 1) (v := .pointer (some ⟨w.heap.size, 7, none⟩)) rfl (by kernel_rfl) (by kernel_rfl) (by kernel_rfl) (fun _ _ _ h => h) (Or.inl ⟨by kernel_rfl, by intro w hSw; (try dsimp only at hSw); go_simp⟩) (by assumption) ?_
              simp only [Act.put]
              refine wpAnyH_take (i := 2) (v := .int .i64 g.top) rfl (by kernel_rfl) (by kernel_rfl) (by kernel_rfl) (fun _ _ _ h => h) (Or.inl ⟨by kernel_rfl, by intro w hSw; (try dsimp only at hSw); go_simp⟩) (by assumption) ?_
              simp only [Act.put]
              refine wpAnyH_take (i := 3) (v := .bool true) rfl (by kernel_rfl) (by kernel_rfl) (by kernel_rfl) (fun _ _ _ h => h) (Or.inl ⟨by kernel_rfl, by intro w hSw; (try dsimp only at hSw); go_simp⟩) (by assumption) ?_
              simp only [Act.put]
              refine wpAnyH_take (i := 4) (v := .bool true) rfl (by kernel_rfl) (by kernel_rfl) (by kernel_rfl) (fun _ _ _ h => h) (Or.inl ⟨by kernel_rfl, by intro w hSw; (try dsimp only at hSw); go_simp⟩) (by assumption) ?_
              simp only [Act.put]
              refine wpAnyH_take (i := 5) (v := undef) rfl (by kernel_rfl) (by kernel_rfl) (by kernel_rfl) (fun _ _ _ h => h) (Or.inr ⟨by kernel_rfl, rfl⟩) (by assumption) ?_
              simp only [Act.put]
              refine wpAnyH_take (i := 6) (v := undef) rfl (by kernel_rfl) (by kernel_rfl) (by kernel_rfl) (fun _ _ _ h => h) (Or.inr ⟨by kernel_rfl, rfl⟩) (by assumption) ?_
              simp only [Act.put]
              refine wpAnyH_take (i := 7) (v := undef) rfl (by kernel_rfl) (by kernel_rfl) (by kernel_rfl) (fun _ _ _ h => h) (Or.inr ⟨by kernel_rfl, rfl⟩) (by assumption) ?_
              simp only [Act.put]
              refine wpAnyH_take (i := 8) (v := undef) rfl (by kernel_rfl) (by kernel_rfl) (by kernel_rfl) (fun _ _ _ h => h) (Or.inr ⟨by kernel_rfl, rfl⟩) (by assumption) ?_
              simp only [Act.put]
              refine wpAnyH_take (i := 9) (v := .bool true) rfl (by kernel_rfl) (by kernel_rfl) (by kernel_rfl) (fun _ _ _ h => h) (Or.inl ⟨by kernel_rfl, by intro w hSw; (try dsimp only at hSw); go_simp⟩) (by assumption) ?_
              simp only [Act.put]
              refine wpAnyH_take (i := 10) (v := .bool true) rfl (by kernel_rfl) (by kernel_rfl) (by kernel_rfl) (fun _ _ _ h => h) (Or.inl ⟨by kernel_rfl, by intro w hSw; (try dsimp only at hSw); go_simp⟩) (by assumption) ?_
              simp only [Act.put]
              refine wpAnyH_take (i := 11) (v := gval x ax cx) rfl (by kernel_rfl) (by kernel_rfl) (by kernel_rfl) (fun _ _ _ h => h) (Or.inl ⟨by kernel_rfl, by intro w hSw; (try dsimp only at hSw); go_simp⟩) (by assumption) ?_
              simp only [Act.put]
              refine wpAnyH_take (i := 12) (v := .int .i64 k) rfl (by kernel_rfl) (by kernel_rfl) (by kernel_rfl) (fun _ _ _ h => h) (Or.inl ⟨by kernel_rfl, by intro w hSw; (try dsimp only at hSw); go_simp⟩) (by assumption) ?_
              simp only [Act.put]
              refine wpAnyH_take (i := 13) (v := .int .i64 m) rfl (by kernel_rfl) (by kernel_rfl) (by kernel_rfl) (fun _ _ _ h => h) (Or.inl ⟨by kernel_rfl, by intro w hSw; (try dsimp only at hSw); go_simp⟩) (by assumption) ?_
              simp only [Act.put]
              refine wpAnyH_take (i := 15) (v := gval g ao cap) rfl (by kernel_rfl) (by kernel_rfl) (by kernel_rfl) (fun _ _ _ h => h) (Or.inl ⟨by kernel_rfl, by intro w hSw; (try dsimp only at hSw); go_simp⟩) (by assumption) ?_
              simp only [Act.put]
              refine wpAnyH_take (i := 16) (v := .int .i64 k) rfl (by kernel_rfl) (by kernel_rfl) (by kernel_rfl) (fun _ _ _ h => h) (Or.inl ⟨by kernel_rfl, by intro w hSw; (try dsimp only at hSw); go_simp⟩) (by assumption) ?_
              simp only [Act.put]
              refine wpAnyH_take (i := 17) (v := .int .i64 m) rfl (by kernel_rfl) (by kernel_rfl) (by kernel_rfl) (fun _ _ _ h => h) (Or.inl ⟨by kernel_rfl, by intro w hSw; (try dsimp only at hSw); go_simp⟩) (by assumption) ?_
              simp only [Act.put]
              refine wpAnyH_ready (rs := [14]) (by kernel_rfl) (by simp) ?_
              refine AllReadyH.cons rfl (fun K hK => ?_) AllReadyH.nil
              go_simp
              go_at_call 37; refine (HXA.out _ HTi.out.drew).mono ?_; rintro e w6 ⟨rfl, hb6⟩; have HT6 : Hid (Two w g x ao ax cap cx w2.heap.size w6) := HTi.out.drew.later hb6; obtain ⟨⟨c0, c1, c2, c3, c4, c5, c6, c7, c8⟩, c9⟩ := nine HT6.out.two; obtain ⟨⟨d0, d1, d2, d3, d4, d5, d6, d7, d8⟩, d9⟩ := nine HT6.out.one; clear hb6
              refine hK.out _ _ ?_ (fun hHeld => ?_)
              · try dsimp only
                (first | go_keep | (simp [*, World.cell?_alloc_past]))
              clear hK K
              try simp only [Act.put, List.setIfInBounds_toArray, List.set_cons_zero, List.set_cons_succ]
              refine wpAnyH_ready (rs := [18]) (by kernel_rfl) (by simp) ?_
              refine AllReadyH.cons rfl (fun K hK => ?_) AllReadyH.nil
              go_simp
              go_at_call 37; refine (HGA.out _ HT6.out).mono ?_; rintro e w7 ⟨rfl, hb7⟩; have HT7 : Hid (Two w g x ao ax cap cx w2.heap.size w7) := HT6.out.later hb7; obtain ⟨⟨a0, a1, a2, a3, a4, a5, a6, a7, a8⟩, a9⟩ := nine HT7.out.two; obtain ⟨⟨b0, b1, b2, b3, b4, b5, b6, b7, b8⟩, b9⟩ := nine HT7.out.one; clear hb7
              refine hK.out _ _ ?_ (fun hHeld => ?_)
              · try dsimp only
                (first | go_keep | (simp [*, World.cell?_alloc_past]))
              clear hK K
              try simp only [Act.put, List.setIfInBounds_toArray, List.set_cons_zero, List.set_cons_succ]
              refine wpAnyH_take (i := 19) (v := .bool false) rfl (by kernel_rfl) (by kernel_rfl) (by kernel_rfl) (fun _ _ _ h => h) (Or.inl ⟨by kernel_rfl, by intro w hSw; (try dsimp only at hSw); go_simp⟩) (by assumption) ?_
              simp only [Act.put, List.setIfInBounds_toArray]
              refine wpAnyH_take (i := 20) (v := .bool false) rfl (by kernel_rfl) (by kernel_rfl) (by kernel_rfl) (fun _ _ _ h => h) (Or.inl ⟨by kernel_rfl, by intro w hSw; (try dsimp only at hSw); go_simp⟩) (by assumption) ?_
              simp only [Act.put]
              refine wpAnyH_done (by kernel_rfl) ?_ _
              go_wp2
              go_roundw
              case rel => exact ⟨m + 1, by omega, by go_num, HT7.out⟩
              case measure => simp [intOf]; omega
          · have hd1 : decide ((k : Int) < g.top) = false := by simp only [decide_eq_false_iff_not]; omega
            have hd2 : decide (g.bottom ≤ (k : Int)) = false := by simp only [decide_eq_false_iff_not]; omega
            clear hin HAT HAG
            go_wp2_with fail
            go_quiet (fail)
            go_wp2
            go_roundw
            case rel => exact ⟨m + 1, by omega, by go_num, HTi.out.later (below_drewN (Below.refl _ _) _)⟩
            case measure => simp [intOf]; omega
        · have hge : g.wide ≤ (m : Int) := by rw [HHW.out.2]; omega
          go_wp2
          go_roundw
          case rel => exact ⟨k + 1, by omega, by go_num, HTi.out⟩
          case measure => simp [intOf]; omega
    · have hge : g.high ≤ (k : Int) := by rw [HHW.out.1]; omega
      go_wp2
      go_ret
      exact ⟨rfl, HT4.out.below⟩

end Go.Proofs.Yteenppbpjdldgaa
