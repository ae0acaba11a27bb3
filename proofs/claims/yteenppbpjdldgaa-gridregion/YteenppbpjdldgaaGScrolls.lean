/- What 'GridScrolls' answers: true. -/
import Derived.Test.YteenppbpjdldgaaGPrints
import Derived.Test.YteenppbpjdldgaaGSame
namespace Go.Proofs.Yteenppbpjdldgaa
open Go.RowKit

def evCtl (c : Int) : Evt := ⟨2, c, [], ⟨#[]⟩⟩
theorem act_ctl {g : Gr} {c : Int} {r : Gr × Int} (hr : r = actG g (evCtl c)) : (r.2 ≠ 0) ∨ (OkG g ∧ r = (ctlG g c, 0)) := by
  unfold actG at hr
  cases hg : goodG g
  · left; rw [hg] at hr; rw [hr]; simp
  · right
    rw [hg] at hr
    exact ⟨(goodG_iff g).1 hg, hr⟩

theorem atG_up {g : Gr} (h : OkG g) (hrow : g.row = g.bottom - 1) {r c : Int} (h1 : 0 ≤ r) (h2 : r < g.high) (h3 : 0 ≤ c) (h4 : c < g.wide) :
    atG (rowOnG g) r c = if r = g.bottom - 1 then noCel else if g.top ≤ r ∧ r < g.bottom then atG g (r + 1) c else atG g r c := by
  obtain ⟨e, k1, k2⟩ := atG_good h h1 h2 h3 h4
  obtain ⟨q1, q2, q3, q4, q5, q6, q7⟩ := h.nums
  have hx : rowOnG g = { g with f := upF g.f (g.top * g.wide).toNat (g.bottom * g.wide).toNat g.wide.toNat } := by unfold rowOnG; rw [if_pos hrow]
  have e2 : atG (rowOnG g) r c = upF g.f (g.top * g.wide).toNat (g.bottom * g.wide).toNat g.wide.toNat (r * g.wide + c).toNat := by
    rw [hx]
    unfold atG
    exact if_pos ⟨h.w2, h.h2, h1, h2, h3, h4, k2⟩
  rw [e2]
  unfold upF
  have b1 := idx_lt (r := r) (t := g.bottom) h3 h4
  have b2 := idx_lt (r := r) (t := g.top) h3 h4
  have b3 := idx_lt (r := r + 1) (t := g.bottom) h3 h4
  have em : (r + 1) * g.wide = r * g.wide + g.wide := by rw [Int.add_mul]; omega
  rw [em] at b3
  have ht := h.t2
  have ht3 := h.t3
  by_cases hl : r = g.bottom - 1
  · rw [if_pos hl, if_pos (by omega), if_neg (by omega)]
  · rw [if_neg hl]
    by_cases hin : g.top ≤ r ∧ r < g.bottom
    · rw [if_pos hin, if_pos (by omega), if_pos (by omega)]
      obtain ⟨e3, _, _⟩ := atG_good h (r := r + 1) (by omega) (by omega) h3 h4
      rw [e3, em]
      congr 1
      omega
    · rw [if_neg hin, if_neg (by omega), e]

set_option maxHeartbeats 1000000 in
theorem scrolls_no (g : Gr) (ao : Option Addr) (cap : Nat) (w : World) (x : Gr) (q : Int) (h0 : q ≠ 0)
    (HD : Hid (∀ w', Below w.heap.size w w' → Calls Try.prog 27 #[gval g ao cap, .agg #[.int .i64 2, .int .i64 10, .slice none 0 0, .string ⟨#[]⟩]] w' (AllEnd w' (x, q)))) :
    Calls Try.prog 12 #[gval g ao cap] w fun e w' => e = .returned (.bool true) ∧ Below w.heap.size w w' := by
  have he : (q == 0) = false := by simp [h0]
  have he2 : (q != 0) = true := by simp [h0]
  go_enter Try.func12, Try.ntmps12
  go_wp2_with (first
    | (go_at_call 27; refine (HD.out _ (below1 _ _)).mono ?_; rintro e w2 ⟨ao2, cap2, rfl, hcp⟩; have HB : Hid (Below w.heap.size w w2) := below_up hcp.2.2; clear hcp)
    | (go_at_call 42; refine (shows_any _).mono ?_; rintro e w3 ⟨rfl, hb3⟩; have HB3 : Hid (Below w.heap.size w w3) := (HB.out.alloc HB.out.size _).trans (hb3.mono (by have := HB.out.size; simp; omega)); clear hb3))
  go_ret
  exact ⟨rfl, HB3.out⟩

set_option maxHeartbeats 1000000 in
theorem scrolls_down (g : Gr) (ok : OkG g) (ao : Option Addr) (cap : Nat) (w : World) (hr : RdS w ao g.n g.f) (hrow : ¬ g.row = g.bottom - 1) (x : Gr) (hx : x = { g with row := min (g.row + 1) (g.high - 1) })
    (HD : Hid (∀ w', Below w.heap.size w w' → Calls Try.prog 27 #[gval g ao cap, .agg #[.int .i64 2, .int .i64 10, .slice none 0 0, .string ⟨#[]⟩]] w' (AllEnd w' (x, 0)))) :
    Calls Try.prog 12 #[gval g ao cap] w fun e w' => e = .returned (.bool true) ∧ Below w.heap.size w w' := by
  have HR : Hid (RdS w ao g.n g.f) := hr
  have hq : (g.row == g.bottom - 1) = false := by simp [hrow]
  have hb0 : 1 ≤ g.bottom := by have := ok.t1; have := ok.t2; omega
  have hb1 : g.bottom ≤ 10 := by have := ok.t3; have := ok.h2; omega
  have hr0 := ok.r1
  have hr1 : g.row ≤ 10 := by have := ok.r2; have := ok.h2; omega
  have hh0 := ok.h1
  have hh1 := ok.h2
  have HXR : Hid (x.row = min (g.row + 1) (g.high - 1) ∧ x.col = g.col) := by rw [hx]; exact ⟨rfl, rfl⟩
  have HSM : Hid (∀ w ax cx, RdS w ax x.n x.f → RdS w ao g.n g.f → Calls Try.prog 43 #[gval x ax cx, gval g ao cap] w fun e w' => e = .returned (.bool true) ∧ Below w.heap.size w w') := by
    intro w ax cx h1 h2
    have hn : x.n ≤ 4398046511104 := by obtain ⟨q1, q2, _⟩ := ok.nums; have e : x.n = g.n := (by rw [hx]); omega
    have := sameCells_eq x g.row g.col g.ink g.bold g.top g.bottom ax ao cx cap w h1 (by rw [hx]; exact h2) hn
    rw [hx] at this ⊢
    exact this
  clear hr hrow hx ok
  go_enter Try.func12, Try.ntmps12
  go_wp2_with (first
    | (go_at_call 27; refine (HD.out _ (below1 _ _)).mono ?_; rintro e w2 ⟨ax, cx, rfl, hcp⟩; have HT : Hid (Two w g x ao ax cap cx w2.heap.size (w2.alloc (gbox x ax cx))) := two_of HR.out rfl hcp; obtain ⟨⟨x0, x1, x2, x3, x4, x5, x6, x7, x8⟩, z⟩ := nine (below_block hcp.2.2 (at_new w _) (by simp)); have hsz : w.heap.size < w2.heap.size := (by have := hcp.2.2.size; simp at this; omega); clear hcp)
    | (go_at_call 42; refine (shows_any _).mono ?_; rintro e w3 ⟨rfl, hb3⟩; have HT3 : Hid (Two w g x ao ax cap cx w2.heap.size w3) := HT.out.later hb3; obtain ⟨⟨y0, y1, y2, y3, y4, y5, y6, y7, y8⟩, z3⟩ := nine HT3.out.one; obtain ⟨⟨v0, v1, v2, v3, v4, v5, v6, v7, v8⟩, z4⟩ := nine HT3.out.two; clear hb3)
    | (go_at_call 43; refine (HSM.out _ ax cx HT3.out.rx HT3.out.rg).mono ?_; rintro e w4 ⟨rfl, hb4⟩; have HT4 : Hid (Two w g x ao ax cap cx w2.heap.size w4) := HT3.out.later hb4; obtain ⟨⟨p0, p1, p2, p3, p4, p5, p6, p7, p8⟩, z5⟩ := nine HT4.out.one; obtain ⟨⟨q0, q1, q2, q3, q4, q5, q6, q7, q8⟩, z6⟩ := nine HT4.out.two; obtain ⟨e1, e2⟩ := HXR.out; rw [e1] at q3; rw [e2] at q4; clear hb4))
  all_goals (go_ret; exact ⟨rfl, HT4.out.below⟩)

set_option maxHeartbeats 4000000 in
theorem scrolls_up (g : Gr) (ok : OkG g) (ao : Option Addr) (cap : Nat) (w : World) (hr : RdS w ao g.n g.f) (hrow : g.row = g.bottom - 1) (x : Gr) (hx : x = rowOnG g)
    (HD : Hid (∀ w', Below w.heap.size w w' → Calls Try.prog 27 #[gval g ao cap, .agg #[.int .i64 2, .int .i64 10, .slice none 0 0, .string ⟨#[]⟩]] w' (AllEnd w' (x, 0)))) :
    Calls Try.prog 12 #[gval g ao cap] w fun e w' => e = .returned (.bool true) ∧ Below w.heap.size w w' := by
  have hx' : x = { g with f := upF g.f (g.top * g.wide).toNat (g.bottom * g.wide).toNat g.wide.toNat } := by rw [hx]; unfold rowOnG; rw [if_pos hrow]
  have HXR : Hid (x.row = g.row ∧ x.col = g.col) := by rw [hx']; exact ⟨rfl, rfl⟩
  have hxn : x.n = g.n := by rw [hx']
  have HAT : Hid (∀ (wr : World) (ax : Option Addr) (cx B : Nat) (r c : Int), Two w g x ao ax cap cx B wr → 0 ≤ r → r < g.high → 0 ≤ c → c < g.wide → Calls Try.prog 37 #[gval x ax cx, .int .i64 r, .int .i64 c] wr fun e w' => e = .returned (cval (if r = g.bottom - 1 then noCel else if g.top ≤ r ∧ r < g.bottom then atG g (r + 1) c else atG g r c)) ∧ Below wr.heap.size wr w') := by
    intro wr ax cx B r c h2 h3 h4 h5 h6
    rw [← atG_up ok hrow h3 h4 h5 h6, ← hx]
    exact at_any x ax cx r c wr h2.rx (by obtain ⟨q1, q2, _⟩ := ok.nums; omega)
  have HAG : Hid (∀ (wr : World) (ax : Option Addr) (cx B : Nat) (r c : Int), Two w g x ao ax cap cx B wr → Calls Try.prog 37 #[gval g ao cap, .int .i64 r, .int .i64 c] wr fun e w' => e = .returned (cval (atG g r c)) ∧ Below wr.heap.size wr w') := fun wr ax cx B r c h2 => at_any g ao cap r c wr h2.rg (by obtain ⟨q1, q2, _⟩ := ok.nums; omega)
  have HR : Hid (RdS w ao g.n g.f) := hr
  have hq : (g.row != g.bottom - 1) = false := by simp [hrow]
  have hb0 : 1 ≤ g.bottom := by have := ok.t1; have := ok.t2; omega
  have hb1 : g.bottom ≤ 10 := by have := ok.t3; have := ok.h2; omega
  obtain ⟨H, hH⟩ : ∃ H : Nat, g.high = H := ⟨g.high.toNat, by have := ok.h1; omega⟩
  obtain ⟨Wd, hW⟩ : ∃ W : Nat, g.wide = W := ⟨g.wide.toNat, by have := ok.w1; omega⟩
  have hH2 : H ≤ 10 := by have := ok.h2; omega
  have hW2 : Wd ≤ 24 := by have := ok.w2; omega
  have HHW : Hid (g.high = H ∧ g.wide = Wd ∧ g.bottom ≤ g.high ∧ g.top < g.bottom) := ⟨hH, hW, ok.t3, ok.t2⟩
  clear hr hx hx' hxn ok hrow hH hW
  go_enter Try.func12, Try.ntmps12
  go_wp2_with (first
    | (go_at_call 27; refine (HD.out _ (below1 _ _)).mono ?_; rintro e w2 ⟨ax, cx, rfl, hcp⟩; have HT : Hid (Two w g x ao ax cap cx w2.heap.size (w2.alloc (gbox x ax cx))) := two_of HR.out rfl hcp; obtain ⟨⟨x0, x1, x2, x3, x4, x5, x6, x7, x8⟩, z⟩ := nine (below_block hcp.2.2 (at_new w _) (by simp)); have hsz : w.heap.size < w2.heap.size := (by have := hcp.2.2.size; simp at this; omega); clear hcp)
    | (go_at_call 42; refine (shows_any _).mono ?_; rintro e w3 ⟨rfl, hb3⟩; have HT3 : Hid (Two w g x ao ax cap cx w2.heap.size w3) := HT.out.later hb3; obtain ⟨⟨y0, y1, y2, y3, y4, y5, y6, y7, y8⟩, z3⟩ := nine HT3.out.one; clear hb3))
  clear x0 x1 x2 x3 x4 x5 x6 x7 x8 z y0 y1 y2 y3 y4 y5 y6 y7 y8 z3 HT HD HR hsz hq
  go_loopw [51] (fun i wr => ∃ k : Nat, k ≤ H ∧ i = .int .i64 k ∧ Two w g x ao ax cap cx w2.heap.size wr) (fun i _ => H - (intOf i).toNat)
  case atStart => exact ⟨0, Nat.zero_le _, rfl, HT3.out⟩
  case round =>
    obtain ⟨k, hk, rfl, ht⟩ := hrel
    have HT4 : Hid (Two w g x ao ax cap cx w2.heap.size wr) := ht
    obtain ⟨⟨x0, x1, x2, x3, x4, x5, x6, x7, x8⟩, z⟩ := nine ht.one
    obtain ⟨⟨y0, y1, y2, y3, y4, y5, y6, y7, y8⟩, z3⟩ := nine ht.two
    clear ht
    by_cases hlt : k < H
    · have hlt' : (k : Int) < g.high := by rw [HHW.out.1]; omega
      have hk0 : (0 : Int) ≤ (k : Int) := by omega
      go_wp2
      clear x0 x1 x2 x3 x4 x5 x6 x7 x8 z y0 y1 y2 y3 y4 y5 y6 y7 y8 z3
      go_loopw [56] (fun j ws => ∃ m : Nat, m ≤ Wd ∧ j = .int .i64 m ∧ Two w g x ao ax cap cx w2.heap.size ws) (fun j _ => Wd - (intOf j).toNat)
      case atStart => exact ⟨0, Nat.zero_le _, rfl, HT4.out⟩
      case round =>
        obtain ⟨m, hm, rfl, ht5⟩ := hrel
        rename_i wr0 wr
        have HTi : Hid (Two w g x ao ax cap cx w2.heap.size wr) := ht5
        obtain ⟨⟨x0, x1, x2, x3, x4, x5, x6, x7, x8⟩, z⟩ := nine ht5.one
        obtain ⟨⟨y0, y1, y2, y3, y4, y5, y6, y7, y8⟩, z3⟩ := nine ht5.two
        clear ht5
        by_cases hlm : m < Wd
        · have hlm' : (m : Int) < g.wide := by rw [HHW.out.2.1]; omega
          have hm0 : (0 : Int) ≤ (m : Int) := by omega
          obtain ⟨y, hy⟩ : ∃ y, y = atG g k m := ⟨_, rfl⟩
          have HGA : Hid (∀ wr, Two w g x ao ax cap cx w2.heap.size wr → Calls Try.prog 37 #[gval g ao cap, .int .i64 k, .int .i64 m] wr fun e w' => e = .returned (cval y) ∧ Below wr.heap.size wr w') := fun wr h => by rw [hy]; exact HAG.out wr ax cx _ k m h
          have HXX : Hid (∀ wr, Two w g x ao ax cap cx w2.heap.size wr → Calls Try.prog 37 #[gval x ax cx, .int .i64 k, .int .i64 m] wr fun e w' => e = .returned (cval (if (k : Int) = g.bottom - 1 then noCel else if g.top ≤ k ∧ (k : Int) < g.bottom then atG g (k + 1) m else atG g k m)) ∧ Below wr.heap.size wr w') := fun wr h => HAT.out wr ax cx _ k m h hk0 hlt' hm0 hlm'
          by_cases hpl : (k : Int) = g.bottom - 1
          · have HXA : Hid (∀ wr, Two w g x ao ax cap cx w2.heap.size wr → Calls Try.prog 37 #[gval x ax cx, .int .i64 k, .int .i64 m] wr fun e w' => e = .returned (cval ⟨0, 0, 0, false⟩) ∧ Below wr.heap.size wr w') := fun wr h => by
              have := HXX.out wr h
              rw [if_pos hpl] at this
              exact this
            have q1 : ((k : Int) == g.bottom - 1) = true := by simp [hpl]
            clear hy hpl HAT HAG HXX
            go_wp2_with (go_at_call 37; refine (HGA.out _ HTi.out).mono ?_; rintro e w5 ⟨rfl, hb5⟩; have HT5 : Hid (Two w g x ao ax cap cx w2.heap.size w5) := HTi.out.later hb5; obtain ⟨⟨a0, a1, a2, a3, a4, a5, a6, a7, a8⟩, a9⟩ := nine HT5.out.one; obtain ⟨⟨b0, b1, b2, b3, b4, b5, b6, b7, b8⟩, b9⟩ := nine HT5.out.two; have hl1 := HT5.out.lt1; have hl2 := HT5.out.lt2; clear hb5)
            go_region_held3 (fun w' => (w'.cell? ⟨w2.heap.size, 0, none⟩ = some (.int .i64 x.wide) ∧ w'.cell? ⟨w2.heap.size, 1, none⟩ = some (.int .i64 x.high) ∧ w'.cell? ⟨w2.heap.size, 2, none⟩ = some (.slice ax x.n cx) ∧ w'.cell? ⟨w2.heap.size, 3, none⟩ = some (.int .i64 x.row) ∧ w'.cell? ⟨w2.heap.size, 4, none⟩ = some (.int .i64 x.col) ∧ w'.cell? ⟨w2.heap.size, 5, none⟩ = some (.int .i64 x.ink) ∧ w'.cell? ⟨w2.heap.size, 6, none⟩ = some (.bool x.bold) ∧ w'.cell? ⟨w2.heap.size, 7, none⟩ = some (.int .i64 x.top) ∧ w'.cell? ⟨w2.heap.size, 8, none⟩ = some (.int .i64 x.bottom)) ∧ (w'.cell? ⟨w5.heap.size, 0, none⟩ = some (.int .i64 0) ∧ w'.cell? ⟨w5.heap.size, 1, none⟩ = some (.int .i64 0) ∧ w'.cell? ⟨w5.heap.size, 2, none⟩ = some (.int .i64 0) ∧ w'.cell? ⟨w5.heap.size, 3, none⟩ = some (.bool false))) (first | go_keep | (simp [*, World.cell?_alloc_past]))
              ((go_at_call 37; refine (HXA.out _ (HT5.out.later (below1 _ _)).drew).mono ?_; rintro e w6 ⟨rfl, hb6⟩; have HT6 : Hid (Two w g x ao ax cap cx w2.heap.size w6) := ((HT5.out.later (below1 _ _)).drew).later hb6; obtain ⟨⟨a0, a1, a2, a3, a4, a5, a6, a7, a8⟩, a9⟩ := nine HT6.out.two; obtain ⟨⟨d0, d1, d2, d3⟩, d4⟩ := four (below_block hb6 (at_new w5 _) (by simp)); clear hb6))
            go_wp2
            go_roundw
            case rel => exact ⟨m + 1, by omega, by go_num, HT6.out⟩
            case measure => simp [intOf]; omega
          · have q1 : ((k : Int) == g.bottom - 1) = false := by simp [hpl]
            by_cases hin : g.top ≤ (k : Int) ∧ (k : Int) < g.bottom
            · obtain ⟨y', hy'⟩ : ∃ y', y' = atG g (k + 1) m := ⟨_, rfl⟩
              have HXA : Hid (∀ wr, Two w g x ao ax cap cx w2.heap.size wr → Calls Try.prog 37 #[gval x ax cx, .int .i64 k, .int .i64 m] wr fun e w' => e = .returned (cval y') ∧ Below wr.heap.size wr w') := fun wr h => by
                have := HXX.out wr h
                rw [if_neg hpl, if_pos hin, ← hy'] at this
                exact this
              have HGB : Hid (∀ wr, Two w g x ao ax cap cx w2.heap.size wr → Calls Try.prog 37 #[gval g ao cap, .int .i64 ((k : Int) + 1), .int .i64 m] wr fun e w' => e = .returned (cval y') ∧ Below wr.heap.size wr w') := fun wr h => by rw [hy']; exact HAG.out wr ax cx _ (k + 1) m h
              obtain ⟨hin1, hin2⟩ := hin
              clear hy hy' hpl HAT HAG HXX
              go_wp2_with (first
                | (have _t := HT5; go_at_call 37; go_fit (HGB.out _ (HT5.out.later (below1 _ _))); rintro e w7 ⟨rfl, hb7⟩; have HB70 : Hid (Below w5.heap.size w5 w7) := (below1 _ _).trans (hb7.mono (by simp)); have HT70 : Hid (Two w g x ao ax cap cx w2.heap.size w7) := HT5.out.later HB70.out; have HW70 : Hid _ := below_block hb7 (at_new w5 _) (by simp); obtain ⟨⟨f0, f1, f2, f3⟩, f4⟩ := four HW70.out; obtain ⟨⟨g0, g1, g2, g3, g4, g5, g6, g7, g8⟩, g9⟩ := nine HT70.out.two; have hl7 := HT70.out.lt2; have hoc : ∀ (w' : World) (j : Nat) (u : Value) (i : Nat), (w'.setCell ⟨w5.heap.size, j, none⟩ u).cell? ⟨w2.heap.size, i, none⟩ = w'.cell? ⟨w2.heap.size, i, none⟩ := (fun w' j u i => World.cell?_setCell_other _ _ _ _ (by intro e; simp only [Addr.mk.injEq] at e; omega)); clear hb7)
                | (go_at_call 37; refine (HGA.out _ HTi.out).mono ?_; rintro e w5 ⟨rfl, hb5⟩; have HT5 : Hid (Two w g x ao ax cap cx w2.heap.size w5) := HTi.out.later hb5; obtain ⟨⟨a0, a1, a2, a3, a4, a5, a6, a7, a8⟩, a9⟩ := nine HT5.out.one; obtain ⟨⟨b0, b1, b2, b3, b4, b5, b6, b7, b8⟩, b9⟩ := nine HT5.out.two; have hl1 := HT5.out.lt1; have hl2 := HT5.out.lt2; clear hb5))
              have hb8 : Below w5.heap.size w5 ((((w7.setCell ⟨w5.heap.size, 0, none⟩ (.int .i64 y'.ch)).setCell ⟨w5.heap.size, 1, none⟩ (.int .i64 y'.ink)).setCell ⟨w5.heap.size, 2, none⟩ (.int .i64 y'.pic)).setCell ⟨w5.heap.size, 3, none⟩ (.bool y'.bold)) := (((HB70.out.setCell (Nat.le_refl _) _).setCell (Nat.le_refl _) _).setCell (Nat.le_refl _) _).setCell (Nat.le_refl _) _
              have hw8 := set4_same HW70.out (.int .i64 y'.ch) (.int .i64 y'.ink) (.int .i64 y'.pic) (.bool y'.bold)
              generalize hww : ((((w7.setCell ⟨w5.heap.size, 0, none⟩ (.int .i64 y'.ch)).setCell ⟨w5.heap.size, 1, none⟩ (.int .i64 y'.ink)).setCell ⟨w5.heap.size, 2, none⟩ (.int .i64 y'.pic)).setCell ⟨w5.heap.size, 3, none⟩ (.bool y'.bold)) = w8 at hb8 hw8 ⊢
              have HB8 : Hid (Below w5.heap.size w5 w8) := hb8
              have HW8 : Hid (w8.heap[w5.heap.size]? = some (.cells #[.int .i64 y'.ch, .int .i64 y'.ink, .int .i64 y'.pic, .bool y'.bold] 49 (0, 0))) := hw8
              have hsz8 : w5.heap.size < w8.heap.size := (Array.getElem?_eq_some_iff.1 hw8).1
              obtain ⟨⟨j0, j1, j2, j3⟩, j4⟩ := four hw8
              obtain ⟨⟨l0, l1, l2, l3, l4, l5, l6, l7, l8⟩, l9⟩ := nine (HT5.out.later hb8).two
              clear hww hb8 hw8 f0 f1 f2 f3 f4 g0 g1 g2 g3 g4 g5 g6 g7 g8 g9 hoc hl7 HB70 HT70 HW70
              go_region_held3 (fun w' => (w'.cell? ⟨w2.heap.size, 0, none⟩ = some (.int .i64 x.wide) ∧ w'.cell? ⟨w2.heap.size, 1, none⟩ = some (.int .i64 x.high) ∧ w'.cell? ⟨w2.heap.size, 2, none⟩ = some (.slice ax x.n cx) ∧ w'.cell? ⟨w2.heap.size, 3, none⟩ = some (.int .i64 x.row) ∧ w'.cell? ⟨w2.heap.size, 4, none⟩ = some (.int .i64 x.col) ∧ w'.cell? ⟨w2.heap.size, 5, none⟩ = some (.int .i64 x.ink) ∧ w'.cell? ⟨w2.heap.size, 6, none⟩ = some (.bool x.bold) ∧ w'.cell? ⟨w2.heap.size, 7, none⟩ = some (.int .i64 x.top) ∧ w'.cell? ⟨w2.heap.size, 8, none⟩ = some (.int .i64 x.bottom)) ∧ (w'.cell? ⟨w5.heap.size, 0, none⟩ = some (.int .i64 y'.ch) ∧ w'.cell? ⟨w5.heap.size, 1, none⟩ = some (.int .i64 y'.ink) ∧ w'.cell? ⟨w5.heap.size, 2, none⟩ = some (.int .i64 y'.pic) ∧ w'.cell? ⟨w5.heap.size, 3, none⟩ = some (.bool y'.bold))) (first | go_keep | (simp [*, World.cell?_alloc_past]))
                ((go_at_call 37; refine (HXA.out _ (HT5.out.later HB8.out).drew).mono ?_; rintro e w6 ⟨rfl, hb6⟩; have HT6 : Hid (Two w g x ao ax cap cx w2.heap.size w6) := ((HT5.out.later HB8.out).drew).later hb6; obtain ⟨⟨a0, a1, a2, a3, a4, a5, a6, a7, a8⟩, a9⟩ := nine HT6.out.two; obtain ⟨⟨d0, d1, d2, d3⟩, d4⟩ := four (below_block hb6 HW8.out hsz8); clear hb6))
              go_wp2
              go_roundw
              case rel => exact ⟨m + 1, by omega, by go_num, HT6.out⟩
              case measure => simp [intOf]; omega
            · have HXA : Hid (∀ wr, Two w g x ao ax cap cx w2.heap.size wr → Calls Try.prog 37 #[gval x ax cx, .int .i64 k, .int .i64 m] wr fun e w' => e = .returned (cval y) ∧ Below wr.heap.size wr w') := fun wr h => by
                have := HXX.out wr h
                rw [if_neg hpl, if_neg hin, ← hy] at this
                exact this
              by_cases hin1 : g.top ≤ (k : Int)
              · have hin2 : g.bottom ≤ (k : Int) := by omega
                clear hy hpl hin HAT HAG HXX
                go_wp2_with (go_at_call 37; refine (HGA.out _ HTi.out).mono ?_; rintro e w5 ⟨rfl, hb5⟩; have HT5 : Hid (Two w g x ao ax cap cx w2.heap.size w5) := HTi.out.later hb5; obtain ⟨⟨a0, a1, a2, a3, a4, a5, a6, a7, a8⟩, a9⟩ := nine HT5.out.one; obtain ⟨⟨b0, b1, b2, b3, b4, b5, b6, b7, b8⟩, b9⟩ := nine HT5.out.two; have hl1 := HT5.out.lt1; have hl2 := HT5.out.lt2; clear hb5)
                go_region_held3 (fun w' => (w'.cell? ⟨w2.heap.size, 0, none⟩ = some (.int .i64 x.wide) ∧ w'.cell? ⟨w2.heap.size, 1, none⟩ = some (.int .i64 x.high) ∧ w'.cell? ⟨w2.heap.size, 2, none⟩ = some (.slice ax x.n cx) ∧ w'.cell? ⟨w2.heap.size, 3, none⟩ = some (.int .i64 x.row) ∧ w'.cell? ⟨w2.heap.size, 4, none⟩ = some (.int .i64 x.col) ∧ w'.cell? ⟨w2.heap.size, 5, none⟩ = some (.int .i64 x.ink) ∧ w'.cell? ⟨w2.heap.size, 6, none⟩ = some (.bool x.bold) ∧ w'.cell? ⟨w2.heap.size, 7, none⟩ = some (.int .i64 x.top) ∧ w'.cell? ⟨w2.heap.size, 8, none⟩ = some (.int .i64 x.bottom)) ∧ (w'.cell? ⟨w5.heap.size, 0, none⟩ = some (.int .i64 y.ch) ∧ w'.cell? ⟨w5.heap.size, 1, none⟩ = some (.int .i64 y.ink) ∧ w'.cell? ⟨w5.heap.size, 2, none⟩ = some (.int .i64 y.pic) ∧ w'.cell? ⟨w5.heap.size, 3, none⟩ = some (.bool y.bold))) (first | go_keep | (simp [*, World.cell?_alloc_past]))
                  ((go_at_call 37; refine (HXA.out _ (HT5.out.later (below1 _ _)).drew).mono ?_; rintro e w6 ⟨rfl, hb6⟩; have HT6 : Hid (Two w g x ao ax cap cx w2.heap.size w6) := ((HT5.out.later (below1 _ _)).drew).later hb6; obtain ⟨⟨a0, a1, a2, a3, a4, a5, a6, a7, a8⟩, a9⟩ := nine HT6.out.two; obtain ⟨⟨d0, d1, d2, d3⟩, d4⟩ := four (below_block hb6 (at_new w5 _) (by simp)); clear hb6))
                go_wp2
                go_roundw
                case rel => exact ⟨m + 1, by omega, by go_num, HT6.out⟩
                case measure => simp [intOf]; omega
              · have hin2 : (k : Int) < g.top := by omega
                clear hy hpl hin hin1 HAT HAG HXX
                go_wp2_with (go_at_call 37; refine (HGA.out _ HTi.out).mono ?_; rintro e w5 ⟨rfl, hb5⟩; have HT5 : Hid (Two w g x ao ax cap cx w2.heap.size w5) := HTi.out.later hb5; obtain ⟨⟨a0, a1, a2, a3, a4, a5, a6, a7, a8⟩, a9⟩ := nine HT5.out.one; obtain ⟨⟨b0, b1, b2, b3, b4, b5, b6, b7, b8⟩, b9⟩ := nine HT5.out.two; have hl1 := HT5.out.lt1; have hl2 := HT5.out.lt2; clear hb5)
                go_region_held3 (fun w' => (w'.cell? ⟨w2.heap.size, 0, none⟩ = some (.int .i64 x.wide) ∧ w'.cell? ⟨w2.heap.size, 1, none⟩ = some (.int .i64 x.high) ∧ w'.cell? ⟨w2.heap.size, 2, none⟩ = some (.slice ax x.n cx) ∧ w'.cell? ⟨w2.heap.size, 3, none⟩ = some (.int .i64 x.row) ∧ w'.cell? ⟨w2.heap.size, 4, none⟩ = some (.int .i64 x.col) ∧ w'.cell? ⟨w2.heap.size, 5, none⟩ = some (.int .i64 x.ink) ∧ w'.cell? ⟨w2.heap.size, 6, none⟩ = some (.bool x.bold) ∧ w'.cell? ⟨w2.heap.size, 7, none⟩ = some (.int .i64 x.top) ∧ w'.cell? ⟨w2.heap.size, 8, none⟩ = some (.int .i64 x.bottom)) ∧ (w'.cell? ⟨w5.heap.size, 0, none⟩ = some (.int .i64 y.ch) ∧ w'.cell? ⟨w5.heap.size, 1, none⟩ = some (.int .i64 y.ink) ∧ w'.cell? ⟨w5.heap.size, 2, none⟩ = some (.int .i64 y.pic) ∧ w'.cell? ⟨w5.heap.size, 3, none⟩ = some (.bool y.bold))) (first | go_keep | (simp [*, World.cell?_alloc_past]))
                  ((go_at_call 37; refine (HXA.out _ (HT5.out.later (below1 _ _)).drew).mono ?_; rintro e w6 ⟨rfl, hb6⟩; have HT6 : Hid (Two w g x ao ax cap cx w2.heap.size w6) := ((HT5.out.later (below1 _ _)).drew).later hb6; obtain ⟨⟨a0, a1, a2, a3, a4, a5, a6, a7, a8⟩, a9⟩ := nine HT6.out.two; obtain ⟨⟨d0, d1, d2, d3⟩, d4⟩ := four (below_block hb6 (at_new w5 _) (by simp)); clear hb6))
                go_wp2
                go_roundw
                case rel => exact ⟨m + 1, by omega, by go_num, HT6.out⟩
                case measure => simp [intOf]; omega
        · have hge : g.wide ≤ (m : Int) := by rw [HHW.out.2.1]; omega
          go_wp2
          go_roundw
          case rel => exact ⟨k + 1, by omega, by go_num, HTi.out⟩
          case measure => simp [intOf]; omega
    · have hge : g.high ≤ (k : Int) := by rw [HHW.out.1]; omega
      obtain ⟨e1, e2⟩ := HXR.out
      rw [e1] at y3
      rw [e2] at y4
      go_wp2
      go_ret
      exact ⟨rfl, HT4.out.below⟩

end Go.Proofs.Yteenppbpjdldgaa
