/- What 'GridPrints' answers: true. -/
import Derived.Test.YteenppbpjdldgaaGTwo
namespace Go.Proofs.Yteenppbpjdldgaa
open Go.RowKit

theorem atG_put {g : Gr} (h : OkG g) (hc : g.col < g.wide) (ch : Int) {r c : Int} (h1 : 0 ≤ r) (h2 : r < g.high) (h3 : 0 ≤ c) (h4 : c < g.wide) :
    atG (putG g ch) r c = if r = g.row ∧ c = g.col then ⟨ch, g.ink, 0, g.bold⟩ else atG g r c := by
  obtain ⟨e, k1, k2⟩ := atG_good h h1 h2 h3 h4
  have hr := mul_bound h.r1 h.r2 (w := g.wide) (by omega)
  have hcc := h.c1
  have e2 : atG (putG g ch) r c = (putG g ch).f (r * g.wide + c).toNat := by
    unfold atG
    exact if_pos ⟨h.w2, h.h2, h1, h2, h3, h4, k2⟩
  rw [e2, e]
  show putF g.f (g.row * g.wide + g.col).toNat ⟨ch, g.ink, 0, g.bold⟩ (r * g.wide + c).toNat = _
  unfold putF
  by_cases hh : r = g.row ∧ c = g.col
  · rw [if_pos hh, if_pos (by rw [hh.1, hh.2])]
  · rw [if_neg hh, if_neg (fun he => hh (idx_inj h3 h4 hcc hc (by omega)))]

theorem act_print {g : Gr} {ch : Int} {r : Gr × Int} (hr : r = actG g (evPrint ch)) (h0 : r.2 = 0) : OkG g ∧ checkE (evPrint ch) = 0 ∧ r = (printedG g ch, 0) := by
  unfold actG at hr
  cases hg : goodG g
  · rw [hg] at hr; rw [hr] at h0; simp at h0
  · rw [hg] at hr
    by_cases hc : checkE (evPrint ch) = 0
    · rw [if_pos rfl, if_pos hc] at hr
      exact ⟨(goodG_iff g).1 hg, hc, hr⟩
    · rw [if_pos rfl, if_neg hc] at hr; rw [hr] at h0; exact absurd h0 hc

set_option maxHeartbeats 1000000 in
theorem prints_no (g : Gr) (ao : Option Addr) (cap : Nat) (ch : Int) (w : World) (x : Gr) (q : Int) (hq : q ≠ 0 ∨ (q = 0 ∧ g.col = g.wide))
    (HD : Hid (∀ w', Below w.heap.size w w' → Calls Try.prog 27 #[gval g ao cap, .agg #[.int .i64 1, .int .i64 ch, .slice none 0 0, .string ⟨#[]⟩]] w' (AllEnd w' (x, q)))) :
    Calls Try.prog 11 #[gval g ao cap, .int .i64 ch] w fun e w' => e = .returned (.bool true) ∧ Below w.heap.size w w' := by
  by_cases h0 : q = 0
  · subst h0
    have he : (g.col == g.wide) = true := by simp; omega
    clear hq
    go_enter Try.func11, Try.ntmps11
    go_wp2_with (first
      | (go_at_call 27; refine (HD.out _ (below1 _ _)).mono ?_; rintro e w2 ⟨ao2, cap2, rfl, hcp⟩; have HB : Hid (Below w.heap.size w w2) := below_up hcp.2.2; obtain ⟨⟨x0, x1, x2, x3, x4, x5, x6, x7, x8⟩, z⟩ := nine (below_block hcp.2.2 (at_new w _) (by simp)); have hsz : w.heap.size < w2.heap.size := (by have := hcp.2.2.size; simp at this; omega); clear hcp)
      | (go_at_call 42; refine (shows_any _).mono ?_; rintro e w3 ⟨rfl, hb3⟩; have HB3 : Hid (Below w.heap.size w w3) := (HB.out.alloc HB.out.size _).trans (hb3.mono (by have := HB.out.size; simp; omega)); clear hb3))
    go_ret
    exact ⟨rfl, HB3.out⟩
  · have he : (q == 0) = false := by simp [h0]
    have he2 : (q != 0) = true := by simp [h0]
    clear hq
    go_enter Try.func11, Try.ntmps11
    go_wp2_with (first
      | (go_at_call 27; refine (HD.out _ (below1 _ _)).mono ?_; rintro e w2 ⟨ao2, cap2, rfl, hcp⟩; have HB : Hid (Below w.heap.size w w2) := below_up hcp.2.2; clear hcp)
      | (go_at_call 42; refine (shows_any _).mono ?_; rintro e w3 ⟨rfl, hb3⟩; have HB3 : Hid (Below w.heap.size w w3) := (HB.out.alloc HB.out.size _).trans (hb3.mono (by have := HB.out.size; simp; omega)); clear hb3))
    go_ret
    exact ⟨rfl, HB3.out⟩

set_option maxHeartbeats 2000000 in
theorem prints_yes (g : Gr) (ok : OkG g) (ao : Option Addr) (cap : Nat) (ch : Int) (w : World) (fx : Nat → Cel) (hcol : g.col < g.wide) (hr : RdS w ao g.n g.f) (hfx : fx = (putG g ch).f)
    (HD : Hid (∀ w', Below w.heap.size w w' → Calls Try.prog 27 #[gval g ao cap, .agg #[.int .i64 1, .int .i64 ch, .slice none 0 0, .string ⟨#[]⟩]] w' (AllEnd w' (⟨g.wide, g.high, g.n, fx, g.row, g.col + 1, g.ink, g.bold, g.top, g.bottom⟩, 0)))) :
    Calls Try.prog 11 #[gval g ao cap, .int .i64 ch] w fun e w' => e = .returned (.bool true) ∧ Below w.heap.size w w' := by
  obtain ⟨x, hx⟩ : ∃ x : Gr, x = ⟨g.wide, g.high, g.n, fx, g.row, g.col + 1, g.ink, g.bold, g.top, g.bottom⟩ := ⟨_, rfl⟩
  have HX : Hid (x = putG g ch) := by show x = putG g ch; rw [hx, hfx]; rfl
  have HXR : Hid (x.row = g.row ∧ x.col = g.col + 1) := by rw [hx]; exact ⟨rfl, rfl⟩
  rw [← hx] at HD
  have HAT : Hid (∀ (wr : World) (ax : Option Addr) (cx B : Nat) (r c : Int), Two w g x ao ax cap cx B wr → 0 ≤ r → r < g.high → 0 ≤ c → c < g.wide → Calls Try.prog 37 #[gval x ax cx, .int .i64 r, .int .i64 c] wr fun e w' => e = .returned (cval (if r = g.row ∧ c = g.col then ⟨ch, g.ink, 0, g.bold⟩ else atG g r c)) ∧ Below wr.heap.size wr w') := by
    intro wr ax cx B r c h2 h3 h4 h5 h6
    rw [← atG_put ok hcol ch h3 h4 h5 h6, ← HX.out]
    exact at_any x ax cx r c wr h2.rx (by have : x.n = g.n := by rw [hx]
                                          obtain ⟨q1, q2, _⟩ := ok.nums
                                          omega)
  have HAG : Hid (∀ (wr : World) (ax : Option Addr) (cx B : Nat) (r c : Int), Two w g x ao ax cap cx B wr → Calls Try.prog 37 #[gval g ao cap, .int .i64 r, .int .i64 c] wr fun e w' => e = .returned (cval (atG g r c)) ∧ Below wr.heap.size wr w') := fun wr ax cx B r c h2 => at_any g ao cap r c wr h2.rg (by obtain ⟨q1, q2, _⟩ := ok.nums; omega)
  have HR : Hid (RdS w ao g.n g.f) := hr
  have he : (g.col == g.wide) = false := by simp; omega
  obtain ⟨H, hH⟩ : ∃ H : Nat, g.high = H := ⟨g.high.toNat, by have := ok.h1; omega⟩
  obtain ⟨Wd, hW⟩ : ∃ W : Nat, g.wide = W := ⟨g.wide.toNat, by have := ok.w1; omega⟩
  have hH2 : H ≤ 10 := by have := ok.h2; omega
  have hW2 : Wd ≤ 24 := by have := ok.w2; omega
  have hc1 := ok.c1
  have hc2 : g.col ≤ 24 := by have := ok.w2; omega
  have HHW : Hid (g.high = H ∧ g.wide = Wd) := ⟨hH, hW⟩
  clear hr hx hfx ok hcol hH hW
  go_enter Try.func11, Try.ntmps11
  go_wp2_with (first
    | (go_at_call 27; refine (HD.out _ (below1 _ _)).mono ?_; rintro e w2 ⟨ax, cx, rfl, hcp⟩; have HT : Hid (Two w g x ao ax cap cx w2.heap.size (w2.alloc (gbox x ax cx))) := two_of HR.out rfl hcp; obtain ⟨⟨x0, x1, x2, x3, x4, x5, x6, x7, x8⟩, z⟩ := nine (below_block hcp.2.2 (at_new w _) (by simp)); have hsz : w.heap.size < w2.heap.size := (by have := hcp.2.2.size; simp at this; omega); clear hcp)
    | (go_at_call 42; refine (shows_any _).mono ?_; rintro e w3 ⟨rfl, hb3⟩; have HT3 : Hid (Two w g x ao ax cap cx w2.heap.size w3) := HT.out.later hb3; obtain ⟨⟨y0, y1, y2, y3, y4, y5, y6, y7, y8⟩, z3⟩ := nine HT3.out.one; clear hb3))
  clear x0 x1 x2 x3 x4 x5 x6 x7 x8 z y0 y1 y2 y3 y4 y5 y6 y7 y8 z3 HT HD HR hsz
  go_loopw [33] (fun i wr => ∃ k : Nat, k ≤ H ∧ i = .int .i64 k ∧ Two w g x ao ax cap cx w2.heap.size wr) (fun i _ => H - (intOf i).toNat)
  case atStart => exact ⟨0, Nat.zero_le _, rfl, HT3.out⟩
  case round =>
    obtain ⟨k, hk, rfl, ht⟩ := hrel
    have HT4 : Hid (Two w g x ao ax cap cx w2.heap.size wr) := ht
    obtain ⟨⟨x0, x1, x2, x3, x4, x5, x6, x7, x8⟩, z⟩ := nine ht.one
    obtain ⟨⟨y0, y1, y2, y3, y4, y5, y6, y7, y8⟩, z3⟩ := nine ht.two
    clear ht
    by_cases hlt : k < H
    · have hlt' : (k : Int) < g.high := by rw [HHW.out.1]; omega
      have hk0 : (0 : Int) ≤ (k : Int) := by omega
      go_wp2
      clear x0 x1 x2 x3 x4 x5 x6 x7 x8 z y0 y1 y2 y3 y4 y5 y6 y7 y8 z3
      go_loopw [38] (fun j ws => ∃ m : Nat, m ≤ Wd ∧ j = .int .i64 m ∧ Two w g x ao ax cap cx w2.heap.size ws) (fun j _ => Wd - (intOf j).toNat)
      case atStart => exact ⟨0, Nat.zero_le _, rfl, HT4.out⟩
      case round =>
        obtain ⟨m, hm, rfl, ht5⟩ := hrel
        rename_i wr0 wr
        have HTi : Hid (Two w g x ao ax cap cx w2.heap.size wr) := ht5
        obtain ⟨⟨x0, x1, x2, x3, x4, x5, x6, x7, x8⟩, z⟩ := nine ht5.one
        obtain ⟨⟨y0, y1, y2, y3, y4, y5, y6, y7, y8⟩, z3⟩ := nine ht5.two
        clear ht5
        by_cases hlm : m < Wd
        · have hlm' : (m : Int) < g.wide := by rw [HHW.out.2]; omega
          have hm0 : (0 : Int) ≤ (m : Int) := by omega
          obtain ⟨y, hy⟩ : ∃ y, y = atG g k m := ⟨_, rfl⟩
          have HGA : Hid (∀ wr, Two w g x ao ax cap cx w2.heap.size wr → Calls Try.prog 37 #[gval g ao cap, .int .i64 k, .int .i64 m] wr fun e w' => e = .returned (cval y) ∧ Below wr.heap.size wr w') := fun wr h => by rw [hy]; exact HAG.out wr ax cx _ k m h
          by_cases hpl : (k : Int) = g.row ∧ (m : Int) = g.col
          · have HXA : Hid (∀ wr, Two w g x ao ax cap cx w2.heap.size wr → Calls Try.prog 37 #[gval x ax cx, .int .i64 k, .int .i64 m] wr fun e w' => e = .returned (cval ⟨ch, g.ink, 0, g.bold⟩) ∧ Below wr.heap.size wr w') := fun wr h => by
              have := HAT.out wr ax cx _ k m h hk0 hlt' hm0 hlm'
              rw [if_pos hpl] at this
              exact this
            have q1 : ((k : Int) == g.row) = true := by simp [hpl.1]
            have q2 : ((m : Int) == g.col) = true := by simp [hpl.2]
            clear hy hpl HAT HAG HX
            go_wp2_with (go_at_call 37; refine (HGA.out _ HTi.out).mono ?_; rintro e w5 ⟨rfl, hb5⟩; have HT5 : Hid (Two w g x ao ax cap cx w2.heap.size w5) := HTi.out.later hb5; obtain ⟨⟨a0, a1, a2, a3, a4, a5, a6, a7, a8⟩, a9⟩ := nine HT5.out.one; obtain ⟨⟨b0, b1, b2, b3, b4, b5, b6, b7, b8⟩, b9⟩ := nine HT5.out.two; have hl1 := HT5.out.lt1; have hl2 := HT5.out.lt2; clear hb5)
            go_region_held3 (fun w' => (w'.cell? ⟨w2.heap.size, 0, none⟩ = some (.int .i64 x.wide) ∧ w'.cell? ⟨w2.heap.size, 1, none⟩ = some (.int .i64 x.high) ∧ w'.cell? ⟨w2.heap.size, 2, none⟩ = some (.slice ax x.n cx) ∧ w'.cell? ⟨w2.heap.size, 3, none⟩ = some (.int .i64 x.row) ∧ w'.cell? ⟨w2.heap.size, 4, none⟩ = some (.int .i64 x.col) ∧ w'.cell? ⟨w2.heap.size, 5, none⟩ = some (.int .i64 x.ink) ∧ w'.cell? ⟨w2.heap.size, 6, none⟩ = some (.bool x.bold) ∧ w'.cell? ⟨w2.heap.size, 7, none⟩ = some (.int .i64 x.top) ∧ w'.cell? ⟨w2.heap.size, 8, none⟩ = some (.int .i64 x.bottom)) ∧ (w'.cell? ⟨w5.heap.size, 0, none⟩ = some (.int .i64 ch) ∧ w'.cell? ⟨w5.heap.size, 1, none⟩ = some (.int .i64 g.ink) ∧ w'.cell? ⟨w5.heap.size, 2, none⟩ = some (.int .i64 0) ∧ w'.cell? ⟨w5.heap.size, 3, none⟩ = some (.bool g.bold))) (first | go_keep | (simp [*, World.cell?_alloc_past]))
              ((go_at_call 37; refine (HXA.out _ (HT5.out.later (below1 _ _)).drew).mono ?_; rintro e w6 ⟨rfl, hb6⟩; have HT6 : Hid (Two w g x ao ax cap cx w2.heap.size w6) := (HT5.out.later (below1 _ _)).drew.later hb6; obtain ⟨⟨a0, a1, a2, a3, a4, a5, a6, a7, a8⟩, a9⟩ := nine HT6.out.two; obtain ⟨⟨d0, d1, d2, d3⟩, d4⟩ := four (below_block hb6 (at_new w5 _) (by simp)); clear hb6))
            go_wp2
            go_roundw
            case rel => exact ⟨m + 1, by omega, by go_num, HT6.out⟩
            case measure => simp [intOf]; omega
          · have HXA : Hid (∀ wr, Two w g x ao ax cap cx w2.heap.size wr → Calls Try.prog 37 #[gval x ax cx, .int .i64 k, .int .i64 m] wr fun e w' => e = .returned (cval y) ∧ Below wr.heap.size wr w') := fun wr h => by
              have := HAT.out wr ax cx _ k m h hk0 hlt' hm0 hlm'
              rw [if_neg hpl, ← hy] at this
              exact this
            have q1 : (((k : Int) == g.row) && ((m : Int) == g.col)) = false := by
              cases h1 : ((k : Int) == g.row) <;> cases h2 : ((m : Int) == g.col) <;> simp_all
            clear hy hpl HAT HAG HX
            cases q3 : ((k : Int) == g.row)
            · clear q1
              go_wp2_with (go_at_call 37; refine (HGA.out _ HTi.out).mono ?_; rintro e w5 ⟨rfl, hb5⟩; have HT5 : Hid (Two w g x ao ax cap cx w2.heap.size w5) := HTi.out.later hb5; obtain ⟨⟨a0, a1, a2, a3, a4, a5, a6, a7, a8⟩, a9⟩ := nine HT5.out.one; obtain ⟨⟨b0, b1, b2, b3, b4, b5, b6, b7, b8⟩, b9⟩ := nine HT5.out.two; have hl1 := HT5.out.lt1; have hl2 := HT5.out.lt2; clear hb5)
              go_region_held3 (fun w' => (w'.cell? ⟨w2.heap.size, 0, none⟩ = some (.int .i64 x.wide) ∧ w'.cell? ⟨w2.heap.size, 1, none⟩ = some (.int .i64 x.high) ∧ w'.cell? ⟨w2.heap.size, 2, none⟩ = some (.slice ax x.n cx) ∧ w'.cell? ⟨w2.heap.size, 3, none⟩ = some (.int .i64 x.row) ∧ w'.cell? ⟨w2.heap.size, 4, none⟩ = some (.int .i64 x.col) ∧ w'.cell? ⟨w2.heap.size, 5, none⟩ = some (.int .i64 x.ink) ∧ w'.cell? ⟨w2.heap.size, 6, none⟩ = some (.bool x.bold) ∧ w'.cell? ⟨w2.heap.size, 7, none⟩ = some (.int .i64 x.top) ∧ w'.cell? ⟨w2.heap.size, 8, none⟩ = some (.int .i64 x.bottom)) ∧ (w'.cell? ⟨w5.heap.size, 0, none⟩ = some (.int .i64 y.ch) ∧ w'.cell? ⟨w5.heap.size, 1, none⟩ = some (.int .i64 y.ink) ∧ w'.cell? ⟨w5.heap.size, 2, none⟩ = some (.int .i64 y.pic) ∧ w'.cell? ⟨w5.heap.size, 3, none⟩ = some (.bool y.bold))) (first | go_keep | (simp [*, World.cell?_alloc_past]))
                ((go_at_call 37; refine (HXA.out _ (HT5.out.later (below1 _ _)).drew).mono ?_; rintro e w6 ⟨rfl, hb6⟩; have HT6 : Hid (Two w g x ao ax cap cx w2.heap.size w6) := (HT5.out.later (below1 _ _)).drew.later hb6; obtain ⟨⟨a0, a1, a2, a3, a4, a5, a6, a7, a8⟩, a9⟩ := nine HT6.out.two; obtain ⟨⟨d0, d1, d2, d3⟩, d4⟩ := four (below_block hb6 (at_new w5 _) (by simp)); clear hb6))
              go_wp2
              go_roundw
              case rel => exact ⟨m + 1, by omega, by go_num, HT6.out⟩
              case measure => simp [intOf]; omega
            · have q2 : ((m : Int) == g.col) = false := by rw [q3] at q1; simpa using q1
              clear q1
              go_wp2_with (go_at_call 37; refine (HGA.out _ HTi.out).mono ?_; rintro e w5 ⟨rfl, hb5⟩; have HT5 : Hid (Two w g x ao ax cap cx w2.heap.size w5) := HTi.out.later hb5; obtain ⟨⟨a0, a1, a2, a3, a4, a5, a6, a7, a8⟩, a9⟩ := nine HT5.out.one; obtain ⟨⟨b0, b1, b2, b3, b4, b5, b6, b7, b8⟩, b9⟩ := nine HT5.out.two; have hl1 := HT5.out.lt1; have hl2 := HT5.out.lt2; clear hb5)
              go_region_held3 (fun w' => (w'.cell? ⟨w2.heap.size, 0, none⟩ = some (.int .i64 x.wide) ∧ w'.cell? ⟨w2.heap.size, 1, none⟩ = some (.int .i64 x.high) ∧ w'.cell? ⟨w2.heap.size, 2, none⟩ = some (.slice ax x.n cx) ∧ w'.cell? ⟨w2.heap.size, 3, none⟩ = some (.int .i64 x.row) ∧ w'.cell? ⟨w2.heap.size, 4, none⟩ = some (.int .i64 x.col) ∧ w'.cell? ⟨w2.heap.size, 5, none⟩ = some (.int .i64 x.ink) ∧ w'.cell? ⟨w2.heap.size, 6, none⟩ = some (.bool x.bold) ∧ w'.cell? ⟨w2.heap.size, 7, none⟩ = some (.int .i64 x.top) ∧ w'.cell? ⟨w2.heap.size, 8, none⟩ = some (.int .i64 x.bottom)) ∧ (w'.cell? ⟨w5.heap.size, 0, none⟩ = some (.int .i64 y.ch) ∧ w'.cell? ⟨w5.heap.size, 1, none⟩ = some (.int .i64 y.ink) ∧ w'.cell? ⟨w5.heap.size, 2, none⟩ = some (.int .i64 y.pic) ∧ w'.cell? ⟨w5.heap.size, 3, none⟩ = some (.bool y.bold))) (first | go_keep | (simp [*, World.cell?_alloc_past]))
                ((go_at_call 37; refine (HXA.out _ (HT5.out.later (below1 _ _)).drew).mono ?_; rintro e w6 ⟨rfl, hb6⟩; have HT6 : Hid (Two w g x ao ax cap cx w2.heap.size w6) := (HT5.out.later (below1 _ _)).drew.later hb6; obtain ⟨⟨a0, a1, a2, a3, a4, a5, a6, a7, a8⟩, a9⟩ := nine HT6.out.two; obtain ⟨⟨d0, d1, d2, d3⟩, d4⟩ := four (below_block hb6 (at_new w5 _) (by simp)); clear hb6))
              go_wp2
              go_roundw
              case rel => exact ⟨m + 1, by omega, by go_num, HT6.out⟩
              case measure => simp [intOf]; omega
        · have hge : g.wide ≤ (m : Int) := by rw [HHW.out.2]; omega
          go_wp2
          go_roundw
          case rel => exact ⟨k + 1, by omega, by go_num, HTi.out⟩
          case measure => simp [intOf]; omega
    · have hge : g.high ≤ (k : Int) := by rw [HHW.out.1]; omega
      obtain ⟨e1, e2⟩ := HXR.out
      rw [e1] at y3
      rw [e2] at y4
      go_wp2
      go_ret
      exact ⟨rfl, HT4.out.below⟩

end Go.Proofs.Yteenppbpjdldgaa
