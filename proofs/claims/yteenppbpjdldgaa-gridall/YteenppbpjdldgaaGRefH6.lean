/- The document's own 'csi': the letters J and K. -/
import Derived.Test.YteenppbpjdldgaaGRefH2
import Derived.Test.YteenppbpjdldgaaGPic
namespace Go.Proofs.Yteenppbpjdldgaa
open Go.RowKit

/-- The cells below place k that the test names are cleared. -/
def partF (f : Nat → Cel) (k : Nat) (c : Nat → Bool) : Nat → Cel := fun i => if i < k ∧ c i = true then noCel else f i
theorem part_put (f : Nat → Cel) (k : Nat) (c : Nat → Bool) (h : c k = true) : putF (partF f k c) k noCel = partF f (k + 1) c := by
  funext i
  unfold putF partF
  by_cases hi : i = k
  · subst hi; rw [if_pos rfl, if_pos ⟨by omega, h⟩]
  · rw [if_neg hi]
    by_cases hl : i < k ∧ c i = true
    · rw [if_pos hl, if_pos ⟨by omega, hl.2⟩]
    · rw [if_neg hl, if_neg (fun e => hl ⟨by omega, e.2⟩)]
theorem part_not (f : Nat → Cel) (k : Nat) (c : Nat → Bool) (h : c k = false) : partF f k c = partF f (k + 1) c := by
  funext i
  unfold partF
  by_cases hl : i < k ∧ c i = true
  · rw [if_pos hl, if_pos ⟨by omega, hl.2⟩]
  · rw [if_neg hl, if_neg]
    rintro ⟨e1, e2⟩
    have : i = k := by
      by_cases he : i < k
      · exact absurd ⟨he, e2⟩ hl
      · omega
    subst this
    rw [h] at e2
    exact absurd e2 (by decide)
theorem part_zero (f : Nat → Cel) (c : Nat → Bool) : partF f 0 c = f := by
  funext i; unfold partF; rw [if_neg (by omega)]

/-- What J and K ask of a place. -/
def wantB (p : Int) (z : Int) (i : Nat) : Bool := decide ((p = 0 ∧ z ≤ i) ∨ (p = 1 ∧ (i : Int) ≤ z) ∨ p = 2)

theorem grown_drewN {a w : World} {row : Option Nat} (h : a.grownBy w row) (n : Nat) : a.grownBy (w.drewN n) row := ⟨h.os, h.tape, h.output, h.size, h.block⟩
theorem PMid.drewN {w : World} {g : Gr} {b cap : Nat} {f : Nat → Cel} {wr : World} (h : PMid w g b cap f wr) (n : Nat) : PMid w g b cap f (wr.drewN n) := ⟨h.box, h.res, h.scr, grown_drewN h.grown n⟩

set_option maxRecDepth 20000 in
set_option maxHeartbeats 4000000 in
theorem rcsiJ (g : Gr) (h : OkG g) (b cap : Nat) (w : World) (hS : Scr w b g.n g.f) (hc : g.n ≤ cap) (lo : Option Addr) (ln lc : Nat) (p q : Int) (HN : Hid (GNums w lo ln lc p q)) (hp0 : 0 ≤ p) (hp9 : p ≤ 999) (HG : Hid (∀ w', w.grownBy w' (some b) → Calls Try.prog 77 #[.slice lo ln lc, .int .i64 0] w' fun e w'' => e = .returned (.int .i64 p) ∧ w'' = w')) (fx : Nat → Cel) (c : Nat → Bool) (hcd : ∀ i : Nat, c i = wantB p (g.row * g.wide + hereC g) i) (hfx : ∀ i, i < g.n → fx i = partF g.f g.n c i) (m : Int) (hm : m = max p 1) (x : Gr) (hx : x = { g with f := fx }) :
    Calls Try.prog 56 #[gval g (some ⟨b, 0, none⟩) cap, .int .i64 74, .slice lo ln lc] w (GEndN w b x) := by
  have hlt := hS.lt
  have HS : Hid (Scr w b g.n g.f ∧ g.n ≤ cap) := ⟨hS, hc⟩
  have hc0 := h.c1
  have hc1 := h.c2
  have hw0 := h.w1
  have hw1 := h.w2
  have hr0 := h.r1
  have hr2 := h.r2
  have hh0 := h.h1
  have hh1 := h.h2
  obtain ⟨q1, q2, q3, q4, _⟩ := h.nums
  obtain ⟨P, hP⟩ : ∃ P, P = g.row * g.wide := ⟨_, rfl⟩
  have hwrP : IntKind.i64.wrap (g.row * g.wide) = P := by rw [← hP, IntKind.wrap_i64]; omega
  have hP0 : 0 ≤ P := by omega
  have hP1 : P ≤ 240 := by omega
  have hmx : (if p < 1 then (1 : Int) else p) = m := by rw [max_if, hm]
  obtain ⟨k, hk⟩ : ∃ k, (if g.wide - 1 < g.col then g.wide - 1 else g.col) = k := ⟨_, rfl⟩
  have HKC : Hid (k = hereC g) := by show k = hereC g; rw [← hk]; unfold hereC; split <;> omega
  have hk0 : 0 ≤ k := by rw [← hk]; split <;> omega
  have hk1 : k ≤ 24 := by rw [← hk]; split <;> omega
  have hm1 : 1 ≤ m := by omega
  have hm9 : m ≤ 999 := by omega
  obtain ⟨Z, hZ⟩ : ∃ Z, Z = P + k := ⟨_, rfl⟩
  have hwZ : IntKind.i64.wrap (P + k) = Z := by rw [hZ, IntKind.wrap_i64]; omega
  have HZ : Hid (g.row * g.wide + hereC g = Z) := by show _ = Z; rw [hZ, hP, HKC.out]
  have hZ0 : 0 ≤ Z := by omega
  have hZ1 : Z ≤ 264 := by omega
  have HX : Hid (x = { g with f := fx }) := hx
  have HCD : Hid (∀ i : Nat, c i = wantB p Z i) := by intro i; rw [hcd, HZ.out]
  have HFX : Hid (∀ i, i < g.n → fx i = partF g.f g.n c i) := hfx
  have hgn : g.n ≤ 240 := by omega
  clear hcd hfx hZ
  clear hS h hx hc q1 q2 q3 q4 hP hm hp0 hp9
  go_enter Try.func56, Try.ntmps56
  go_wp2_with (first
    | (go_at_call_of 77 (Value.int IntKind.i64 0); refine (HN.out _ (below2 _ _ _)).1.mono ?_; rintro e w1 ⟨rfl, rfl⟩)
    | (go_at_call_of 77 (Value.int IntKind.i64 1); refine (HN.out _ (below2 _ _ _)).2.mono ?_; rintro e w1 ⟨rfl, rfl⟩))
  go_loopw [100] (fun i wr => ∃ k : Nat, k ≤ g.n ∧ i = .int .i64 k ∧ PMid w g b cap (partF g.f k c) wr) (fun i _ => g.n - (intOf i).toNat)
  case atStart => exact ⟨0, Nat.zero_le _, rfl, by rw [part_zero]; exact ⟨at_old (at_new w _) _, at_new1 w _ _, (HS.out.1.alloc _).alloc _, grown_alloc (grown_alloc (grown_refl _ _) _) _⟩⟩
  case round =>
    obtain ⟨k', hk', rfl, hp⟩ := hrel
    have HP : Hid (PMid w g b cap (partF g.f k' c) wr) := hp
    obtain ⟨⟨x0, x1, x2, x3, x4, x5, x6, x7, x8⟩, z⟩ := nine hp.box
    obtain ⟨⟨u0, u1, u2, u3, u4, u5, u6, u7, u8⟩, v⟩ := nine hp.res
    by_cases hlt' : k' < g.n
    · have hl2 : (k' : Int) < (g.n : Int) := by omega
      have hk0' : (0 : Int) ≤ (k' : Int) := by omega
      obtain ⟨t0, t1, t2, t3⟩ := hp.scr.cells k' hlt'
      have hfr : ∀ j, wr.frozen? ⟨b, j, none⟩ = false := hp.scr.free
      obtain ⟨c0, hc0'⟩ : ∃ c0, c0 = partF g.f k' c k' := ⟨_, rfl⟩
      rw [← hc0'] at t0 t1 t2 t3
      have hwk : IntKind.i64.wrap (k' : Int) = (k' : Int) := by rw [IntKind.wrap_i64]; omega
      have hk9 : (k' : Int) < 240 := by omega
      clear hp hc0'
      by_cases h0 : p = 0
      · subst h0
        by_cases hz : Z ≤ (k' : Int)
        · have HW : Hid (c k' = true) := by show c k' = true; rw [HCD.out]; simp [wantB, hz]
          go_wp2_with fail; go_quiet (fail); go_wp2_with (first | (go_at_call_of 77 (Value.int IntKind.i64 0); refine (HG.out _ (grown_drewN HP.out.grown _)).mono ?_; rintro e w1 ⟨rfl, rfl⟩))
          (go_roundw; (case rel => exact ⟨k' + 1, by omega, by go_num, by rw [← part_put _ _ _ HW.out]; exact PMid.put (PMid.drewN HP.out _) hlt k' _ _ _ _ noCel (by omega) (by omega) (by omega) (by omega) (by omega)⟩); (case measure => simp [intOf]; omega))
        · have hz' : (k' : Int) < Z := by omega
          have HW : Hid (c k' = false) := by show c k' = false; rw [HCD.out]; simp [wantB, hz]
          clear hz
          go_wp2_with fail; go_quiet (fail); go_wp2_with (first | (go_at_call_of 77 (Value.int IntKind.i64 0); refine (HG.out _ (grown_drewN HP.out.grown _)).mono ?_; rintro e w1 ⟨rfl, rfl⟩))
          (go_roundw; (case rel => exact ⟨k' + 1, by omega, by go_num, by rw [← part_not _ _ _ HW.out]; exact PMid.drewN HP.out _⟩); (case measure => simp [intOf]; omega))
      have e0 : (p == 0) = false := by simp [h0]
      by_cases h1 : p = 1
      · subst h1
        by_cases hz : (k' : Int) ≤ Z
        · have HW : Hid (c k' = true) := by show c k' = true; rw [HCD.out]; simp [wantB, hz]
          go_wp2_with fail; go_quiet (fail); go_wp2_with (first | (go_at_call_of 77 (Value.int IntKind.i64 0); refine (HG.out _ (grown_drewN HP.out.grown _)).mono ?_; rintro e w1 ⟨rfl, rfl⟩))
          (go_roundw; (case rel => exact ⟨k' + 1, by omega, by go_num, by rw [← part_put _ _ _ HW.out]; exact PMid.put (PMid.drewN HP.out _) hlt k' _ _ _ _ noCel (by omega) (by omega) (by omega) (by omega) (by omega)⟩); (case measure => simp [intOf]; omega))
        · have hz' : Z < (k' : Int) := by omega
          have HW : Hid (c k' = false) := by show c k' = false; rw [HCD.out]; simp [wantB, hz]
          clear hz
          go_wp2_with fail; go_quiet (fail); go_wp2_with (first | (go_at_call_of 77 (Value.int IntKind.i64 0); refine (HG.out _ (grown_drewN HP.out.grown _)).mono ?_; rintro e w1 ⟨rfl, rfl⟩))
          (go_roundw; (case rel => exact ⟨k' + 1, by omega, by go_num, by rw [← part_not _ _ _ HW.out]; exact PMid.drewN HP.out _⟩); (case measure => simp [intOf]; omega))
      have e1 : (p == 1) = false := by simp [h1]
      by_cases h2 : p = 2
      · subst h2
        have HW : Hid (c k' = true) := by show c k' = true; rw [HCD.out]; simp [wantB]
        clear h0 h1
        go_wp2_with fail; go_quiet (fail); go_wp2_with (first | (go_at_call_of 77 (Value.int IntKind.i64 0); refine (HG.out _ (grown_drewN HP.out.grown _)).mono ?_; rintro e w1 ⟨rfl, rfl⟩))
        (go_roundw; (case rel => exact ⟨k' + 1, by omega, by go_num, by rw [← part_put _ _ _ HW.out]; exact PMid.put (PMid.drewN HP.out _) hlt k' _ _ _ _ noCel (by omega) (by omega) (by omega) (by omega) (by omega)⟩); (case measure => simp [intOf]; omega))
      · have e2 : (p == 2) = false := by simp [h2]
        have HW : Hid (c k' = false) := by show c k' = false; rw [HCD.out]; simp [wantB, h0, h1, h2]
        clear h0 h1 h2
        go_wp2_with fail; go_quiet (fail); go_wp2_with (first | (go_at_call_of 77 (Value.int IntKind.i64 0); refine (HG.out _ (grown_drewN HP.out.grown _)).mono ?_; rintro e w1 ⟨rfl, rfl⟩))
        (go_roundw; (case rel => exact ⟨k' + 1, by omega, by go_num, by rw [← part_not _ _ _ HW.out]; exact PMid.drewN HP.out _⟩); (case measure => simp [intOf]; omega))
    · have hge : (g.n : Int) ≤ (k' : Int) := by omega
      obtain rfl : k' = g.n := by omega
      clear hp
      go_wp2
      refine bodyPost_ret (v := gval { g with f := fx } (some ⟨b, 0, none⟩) cap) (by simp [results, Try.results56, go_sem, *]) rfl ?_
      rw [HX.out]
      exact ⟨b, cap, rfl, scr_set9 (HP.out.scr.congr fun i hi => (HFX.out i hi).symm) (by omega) _ _ _ _ _ _ _ _ _, HS.out.2, (fin9 ⟨HP.out.scr, HP.out.grown⟩ (by omega) hlt _ _ _ _ _ _ _ _ _).2, .inl rfl⟩

set_option maxRecDepth 20000 in
set_option maxHeartbeats 4000000 in
theorem rcsiK (g : Gr) (h : OkG g) (b cap : Nat) (w : World) (hS : Scr w b g.n g.f) (hc : g.n ≤ cap) (lo : Option Addr) (ln lc : Nat) (p q : Int) (HN : Hid (GNums w lo ln lc p q)) (hp0 : 0 ≤ p) (hp9 : p ≤ 999) (HG : Hid (∀ w', w.grownBy w' (some b) → Calls Try.prog 77 #[.slice lo ln lc, .int .i64 0] w' fun e w'' => e = .returned (.int .i64 p) ∧ w'' = w')) (fx : Nat → Cel) (c : Nat → Bool) (hcd : ∀ i : Nat, c i = (decide ((i : Int) / g.wide = g.row) && wantB p (g.row * g.wide + hereC g) i)) (hfx : ∀ i, i < g.n → fx i = partF g.f g.n c i) (m : Int) (hm : m = max p 1) (x : Gr) (hx : x = { g with f := fx }) :
    Calls Try.prog 56 #[gval g (some ⟨b, 0, none⟩) cap, .int .i64 75, .slice lo ln lc] w (GEndN w b x) := by
  have hlt := hS.lt
  have HS : Hid (Scr w b g.n g.f ∧ g.n ≤ cap) := ⟨hS, hc⟩
  have hc0 := h.c1
  have hc1 := h.c2
  have hw0 := h.w1
  have hw1 := h.w2
  have hr0 := h.r1
  have hr2 := h.r2
  have hh0 := h.h1
  have hh1 := h.h2
  obtain ⟨q1, q2, q3, q4, _⟩ := h.nums
  obtain ⟨P, hP⟩ : ∃ P, P = g.row * g.wide := ⟨_, rfl⟩
  have hwrP : IntKind.i64.wrap (g.row * g.wide) = P := by rw [← hP, IntKind.wrap_i64]; omega
  have hP0 : 0 ≤ P := by omega
  have hP1 : P ≤ 240 := by omega
  have hmx : (if p < 1 then (1 : Int) else p) = m := by rw [max_if, hm]
  obtain ⟨k, hk⟩ : ∃ k, (if g.wide - 1 < g.col then g.wide - 1 else g.col) = k := ⟨_, rfl⟩
  have HKC : Hid (k = hereC g) := by show k = hereC g; rw [← hk]; unfold hereC; split <;> omega
  have hk0 : 0 ≤ k := by rw [← hk]; split <;> omega
  have hk1 : k ≤ 24 := by rw [← hk]; split <;> omega
  have hm1 : 1 ≤ m := by omega
  have hm9 : m ≤ 999 := by omega
  obtain ⟨Z, hZ⟩ : ∃ Z, Z = P + k := ⟨_, rfl⟩
  have hwZ : IntKind.i64.wrap (P + k) = Z := by rw [hZ, IntKind.wrap_i64]; omega
  have HZ : Hid (g.row * g.wide + hereC g = Z) := by show _ = Z; rw [hZ, hP, HKC.out]
  have hZ0 : 0 ≤ Z := by omega
  have hZ1 : Z ≤ 264 := by omega
  have HX : Hid (x = { g with f := fx }) := hx
  have HCD : Hid (∀ i : Nat, c i = (decide ((i : Int) / g.wide = g.row) && wantB p Z i)) := by intro i; rw [hcd, HZ.out]
  have HFX : Hid (∀ i, i < g.n → fx i = partF g.f g.n c i) := hfx
  have hgn : g.n ≤ 240 := by omega
  clear hcd hfx hZ
  clear hS h hx hc q1 q2 q3 q4 hP hm hp0 hp9
  go_enter Try.func56, Try.ntmps56
  go_wp2_with (first
    | (go_at_call_of 77 (Value.int IntKind.i64 0); refine (HN.out _ (below2 _ _ _)).1.mono ?_; rintro e w1 ⟨rfl, rfl⟩)
    | (go_at_call_of 77 (Value.int IntKind.i64 1); refine (HN.out _ (below2 _ _ _)).2.mono ?_; rintro e w1 ⟨rfl, rfl⟩))
  go_loopw [100] (fun i wr => ∃ k : Nat, k ≤ g.n ∧ i = .int .i64 k ∧ PMid w g b cap (partF g.f k c) wr) (fun i _ => g.n - (intOf i).toNat)
  case atStart => exact ⟨0, Nat.zero_le _, rfl, by rw [part_zero]; exact ⟨at_old (at_new w _) _, at_new1 w _ _, (HS.out.1.alloc _).alloc _, grown_alloc (grown_alloc (grown_refl _ _) _) _⟩⟩
  case round =>
    obtain ⟨k', hk', rfl, hp⟩ := hrel
    have HP : Hid (PMid w g b cap (partF g.f k' c) wr) := hp
    obtain ⟨⟨x0, x1, x2, x3, x4, x5, x6, x7, x8⟩, z⟩ := nine hp.box
    obtain ⟨⟨u0, u1, u2, u3, u4, u5, u6, u7, u8⟩, v⟩ := nine hp.res
    by_cases hlt' : k' < g.n
    · have hl2 : (k' : Int) < (g.n : Int) := by omega
      have hk0' : (0 : Int) ≤ (k' : Int) := by omega
      obtain ⟨t0, t1, t2, t3⟩ := hp.scr.cells k' hlt'
      have hfr : ∀ j, wr.frozen? ⟨b, j, none⟩ = false := hp.scr.free
      obtain ⟨c0, hc0'⟩ : ∃ c0, c0 = partF g.f k' c k' := ⟨_, rfl⟩
      rw [← hc0'] at t0 t1 t2 t3
      have hwk : IntKind.i64.wrap (k' : Int) = (k' : Int) := by rw [IntKind.wrap_i64]; omega
      have hk9 : (k' : Int) < 240 := by omega
      clear hp hc0'
      obtain ⟨d, hd⟩ : ∃ d, (k' : Int) / g.wide = d := ⟨_, rfl⟩
      have hqt : (k' : Int).tdiv g.wide = d := by rw [Int.tdiv_eq_ediv_of_nonneg hk0']; exact hd
      have hd0 : 0 ≤ d := by rw [← hd]; exact Int.ediv_nonneg hk0' (by omega)
      have hd1 : d ≤ k' := by rw [← hd]; exact Int.ediv_le_self _ hk0'
      have hd9 : d ≤ 240 := by omega
      have hwz : (g.wide == 0) = false := by simp; omega
      have hdw : IntKind.i64.wrap d = d := by rw [IntKind.wrap_i64]; omega
      have HD : Hid ((k' : Int) / g.wide = d) := hd
      clear hd hd1
      by_cases hrw : d = g.row
      · have hrw' : (d == g.row) = true := by simp [hrw]
        have HRW : Hid (d = g.row) := hrw
        clear hrw
        by_cases h0 : p = 0
        · subst h0
          by_cases hz : Z ≤ (k' : Int)
          · have HW : Hid (c k' = true) := by show c k' = true; rw [HCD.out, HD.out, HRW.out]; simp [wantB, hz]
            go_wp2_with fail; go_quiet (fail); go_wp2_with (first | (go_at_call_of 77 (Value.int IntKind.i64 0); refine (HG.out _ (grown_drewN HP.out.grown _)).mono ?_; rintro e w1 ⟨rfl, rfl⟩))
            (go_roundw; (case rel => exact ⟨k' + 1, by omega, by go_num, by rw [← part_put _ _ _ HW.out]; exact PMid.put (PMid.drewN HP.out _) hlt k' _ _ _ _ noCel (by omega) (by omega) (by omega) (by omega) (by omega)⟩); (case measure => simp [intOf]; omega))
          · have hz' : (k' : Int) < Z := by omega
            have HW : Hid (c k' = false) := by show c k' = false; rw [HCD.out, HD.out, HRW.out]; simp [wantB, hz]
            clear hz
            go_wp2_with fail; go_quiet (fail); go_wp2_with (first | (go_at_call_of 77 (Value.int IntKind.i64 0); refine (HG.out _ (grown_drewN HP.out.grown _)).mono ?_; rintro e w1 ⟨rfl, rfl⟩))
            (go_roundw; (case rel => exact ⟨k' + 1, by omega, by go_num, by rw [← part_not _ _ _ HW.out]; exact PMid.drewN HP.out _⟩); (case measure => simp [intOf]; omega))
        have e0 : (p == 0) = false := by simp [h0]
        by_cases h1 : p = 1
        · subst h1
          by_cases hz : (k' : Int) ≤ Z
          · have HW : Hid (c k' = true) := by show c k' = true; rw [HCD.out, HD.out, HRW.out]; simp [wantB, hz]
            go_wp2_with fail; go_quiet (fail); go_wp2_with (first | (go_at_call_of 77 (Value.int IntKind.i64 0); refine (HG.out _ (grown_drewN HP.out.grown _)).mono ?_; rintro e w1 ⟨rfl, rfl⟩))
            (go_roundw; (case rel => exact ⟨k' + 1, by omega, by go_num, by rw [← part_put _ _ _ HW.out]; exact PMid.put (PMid.drewN HP.out _) hlt k' _ _ _ _ noCel (by omega) (by omega) (by omega) (by omega) (by omega)⟩); (case measure => simp [intOf]; omega))
          · have hz' : Z < (k' : Int) := by omega
            have HW : Hid (c k' = false) := by show c k' = false; rw [HCD.out, HD.out, HRW.out]; simp [wantB, hz]
            clear hz
            go_wp2_with fail; go_quiet (fail); go_wp2_with (first | (go_at_call_of 77 (Value.int IntKind.i64 0); refine (HG.out _ (grown_drewN HP.out.grown _)).mono ?_; rintro e w1 ⟨rfl, rfl⟩))
            (go_roundw; (case rel => exact ⟨k' + 1, by omega, by go_num, by rw [← part_not _ _ _ HW.out]; exact PMid.drewN HP.out _⟩); (case measure => simp [intOf]; omega))
        have e1 : (p == 1) = false := by simp [h1]
        by_cases h2 : p = 2
        · subst h2
          have HW : Hid (c k' = true) := by show c k' = true; rw [HCD.out, HD.out, HRW.out]; simp [wantB]
          clear h0 h1
          go_wp2_with fail; go_quiet (fail); go_wp2_with (first | (go_at_call_of 77 (Value.int IntKind.i64 0); refine (HG.out _ (grown_drewN HP.out.grown _)).mono ?_; rintro e w1 ⟨rfl, rfl⟩))
          (go_roundw; (case rel => exact ⟨k' + 1, by omega, by go_num, by rw [← part_put _ _ _ HW.out]; exact PMid.put (PMid.drewN HP.out _) hlt k' _ _ _ _ noCel (by omega) (by omega) (by omega) (by omega) (by omega)⟩); (case measure => simp [intOf]; omega))
        · have e2 : (p == 2) = false := by simp [h2]
          have HW : Hid (c k' = false) := by show c k' = false; rw [HCD.out, HD.out, HRW.out]; simp [wantB, h0, h1, h2]
          clear h0 h1 h2
          go_wp2_with fail; go_quiet (fail); go_wp2_with (first | (go_at_call_of 77 (Value.int IntKind.i64 0); refine (HG.out _ (grown_drewN HP.out.grown _)).mono ?_; rintro e w1 ⟨rfl, rfl⟩))
          (go_roundw; (case rel => exact ⟨k' + 1, by omega, by go_num, by rw [← part_not _ _ _ HW.out]; exact PMid.drewN HP.out _⟩); (case measure => simp [intOf]; omega))
      · have hrw' : (d == g.row) = false := by simp [hrw]
        have HW : Hid (c k' = false) := by show c k' = false; rw [HCD.out, HD.out]; simp [hrw]
        clear hrw
        go_wp2_with fail; go_quiet (fail); go_wp2
        (go_roundw; (case rel => exact ⟨k' + 1, by omega, by go_num, by rw [← part_not _ _ _ HW.out]; exact PMid.drewN HP.out _⟩); (case measure => simp [intOf]; omega))
    · have hge : (g.n : Int) ≤ (k' : Int) := by omega
      obtain rfl : k' = g.n := by omega
      clear hp
      go_wp2
      refine bodyPost_ret (v := gval { g with f := fx } (some ⟨b, 0, none⟩) cap) (by simp [results, Try.results56, go_sem, *]) rfl ?_
      rw [HX.out]
      exact ⟨b, cap, rfl, scr_set9 (HP.out.scr.congr fun i hi => (HFX.out i hi).symm) (by omega) _ _ _ _ _ _ _ _ _, HS.out.2, (fin9 ⟨HP.out.scr, HP.out.grown⟩ (by omega) hlt _ _ _ _ _ _ _ _ _).2, .inl rfl⟩

end Go.Proofs.Yteenppbpjdldgaa
