/- What the document's own 'CopyGrid', 'SameGrid' and the law's 'shows' answer. -/
import Derived.Test.YteenppbpjdldgaaGTwo
namespace Go.Proofs.Yteenppbpjdldgaa
open Go.RowKit

theorem row_shape2 {w : World} {base n : Nat} {v : Value} {f : Nat → Cel} (h : w.ownsRow base 49 4 v n (flatC f n)) : ∃ ao cap, v = .slice ao n cap ∧ RdS w ao n f ∧ (0 < n → ∃ b, ao = some ⟨b, 0, none⟩ ∧ base ≤ b ∧ n ≤ cap ∧ Scr w b n f) ∧ (ao = none → n = 0 ∧ cap = 0) ∧ n ≤ cap := by
  rcases Nat.eq_zero_or_pos n with h0 | h0
  · subst h0
    rcases h.2 with ⟨hv, _⟩ | ⟨g, cap, cur, hv, _⟩
    · exact ⟨none, 0, hv, .inl rfl, fun h => absurd h (by omega), fun _ => ⟨rfl, rfl⟩, Nat.le_refl _⟩
    · exact ⟨_, _, hv, .inl rfl, fun h => absurd h (by omega), (fun h => by cases h), Nat.zero_le _⟩
  · obtain ⟨g, cap, hv, hb, hc, hs⟩ := scr_of_row h h0
    exact ⟨_, _, hv, hs.rd, fun _ => ⟨g, rfl, hb, hc, hs⟩, (fun h => by cases h), hc⟩

theorem flat_src {w : World} {a : Addr} {n : Nat} {f : Nat → Cel} (hr : RdS w (some a) n f) : ∀ j u, (flatC f n)[j]? = some u → w.cell? (a.add j) = some u := by
  intro j u hu
  have hj : j < n * 4 := by have := (List.getElem?_eq_some_iff.1 hu).1; rwa [flatC_length] at this
  rcases hr with h0 | ⟨b, off, ha, hc⟩
  · omega
  · simp only [Option.some.injEq] at ha
    subst ha
    have e : j = (j / 4) * 4 + j % 4 := by omega
    rw [add_at]
    obtain ⟨t0, t1, t2, t3⟩ := hc (j / 4) (by omega)
    rw [e, flatC_get f n _ _ (by omega) (by omega)] at hu
    rw [← hu]
    have h4 : j % 4 = 0 ∨ j % 4 = 1 ∨ j % 4 = 2 ∨ j % 4 = 3 := by omega
    rcases h4 with h | h | h | h
    · rw [h, show off + j = off + j / 4 * 4 by omega, t0]; rfl
    · rw [h, show off + j = off + j / 4 * 4 + 1 by omega, t1]; rfl
    · rw [h, show off + j = off + j / 4 * 4 + 2 by omega, t2]; rfl
    · rw [h, show off + j = off + j / 4 * 4 + 3 by omega, t3]; rfl

/-- A copy's ending. -/
def CopyEnd (w : World) (g : Gr) (e : Ending) (w' : World) : Prop :=
  ∃ ao cap, e = .returned (gval g ao cap) ∧ Copied w g.n g.f ao cap w' ∧ (ao = none → g.n = 0 ∧ cap = 0) ∧ g.n ≤ cap

theorem copied_out {w w1 : World} {n : Nat} {f : Nat → Cel} {ao : Option Addr} {cap : Nat} (hr : RdS w1 ao n f) (h2 : 0 < n → ∃ b, ao = some ⟨b, 0, none⟩ ∧ w.heap.size + 2 ≤ b ∧ n ≤ cap ∧ Scr w1 b n f) (hb : Below w.heap.size w w1) (u u0 u1 u2 u3 u4 u5 u6 u7 u8 : Value) :
    Copied w n f ao cap ((((((((((w1.setCell ⟨w.heap.size, 2, none⟩ u).setCell ⟨w.heap.size + 1, 0, none⟩ u0).setCell ⟨w.heap.size + 1, 1, none⟩ u1).setCell ⟨w.heap.size + 1, 2, none⟩ u2).setCell ⟨w.heap.size + 1, 3, none⟩ u3).setCell ⟨w.heap.size + 1, 4, none⟩ u4).setCell ⟨w.heap.size + 1, 5, none⟩ u5).setCell ⟨w.heap.size + 1, 6, none⟩ u6).setCell ⟨w.heap.size + 1, 7, none⟩ u7).setCell ⟨w.heap.size + 1, 8, none⟩ u8) := by
  have hbx := hb.setCell (p := ⟨w.heap.size, 2, none⟩) (Nat.le_refl _) u
  refine ⟨?_, ?_, below_set9 hbx (by omega) _ _ _ _ _ _ _ _ _⟩
  · rcases Nat.eq_zero_or_pos n with h1 | h1
    · exact .inl h1
    · obtain ⟨b, rfl, hb, _, hs⟩ := h2 h1
      exact (scr_set9 (hs.set (p := ⟨w.heap.size, 2, none⟩) (by simp; omega) _) (by omega) _ _ _ _ _ _ _ _ _).rd
  · intro h1
    obtain ⟨b, rfl, hb, hc, hs⟩ := h2 h1
    exact ⟨b, rfl, by omega, hc, scr_set9 (hs.set (p := ⟨w.heap.size, 2, none⟩) (by simp; omega) _) (by omega) _ _ _ _ _ _ _ _ _⟩

set_option maxHeartbeats 1000000 in
theorem copyGrid_some (g : Gr) (a : Addr) (cap : Nat) (w : World) (hr : RdS w (some a) g.n g.f) (hm : g.n ≤ 4398046511104) :
    Calls Try.prog 26 #[gval g (some a) cap] w (CopyEnd w g) := by
  obtain ⟨i0, hi, hz0, hz1, hz2⟩ := info_parts info49
  have HR : Hid (∀ j u, (flatC g.f g.n)[j]? = some u → ((w.alloc (gbox g (some a) cap)).alloc gzero).cell? (a.add j) = some u) := flat_src (hr.below (below2 w _ _))
  clear hr
  go_enter Try.func26, Try.ntmps26
  go_wp2_with (first | (at_builtin; refine wpList_append_own _ rfl _ _ 39 rfl (w.heap.size + 2) 49 i0 (.agg #[.int .i64 0, .int .i64 0, .int .i64 0, .bool false]) 4 32 Try.underlying39 hi hz0 hz1 hz2 rfl (by decide) _ 0 [] rfl (World.ownsRow_nil _ _ _ _) a g.n cap (flatC g.f g.n) rfl (flatC_length g.f g.n) HR.out (flatC_one g.f g.n) (by unfold maxLen; omega) (by omega) (by simp) ?_) | go_in)
  intro v' w1 hown hgrow _
  obtain ⟨ao, c, rfl, ho, ho2, ho3, ho4⟩ := row_shape2 hown
  obtain ⟨⟨x0, x1, x2, x3, x4, x5, x6, x7, x8⟩, z⟩ := nine (grown_block hgrow (at_old (at_new w _) _) (by simp [Value.ownBlock]))
  obtain ⟨⟨u0, u1, u2, u3, u4, u5, u6, u7, u8⟩, v⟩ := nine (grown_block hgrow (at_new1 w _ _) (by simp [Value.ownBlock]))
  have HB : Hid (Below w.heap.size w w1) := (below2 w _ _).grown hgrow (by simp; omega) (fun k hk => by simp [Value.ownBlock] at hk)
  have HO : Hid (RdS w1 ao g.n g.f ∧ (0 < g.n → ∃ b, ao = some ⟨b, 0, none⟩ ∧ w.heap.size + 2 ≤ b ∧ g.n ≤ c ∧ Scr w1 b g.n g.f) ∧ (ao = none → g.n = 0 ∧ c = 0) ∧ g.n ≤ c) := ⟨ho, ho2, ho3, ho4⟩
  clear hown hgrow ho ho2 ho3 ho4
  go_wp2
  refine bodyPost_ret (v := gval g ao c) (by simp [results, Try.results26, go_sem, *]) rfl ?_
  obtain ⟨o1, o2, o3, o4⟩ := HO.out
  exact ⟨ao, c, rfl, copied_out o1 o2 HB.out _ _ _ _ _ _ _ _ _ _, o3, o4⟩

set_option maxHeartbeats 1000000 in
theorem copyGrid_nil (g : Gr) (hn : g.n = 0) (w : World) : Calls Try.prog 26 #[gval g none 0] w (CopyEnd w g) := by
  obtain ⟨i0, hi, hz0, hz1, hz2⟩ := info_parts info49
  have hna := fun (ty : TypeId) (w : World) => run_append_owned_none (P := Try.prog) w 0 39 ty 49 i0 4 Try.underlying39 hi (.slice none 0 0) 0 [] (World.ownsRow_nil _ _ _ _)
  obtain ⟨wide, high, n, f, row, col, ink, bold, top, bottom⟩ := g
  simp only at hn
  subst hn
  go_enter Try.func26, Try.ntmps26
  go_wp2
  refine bodyPost_ret (v := gval ⟨wide, high, 0, f, row, col, ink, bold, top, bottom⟩ none 0) (by simp [results, Try.results26, go_sem]) rfl ?_
  exact ⟨none, 0, rfl, ⟨.inl rfl, fun h => absurd h (by simp), below2 _ _ _⟩, fun _ => ⟨rfl, rfl⟩, Nat.le_refl _⟩

theorem copyGrid_any (g : Gr) (ao : Option Addr) (cap : Nat) (w : World) (hr : RdS w ao g.n g.f) (hn : ao = none → g.n = 0 ∧ cap = 0) (hm : g.n ≤ 4398046511104) :
    Calls Try.prog 26 #[gval g ao cap] w (CopyEnd w g) := by
  cases ao with
  | none =>
    obtain ⟨h1, rfl⟩ := hn rfl
    exact copyGrid_nil g h1 w
  | some a => exact copyGrid_some g a cap w hr hm

/-- Two boxes, and the lists behind them. -/
structure PairR (w : World) (a b : Gr) (oa ob : Option Addr) (ca cb : Nat) (wr : World) : Prop where
  one : wr.heap[w.heap.size]? = some (gbox a oa ca)
  two : wr.heap[w.heap.size + 1]? = some (gbox b ob cb)
  ra : RdS wr oa a.n a.f
  rb : RdS wr ob b.n b.f
  below : Below w.heap.size w wr

theorem PairR.later {w : World} {a b : Gr} {oa ob : Option Addr} {ca cb : Nat} {wr w' : World} (h : PairR w a b oa ob ca cb wr) (hb : Below wr.heap.size wr w') : PairR w a b oa ob ca cb w' :=
  ⟨below_block hb h.one (Array.getElem?_eq_some_iff.1 h.one).1, below_block hb h.two (Array.getElem?_eq_some_iff.1 h.two).1, h.ra.below hb, h.rb.below hb, h.below.trans (hb.mono h.below.size)⟩

set_option maxHeartbeats 1000000 in
theorem sameCellsR_eq (a : Gr) (r2 c2 i2 : Int) (o2 : Bool) (t2 b2 : Int) (oa ob : Option Addr) (ca cb : Nat) (w : World) (ha : RdS w oa a.n a.f) (hb : RdS w ob a.n a.f) (hm : a.n ≤ 4398046511104) :
    Calls Try.prog 58 #[gval a oa ca, gval ⟨a.wide, a.high, a.n, a.f, r2, c2, i2, o2, t2, b2⟩ ob cb] w fun e w' => e = .returned (.bool true) ∧ Below w.heap.size w w' := by
  obtain ⟨b, hbb⟩ : ∃ b : Gr, b = ⟨a.wide, a.high, a.n, a.f, r2, c2, i2, o2, t2, b2⟩ := ⟨_, rfl⟩
  rw [← hbb]
  have e1 : b.wide = a.wide := by rw [hbb]
  have e2 : b.high = a.high := by rw [hbb]
  have e3 : b.n = a.n := by rw [hbb]
  have HF : Hid (b.f = a.f ∧ b.n = a.n) := by rw [hbb]; exact ⟨rfl, rfl⟩
  have HP : Hid (PairR w a b oa ob ca cb ((w.alloc (gbox a oa ca)).alloc (gbox b ob cb))) := by
    have hbel : Below w.heap.size w ((w.alloc (gbox a oa ca)).alloc (gbox b ob cb)) := (below1 _ _).alloc (by simp) _
    exact ⟨at_old (at_new w _) _, at_new1 w _ _, ha.below hbel, by rw [HF.out.1, HF.out.2]; exact hb.below hbel, hbel⟩
  clear hbb ha hb
  go_enter Try.func58, Try.ntmps58
  go_wp2
  go_loopw [30] (fun i wr => ∃ k : Nat, k ≤ a.n ∧ i = .int .i64 k ∧ PairR w a b oa ob ca cb wr) (fun i _ => a.n - (intOf i).toNat)
  case atStart => exact ⟨0, Nat.zero_le _, rfl, HP.out⟩
  case round =>
    obtain ⟨k, hk, rfl, hp⟩ := hrel
    have HQ : Hid (PairR w a b oa ob ca cb wr) := hp
    by_cases hlt : k < a.n
    · obtain ⟨⟨x0, x1, x2, x3, x4, x5, x6, x7, x8⟩, z⟩ := nine hp.one
      obtain ⟨⟨y0, y1, y2, y3, y4, y5, y6, y7, y8⟩, z3⟩ := nine hp.two
      have hra := hp.ra
      have hrb := hp.rb
      rw [HF.out.1, HF.out.2] at hrb
      obtain ⟨ba, fa, rfl, hca⟩ := hra.resolve_left (by omega)
      obtain ⟨bb, fb, rfl, hcb⟩ := hrb.resolve_left (by omega)
      obtain ⟨t0, t1, t2, t3⟩ := hca k hlt
      obtain ⟨s0, s1, s2, s3⟩ := hcb k hlt
      have hlt' : (k : Int) < (a.n : Int) := by omega
      have hk0 : (0 : Int) ≤ (k : Int) := by omega
      obtain ⟨y, hy⟩ : ∃ y, y = a.f k := ⟨_, rfl⟩
      rw [← hy] at t0 t1 t2 t3 s0 s1 s2 s3
      rw [e3] at y2
      clear hca hcb hra hrb hp hy e1 e2
      go_wp2_with fail
      go_quiet (fail)
      go_wp2
      go_roundw
      case rel => exact ⟨k + 1, by omega, by go_num, HQ.out.later (below_drewN (Below.refl _ _) _)⟩
      case measure => simp [intOf]; omega
    · clear hp
      go_wp2
      go_ret
      exact ⟨rfl, HQ.out.below⟩


set_option maxHeartbeats 1000000 in
theorem sameGrid_eq (a : Gr) (oa ob : Option Addr) (ca cb : Nat) (w : World) (ha : RdS w oa a.n a.f) (hb : RdS w ob a.n a.f) (hm : a.n ≤ 4398046511104) :
    Calls Try.prog 29 #[gval a oa ca, gval a ob cb] w fun e w' => e = .returned (.bool true) ∧ Below w.heap.size w w' := by
  have HS : Hid (∀ w, RdS w oa a.n a.f → RdS w ob a.n a.f → Calls Try.prog 58 #[gval a oa ca, gval a ob cb] w fun e w' => e = .returned (.bool true) ∧ Below w.heap.size w w') := fun w h1 h2 => sameCellsR_eq a a.row a.col a.ink a.bold a.top a.bottom oa ob ca cb w h1 h2 hm
  have HA : Hid (RdS w oa a.n a.f ∧ RdS w ob a.n a.f) := ⟨ha, hb⟩
  clear ha hb hm
  go_enter Try.func29, Try.ntmps29
  go_wp2_with (go_at_call 58; refine (HS.out _ (HA.out.1.below (below2 _ _ _)) (HA.out.2.below (below2 _ _ _))).mono ?_; rintro e w2 ⟨rfl, hb2⟩; have HB : Hid (Below w.heap.size w w2) := (below2 _ _ _).trans (hb2.mono (by simp; omega)); obtain ⟨⟨x0, x1, x2, x3, x4, x5, x6, x7, x8⟩, z⟩ := nine (below_block hb2 (at_old (at_new w _) _) (by simp; omega)); obtain ⟨⟨y0, y1, y2, y3, y4, y5, y6, y7, y8⟩, z3⟩ := nine (below_block hb2 (at_new1 w _ _) (by simp)); clear hb2)
  go_ret
  exact ⟨rfl, HB.out⟩

set_option maxHeartbeats 1000000 in
theorem showsL_any (w : World) : Calls Try.prog 32 #[] w fun e w' => e = .returned (.bool true) ∧ Below w.heap.size w w' := by
  have hE : ∀ w, (binOp .eql 49 (.agg #[.int .i64 120, .int .i64 0, .int .i64 0, .bool false]) (.agg #[.int .i64 120, .int .i64 0, .int .i64 0, .bool false])).run Try.prog w = .ok (.bool true) w := fun w => by
    have := eql_cell ⟨120, 0, 0, false⟩ ⟨120, 0, 0, false⟩ w
    simpa [celB] using this
  obtain ⟨x, hx⟩ : ∃ x, x = new32 := ⟨_, rfl⟩
  obtain ⟨y, hy⟩ : ∃ y, y = putG new32 120 := ⟨_, rfl⟩
  have HN : Hid (∀ w, Calls Try.prog 35 #[.int .i64 3, .int .i64 2] w fun e w' => ∃ b, e = .returned (gval x (some ⟨b, 0, none⟩) x.n) ∧ Scr w' b x.n x.f ∧ w.heap.size ≤ b ∧ Below w.heap.size w w') := fun w => new_any 3 2 w x hx
  have HD : Hid (∀ w b, Scr w b x.n x.f → Calls Try.prog 27 #[gval x (some ⟨b, 0, none⟩) x.n, .agg #[.int .i64 1, .int .i64 120, .slice none 0 0, .string ⟨#[]⟩]] w (AllEnd w (y, 0))) := by
    intro w b hs
    have := do_any x (some ⟨b, 0, none⟩) x.n (evPrint 120) none 0 w hs.rd (fun h => by cases h) (by rw [hx]; decide) (.inl rfl) (fun h => doneOk_print 120 none 0 h) (y, 0) (by rw [hx, hy]; exact new32_act.symm)
    exact this
  have hyn : y.n = 6 := by rw [hy]; decide
  have hyc : y.col = 1 := by rw [hy]; decide
  have HY0 : Hid (y.f 0 = ⟨120, 0, 0, false⟩) := by show y.f 0 = _; rw [hy]; exact (celB_iff _ _).1 (by decide)
  clear hx hy
  go_enter Try.func32, Try.ntmps32
  go_wp2_with (first
    | (go_at_call 35; refine (HN.out _).mono ?_; rintro e w1 ⟨b, rfl, hs, _, hb1⟩; have HS : Hid (Scr w1 b x.n x.f) := hs; have HB : Hid (Below w.heap.size w w1) := hb1; clear hs hb1)
    | (go_at_call 27; refine (HD.out _ b HS.out).mono ?_; rintro e w2 ⟨ao, cap, rfl, hcp⟩; rw [hyn] at hcp; obtain ⟨b2, rfl, hb2, _, hs2⟩ := hcp.2.1 (by omega); have hlt := hs2.lt; obtain ⟨t0, t1, t2, t3⟩ := hs2.cells 0 (by omega); rw [HY0.out] at t0 t1 t2 t3; simp only [Nat.zero_mul, Nat.zero_add] at t0 t1 t2 t3; have HB2 : Hid (Below w.heap.size w w2) := HB.out.trans (hcp.2.2.mono HB.out.size); clear hcp hs2))
  go_ret
  exact ⟨rfl, HB2.out.alloc HB2.out.size _⟩

end Go.Proofs.Yteenppbpjdldgaa
