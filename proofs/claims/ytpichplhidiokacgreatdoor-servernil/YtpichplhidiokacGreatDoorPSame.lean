/- What the document's own 'SameGrid' answers of two screens that are alike. -/
import Derived.Test.YtpichplhidiokacGreatDoorPBase
import Derived.Test.YtpichplhidiokacGreatDoorGNew
import Derived.Deep.QuietTactic
import Derived.BigQuiet
namespace Go.Proofs.YtpichplhidiokacGreatDoor.Pt
open Go.RowKit
open Go.Proofs.YtpichplhidiokacGreatDoor.Tl (below2)

/-- Two boxes, and the lists behind them. -/
structure PairR (w : World) (a b : Gr) (oa ob : Option Addr) (ca cb : Nat) (wr : World) : Prop where
  one : wr.heap[w.heap.size]? = some (gbox a oa ca)
  two : wr.heap[w.heap.size + 1]? = some (gbox b ob cb)
  ra : RdS wr oa a.n a.f
  rb : RdS wr ob b.n b.f
  below : Below w.heap.size w wr

theorem PairR.later {w : World} {a b : Gr} {oa ob : Option Addr} {ca cb : Nat} {wr w' : World} (h : PairR w a b oa ob ca cb wr) (hb : Below wr.heap.size wr w') : PairR w a b oa ob ca cb w' :=
  ⟨below_block hb h.one (Array.getElem?_eq_some_iff.1 h.one).1, below_block hb h.two (Array.getElem?_eq_some_iff.1 h.two).1, h.ra.below hb, h.rb.below hb, h.below.trans (hb.mono h.below.size)⟩

set_option maxHeartbeats 1000000 in
theorem sameCellsR_eq (a : Gr) (r2 c2 i2 : Int) (o2 : Bool) (t2 b2 : Int) (oa ob : Option Addr) (ca cb : Nat) (w : World) (ha : RdS w oa a.n a.f) (hb : RdS w ob a.n a.f) (hm : a.n ≤ 4398046511104) :
    Calls Tryz.prog 75 #[gval a oa ca, gval ⟨a.wide, a.high, a.n, a.f, r2, c2, i2, o2, t2, b2⟩ ob cb] w fun e w' => e = .returned (.bool true) ∧ Below w.heap.size w w' := by
  obtain ⟨b, hbb⟩ : ∃ b : Gr, b = ⟨a.wide, a.high, a.n, a.f, r2, c2, i2, o2, t2, b2⟩ := ⟨_, rfl⟩
  rw [← hbb]
  have e1 : b.wide = a.wide := by rw [hbb]
  have e2 : b.high = a.high := by rw [hbb]
  have e3 : b.n = a.n := by rw [hbb]
  have HF : Hid (b.f = a.f ∧ b.n = a.n) := by rw [hbb]; exact ⟨rfl, rfl⟩
  have HP : Hid (PairR w a b oa ob ca cb ((w.alloc (gbox a oa ca)).alloc (gbox b ob cb))) := by
    have hbel : Below w.heap.size w ((w.alloc (gbox a oa ca)).alloc (gbox b ob cb)) := (below1 _ _).alloc (by simp) _
    exact ⟨at_old (at_new w _) _, at_new1 w _ _, ha.below hbel, by rw [HF.out.1, HF.out.2]; exact hb.below hbel, hbel⟩
  clear hbb ha hb
  go_enter Tryz.func75, Tryz.ntmps75
  go_wp2
  go_loopw [30] (fun i wr => ∃ k : Nat, k ≤ a.n ∧ i = .int .i64 k ∧ PairR w a b oa ob ca cb wr) (fun i _ => a.n - (intOf i).toNat)
  case atStart => exact ⟨0, Nat.zero_le _, rfl, HP.out⟩
  case round =>
    obtain ⟨k, hk, rfl, hp⟩ := hrel
    have HQ : Hid (PairR w a b oa ob ca cb wr) := hp
    by_cases hlt : k < a.n
    · obtain ⟨⟨x0, x1, x2, x3, x4, x5, x6, x7, x8⟩, z⟩ := nine hp.one
      obtain ⟨⟨y0, y1, y2, y3, y4, y5, y6, y7, y8⟩, z3⟩ := nine hp.two
      have hra := hp.ra
      have hrb := hp.rb
      rw [HF.out.1, HF.out.2] at hrb
      obtain ⟨ba, fa, rfl, hca⟩ := hra.resolve_left (by omega)
      obtain ⟨bb, fb, rfl, hcb⟩ := hrb.resolve_left (by omega)
      obtain ⟨t0, t1, t2, t3⟩ := hca k hlt
      obtain ⟨s0, s1, s2, s3⟩ := hcb k hlt
      have hlt' : (k : Int) < (a.n : Int) := by omega
      have hk0 : (0 : Int) ≤ (k : Int) := by omega
      obtain ⟨y, hy⟩ : ∃ y, y = a.f k := ⟨_, rfl⟩
      rw [← hy] at t0 t1 t2 t3 s0 s1 s2 s3
      rw [e3] at y2
      clear hca hcb hra hrb hp hy e1 e2
      go_wp2_with fail
      go_quiet (fail)
      go_wp2
      go_roundw
      case rel => exact ⟨k + 1, by omega, by go_num, HQ.out.later (below_drewN (Below.refl _ _) _)⟩
      case measure => simp [intOf]; omega
    · clear hp
      go_wp2
      go_ret
      exact ⟨rfl, HQ.out.below⟩


set_option maxHeartbeats 1000000 in
theorem sameGrid_eq (a : Gr) (oa ob : Option Addr) (ca cb : Nat) (w : World) (ha : RdS w oa a.n a.f) (hb : RdS w ob a.n a.f) (hm : a.n ≤ 4398046511104) :
    Calls Tryz.prog 42 #[gval a oa ca, gval a ob cb] w fun e w' => e = .returned (.bool true) ∧ Below w.heap.size w w' := by
  have HS : Hid (∀ w, RdS w oa a.n a.f → RdS w ob a.n a.f → Calls Tryz.prog 75 #[gval a oa ca, gval a ob cb] w fun e w' => e = .returned (.bool true) ∧ Below w.heap.size w w') := fun w h1 h2 => sameCellsR_eq a a.row a.col a.ink a.bold a.top a.bottom oa ob ca cb w h1 h2 hm
  have HA : Hid (RdS w oa a.n a.f ∧ RdS w ob a.n a.f) := ⟨ha, hb⟩
  clear ha hb hm
  go_enter Tryz.func42, Tryz.ntmps42
  go_wp2_with (go_at_call 75; refine (HS.out _ (HA.out.1.below (below2 _ _ _)) (HA.out.2.below (below2 _ _ _))).mono ?_; rintro e w2 ⟨rfl, hb2⟩; have HB : Hid (Below w.heap.size w w2) := (below2 _ _ _).trans (hb2.mono (by simp; omega)); obtain ⟨⟨x0, x1, x2, x3, x4, x5, x6, x7, x8⟩, z⟩ := nine (below_block hb2 (at_old (at_new w _) _) (by simp; omega)); obtain ⟨⟨y0, y1, y2, y3, y4, y5, y6, y7, y8⟩, z3⟩ := nine (below_block hb2 (at_new1 w _ _) (by simp)); clear hb2)
  go_ret
  exact ⟨rfl, HB.out⟩

end Go.Proofs.YtpichplhidiokacGreatDoor.Pt
