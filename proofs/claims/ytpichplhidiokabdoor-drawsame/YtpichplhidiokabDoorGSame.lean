/- What 'sameCells' answers where two screens' sides and cells are alike: true; it changes nothing. -/
import Derived.Test.YtpichplhidiokabDoorGNew
namespace Go.Proofs.YtpichplhidiokabDoor
open Go.RowKit

/-- Two boxes, and the lists behind them. -/
structure Pair (w : World) (a b : Gr) (oa ob : Option Addr) (ca cb : Nat) (wr : World) : Prop where
  one : wr.heap[w.heap.size]? = some (gbox a oa ca)
  two : wr.heap[w.heap.size + 1]? = some (gbox b ob cb)
  ra : RdS wr oa a.n a.f
  rb : RdS wr ob b.n b.f
  below : Below w.heap.size w wr

theorem Pair.later {w : World} {a b : Gr} {oa ob : Option Addr} {ca cb : Nat} {wr w' : World} (h : Pair w a b oa ob ca cb wr) (hb : Below wr.heap.size wr w') : Pair w a b oa ob ca cb w' :=
  ⟨below_block hb h.one (Array.getElem?_eq_some_iff.1 h.one).1, below_block hb h.two (Array.getElem?_eq_some_iff.1 h.two).1, h.ra.below hb, h.rb.below hb, h.below.trans (hb.mono h.below.size)⟩

set_option maxHeartbeats 1000000 in
theorem sameCells_eq (a : Gr) (r2 c2 i2 : Int) (o2 : Bool) (t2 b2 : Int) (oa ob : Option Addr) (ca cb : Nat) (w : World) (ha : RdS w oa a.n a.f) (hb : RdS w ob a.n a.f) (hm : a.n ≤ 4398046511104) :
    Calls Tryd.prog 15 #[gval a oa ca, gval ⟨a.wide, a.high, a.n, a.f, r2, c2, i2, o2, t2, b2⟩ ob cb] w fun e w' => e = .returned (.bool true) ∧ Below w.heap.size w w' := by
  obtain ⟨b, hbb⟩ : ∃ b : Gr, b = ⟨a.wide, a.high, a.n, a.f, r2, c2, i2, o2, t2, b2⟩ := ⟨_, rfl⟩
  rw [← hbb]
  have e1 : b.wide = a.wide := by rw [hbb]
  have e2 : b.high = a.high := by rw [hbb]
  have e3 : b.n = a.n := by rw [hbb]
  have HF : Hid (b.f = a.f ∧ b.n = a.n) := by rw [hbb]; exact ⟨rfl, rfl⟩
  have HP : Hid (Pair w a b oa ob ca cb ((w.alloc (gbox a oa ca)).alloc (gbox b ob cb))) := by
    have hbel : Below w.heap.size w ((w.alloc (gbox a oa ca)).alloc (gbox b ob cb)) := (below1 _ _).alloc (by simp) _
    exact ⟨at_old (at_new w _) _, at_new1 w _ _, ha.below hbel, by rw [HF.out.1, HF.out.2]; exact hb.below hbel, hbel⟩
  clear hbb ha hb
  go_enter Tryd.func15, Tryd.ntmps15
  go_wp2
  go_loopw [30] (fun i wr => ∃ k : Nat, k ≤ a.n ∧ i = .int .i64 k ∧ Pair w a b oa ob ca cb wr) (fun i _ => a.n - (intOf i).toNat)
  case atStart => exact ⟨0, Nat.zero_le _, rfl, HP.out⟩
  case round =>
    obtain ⟨k, hk, rfl, hp⟩ := hrel
    have HQ : Hid (Pair w a b oa ob ca cb wr) := hp
    by_cases hlt : k < a.n
    · obtain ⟨⟨x0, x1, x2, x3, x4, x5, x6, x7, x8⟩, z⟩ := nine hp.one
      obtain ⟨⟨y0, y1, y2, y3, y4, y5, y6, y7, y8⟩, z3⟩ := nine hp.two
      have hra := hp.ra
      have hrb := hp.rb
      rw [HF.out.1, HF.out.2] at hrb
      obtain ⟨ba, fa, rfl, hca⟩ := hra.resolve_left (by omega)
      obtain ⟨bb, fb, rfl, hcb⟩ := hrb.resolve_left (by omega)
      obtain ⟨t0, t1, t2, t3⟩ := hca k hlt
      obtain ⟨s0, s1, s2, s3⟩ := hcb k hlt
      have hlt' : (k : Int) < (a.n : Int) := by omega
      have hk0 : (0 : Int) ≤ (k : Int) := by omega
      obtain ⟨y, hy⟩ : ∃ y, y = a.f k := ⟨_, rfl⟩
      rw [← hy] at t0 t1 t2 t3 s0 s1 s2 s3
      rw [e3] at y2
      clear hca hcb hra hrb hp hy e1 e2
      go_wp2_with fail
      go_quiet (fail)
      go_wp2
      go_roundw
      case rel => exact ⟨k + 1, by omega, by go_num, HQ.out.later (below_drewN (Below.refl _ _) _)⟩
      case measure => simp [intOf]; omega
    · clear hp
      go_wp2
      go_ret
      exact ⟨rfl, HQ.out.below⟩

end Go.Proofs.YtpichplhidiokabDoor
