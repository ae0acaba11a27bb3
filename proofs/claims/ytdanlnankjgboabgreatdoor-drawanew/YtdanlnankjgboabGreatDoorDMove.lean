/- The pen moves. -/
import Derived.Test.YtdanlnankjgboabGreatDoorDFun
import Derived.Test.YtdanlnankjgboabGreatDoorDWrite
import Derived.Test.YtdanlnankjgboabGreatDoorDPures
import Derived.Deep.RegionHeld3
namespace Go.Proofs.YtdanlnankjgboabGreatDoor
open Go.RowKit
set_option maxRecDepth 100000

theorem undrew {w w1 : World} {B : Nat} (h : Below B w.drew w1) : Below B w w1 := ⟨h.os, h.tape, h.output, h.size, h.block⟩
theorem own_setD {w : World} {base n oc : Nat} {oo : Option Addr} {xs : List Value} (h : w.ownsRow base 5 1 (.slice oo n oc) n xs) {p : Addr} (hp : blkD oo ≠ some p.block) (u : Value) : (w.setCell p u).ownsRow base 5 1 (.slice oo n oc) n xs := by
  refine ⟨h.1, ?_⟩
  rcases h.2 with hn | ⟨g, c, cur, hv, hb, hg, rest⟩
  · exact .inl hn
  · refine .inr ⟨g, c, cur, hv, hb, ?_, rest⟩
    rw [Below.heap_setCell _ _ _ _ (fun e => hp (by simp only [Value.slice.injEq] at hv; rw [hv.1]; simp [blkD, e]))]
    exact hg
theorem Kept.set {w w1 : World} {pb b : Nat} {oo o1 : Option Addr} (h : Kept w w1 pb b oo o1) (j : Nat) (u : Value) : Kept w (w1.setCell ⟨pb, j, none⟩ u) pb b oo o1 :=
  ⟨h.os, h.tape, h.output, by have := h.size; simpa using this, fun k hk h1 h2 h3 => (Below.heap_setCell _ _ _ _ h1).trans (h.block k hk h1 h2 h3), h.fresh⟩

/-- The pen's box is written. -/
theorem PenTo.set2 {w w3 : World} {pb b cap : Nat} {oo : Option Addr} {l : List UInt8} {g x : Gr} (h : PenTo w pb b cap oo ⟨l, g⟩ w3) (i j : Nat) (u v : Value)
    (hn : x.n = g.n) (hf : x.f = g.f) (hx : ∀ oo oc, ((pcells l.length oo oc g b cap).setIfInBounds i u).setIfInBounds j v = pcells l.length oo oc x b cap) :
    PenTo w pb b cap oo ⟨l, x⟩ ((w3.setCell ⟨pb, i, none⟩ u).setCell ⟨pb, j, none⟩ v) := by
  obtain ⟨o', c', hp, hk⟩ := h
  refine ⟨o', c', ⟨?_, own_setD (own_setD hp.own hp.n2 _) hp.n2 _, ?_⟩, (hk.set i u).set j v⟩
  · rw [set_cells (set_cells hp.box _) _, hx]
  · show Scr _ b x.n x.f
    rw [hn, hf]
    exact (hp.scr.set hp.n1 _).set hp.n1 _

theorem PenTo.moved {w w3 : World} {pb b cap : Nat} {oo : Option Addr} {l : List UInt8} {g : Gr} (h : PenTo w pb b cap oo ⟨l, g⟩ w3) (r c : Int) :
    PenTo w pb b cap oo ⟨l, toG g r c⟩ ((w3.setCell ⟨pb, 4, none⟩ (.int .i64 r)).setCell ⟨pb, 5, none⟩ (.int .i64 c)) :=
  h.set2 4 5 _ _ rfl rfl (fun _ _ => rfl)

theorem up_len {g : Gr} (ok : OkG g) (r : Int) (h1 : 0 ≤ r) (h2 : r < g.high) : (bs (upDownD g r)).size ≤ 10 := by
  have := ok.h2
  have := ok.r1
  have := ok.r2
  rw [bs_size]
  unfold upDownD
  split
  · simp
  · split
    · have := len_times (r - g.row) (by omega) (by omega)
      simp; omega
    · split
      · have := len_times (g.row - r) (by omega) (by omega)
        simp; omega
      · simp

set_option maxHeartbeats 2000000 in
theorem move_any (pb b cap : Nat) (oo : Option Addr) (oc : Nat) (p : Pen) (ok : OkG p.g) (r c : Int) (h1 : 0 ≤ r) (h2 : r < p.g.high) (h3 : 0 ≤ c) (h4 : c < p.g.wide) (hl : p.out.length ≤ 1000000) (w : World) (h : PenIn w pb b cap oo oc p) :
    Calls Tryz.prog 26 #[.pointer (some ⟨pb, 0, none⟩), .int .i64 r, .int .i64 c] w fun e w' => e = .returned (.tuple #[]) ∧ PenTo w pb b cap oo (moveP p r c) w' := by
  have k1 := ok.w1
  have k2 := ok.w2
  have k3 := ok.h2
  have k4 := ok.r1
  have k5 := ok.r2
  have k6 := ok.c1
  have k7 := ok.c2
  have k8 := ok.t1
  have k9 := ok.t2
  have k10 := ok.t3
  obtain ⟨A, hA, HA⟩ : ∃ A : ByteArray, A.size ≤ 10 ∧ Hid (A = bs (upDownD p.g r)) := ⟨_, up_len ok r h1 h2, rfl⟩
  obtain ⟨B, hB, HB⟩ : ∃ B : ByteArray, B.size ≤ 10 ∧ Hid (B = bs (sideD p.g c)) := ⟨_, by rw [bs_size]; have := len_side ok c h3 h4; omega, rfl⟩
  obtain ⟨J, hJ, HJ⟩ : ∃ J : ByteArray, J.size ≤ 10 ∧ Hid (J = bs (jumpD r c)) := ⟨_, by rw [bs_size]; have := len_jump r c h1 (by omega) h3 (by omega); omega, rfl⟩
  obtain ⟨R, hR, HR⟩ : ∃ R : ByteArray, R.size ≤ 20 ∧ Hid (R = if J.size < (A ++ B).size then J else A ++ B) := ⟨_, by have := @ByteArray.size_append A B; split <;> omega, rfl⟩
  have HU : Hid (∀ w, Calls Tryz.prog 41 #[gval p.g (some ⟨b, 0, none⟩) cap, .int .i64 r] w fun e w' => e = .returned (.string A) ∧ Below w.heap.size w w') := fun w => by rw [HA.out]; exact upDown_any p.g _ _ r h1 (by omega) (by omega) (by omega) (by omega) (by omega) w
  have HS : Hid (∀ w, Calls Tryz.prog 42 #[gval p.g (some ⟨b, 0, none⟩) cap, .int .i64 c] w fun e w' => e = .returned (.string B) ∧ Below w.heap.size w w') := fun w => by rw [HB.out]; exact side_any p.g _ _ c h3 (by omega) (by omega) (by omega) (by omega) (by omega) w
  have HJJ : Hid (∀ w, Calls Tryz.prog 43 #[.int .i64 r, .int .i64 c] w fun e w' => e = .returned (.string J) ∧ w' = w) := fun w => by rw [HJ.out]; exact jump_any r c h1 (by omega) h3 (by omega) w
  have HSH : Hid (∀ w, Calls Tryz.prog 40 #[.string (A ++ B), .string J] w fun e w' => e = .returned (.string R) ∧ w' = w) := fun w => by rw [HR.out]; exact shorter_any (A ++ B) J (by simp; omega) (by omega) w
  have HM : Hid (R.data.toList = moveD p.g r c) := by
    show R.data.toList = moveD p.g r c
    rw [HR.out, HA.out, HB.out, HJ.out, bs_append, bs_size, bs_size]
    unfold moveD shorterD
    split <;> exact bs_list _
  have HWR : Hid (∀ w1, Below w.heap.size w w1 → Calls Tryz.prog 22 #[.pointer (some ⟨pb, 0, none⟩), .string R] w1 fun e w' => e = .returned (.tuple #[]) ∧ PenTo w pb b cap oo ⟨p.out ++ R.data.toList, p.g⟩ w') := fun w1 hb =>
    (write_any pb b cap oo oc p R w1 (h.later hb) (by omega)).mono fun e w' ⟨he, hk⟩ => ⟨he, PenTo.trans (Kept.below pb b oo hb) hk⟩
  have HBX : Hid (∀ w1, Below w.heap.size w w1 → w1.heap[pb]? = some (pbox p.out.length oo oc p.g b cap)) := fun w1 hb => below_block hb h.box h.lt
  obtain ⟨⟨_, c1, c2, c3, c4, c5, c6, c7, c8, c9⟩, cf⟩ := ten h.box
  have hAB : ¬ 9223372036854775807 < A.size + B.size := by omega
  clear ok h HA HB HJ HR
  go_enter Tryz.func26, Tryz.ntmps26
  go_wp2_with fail
  go_region_held3 (fun w' => w'.cell? ⟨pb, 1, none⟩ = some (.int .i64 p.g.wide) ∧ w'.cell? ⟨pb, 2, none⟩ = some (.int .i64 p.g.high) ∧ w'.cell? ⟨pb, 3, none⟩ = some (.slice (some ⟨b, 0, none⟩) p.g.n cap) ∧ w'.cell? ⟨pb, 4, none⟩ = some (.int .i64 p.g.row) ∧ w'.cell? ⟨pb, 5, none⟩ = some (.int .i64 p.g.col) ∧ w'.cell? ⟨pb, 6, none⟩ = some (.int .i64 p.g.ink) ∧ w'.cell? ⟨pb, 7, none⟩ = some (.bool p.g.bold) ∧ w'.cell? ⟨pb, 8, none⟩ = some (.int .i64 p.g.top) ∧ w'.cell? ⟨pb, 9, none⟩ = some (.int .i64 p.g.bottom)) (first | go_keep | (simp [*]))
    (first
    | (go_at_call 41; refine (HU.out _).mono ?_; rintro e w1 ⟨rfl, hb1⟩; have HB1 : Hid (Below w.heap.size w w1) := undrew hb1; clear hb1 c1 c2 c3 c4 c5 c6 c7 c8 c9 cf; obtain ⟨⟨_, c1, c2, c3, c4, c5, c6, c7, c8, c9⟩, cf⟩ := ten (HBX.out w1 HB1.out))
    | (go_at_call 42; refine (HS.out _).mono ?_; rintro e w2 ⟨rfl, hb2⟩; have HB2 : Hid (Below w.heap.size w w2) := HB1.out.trans (hb2.mono HB1.out.size); clear hb2 c1 c2 c3 c4 c5 c6 c7 c8 c9 cf; obtain ⟨⟨_, c1, c2, c3, c4, c5, c6, c7, c8, c9⟩, cf⟩ := ten (HBX.out w2 HB2.out))
    | (go_at_call 43; refine (HJJ.out _).mono ?_; rintro e w3 ⟨rfl, hw3⟩; subst hw3)
    | (go_at_call 40; refine (HSH.out _).mono ?_; rintro e w4 ⟨rfl, hw4⟩; subst hw4)
    | (go_at_call 22; refine (HWR.out _ HB2.out).mono ?_; rintro e w5 ⟨rfl, hk5⟩; have HP5 : Hid (PenTo w pb b cap oo ⟨p.out ++ R.data.toList, p.g⟩ w5) := hk5; clear c1 c2 c3 c4 c5 c6 c7 c8 c9 cf; obtain ⟨o5, q5, hp5, _⟩ := hk5; obtain ⟨⟨_, c1, c2, c3, c4, c5, c6, c7, c8, c9⟩, cf⟩ := ten hp5.box; clear hp5))
  have HE : Hid (PenTo w pb b cap oo (moveP p r c) ((w5.setCell ⟨pb, 4, none⟩ (.int .i64 r)).setCell ⟨pb, 5, none⟩ (.int .i64 c))) := by
    have := HP5.out
    rw [HM.out] at this
    exact this.moved r c
  clear HP5
  go_wp2
  go_end0
  exact ⟨rfl, HE.out⟩

end Go.Proofs.YtdanlnankjgboabGreatDoor
