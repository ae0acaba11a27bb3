/- The pen moves. -/
import Derived.Test.YtpichplhidiokabDoorDFun
import Derived.Test.YtpichplhidiokabDoorDWrite
import Derived.Test.YtpichplhidiokabDoorDPures
import Derived.Deep.RegionHeld3
import Derived.Deep.QuietTactic
import Derived.BigQuiet
namespace Go.Proofs.YtpichplhidiokabDoor
open Go.RowKit
set_option maxRecDepth 100000

theorem undrew {w w1 : World} {B : Nat} (h : Below B w.drew w1) : Below B w w1 := ⟨h.os, h.tape, h.output, h.size, h.block⟩
theorem own_setD {w : World} {base n oc : Nat} {oo : Option Addr} {xs : List Value} (h : w.ownsRow base 5 1 (.slice oo n oc) n xs) {p : Addr} (hp : blkD oo ≠ some p.block) (u : Value) : (w.setCell p u).ownsRow base 5 1 (.slice oo n oc) n xs := by
  refine ⟨h.1, ?_⟩
  rcases h.2 with hn | ⟨g, c, cur, hv, hb, hg, rest⟩
  · exact .inl hn
  · refine .inr ⟨g, c, cur, hv, hb, ?_, rest⟩
    rw [Below.heap_setCell _ _ _ _ (fun e => hp (by simp only [Value.slice.injEq] at hv; rw [hv.1]; simp [blkD, e]))]
    exact hg
theorem Kept.set {w w1 : World} {pb b : Nat} {oo o1 : Option Addr} (h : Kept w w1 pb b oo o1) (j : Nat) (u : Value) : Kept w (w1.setCell ⟨pb, j, none⟩ u) pb b oo o1 :=
  ⟨h.os, h.tape, h.output, by have := h.size; simpa using this, fun k hk h1 h2 h3 => (Below.heap_setCell _ _ _ _ h1).trans (h.block k hk h1 h2 h3), h.fresh⟩

/-- The pen's box is written. -/
theorem PenTo.set2 {w w3 : World} {pb b cap : Nat} {oo : Option Addr} {l : List UInt8} {g x : Gr} (h : PenTo w pb b cap oo ⟨l, g⟩ w3) (i j : Nat) (u v : Value)
    (hn : x.n = g.n) (hf : x.f = g.f) (hx : ∀ oo oc, ((pcells l.length oo oc g b cap).setIfInBounds i u).setIfInBounds j v = pcells l.length oo oc x b cap) :
    PenTo w pb b cap oo ⟨l, x⟩ ((w3.setCell ⟨pb, i, none⟩ u).setCell ⟨pb, j, none⟩ v) := by
  obtain ⟨o', c', hp, hk⟩ := h
  refine ⟨o', c', ⟨?_, own_setD (own_setD hp.own hp.n2 _) hp.n2 _, ?_⟩, (hk.set i u).set j v⟩
  · rw [set_cells (set_cells hp.box _) _, hx]
  · show Scr _ b x.n x.f
    rw [hn, hf]
    exact (hp.scr.set hp.n1 _).set hp.n1 _

theorem PenTo.moved {w w3 : World} {pb b cap : Nat} {oo : Option Addr} {l : List UInt8} {g : Gr} (h : PenTo w pb b cap oo ⟨l, g⟩ w3) (r c : Int) :
    PenTo w pb b cap oo ⟨l, toG g r c⟩ ((w3.setCell ⟨pb, 4, none⟩ (.int .i64 r)).setCell ⟨pb, 5, none⟩ (.int .i64 c)) :=
  h.set2 4 5 _ _ rfl rfl (fun _ _ => rfl)

theorem PenTo.drew {w w' : World} {pb b cap : Nat} {oo : Option Addr} {q : Pen} (h : PenTo w pb b cap oo q w') : PenTo w pb b cap oo q w'.drew := by
  obtain ⟨o', c', a, k⟩ := h
  exact ⟨o', c', ⟨a.box, a.own.drew, a.scr⟩, ⟨k.os, k.tape, k.output, k.size, k.block, k.fresh⟩⟩

/-- A call of the pen's in a later world: what came since is as it was, too. -/
theorem at_later {w w1 w' : World} {pb b cap : Nat} {oo : Option Addr} {oc : Nat} {p q : Pen} (h : PenIn w pb b cap oo oc p) (hb : Below w.heap.size w w1) (hk : PenTo w1 pb b cap oo q w') : PenTo w pb b cap oo q w' ∧ ∀ k, w.heap.size ≤ k → k < w1.heap.size → w'.heap[k]? = w1.heap[k]? := by
  refine ⟨PenTo.trans (Kept.below pb b oo hb) hk, fun k h1 h2 => ?_⟩
  obtain ⟨_, _, _, z⟩ := hk
  exact z.block k h2 (by have := h.lt; omega) (by have := h.blt; omega) (fun e => by have := h.olt e; omega)
theorem write_at {w w1 : World} {pb b cap : Nat} {oo : Option Addr} {oc : Nat} {p : Pen} (h : PenIn w pb b cap oo oc p) (hb : Below w.heap.size w w1) (S : ByteArray) (hS : p.out.length + S.size ≤ 1048576) (l : List UInt8) (hl : S.data.toList = l) :
    Calls Tryd.prog 27 #[.pointer (some ⟨pb, 0, none⟩), .string S] w1 fun e w' => e = .returned (.tuple #[]) ∧ PenTo w pb b cap oo ⟨p.out ++ l, p.g⟩ w' ∧ ∀ k, w.heap.size ≤ k → k < w1.heap.size → w'.heap[k]? = w1.heap[k]? := by
  subst hl
  exact (write_any pb b cap oo oc p S w1 (h.later hb) hS).mono fun e w' hk => ⟨hk.1, at_later h hb hk.2⟩

set_option maxHeartbeats 2000000 in
theorem move_same (pb b cap : Nat) (oo : Option Addr) (oc : Nat) (p : Pen) (r c : Int) (hr : p.g.row = r) (hc : p.g.col = c) (w : World) (h : PenIn w pb b cap oo oc p) :
    Calls Tryd.prog 22 #[.pointer (some ⟨pb, 0, none⟩), .int .i64 r, .int .i64 c] w fun e w' => e = .returned (.tuple #[]) ∧ PenTo w pb b cap oo (moveP p r c) w' := by
  have HE : Hid (PenTo w pb b cap oo (moveP p r c) w) := by
    have e : moveP p r c = p := by
      unfold moveP moveD
      rw [if_pos ⟨hr, hc⟩, ← hr, ← hc]
      simp [toG]
    rw [e]
    exact h.stay (Below.refl _ _)
  have e1 : (p.g.row == r) = true := by simpa using hr
  have e2 : (p.g.col == c) = true := by simpa using hc
  obtain ⟨⟨c0, c1, c2, c3, c4, c5, c6, c7, c8, c9⟩, cf⟩ := ten h.box
  have hlt := h.lt
  clear h hr hc
  go_enter Tryd.func22, Tryd.ntmps22
  go_wp2
  exact bodyPost_ret (v := .tuple #[]) (by simp [results, Tryd.results22, go_sem]) rfl ⟨rfl, HE.out⟩

set_option maxHeartbeats 2000000 in
theorem move_other (pb b cap : Nat) (oo : Option Addr) (oc : Nat) (p : Pen) (r c : Int) (h1 : 0 ≤ r) (h2 : r < 90) (h3 : 0 ≤ c) (h4 : c < 90) (hs : ¬ (p.g.row = r ∧ p.g.col = c)) (hl : p.out.length ≤ 1000000) (w : World) (h : PenIn w pb b cap oo oc p) :
    Calls Tryd.prog 22 #[.pointer (some ⟨pb, 0, none⟩), .int .i64 r, .int .i64 c] w fun e w' => e = .returned (.tuple #[]) ∧ PenTo w pb b cap oo (moveP p r c) w' := by
  obtain ⟨T, hT, HT, HC⟩ := itoa_letter (r + 1) (by omega) (by omega)
  obtain ⟨U, hU, HU, HD⟩ := itoa_letter (c + 1) (by omega) (by omega)
  have HM : Hid (moveD p.g r c = 27 :: 91 :: (Ps.dec (r + 1).toNat ++ 59 :: (Ps.dec (c + 1).toNat ++ [72]))) := by show moveD p.g r c = _; unfold moveD; rw [if_neg hs]; rfl
  have HWR : Hid (∀ w1, Below w.heap.size w w1 → Calls Tryd.prog 27 #[.pointer (some ⟨pb, 0, none⟩), .string (⟨#[27, 91]⟩ ++ T ++ ⟨#[59]⟩ ++ U ++ ⟨#[72]⟩)] w1 fun e w' => e = .returned (.tuple #[]) ∧ PenTo w pb b cap oo ⟨p.out ++ moveD p.g r c, p.g⟩ w' ∧ ∀ k, w.heap.size ≤ k → k < w1.heap.size → w'.heap[k]? = w1.heap[k]?) := fun w1 hb => write_at h hb _ (by simp only [ByteArray.size_append]; show p.out.length + (2 + T.size + 1 + U.size + 1) ≤ _; omega) _ (by rw [HM.out, HT.out, HU.out]; simp)
  have HE : Hid (∀ w5, PenTo w pb b cap oo ⟨p.out ++ moveD p.g r c, p.g⟩ w5 → PenTo w pb b cap oo (moveP p r c) ((w5.setCell ⟨pb, 4, none⟩ (.int .i64 r)).setCell ⟨pb, 5, none⟩ (.int .i64 c))) := fun w5 h5 => h5.moved r c
  have e1 : ¬ 9223372036854775807 < 2 + T.size := by omega
  have e2 : ¬ 9223372036854775807 < 2 + T.size + 1 := by omega
  have e3 : ¬ 9223372036854775807 < 2 + T.size + 1 + U.size := by omega
  have e4 : ¬ 9223372036854775807 < 2 + T.size + 1 + U.size + 1 := by omega
  have HBX : Hid (∀ w1, Below w.heap.size w w1 → w1.heap[pb]? = some (pbox p.out.length oo oc p.g b cap)) := fun w1 hb => below_block hb h.box h.lt
  obtain ⟨⟨c0, c1, c2, c3, c4, c5, c6, c7, c8, c9⟩, cf⟩ := ten h.box
  have hlt := h.lt
  clear h HT HU HM hl
  have hor : (p.g.row == r) = true ∧ (p.g.col == c) = false ∨ (p.g.row == r) = false := by
    by_cases hi : p.g.row = r
    · exact .inl ⟨by simpa using hi, by simpa [hi] using hs⟩
    · exact .inr (by simpa using hi)
  clear hs
  rcases hor with ⟨f1, f2⟩ | f1
  all_goals (
    go_enter Tryd.func22, Tryd.ntmps22
    go_wp2_with (first
      | (go_at_call 28; have _t := HC; refine (HC.out _).mono ?_; rintro e w1 ⟨rfl, hw1⟩; subst w1; clear HC _t)
      | (go_at_call 28; refine (HD.out _).mono ?_; rintro e w2 ⟨rfl, hw2⟩; subst w2)
      | (go_at_call 27; refine (HWR.out _ (Below.refl _ _)).mono ?_; rintro e w5 ⟨rfl, hk5, _⟩; clear c0 c1 c2 c3 c4 c5 c6 c7 c8 c9 cf; have HP5 : Hid (PenTo w pb b cap oo ⟨p.out ++ moveD p.g r c, p.g⟩ w5) := hk5; obtain ⟨o5, q5, hp5, _⟩ := hk5; obtain ⟨⟨c0, c1, c2, c3, c4, c5, c6, c7, c8, c9⟩, cf⟩ := ten hp5.box; clear hp5))
    have HE5 : Hid (PenTo w pb b cap oo (moveP p r c) ((w5.setCell ⟨pb, 4, none⟩ (.int .i64 r)).setCell ⟨pb, 5, none⟩ (.int .i64 c))) := HE.out w5 HP5.out
    go_end0
    exact ⟨rfl, HE5.out⟩)

/-- The pen moves. -/
theorem move_any (pb b cap : Nat) (oo : Option Addr) (oc : Nat) (p : Pen) (ok : OkG p.g) (r c : Int) (h1 : 0 ≤ r) (h2 : r < p.g.high) (h3 : 0 ≤ c) (h4 : c < p.g.wide) (hl : p.out.length ≤ 1000000) (w : World) (h : PenIn w pb b cap oo oc p) :
    Calls Tryd.prog 22 #[.pointer (some ⟨pb, 0, none⟩), .int .i64 r, .int .i64 c] w fun e w' => e = .returned (.tuple #[]) ∧ PenTo w pb b cap oo (moveP p r c) w' := by
  have k1 := ok.w2
  have k2 := ok.h2
  by_cases hs : p.g.row = r ∧ p.g.col = c
  · exact move_same pb b cap oo oc p r c hs.1 hs.2 w h
  · exact move_other pb b cap oo oc p r c h1 (by omega) h3 (by omega) hs hl w h

end Go.Proofs.YtpichplhidiokabDoor
