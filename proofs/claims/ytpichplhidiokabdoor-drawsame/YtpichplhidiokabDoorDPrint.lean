/- The pen prints a letter. -/
import Derived.Test.YtpichplhidiokabDoorDNums3
import Derived.Test.YtpichplhidiokabDoorDCells
import Derived.Test.YtpichplhidiokabDoorGPut
import Derived.Laws.Runes
namespace Go.Proofs.YtpichplhidiokabDoor
open Go.RowKit
set_option maxRecDepth 100000

theorem Kept.setb {w w1 : World} {pb b : Nat} {oo o1 : Option Addr} (h : Kept w w1 pb b oo o1) (j : Nat) (u : Value) : Kept w (w1.setCell ⟨b, j, none⟩ u) pb b oo o1 :=
  ⟨h.os, h.tape, h.output, by have := h.size; simpa using this, fun k hk h1 h2 h3 => (Below.heap_setCell _ _ _ _ h2).trans (h.block k hk h1 h2 h3), h.fresh⟩
theorem PenTo.alloc {w w' : World} {pb b cap : Nat} {oo : Option Addr} {q : Pen} (h : PenTo w pb b cap oo q w') (o : Obj) : PenTo w pb b cap oo q (w'.alloc o) := by
  obtain ⟨o', c', a, k⟩ := h
  exact ⟨o', c', a.later (below1 _ _), k.trans (Kept.below pb b o' (below1 _ _))⟩

/-- One cell of the screen is written. -/
theorem PenIn.put {w : World} {pb b cap : Nat} {oo : Option Addr} {oc : Nat} {l : List UInt8} {y : Gr} (h : PenIn w pb b cap oo oc ⟨l, y⟩) (i o0 o1 o2 o3 : Nat) (c : Cel) (hi : i < y.n) (e0 : o0 = i * 4) (e1 : o1 = i * 4 + 1) (e2 : o2 = i * 4 + 2) (e3 : o3 = i * 4 + 3) :
    PenIn ((((w.setCell ⟨b, o0, none⟩ (.int .i64 c.ch)).setCell ⟨b, o1, none⟩ (.int .i64 c.ink)).setCell ⟨b, o2, none⟩ (.int .i64 c.pic)).setCell ⟨b, o3, none⟩ (.bool c.bold)) pb b cap oo oc ⟨l, { y with f := putF y.f i c }⟩ :=
  ⟨other_set (other_set (other_set (other_set h.box h.n1) h.n1) h.n1) h.n1, own_setD (own_setD (own_setD (own_setD h.own h.n3 _) h.n3 _) h.n3 _) h.n3 _, h.scr.put i o0 o1 o2 o3 c hi e0 e1 e2 e3⟩
theorem PenTo.put {w w2 : World} {pb b cap : Nat} {oo : Option Addr} {l : List UInt8} {y : Gr} (h : PenTo w pb b cap oo ⟨l, y⟩ w2) (i o0 o1 o2 o3 : Nat) (c : Cel) (hi : i < y.n) (e0 : o0 = i * 4) (e1 : o1 = i * 4 + 1) (e2 : o2 = i * 4 + 2) (e3 : o3 = i * 4 + 3) :
    PenTo w pb b cap oo ⟨l, { y with f := putF y.f i c }⟩ ((((w2.setCell ⟨b, o0, none⟩ (.int .i64 c.ch)).setCell ⟨b, o1, none⟩ (.int .i64 c.ink)).setCell ⟨b, o2, none⟩ (.int .i64 c.pic)).setCell ⟨b, o3, none⟩ (.bool c.bold)) := by
  obtain ⟨o', c', a, k⟩ := h
  exact ⟨o', c', a.put i o0 o1 o2 o3 c hi e0 e1 e2 e3, (((k.setb _ _).setb _ _).setb _ _).setb _ _⟩
theorem PenTo.set1 {w w3 : World} {pb b cap : Nat} {oo : Option Addr} {l : List UInt8} {g x : Gr} (h : PenTo w pb b cap oo ⟨l, g⟩ w3) (i : Nat) (u : Value)
    (hn : x.n = g.n) (hf : x.f = g.f) (hx : ∀ oo oc, (pcells l.length oo oc g b cap).setIfInBounds i u = pcells l.length oo oc x b cap) : PenTo w pb b cap oo ⟨l, x⟩ (w3.setCell ⟨pb, i, none⟩ u) := by
  obtain ⟨o', c', hp, hk⟩ := h
  refine ⟨o', c', ⟨?_, own_setD hp.own hp.n2 _, ?_⟩, hk.set i u⟩
  · rw [set_cells hp.box _, hx]
  · show Scr _ b x.n x.f
    rw [hn, hf]
    exact hp.scr.set hp.n1 _

theorem encode_one : ∀ n : Nat, n < 127 → (Utf8.encode (n : Int)).data.toList = [UInt8.ofNat n] ∧ (Utf8.encode (n : Int)).size = 1 := by decide +kernel
theorem encode_ch (c : Cel) (h1 : 0 ≤ c.ch) (h2 : c.ch ≤ 126) : (Utf8.encode c.ch).data.toList = [chD c] ∧ (Utf8.encode c.ch).size = 1 := by
  have := encode_one c.ch.toNat (by omega)
  rw [Int.toNat_of_nonneg h1] at this
  exact this

set_option maxHeartbeats 4000000 in
theorem print_any (pb b cap : Nat) (oo : Option Addr) (oc : Nat) (p : Pen) (ok : OkG p.g) (hcap : p.g.n ≤ cap) (c : Cel) (hc : 0 ≤ c.ink ∧ c.ink ≤ 8) (hch : 0 ≤ c.ch ∧ c.ch ≤ 126) (hcol : p.g.col < p.g.wide) (hl : p.out.length ≤ 100000) (w : World) (h : PenIn w pb b cap oo oc p) :
    Calls Tryd.prog 26 #[.pointer (some ⟨pb, 0, none⟩), cval c] w fun e w' => e = .returned (.tuple #[]) ∧ PenTo w pb b cap oo (printP p c) w' := by
  obtain ⟨q, hq⟩ : ∃ q, q = inkP p c := ⟨_, rfl⟩
  obtain ⟨⟨⟨m, m1, m2, m3⟩⟩, mg⟩ := adds_ink ok c hc
  rw [← hq] at m1 mg
  have hql : q.out.length ≤ 100007 := by rw [m1, List.length_append]; omega
  have HQ : Hid (printP p c = ⟨q.out ++ [chD c], withCell q.g c⟩) := by rw [hq]; rfl
  obtain ⟨y, hy⟩ : ∃ y, y = q.g := ⟨_, rfl⟩
  have oky : OkG y := by rw [hy, mg]; exact ok_withInk ok c hc
  have hyn : y.n ≤ cap := by rw [hy, mg]; exact hcap
  have hyc : y.col < y.wide := by rw [hy, mg]; exact hcol
  rw [← hy] at HQ
  have HI : Hid (∀ w1, Below w.heap.size w w1 → Calls Tryd.prog 32 #[.pointer (some ⟨pb, 0, none⟩), cval c] w1 fun e w' => e = .returned (.tuple #[]) ∧ PenTo w pb b cap oo ⟨q.out, y⟩ w' ∧ ∀ k, w.heap.size ≤ k → k < w1.heap.size → w'.heap[k]? = w1.heap[k]?) := fun w1 hb => by
    rw [hy, hq]
    exact (ink_pen pb b cap oo oc p ok c hc (by omega) w1 (h.later hb)).mono fun e w' hk => ⟨hk.1, at_later h hb hk.2⟩
  obtain ⟨E, hE, HEE⟩ : ∃ E : ByteArray, E.size = 1 ∧ Hid (E = Utf8.encode c.ch ∧ E.data.toList = [chD c]) := ⟨_, (encode_ch c hch.1 hch.2).2, rfl, (encode_ch c hch.1 hch.2).1⟩
  have hlt := h.lt
  have hblt := h.blt
  have hn1 := h.n1
  have HW : Hid (∀ w1, PenTo w pb b cap oo ⟨q.out, y⟩ w1 → w1.heap[w.heap.size]? = some (cbox c) → Calls Tryd.prog 27 #[.pointer (some ⟨pb, 0, none⟩), .string (Utf8.encode c.ch)] w1 fun e w' => e = .returned (.tuple #[]) ∧ PenTo w pb b cap oo ⟨q.out ++ [chD c], y⟩ w' ∧ w'.heap[w.heap.size]? = some (cbox c)) := fun w1 hk hx => by
    obtain ⟨o1, c1, a1, k1⟩ := hk
    obtain ⟨e1, e2⟩ := HEE.out
    rw [← e1, ← e2]
    refine (write_any pb b cap o1 c1 ⟨q.out, y⟩ E w1 a1 (by show q.out.length + E.size ≤ _; omega)).mono fun e w' hk' => ⟨hk'.1, PenTo.trans k1 hk'.2, ?_⟩
    obtain ⟨o2, c2, a2, k2⟩ := hk'.2
    refine (k2.block _ (Array.getElem?_eq_some_iff.1 hx).1 (by omega) (by omega) (fun e => ?_)).trans hx
    rcases k1.fresh with z | ⟨j, z, hz⟩
    · rw [z] at e
      have := h.olt e
      omega
    · obtain ⟨cur, hcur⟩ := own_tag a1.own e
      exact ne_tag hcur hx tagBC rfl
  clear h hy hq mg m1 m2 m3 HEE ok hcap hcol hl
  obtain ⟨k1, k2⟩ := hch
  obtain ⟨q1, q2, q3, q4, _⟩ := oky.nums
  have w1 := oky.w1
  have w2 := oky.w2
  have r1 := oky.r1
  have r2 := oky.r2
  have c1' := oky.c1
  obtain ⟨R, hR⟩ : ∃ R : Nat, (R : Int) = y.row := ⟨y.row.toNat, by omega⟩
  obtain ⟨P, hP⟩ : ∃ P, P = R * y.wide.toNat := ⟨_, rfl⟩
  obtain ⟨W, hW⟩ : ∃ W, W = y.wide.toNat := ⟨_, rfl⟩
  have hPn : (P : Int) = y.row * y.wide := by
    rw [hP, ← hR]
    have : ((R * y.wide.toNat : Nat) : Int) = (R : Int) * (y.wide.toNat : Int) := by simp
    rw [this, Int.toNat_of_nonneg (by omega)]
  have HC : Hid (∀ w, Calls Tryd.prog 21 #[gval y (some ⟨b, 0, none⟩) cap, .int .i64 y.row] w fun e w' => e = .returned (.slice (some ⟨b, P * 4, none⟩) W (cap - P)) ∧ w' = w.alloc (gbox y (some ⟨b, 0, none⟩) cap)) := fun w => by
    have := cells_any y oky b 0 cap R (by omega) hyn w
    rw [hR, Nat.zero_add, ← hP, ← hW] at this
    exact this
  obtain ⟨I, hI⟩ : ∃ I, I = P + y.col.toNat := ⟨_, rfl⟩
  have HIX : Hid (I < y.n ∧ I * 4 = P * 4 + y.col.toNat * 4 ∧ I = (y.row * y.wide + y.col).toNat) := ⟨by omega, by omega, by omega⟩
  have hcw : y.col < (W : Int) := by omega
  clear oky hP hW hPn hI q1 q2 q3 q4 r2 hR
  go_enter Tryd.func26, Tryd.ntmps26
  go_wp2_with (first
    | (go_at_call 32; refine (HI.out _ (below1 _ _)).mono ?_; rintro e v1 ⟨rfl, hk1, hx0⟩; have hx1 := (hx0 w.heap.size (Nat.le_refl _) (by simp)).trans (at_new w _); clear hx0; have HP1 : Hid (PenTo w pb b cap oo ⟨q.out, y⟩ v1) := hk1; have HX1 : Hid (v1.heap[w.heap.size]? = some (cbox c)) := hx1; obtain ⟨o1, q1, hp1, _⟩ := hk1; obtain ⟨⟨c0, c1, c2, c3, c4, c5, c6, c7, c8, c9⟩, cf⟩ := ten hp1.box; obtain ⟨⟨z0, z1, z2, z3⟩, zf⟩ := four hx1; clear hp1 hx1)
    | (go_at_call 27; refine (HW.out _ HP1.out HX1.out).mono ?_; rintro e v2 ⟨rfl, hk2, hx2⟩; clear HP1 HX1 c0 c1 c2 c3 c4 c5 c6 c7 c8 c9 cf z0 z1 z2 z3 zf; have HP2 : Hid (PenTo w pb b cap oo ⟨q.out ++ [chD c], y⟩ v2) := hk2; obtain ⟨o2, q2, hp2, _⟩ := hk2; obtain ⟨⟨c0, c1, c2, c3, c4, c5, c6, c7, c8, c9⟩, cf⟩ := ten hp2.box; obtain ⟨⟨z0, z1, z2, z3⟩, zf⟩ := four hx2; have hsc := hp2.scr; have hv2 := (Array.getElem?_eq_some_iff.1 hx2).1; clear hp2 hx2))
  obtain ⟨t0, t1, t2, t3⟩ := hsc.cells I HIX.out.1
  rw [HIX.out.2.1] at t0 t1 t2 t3
  have hfr : ∀ j, v2.frozen? ⟨b, j, none⟩ = false := hsc.free
  have hvb := hsc.lt
  have hvp : pb < v2.heap.size := by omega
  clear hsc
  obtain ⟨k0, hk0⟩ : ∃ k, k = y.f I := ⟨_, rfl⟩
  rw [← hk0] at t0 t1 t2 t3
  clear hk0 HI HW
  have hoc : ∀ (w' : World) (j : Nat) (u : Value) (k : Nat), (w'.setCell ⟨b, j, none⟩ u).cell? ⟨w.heap.size, k, none⟩ = w'.cell? ⟨w.heap.size, k, none⟩ := fun w' j u k => World.cell?_setCell_other _ _ _ _ (by intro e; simp only [Addr.mk.injEq] at e; omega)
  have hoc2 : ∀ (w' : World) (j : Nat) (u : Value) (k : Nat), (w'.setCell ⟨b, j, none⟩ u).cell? ⟨pb, k, none⟩ = w'.cell? ⟨pb, k, none⟩ := fun w' j u k => World.cell?_setCell_other _ _ _ _ (by intro e; simp only [Addr.mk.injEq] at e; omega)
  go_region_held3 (fun w' => w'.cell? ⟨pb, 1, none⟩ = some (.int .i64 y.wide) ∧ w'.cell? ⟨pb, 2, none⟩ = some (.int .i64 y.high) ∧ w'.cell? ⟨pb, 3, none⟩ = some (.slice (some ⟨b, 0, none⟩) y.n cap) ∧ w'.cell? ⟨pb, 4, none⟩ = some (.int .i64 y.row) ∧ w'.cell? ⟨pb, 5, none⟩ = some (.int .i64 y.col) ∧ w'.cell? ⟨pb, 6, none⟩ = some (.int .i64 y.ink) ∧ w'.cell? ⟨pb, 7, none⟩ = some (.bool y.bold) ∧ w'.cell? ⟨pb, 8, none⟩ = some (.int .i64 y.top) ∧ w'.cell? ⟨pb, 9, none⟩ = some (.int .i64 y.bottom) ∧ w'.cell? ⟨w.heap.size, 0, none⟩ = some (.int .i64 c.ch) ∧ w'.cell? ⟨w.heap.size, 1, none⟩ = some (.int .i64 c.ink) ∧ w'.cell? ⟨w.heap.size, 2, none⟩ = some (.int .i64 c.pic) ∧ w'.cell? ⟨w.heap.size, 3, none⟩ = some (.bool c.bold)) (first | go_keep | (simp [*, World.cell?_alloc_past]))
    ((go_at_call 21; go_fit (HC.out _); rintro e w3 ⟨rfl, rfl⟩))
  go_wp2
  go_end0
  refine ⟨rfl, ?_⟩
  rw [HQ.out]
  obtain ⟨i1, i2, i3⟩ := HIX.out
  have hp := HP2.out.put I (P * 4 + y.col.toNat * 4) (P * 4 + y.col.toNat * 4 + 1) (P * 4 + y.col.toNat * 4 + 2) (P * 4 + y.col.toNat * 4 + 3) c i1 (by omega) (by omega) (by omega) (by omega)
  have hs := hp.set1 (x := withCell y c) 5 (.int .i64 (y.col + 1)) rfl (by unfold withCell; rw [← i3]) (fun _ _ => rfl)
  exact (hs.alloc _).drew

end Go.Proofs.YtpichplhidiokabDoor
