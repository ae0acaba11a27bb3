/- What 'draws' answers: draw does answer. -/
import Derived.Test.YtpichplhidiokabDoorDTurnA
import Derived.Handy
namespace Go.Proofs.YtpichplhidiokabDoor
open Go.RowKit
set_option maxRecDepth 100000

def n32 : Gr := newG 3 2
def t32 : Gr := { n32 with f := putF n32.f 1 ⟨120, 0, 0, false⟩ }

theorem ok_t32 : OkG t32 := by
  have h := ok_new 3 2
  exact ⟨h.w1, h.w2, h.h1, h.h2, h.size, goodC_put (n := n32.n) h.cells (by decide), h.r1, h.r2, h.c1, h.c2, h.i1, h.i2, h.t1, h.t2, h.t3⟩

theorem sends_no {g x : Gr} (h : Sends g [] x) : x = g := by
  obtain ⟨es, h1, h2⟩ := h
  have : es = [] := h1.told.symm
  subst this
  exact (Prod.mk.inj h2).1.symm

/-- What comes of it. -/
theorem draws32 : ∃ p : Pen, Hid (turnR n32 t32 = (p.out, p.g, 0)) ∧ p.g.n = 6 ∧ (p.g.f 1).ch = 120 ∧ (p.g.f 0).ch = 0 ∧ 0 < p.out.length ∧ p.out.length ≤ 2490 := by
  have hB : turnB n32 t32 = true := (turnB_iff _ _).2 ⟨ok_new 3 2, ok_t32, by decide, rfl, rfl⟩
  have hd := turn_draws (ok_new 3 2) ok_t32 (by decide) rfl rfl
  have h1 : (turnP n32 t32).g.f 1 = ⟨120, 0, 0, false⟩ := hd.cells 1 (by decide)
  have h0 : (turnP n32 t32).g.f 0 = noCel := hd.cells 0 (by decide)
  refine ⟨turnP n32 t32, by show turnR n32 t32 = _; unfold turnR; rw [if_pos hB], hd.n, by rw [h1], by rw [h0]; rfl, ?_, hd.short⟩
  cases he : (turnP n32 t32).out with
  | nil =>
    have hs := hd.sends
    have e : (turnP (newG 3 2) t32).out = [] := he
    rw [e] at hs
    have := sends_no hs
    have h2 : (turnP n32 t32).g.f 1 = noCel := by
      show (turnP (newG 3 2) t32).g.f 1 = noCel
      rw [this]
      rfl
    rw [h1] at h2
    exact absurd (congrArg Cel.ch h2) (by decide)
  | cons a r => simp

set_option maxHeartbeats 6000000 in
theorem draws_any (w : World) : Calls Tryd.prog 5 #[] w fun e w' => e = .returned (.bool true) ∧ Below w.heap.size w w' := by
  obtain ⟨p, HR, p1, p2, p3, p4, p5⟩ := draws32
  have HN : Hid (∀ w, Calls Tryd.prog 11 #[.int .i64 3, .int .i64 2] w fun e w' => ∃ b, e = .returned (gval n32 (some ⟨b, 0, none⟩) 6) ∧ Scr w' b 6 n32.f ∧ w.heap.size ≤ b ∧ Below w.heap.size w w') := fun w => new_any 3 2 w n32 rfl
  go_enter Tryd.func5, Tryd.ntmps5
  go_wp2_with (first
    | (go_at_call 11; refine (HN.out _).mono ?_; rintro e w1 ⟨b, rfl, hs1, hbb, hb1⟩; have HS1 : Hid (Scr w1 b 6 n32.f ∧ w.heap.size ≤ b ∧ Below w.heap.size w w1) := ⟨hs1, hbb, hb1⟩; have hblt := hs1.lt; obtain ⟨t0, t1, t2, t3⟩ := hs1.cells 1 (by decide); have hfr : ∀ j, w1.frozen? ⟨b, j, none⟩ = false := hs1.free; clear hs1 hbb hb1))
  have HS2 : Hid (∀ o : Obj, Scr (((((w1.setCell ⟨b, 4, none⟩ (.int .i64 120)).setCell ⟨b, 5, none⟩ (.int .i64 0)).setCell ⟨b, 6, none⟩ (.int .i64 0)).setCell ⟨b, 7, none⟩ (.bool false)).alloc o) b 6 t32.f ∧ Below w.heap.size w (((((w1.setCell ⟨b, 4, none⟩ (.int .i64 120)).setCell ⟨b, 5, none⟩ (.int .i64 0)).setCell ⟨b, 6, none⟩ (.int .i64 0)).setCell ⟨b, 7, none⟩ (.bool false)).alloc o)) := fun o => by
    obtain ⟨s1, s2, s3⟩ := HS1.out
    have h4 := ((((s3.setCell (p := ⟨b, 4, none⟩) s2 (.int .i64 120)).setCell (p := ⟨b, 5, none⟩) s2 (.int .i64 0)).setCell (p := ⟨b, 6, none⟩) s2 (.int .i64 0)).setCell (p := ⟨b, 7, none⟩) s2 (.bool false))
    exact ⟨(s1.put 1 4 5 6 7 ⟨120, 0, 0, false⟩ (by decide) rfl rfl rfl rfl).alloc _, h4.alloc h4.size _⟩
  have hbox : (((((w1.setCell ⟨b, 4, none⟩ (.int .i64 120)).setCell ⟨b, 5, none⟩ (.int .i64 0)).setCell ⟨b, 6, none⟩ (.int .i64 0)).setCell ⟨b, 7, none⟩ (.bool false)).alloc (gbox t32 (some ⟨b, 0, none⟩) 6)).heap[w1.heap.size]? = some (gbox t32 (some ⟨b, 0, none⟩) 6) := by
    have := at_new ((((w1.setCell ⟨b, 4, none⟩ (.int .i64 120)).setCell ⟨b, 5, none⟩ (.int .i64 0)).setCell ⟨b, 6, none⟩ (.int .i64 0)).setCell ⟨b, 7, none⟩ (.bool false)) (gbox t32 (some ⟨b, 0, none⟩) 6)
    simpa using this
  have HS3 := HS2.out (gbox t32 (some ⟨b, 0, none⟩) 6)
  have HTU : Hid (∀ W b3, Scr W b 6 t32.f → Scr W b3 6 n32.f → Calls Tryd.prog 6 #[gval n32 (some ⟨b3, 0, none⟩) 6, gval t32 (some ⟨b, 0, none⟩) 6] W (DrawEnd W (p.out, p.g, 0))) := fun W b3 h1 h2 => by
    rw [← HR.out]
    exact turn_any n32 (some ⟨b3, 0, none⟩) 6 t32 (some ⟨b, 0, none⟩) 6 W h2.rd (fun e => by cases e) (by decide) h1.rd (by decide) (by decide)
  clear HS1 HS2 t0 t1 t2 t3 hfr hblt
  generalize hB : w1.heap.size = B at *
  show Code.wp _ _ _ _ (((((w1.setCell ⟨b, 4, none⟩ (.int .i64 120)).setCell ⟨b, 5, none⟩ (.int .i64 0)).setCell ⟨b, 6, none⟩ (.int .i64 0)).setCell ⟨b, 7, none⟩ (.bool false)).alloc (gbox t32 (some ⟨b, 0, none⟩) 6))
  generalize (((((w1.setCell ⟨b, 4, none⟩ (.int .i64 120)).setCell ⟨b, 5, none⟩ (.int .i64 0)).setCell ⟨b, 6, none⟩ (.int .i64 0)).setCell ⟨b, 7, none⟩ (.bool false)).alloc (gbox t32 (some ⟨b, 0, none⟩) 6)) = W2 at *
  clear hB HR
  have hBlt : B < W2.heap.size := (Array.getElem?_eq_some_iff.1 hbox).1
  obtain ⟨⟨x0, x1, x2, x3, x4, x5, x6, x7, x8⟩, xf⟩ := nine hbox
  have HW2 : Hid (Scr W2 b 6 t32.f ∧ Below w.heap.size w W2 ∧ W2.heap[B]? = some (gbox t32 (some ⟨b, 0, none⟩) 6)) := ⟨HS3.1, HS3.2, hbox⟩
  clear HS3 hbox
  generalize t32 = T at *
  go_region_held3 (fun w' => w'.cell? ⟨B, 0, none⟩ = some (.int .i64 T.wide) ∧ w'.cell? ⟨B, 1, none⟩ = some (.int .i64 T.high) ∧ w'.cell? ⟨B, 2, none⟩ = some (.slice (some ⟨b, 0, none⟩) T.n 6) ∧ w'.cell? ⟨B, 3, none⟩ = some (.int .i64 T.row) ∧ w'.cell? ⟨B, 4, none⟩ = some (.int .i64 T.col) ∧ w'.cell? ⟨B, 5, none⟩ = some (.int .i64 T.ink) ∧ w'.cell? ⟨B, 6, none⟩ = some (.bool T.bold) ∧ w'.cell? ⟨B, 7, none⟩ = some (.int .i64 T.top) ∧ w'.cell? ⟨B, 8, none⟩ = some (.int .i64 T.bottom)) (first | go_keep | (exact ⟨x0, x1, x2, x3, x4, x5, x6, x7, x8⟩) | (simp [*, World.cell?_alloc_past]))
    (first
    | (go_at_call 11; refine (HN.out _).mono ?_; rintro e w3 ⟨b3, rfl, hs3, hbb3, hbl3⟩; have hch : Below W2.heap.size W2 w3 := belowChain (by go_grown) hbl3; have HW3 : Hid (Scr w3 b 6 T.f ∧ Below w.heap.size w w3 ∧ Scr w3 b3 6 n32.f ∧ w3.heap[B]? = some (gbox T (some ⟨b, 0, none⟩) 6)) := ⟨HW2.out.1.below hch HW2.out.1.lt, HW2.out.2.1.trans (hch.mono HW2.out.2.1.size), hs3, below_block hch HW2.out.2.2 hBlt⟩; have hsz3 := hch.size; clear x0 x1 x2 x3 x4 x5 x6 x7 x8 xf; obtain ⟨⟨x0, x1, x2, x3, x4, x5, x6, x7, x8⟩, xf⟩ := nine HW3.out.2.2.2; have hBlt3 : B < w3.heap.size := (Array.getElem?_eq_some_iff.1 HW3.out.2.2.2).1; (first | (have HA3 : Hid (w3.heap[W2.heap.size]? = some gzero) := (by have hq2 : Below (W2.alloc gzero).drew.heap.size (W2.alloc gzero).drew w3 := (by with_reducible exact hbl3); exact below_block (undrew hq2) (at_new W2 gzero) (by simp))) | skip); clear hs3 hbb3 hbl3 hch)
    | (go_at_call 6; refine (HTU.out _ b3 (HW3.out.1.below (B := w3.heap.size) (by go_grown) HW3.out.1.lt) (HW3.out.2.2.1.below (B := w3.heap.size) (by go_grown) HW3.out.2.2.1.lt)).mono ?_; rintro e w4 ⟨ao4, c4, rfl, hcp⟩; obtain ⟨b4, rfl, hbb4, hbc4, hs4⟩ := hcp.2.1 (show 0 < p.g.n by rw [p1]; decide); have hch4 : Below w3.heap.size w3 w4 := belowChain (by go_grown) hcp.2.2; have hs41 := hs4.cells 1 (show 1 < p.g.n by rw [p1]; decide); have hs40 := hs4.cells 0 (show 0 < p.g.n by rw [p1]; decide); rw [p2] at hs41; rw [p3] at hs40; obtain ⟨s0, _⟩ := hs41; obtain ⟨r0, _⟩ := hs40; have hb4lt := hs4.lt; have hW4 : Hid (Below w.heap.size w w4) := HW3.out.2.1.trans (hch4.mono HW3.out.2.1.size); have hxb := below_block hch4 HW3.out.2.2.2 hBlt3; clear x0 x1 x2 x3 x4 x5 x6 x7 x8 xf; obtain ⟨⟨x0, x1, x2, x3, x4, x5, x6, x7, x8⟩, xf⟩ := nine hxb; have hBlt4 := (Array.getElem?_eq_some_iff.1 hxb).1; have hb4n : w3.heap.size ≤ b4 := Nat.le_trans (show Below w3.heap.size w3 _ from (by go_grown)).size hbb4; (first | (have hA4 := below_block hch4 HA3.out (Array.getElem?_eq_some_iff.1 HA3.out).1; have hlA := (Array.getElem?_eq_some_iff.1 HA3.out).1; obtain ⟨⟨u0, u1, u2, u3, u4, u5, u6, u7, u8⟩, uf⟩ := nine hA4; have hq1 : W2.heap.size ≠ b4 := (by omega); have hq4 : b4 ≠ W2.heap.size := (by omega); have hq2 : B ≠ W2.heap.size := (by omega); have hq5 : W2.heap.size ≠ B := (by omega); clear hA4 HA3) | (have hq9 := hcp.2.2; have hz2 : Below (w3.alloc gzero).heap.size (w3.alloc gzero) w4 := (by with_reducible exact hq9); have hA4 := below_block hz2 (at_new w3 gzero) (by simp); have hlA := (Array.getElem?_eq_some_iff.1 hA4).1; have hbb5 : (w3.alloc gzero).heap.size ≤ b4 := (by with_reducible exact hbb4); have hbb6 : w3.heap.size + 1 ≤ b4 := (by simpa using hbb5); obtain ⟨⟨u0, u1, u2, u3, u4, u5, u6, u7, u8⟩, uf⟩ := nine hA4; have hq1 : w3.heap.size ≠ b4 := (by omega); have hq4 : b4 ≠ w3.heap.size := (by omega); have hq2 : B ≠ w3.heap.size := (by omega); have hq5 : w3.heap.size ≠ B := (by omega); clear hA4 hz2 hbb5 hq9) | skip); clear hbb4 hbc4 hs4 hch4 hxb hcp))
  all_goals (
    go_wp2
    have z2 := HW2.out.2.1.size
    have z3 := HW3.out.2.1.size
    have z4 := hW4.out.size
    go_ret
    refine ⟨rfl, ?_⟩
    first | (with_reducible exact hW4.out.alloc z4 _) | (with_reducible exact below_set9 hW4.out z3 _ _ _ _ _ _ _ _ _) | (with_reducible exact below_set9 hW4.out z2 _ _ _ _ _ _ _ _ _))

end Go.Proofs.YtpichplhidiokabDoor
