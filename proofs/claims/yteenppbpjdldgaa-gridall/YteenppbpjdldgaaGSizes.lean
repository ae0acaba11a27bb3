/- What 'GridSizes' answers: true. -/
import Derived.Test.YteenppbpjdldgaaGRefB
import Derived.Test.YteenppbpjdldgaaGRefE
namespace Go.Proofs.Yteenppbpjdldgaa
open Go.RowKit

@[reducible] def ybox (c : Cel) : Obj := .cells #[.int .i64 c.ch, .int .i64 c.ink, .int .i64 c.pic, .bool c.bold] 49

/-- What holds in the midst of the law: the boxes of the screen, of the cell, of the copy, of the two answers. -/
structure Sz (w : World) (g ra : Gr) (y : Cel) (ao oc oa ob : Option Addr) (cap cc ca cb B2 B3 B4 : Nat) (wr : World) : Prop where
  boxg : wr.heap[w.heap.size]? = some (gbox g ao cap)
  boxy : wr.heap[w.heap.size + 1]? = some (ybox y)
  boxc : wr.heap[B2]? = some (gbox g oc cc)
  boxa : wr.heap[B3]? = some (gbox ra oa ca)
  boxb : wr.heap[B4]? = some (gbox ra ob cb)
  rdg : RdS wr ao g.n g.f
  rdc : RdS wr oc g.n g.f
  rda : RdS wr oa ra.n ra.f
  rdb : RdS wr ob ra.n ra.f
  below : Below w.heap.size w wr

theorem at_later' {w w' : World} {b : Nat} {o : Obj} (hb : Below w.heap.size w w') (h : w.heap[b]? = some o) : w'.heap[b]? = some o := below_block hb h (Array.getElem?_eq_some_iff.1 h).1
section
variable {w : World} {g ra : Gr} {y : Cel} {ao oc oa ob : Option Addr} {cap cc ca cb B2 B3 B4 : Nat} {wr w' : World}
theorem Sz.later (h : Sz w g ra y ao oc oa ob cap cc ca cb B2 B3 B4 wr) (hb : Below wr.heap.size wr w') : Sz w g ra y ao oc oa ob cap cc ca cb B2 B3 B4 w' :=
  ⟨at_later' hb h.boxg, at_later' hb h.boxy, at_later' hb h.boxc, at_later' hb h.boxa, at_later' hb h.boxb, h.rdg.below hb, h.rdc.below hb, h.rda.below hb, h.rdb.below hb, h.below.trans (hb.mono h.below.size)⟩
theorem Sz.drew (h : Sz w g ra y ao oc oa ob cap cc ca cb B2 B3 B4 wr) : Sz w g ra y ao oc oa ob cap cc ca cb B2 B3 B4 wr.drew :=
  ⟨h.boxg, h.boxy, h.boxc, h.boxa, h.boxb, h.rdg, h.rdc, h.rda, h.rdb, h.below.drew⟩
end

theorem sz_of {w w2 w3 w4 : World} {g ra : Gr} {y : Cel} {ao oc oa ob : Option Addr} {cap cc ca cb : Nat} (hr : RdS w ao g.n g.f) (h2 : Copied ((w.alloc (gbox g ao cap)).alloc (ybox y)) g.n g.f oc cc w2) (h3 : Copied (w2.alloc (gbox g oc cc)) ra.n ra.f oa ca w3) (h4 : RdS w4 ob ra.n ra.f) (h5 : Below (w3.alloc (gbox ra oa ca)).heap.size (w3.alloc (gbox ra oa ca)) w4) :
    Sz w g ra y ao oc oa ob cap cc ca cb w2.heap.size w3.heap.size w4.heap.size (w4.alloc (gbox ra ob cb)) := by
  have b2 : Below w.heap.size w w2 := (below2 w _ _).trans (h2.2.2.mono (by simp; omega))
  have b23 : Below (w2.alloc (gbox g oc cc)).heap.size (w2.alloc (gbox g oc cc)) w3 := h3.2.2
  have b4 : Below w4.heap.size w4 (w4.alloc (gbox ra ob cb)) := below1 _ _
  have b34 : Below w3.heap.size w3 (w4.alloc (gbox ra ob cb)) := ((below1 w3 _).trans (h5.mono (by simp))).trans (b4.mono (by have := h5.size; simp at this; omega))
  have b24 : Below w2.heap.size w2 (w4.alloc (gbox ra ob cb)) := ((below1 w2 _).trans (b23.mono (by simp))).trans (b34.mono (by have := b23.size; simp at this; omega))
  have bw : Below w.heap.size w (w4.alloc (gbox ra ob cb)) := b2.trans (b24.mono b2.size)
  refine ⟨?_, ?_, ?_, ?_, at_new _ _, hr.below bw, h2.1.below b24, h3.1.below b34, h4.below b4, bw⟩
  · exact at_later' b24 (at_later' h2.2.2 (at_old (at_new w _) _))
  · exact at_later' b24 (at_later' h2.2.2 (at_new1 w _ _))
  · exact at_later' b34 (at_later' b23 (at_new w2 _))
  · exact at_later' b4 (at_later' h5 (at_new w3 _))

theorem below_on {a b c : World} (h1 : Below a.heap.size a b) (h2 : Below b.heap.size b c) : Below a.heap.size a c := h1.trans (h2.mono h1.size)
theorem rd_on {w w2 w3 : World} {n n2 n3 : Nat} {f f2 f3 : Nat → Cel} {ao oc oa : Option Addr} {cc ca : Nat} {o1 o2 o3 o4 : Obj} (hr : RdS w ao n f) (h2 : Copied ((w.alloc o1).alloc o2) n2 f2 oc cc w2) (h3 : Copied (w2.alloc o3) n3 f3 oa ca w3) : RdS (w3.alloc o4) ao n f :=
  hr.below (below_on (below_on (below_on (below2 w o1 o2) h2.2.2) (below_on (below1 w2 o3) h3.2.2)) (below1 w3 o4))

set_option maxRecDepth 4000 in
set_option maxHeartbeats 8000000 in
theorem sizes_any (g : Gr) (ao : Option Addr) (cap : Nat) (wide high row col : Int) (y : Cel) (w : World) (hr : RdS w ao g.n g.f) (hn : ao = none → g.n = 0 ∧ cap = 0) (hm : g.n ≤ 4398046511104) :
    Calls Try.prog 8 #[gval g ao cap, .int .i64 wide, .int .i64 high, .int .i64 row, .int .i64 col, cval y] w fun e w' => e = .returned (.bool true) ∧ Below w.heap.size w w' := by
  obtain ⟨r, hrr⟩ : ∃ r, r = resR g wide high := ⟨_, rfl⟩
  have HRN : Hid (r.1.n ≤ 4398046511104) := by
    show r.1.n ≤ 4398046511104
    rw [hrr]
    unfold resR
    split
    · obtain ⟨q1, q2, _⟩ := (ok_new wide high).nums
      show (newG wide high).n ≤ 4398046511104
      omega
    · exact hm
  have HCP : Hid (∀ w, RdS w ao g.n g.f → Calls Try.prog 26 #[gval g ao cap] w (CopyEnd w g)) := fun w hr => copyGrid_any g ao cap w hr hn hm
  have HRZ : Hid (∀ w oc cc, RdS w oc g.n g.f → (oc = none → g.n = 0 ∧ cc = 0) → g.n ≤ cc → Calls Try.prog 33 #[gval g oc cc, .int .i64 wide, .int .i64 high] w (AllEnd w r)) := fun w oc cc h1 h2 h3 => resize_any g oc cc wide high w h1 h2 hm h3 r hrr
  have HRF : Hid (∀ w, RdS w ao g.n g.f → Calls Try.prog 34 #[gval g ao cap, .int .i64 wide, .int .i64 high] w (RefEnd w r)) := fun w h => resized_any g ao cap wide high w h hm r hrr
  obtain ⟨ra, q⟩ := r
  simp only at HRN
  obtain ⟨t, ht⟩ : ∃ t, t = newG wide high := ⟨_, rfl⟩
  have HTN : Hid (t.n ≤ 4398046511104) := by
    obtain ⟨q1, q2, _⟩ := (ok_new wide high).nums
    show t.n ≤ 4398046511104
    rw [ht]
    omega
  have HNW : Hid (∀ w, Calls Try.prog 35 #[.int .i64 wide, .int .i64 high] w fun e w' => ∃ b, e = .returned (gval t (some ⟨b, 0, none⟩) t.n) ∧ Scr w' b t.n t.f ∧ w.heap.size ≤ b ∧ Below w.heap.size w w') := fun w => new_any wide high w t ht
  have HNR : Hid (∀ w, Calls Try.prog 36 #[.int .i64 wide, .int .i64 high] w fun e w' => ∃ b c2, e = .returned (gval t (some ⟨b, 0, none⟩) c2) ∧ Scr w' b t.n t.f ∧ t.n ≤ c2 ∧ w.heap.size ≤ b ∧ Below w.heap.size w w') := fun w => newGrid_any wide high w t ht
  obtain ⟨z, hz⟩ : ∃ z, z = atG g row col := ⟨_, rfl⟩
  obtain ⟨gc, hgc⟩ : ∃ b, b = goodC y := ⟨_, rfl⟩
  have HGC : Hid (∀ w, Calls Try.prog 39 #[cval y] w fun e w' => e = .returned (.bool gc) ∧ Below w.heap.size w w') := fun w => by rw [hgc]; exact goodCell_any y w
  have HIC : Hid (∀ w, Calls Try.prog 40 #[cval y] w fun e w' => e = .returned (.bool gc) ∧ Below w.heap.size w w') := fun w => by rw [hgc]; exact isCell_any y w
  have HCA : Hid (∀ w, RdS w ao g.n g.f → Calls Try.prog 38 #[gval g ao cap, .int .i64 row, .int .i64 col] w fun e w' => e = .returned (cval z) ∧ Below w.heap.size w w') := fun w h => by rw [hz]; exact cellAt_any g ao cap row col w h hm
  have HATX : Hid (∀ w oc cc, RdS w oc g.n g.f → Calls Try.prog 37 #[gval g oc cc, .int .i64 row, .int .i64 col] w fun e w' => e = .returned (cval z) ∧ Below w.heap.size w w') := fun w oc cc h => by rw [hz]; exact at_any g oc cc row col w h (by omega)
  have HSCX : Hid (∀ w oc cc, RdS w oc g.n g.f → RdS w ao g.n g.f → Calls Try.prog 29 #[gval g oc cc, gval g ao cap] w fun e w' => e = .returned (.bool true) ∧ Below w.heap.size w w') := fun w oc cc h1 h2 => sameGrid_eq g oc ao cc cap w h1 h2 hm
  have HR : Hid (RdS w ao g.n g.f) := hr
  clear hr hn hm hrr ht hz hgc
  go_enter Try.func8, Try.ntmps8
  go_wp2_with (first
    | (go_at_call 26; refine (HCP.out _ (HR.out.below (below2 _ _ _))).mono ?_; rintro e w2 ⟨oc, cc, rfl, hcp, hcn, hcc⟩; have HC2 : Hid (Copied ((w.alloc (gbox g ao cap)).alloc (ybox y)) g.n g.f oc cc w2 ∧ (oc = none → g.n = 0 ∧ cc = 0) ∧ g.n ≤ cc) := ⟨hcp, hcn, hcc⟩; obtain ⟨⟨p0, p1, p2, p3, p4, p5, p6, p7, p8⟩, p9⟩ := nine (at_later' hcp.2.2 (at_old (at_new w _) _)); have hs2 : w.heap.size + 1 < w2.heap.size := (by have := hcp.2.2.size; simp at this; omega); clear hcp hcn hcc)
    | (go_at_call 33; refine (HRZ.out _ oc cc (HC2.out.1.1.below (below1 _ _)) HC2.out.2.1 HC2.out.2.2).mono ?_; rintro e w3 ⟨oa, ca, rfl, hcp⟩; have HC3 : Hid (Copied (w2.alloc (gbox g oc cc)) ra.n ra.f oa ca w3) := hcp; clear p0 p1 p2 p3 p4 p5 p6 p7 p8 p9; obtain ⟨⟨p0, p1, p2, p3, p4, p5, p6, p7, p8⟩, p9⟩ := nine (at_later' hcp.2.2 (at_old (at_later' HC2.out.1.2.2 (at_old (at_new w _) _)) _)); have hs3 : w2.heap.size < w3.heap.size := (by have := hcp.2.2.size; simp at this; omega); have hs30 : w.heap.size < w3.heap.size := (by omega); clear hcp)
    | (go_at_call 34; refine (HRF.out _ (rd_on HR.out HC2.out.1 HC3.out)).mono ?_; rintro e w4 ⟨ob, cb, rfl, hrd, hb4⟩; have HS0 : Hid (Sz w g ra y ao oc oa ob cap cc ca cb w2.heap.size w3.heap.size w4.heap.size (w4.alloc (gbox ra ob cb))) := sz_of HR.out HC2.out.1 HC3.out hrd hb4; clear p0 p1 p2 p3 p4 p5 p6 p7 p8 p9; have hs4 : w3.heap.size < w4.heap.size := (by have := hb4.size; simp at this; omega); clear hrd hb4))
  have HSR : Hid (∀ w, RdS w oa ra.n ra.f → RdS w ob ra.n ra.f → Calls Try.prog 29 #[gval ra oa ca, gval ra ob cb] w fun e w' => e = .returned (.bool true) ∧ Below w.heap.size w w') := fun w h1 h2 => sameGrid_eq ra oa ob ca cb w h1 h2 HRN.out
  have HST : Hid (∀ w bn bm cm, RdS w (some ⟨bn, 0, none⟩) t.n t.f → RdS w (some ⟨bm, 0, none⟩) t.n t.f → Calls Try.prog 29 #[gval t (some ⟨bn, 0, none⟩) t.n, gval t (some ⟨bm, 0, none⟩) cm] w fun e w' => e = .returned (.bool true) ∧ Below w.heap.size w w') := fun w bn bm cm h1 h2 => sameGrid_eq t (some ⟨bn, 0, none⟩) (some ⟨bm, 0, none⟩) t.n cm w h1 h2 HTN.out
  have HSC : Hid (∀ w, RdS w oc g.n g.f → RdS w ao g.n g.f → Calls Try.prog 29 #[gval g oc cc, gval g ao cap] w fun e w' => e = .returned (.bool true) ∧ Below w.heap.size w w') := fun w h1 h2 => HSCX.out w oc cc h1 h2
  have HAT : Hid (∀ w, RdS w oc g.n g.f → Calls Try.prog 37 #[gval g oc cc, .int .i64 row, .int .i64 col] w fun e w' => e = .returned (cval z) ∧ Below w.heap.size w w') := fun w h => HATX.out w oc cc h
  obtain ⟨⟨p0, p1, p2, p3, p4, p5, p6, p7, p8⟩, p9⟩ := nine HS0.out.boxg; obtain ⟨⟨q0, q1, q2, q3, q4, q5, q6, q7, q8⟩, q9⟩ := nine HS0.out.boxc; obtain ⟨⟨r0, r1, r2, r3, r4, r5, r6, r7, r8⟩, r9⟩ := nine HS0.out.boxa; obtain ⟨⟨s0, s1, s2, s3, s4, s5, s6, s7, s8⟩, s9⟩ := nine HS0.out.boxb; obtain ⟨⟨e0, e1, e2, e3⟩, e4⟩ := four HS0.out.boxy
  clear HCP HRZ HRF HC2 HC3 HSCX HATX HR hs2 hs3 hs4 hs30
  go_region_held3 (fun w' => (w'.cell? ⟨w.heap.size, 0, none⟩ = some (.int .i64 g.wide) ∧ w'.cell? ⟨w.heap.size, 1, none⟩ = some (.int .i64 g.high) ∧ w'.cell? ⟨w.heap.size, 2, none⟩ = some (.slice ao g.n cap) ∧ w'.cell? ⟨w.heap.size, 3, none⟩ = some (.int .i64 g.row) ∧ w'.cell? ⟨w.heap.size, 4, none⟩ = some (.int .i64 g.col) ∧ w'.cell? ⟨w.heap.size, 5, none⟩ = some (.int .i64 g.ink) ∧ w'.cell? ⟨w.heap.size, 6, none⟩ = some (.bool g.bold) ∧ w'.cell? ⟨w.heap.size, 7, none⟩ = some (.int .i64 g.top) ∧ w'.cell? ⟨w.heap.size, 8, none⟩ = some (.int .i64 g.bottom)) ∧ (w'.cell? ⟨w.heap.size + 1, 0, none⟩ = some (.int .i64 y.ch) ∧ w'.cell? ⟨w.heap.size + 1, 1, none⟩ = some (.int .i64 y.ink) ∧ w'.cell? ⟨w.heap.size + 1, 2, none⟩ = some (.int .i64 y.pic) ∧ w'.cell? ⟨w.heap.size + 1, 3, none⟩ = some (.bool y.bold)) ∧ (w'.cell? ⟨w2.heap.size, 0, none⟩ = some (.int .i64 g.wide) ∧ w'.cell? ⟨w2.heap.size, 1, none⟩ = some (.int .i64 g.high) ∧ w'.cell? ⟨w2.heap.size, 2, none⟩ = some (.slice oc g.n cc) ∧ w'.cell? ⟨w2.heap.size, 3, none⟩ = some (.int .i64 g.row) ∧ w'.cell? ⟨w2.heap.size, 4, none⟩ = some (.int .i64 g.col) ∧ w'.cell? ⟨w2.heap.size, 5, none⟩ = some (.int .i64 g.ink) ∧ w'.cell? ⟨w2.heap.size, 6, none⟩ = some (.bool g.bold) ∧ w'.cell? ⟨w2.heap.size, 7, none⟩ = some (.int .i64 g.top) ∧ w'.cell? ⟨w2.heap.size, 8, none⟩ = some (.int .i64 g.bottom)) ∧ (w'.cell? ⟨w3.heap.size, 0, none⟩ = some (.int .i64 ra.wide) ∧ w'.cell? ⟨w3.heap.size, 1, none⟩ = some (.int .i64 ra.high) ∧ w'.cell? ⟨w3.heap.size, 2, none⟩ = some (.slice oa ra.n ca) ∧ w'.cell? ⟨w3.heap.size, 3, none⟩ = some (.int .i64 ra.row) ∧ w'.cell? ⟨w3.heap.size, 4, none⟩ = some (.int .i64 ra.col) ∧ w'.cell? ⟨w3.heap.size, 5, none⟩ = some (.int .i64 ra.ink) ∧ w'.cell? ⟨w3.heap.size, 6, none⟩ = some (.bool ra.bold) ∧ w'.cell? ⟨w3.heap.size, 7, none⟩ = some (.int .i64 ra.top) ∧ w'.cell? ⟨w3.heap.size, 8, none⟩ = some (.int .i64 ra.bottom)) ∧ (w'.cell? ⟨w4.heap.size, 0, none⟩ = some (.int .i64 ra.wide) ∧ w'.cell? ⟨w4.heap.size, 1, none⟩ = some (.int .i64 ra.high) ∧ w'.cell? ⟨w4.heap.size, 2, none⟩ = some (.slice ob ra.n cb) ∧ w'.cell? ⟨w4.heap.size, 3, none⟩ = some (.int .i64 ra.row) ∧ w'.cell? ⟨w4.heap.size, 4, none⟩ = some (.int .i64 ra.col) ∧ w'.cell? ⟨w4.heap.size, 5, none⟩ = some (.int .i64 ra.ink) ∧ w'.cell? ⟨w4.heap.size, 6, none⟩ = some (.bool ra.bold) ∧ w'.cell? ⟨w4.heap.size, 7, none⟩ = some (.int .i64 ra.top) ∧ w'.cell? ⟨w4.heap.size, 8, none⟩ = some (.int .i64 ra.bottom))) (first | go_keep | (simp [*, World.cell?_alloc_past]))
    (first
      | (have _t := HS8; go_at_call 29; refine (HSC.out _ HS8.out.rdc HS8.out.rdg).mono ?_; rintro e w13 ⟨rfl, hb13⟩; have HS9 : Hid (Sz w g ra y ao oc oa ob cap cc ca cb w2.heap.size w3.heap.size w4.heap.size w13) := HS8.out.later hb13; clear hb13; clear p0 p1 p2 p3 p4 p5 p6 p7 p8 p9 q0 q1 q2 q3 q4 q5 q6 q7 q8 q9 r0 r1 r2 r3 r4 r5 r6 r7 r8 r9 s0 s1 s2 s3 s4 s5 s6 s7 s8 s9 e0 e1 e2 e3 e4; obtain ⟨⟨p0, p1, p2, p3, p4, p5, p6, p7, p8⟩, p9⟩ := nine HS9.out.boxg; obtain ⟨⟨q0, q1, q2, q3, q4, q5, q6, q7, q8⟩, q9⟩ := nine HS9.out.boxc; obtain ⟨⟨r0, r1, r2, r3, r4, r5, r6, r7, r8⟩, r9⟩ := nine HS9.out.boxa; obtain ⟨⟨s0, s1, s2, s3, s4, s5, s6, s7, s8⟩, s9⟩ := nine HS9.out.boxb; obtain ⟨⟨e0, e1, e2, e3⟩, e4⟩ := four HS9.out.boxy)
      | (have _t := HS3; go_at_call 29; refine (HST.out _ bn bm cm HN3.out.1.rd HN3.out.2.rd).mono ?_; rintro e w8 ⟨rfl, hb8⟩; have HS4 : Hid (Sz w g ra y ao oc oa ob cap cc ca cb w2.heap.size w3.heap.size w4.heap.size w8) := HS3.out.later hb8; clear hb8; clear p0 p1 p2 p3 p4 p5 p6 p7 p8 p9 q0 q1 q2 q3 q4 q5 q6 q7 q8 q9 r0 r1 r2 r3 r4 r5 r6 r7 r8 r9 s0 s1 s2 s3 s4 s5 s6 s7 s8 s9 e0 e1 e2 e3 e4; obtain ⟨⟨p0, p1, p2, p3, p4, p5, p6, p7, p8⟩, p9⟩ := nine HS4.out.boxg; obtain ⟨⟨q0, q1, q2, q3, q4, q5, q6, q7, q8⟩, q9⟩ := nine HS4.out.boxc; obtain ⟨⟨r0, r1, r2, r3, r4, r5, r6, r7, r8⟩, r9⟩ := nine HS4.out.boxa; obtain ⟨⟨s0, s1, s2, s3, s4, s5, s6, s7, s8⟩, s9⟩ := nine HS4.out.boxb; obtain ⟨⟨e0, e1, e2, e3⟩, e4⟩ := four HS4.out.boxy)
      | (go_at_call 29; refine (HSR.out _ HS0.out.drew.rda HS0.out.drew.rdb).mono ?_; rintro e w5 ⟨rfl, hb5⟩; have HS1 : Hid (Sz w g ra y ao oc oa ob cap cc ca cb w2.heap.size w3.heap.size w4.heap.size w5) := HS0.out.drew.later hb5; clear hb5; clear p0 p1 p2 p3 p4 p5 p6 p7 p8 p9 q0 q1 q2 q3 q4 q5 q6 q7 q8 q9 r0 r1 r2 r3 r4 r5 r6 r7 r8 r9 s0 s1 s2 s3 s4 s5 s6 s7 s8 s9 e0 e1 e2 e3 e4; obtain ⟨⟨p0, p1, p2, p3, p4, p5, p6, p7, p8⟩, p9⟩ := nine HS1.out.boxg; obtain ⟨⟨q0, q1, q2, q3, q4, q5, q6, q7, q8⟩, q9⟩ := nine HS1.out.boxc; obtain ⟨⟨r0, r1, r2, r3, r4, r5, r6, r7, r8⟩, r9⟩ := nine HS1.out.boxa; obtain ⟨⟨s0, s1, s2, s3, s4, s5, s6, s7, s8⟩, s9⟩ := nine HS1.out.boxb; obtain ⟨⟨e0, e1, e2, e3⟩, e4⟩ := four HS1.out.boxy)
      | (go_at_call 35; refine (HNW.out _).mono ?_; rintro e w6 ⟨bn, rfl, hsn, _, hb6⟩; have HS2 : Hid (Sz w g ra y ao oc oa ob cap cc ca cb w2.heap.size w3.heap.size w4.heap.size w6) := HS1.out.later hb6; have HN2 : Hid (Scr w6 bn t.n t.f) := hsn; clear hsn; clear hb6; clear p0 p1 p2 p3 p4 p5 p6 p7 p8 p9 q0 q1 q2 q3 q4 q5 q6 q7 q8 q9 r0 r1 r2 r3 r4 r5 r6 r7 r8 r9 s0 s1 s2 s3 s4 s5 s6 s7 s8 s9 e0 e1 e2 e3 e4; obtain ⟨⟨p0, p1, p2, p3, p4, p5, p6, p7, p8⟩, p9⟩ := nine HS2.out.boxg; obtain ⟨⟨q0, q1, q2, q3, q4, q5, q6, q7, q8⟩, q9⟩ := nine HS2.out.boxc; obtain ⟨⟨r0, r1, r2, r3, r4, r5, r6, r7, r8⟩, r9⟩ := nine HS2.out.boxa; obtain ⟨⟨s0, s1, s2, s3, s4, s5, s6, s7, s8⟩, s9⟩ := nine HS2.out.boxb; obtain ⟨⟨e0, e1, e2, e3⟩, e4⟩ := four HS2.out.boxy)
      | (go_at_call 36; refine (HNR.out _).mono ?_; rintro e w7 ⟨bm, cm, rfl, hsm, _, _, hb7⟩; have HS3 : Hid (Sz w g ra y ao oc oa ob cap cc ca cb w2.heap.size w3.heap.size w4.heap.size w7) := HS2.out.later hb7; have HN3 : Hid (Scr w7 bn t.n t.f ∧ Scr w7 bm t.n t.f) := ⟨HN2.out.below hb7 HN2.out.lt, hsm⟩; clear hsm; clear hb7; clear p0 p1 p2 p3 p4 p5 p6 p7 p8 p9 q0 q1 q2 q3 q4 q5 q6 q7 q8 q9 r0 r1 r2 r3 r4 r5 r6 r7 r8 r9 s0 s1 s2 s3 s4 s5 s6 s7 s8 s9 e0 e1 e2 e3 e4; obtain ⟨⟨p0, p1, p2, p3, p4, p5, p6, p7, p8⟩, p9⟩ := nine HS3.out.boxg; obtain ⟨⟨q0, q1, q2, q3, q4, q5, q6, q7, q8⟩, q9⟩ := nine HS3.out.boxc; obtain ⟨⟨r0, r1, r2, r3, r4, r5, r6, r7, r8⟩, r9⟩ := nine HS3.out.boxa; obtain ⟨⟨s0, s1, s2, s3, s4, s5, s6, s7, s8⟩, s9⟩ := nine HS3.out.boxb; obtain ⟨⟨e0, e1, e2, e3⟩, e4⟩ := four HS3.out.boxy)
      | (go_at_call 37; refine (HAT.out _ HS4.out.rdc).mono ?_; rintro e w9 ⟨rfl, hb9⟩; have HS5 : Hid (Sz w g ra y ao oc oa ob cap cc ca cb w2.heap.size w3.heap.size w4.heap.size w9) := HS4.out.later hb9; clear hb9; clear p0 p1 p2 p3 p4 p5 p6 p7 p8 p9 q0 q1 q2 q3 q4 q5 q6 q7 q8 q9 r0 r1 r2 r3 r4 r5 r6 r7 r8 r9 s0 s1 s2 s3 s4 s5 s6 s7 s8 s9 e0 e1 e2 e3 e4; obtain ⟨⟨p0, p1, p2, p3, p4, p5, p6, p7, p8⟩, p9⟩ := nine HS5.out.boxg; obtain ⟨⟨q0, q1, q2, q3, q4, q5, q6, q7, q8⟩, q9⟩ := nine HS5.out.boxc; obtain ⟨⟨r0, r1, r2, r3, r4, r5, r6, r7, r8⟩, r9⟩ := nine HS5.out.boxa; obtain ⟨⟨s0, s1, s2, s3, s4, s5, s6, s7, s8⟩, s9⟩ := nine HS5.out.boxb; obtain ⟨⟨e0, e1, e2, e3⟩, e4⟩ := four HS5.out.boxy)
      | (go_at_call 38; refine (HCA.out _ HS5.out.rdg).mono ?_; rintro e w10 ⟨rfl, hb10⟩; have HS6 : Hid (Sz w g ra y ao oc oa ob cap cc ca cb w2.heap.size w3.heap.size w4.heap.size w10) := HS5.out.later hb10; clear hb10; clear p0 p1 p2 p3 p4 p5 p6 p7 p8 p9 q0 q1 q2 q3 q4 q5 q6 q7 q8 q9 r0 r1 r2 r3 r4 r5 r6 r7 r8 r9 s0 s1 s2 s3 s4 s5 s6 s7 s8 s9 e0 e1 e2 e3 e4; obtain ⟨⟨p0, p1, p2, p3, p4, p5, p6, p7, p8⟩, p9⟩ := nine HS6.out.boxg; obtain ⟨⟨q0, q1, q2, q3, q4, q5, q6, q7, q8⟩, q9⟩ := nine HS6.out.boxc; obtain ⟨⟨r0, r1, r2, r3, r4, r5, r6, r7, r8⟩, r9⟩ := nine HS6.out.boxa; obtain ⟨⟨s0, s1, s2, s3, s4, s5, s6, s7, s8⟩, s9⟩ := nine HS6.out.boxb; obtain ⟨⟨e0, e1, e2, e3⟩, e4⟩ := four HS6.out.boxy)
      | (go_at_call 39; refine (HGC.out _).mono ?_; rintro e w11 ⟨rfl, hb11⟩; have HS7 : Hid (Sz w g ra y ao oc oa ob cap cc ca cb w2.heap.size w3.heap.size w4.heap.size w11) := HS6.out.later hb11; clear hb11; clear p0 p1 p2 p3 p4 p5 p6 p7 p8 p9 q0 q1 q2 q3 q4 q5 q6 q7 q8 q9 r0 r1 r2 r3 r4 r5 r6 r7 r8 r9 s0 s1 s2 s3 s4 s5 s6 s7 s8 s9 e0 e1 e2 e3 e4; obtain ⟨⟨p0, p1, p2, p3, p4, p5, p6, p7, p8⟩, p9⟩ := nine HS7.out.boxg; obtain ⟨⟨q0, q1, q2, q3, q4, q5, q6, q7, q8⟩, q9⟩ := nine HS7.out.boxc; obtain ⟨⟨r0, r1, r2, r3, r4, r5, r6, r7, r8⟩, r9⟩ := nine HS7.out.boxa; obtain ⟨⟨s0, s1, s2, s3, s4, s5, s6, s7, s8⟩, s9⟩ := nine HS7.out.boxb; obtain ⟨⟨e0, e1, e2, e3⟩, e4⟩ := four HS7.out.boxy)
      | (go_at_call 40; refine (HIC.out _).mono ?_; rintro e w12 ⟨rfl, hb12⟩; have HS8 : Hid (Sz w g ra y ao oc oa ob cap cc ca cb w2.heap.size w3.heap.size w4.heap.size w12) := HS7.out.later hb12; clear hb12; clear p0 p1 p2 p3 p4 p5 p6 p7 p8 p9 q0 q1 q2 q3 q4 q5 q6 q7 q8 q9 r0 r1 r2 r3 r4 r5 r6 r7 r8 r9 s0 s1 s2 s3 s4 s5 s6 s7 s8 s9 e0 e1 e2 e3 e4; obtain ⟨⟨p0, p1, p2, p3, p4, p5, p6, p7, p8⟩, p9⟩ := nine HS8.out.boxg; obtain ⟨⟨q0, q1, q2, q3, q4, q5, q6, q7, q8⟩, q9⟩ := nine HS8.out.boxc; obtain ⟨⟨r0, r1, r2, r3, r4, r5, r6, r7, r8⟩, r9⟩ := nine HS8.out.boxa; obtain ⟨⟨s0, s1, s2, s3, s4, s5, s6, s7, s8⟩, s9⟩ := nine HS8.out.boxb; obtain ⟨⟨e0, e1, e2, e3⟩, e4⟩ := four HS8.out.boxy)
      | (go_at_call 32; refine (showsL_any _).mono ?_; rintro e w14 ⟨rfl, hb14⟩; have HS10 : Hid (Sz w g ra y ao oc oa ob cap cc ca cb w2.heap.size w3.heap.size w4.heap.size w14) := HS9.out.later hb14; clear hb14; clear p0 p1 p2 p3 p4 p5 p6 p7 p8 p9 q0 q1 q2 q3 q4 q5 q6 q7 q8 q9 r0 r1 r2 r3 r4 r5 r6 r7 r8 r9 s0 s1 s2 s3 s4 s5 s6 s7 s8 s9 e0 e1 e2 e3 e4; obtain ⟨⟨p0, p1, p2, p3, p4, p5, p6, p7, p8⟩, p9⟩ := nine HS10.out.boxg; obtain ⟨⟨q0, q1, q2, q3, q4, q5, q6, q7, q8⟩, q9⟩ := nine HS10.out.boxc; obtain ⟨⟨r0, r1, r2, r3, r4, r5, r6, r7, r8⟩, r9⟩ := nine HS10.out.boxa; obtain ⟨⟨s0, s1, s2, s3, s4, s5, s6, s7, s8⟩, s9⟩ := nine HS10.out.boxb; obtain ⟨⟨e0, e1, e2, e3⟩, e4⟩ := four HS10.out.boxy))
  go_wp2
  go_ret
  exact ⟨rfl, HS10.out.below⟩

end Go.Proofs.Yteenppbpjdldgaa
