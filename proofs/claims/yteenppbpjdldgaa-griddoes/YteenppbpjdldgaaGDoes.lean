/- What 'GridDoes' answers: true. -/
import Derived.Test.YteenppbpjdldgaaGSizes
import Derived.Test.YteenppbpjdldgaaGAct
namespace Go.Proofs.Yteenppbpjdldgaa
open Go.RowKit

/-- What holds in the midst of the law: the boxes of the screen, of the event, of the copy, of the two answers. -/
structure Dz (w : World) (g ra : Gr) (y : EvIt) (ao oc oa ob : Option Addr) (cap cc ca cb B2 B3 B4 : Nat) (wr : World) : Prop where
  boxg : wr.heap[w.heap.size]? = some (gbox g ao cap)
  boxy : wr.heap[w.heap.size + 1]? = some (ebox y)
  boxc : wr.heap[B2]? = some (gbox g oc cc)
  boxa : wr.heap[B3]? = some (gbox ra oa ca)
  boxb : wr.heap[B4]? = some (gbox ra ob cb)
  rdg : RdS wr ao g.n g.f
  rdc : RdS wr oc g.n g.f
  rda : RdS wr oa ra.n ra.f
  rdb : RdS wr ob ra.n ra.f
  below : Below w.heap.size w wr

section
variable {w : World} {g ra : Gr} {y : EvIt} {ao oc oa ob : Option Addr} {cap cc ca cb B2 B3 B4 : Nat} {wr w' : World}
theorem Dz.later (h : Dz w g ra y ao oc oa ob cap cc ca cb B2 B3 B4 wr) (hb : Below wr.heap.size wr w') : Dz w g ra y ao oc oa ob cap cc ca cb B2 B3 B4 w' :=
  ⟨at_later' hb h.boxg, at_later' hb h.boxy, at_later' hb h.boxc, at_later' hb h.boxa, at_later' hb h.boxb, h.rdg.below hb, h.rdc.below hb, h.rda.below hb, h.rdb.below hb, h.below.trans (hb.mono h.below.size)⟩
theorem Dz.drew (h : Dz w g ra y ao oc oa ob cap cc ca cb B2 B3 B4 wr) : Dz w g ra y ao oc oa ob cap cc ca cb B2 B3 B4 wr.drew :=
  ⟨h.boxg, h.boxy, h.boxc, h.boxa, h.boxb, h.rdg, h.rdc, h.rda, h.rdb, h.below.drew⟩
end

theorem dz_of {w w2 w3 w4 : World} {g ra : Gr} {y : EvIt} {ao oc oa ob : Option Addr} {cap cc ca cb : Nat} (hr : RdS w ao g.n g.f) (h2 : Copied ((w.alloc (gbox g ao cap)).alloc (ebox y)) g.n g.f oc cc w2) (h3 : Copied (w2.alloc (gbox g oc cc)) ra.n ra.f oa ca w3) (h4 : RdS w4 ob ra.n ra.f) (h5 : Below (w3.alloc (gbox ra oa ca)).heap.size (w3.alloc (gbox ra oa ca)) w4) :
    Dz w g ra y ao oc oa ob cap cc ca cb w2.heap.size w3.heap.size w4.heap.size (w4.alloc (gbox ra ob cb)) := by
  have b2 : Below w.heap.size w w2 := (below2 w _ _).trans (h2.2.2.mono (by simp; omega))
  have b23 : Below (w2.alloc (gbox g oc cc)).heap.size (w2.alloc (gbox g oc cc)) w3 := h3.2.2
  have b4 : Below w4.heap.size w4 (w4.alloc (gbox ra ob cb)) := below1 _ _
  have b34 : Below w3.heap.size w3 (w4.alloc (gbox ra ob cb)) := ((below1 w3 _).trans (h5.mono (by simp))).trans (b4.mono (by have := h5.size; simp at this; omega))
  have b24 : Below w2.heap.size w2 (w4.alloc (gbox ra ob cb)) := ((below1 w2 _).trans (b23.mono (by simp))).trans (b34.mono (by have := b23.size; simp at this; omega))
  have bw : Below w.heap.size w (w4.alloc (gbox ra ob cb)) := b2.trans (b24.mono b2.size)
  refine ⟨?_, ?_, ?_, ?_, at_new _ _, hr.below bw, h2.1.below b24, h3.1.below b34, h4.below b4, bw⟩
  · exact at_later' b24 (at_later' h2.2.2 (at_old (at_new w _) _))
  · exact at_later' b24 (at_later' h2.2.2 (at_new1 w _ _))
  · exact at_later' b34 (at_later' b23 (at_new w2 _))
  · exact at_later' b4 (at_later' h5 (at_new w3 _))

theorem rdl_on {w w2 w3 : World} {l : List Int} {lo : Option Addr} {n2 n3 : Nat} {f2 f3 : Nat → Cel} {oc oa : Option Addr} {cc ca : Nat} {o1 o2 o3 o4 : Obj} (hr : RdL w lo l) (h2 : Copied ((w.alloc o1).alloc o2) n2 f2 oc cc w2) (h3 : Copied (w2.alloc o3) n3 f3 oa ca w3) : RdL (w3.alloc o4) lo l :=
  hr.below (below_on (below_on (below_on (below2 w o1 o2) h2.2.2) (below_on (below1 w2 o3) h3.2.2)) (below1 w3 o4))
theorem rdl_one {w w2 : World} {l : List Int} {lo : Option Addr} {n2 : Nat} {f2 : Nat → Cel} {oc : Option Addr} {cc : Nat} {o1 o2 o3 : Obj} (hr : RdL w lo l) (h2 : Copied ((w.alloc o1).alloc o2) n2 f2 oc cc w2) : RdL (w2.alloc o3) lo l :=
  hr.below (below_on (below_on (below2 w o1 o2) h2.2.2) (below1 w2 o3))

set_option maxRecDepth 4000 in
set_option maxHeartbeats 8000000 in
theorem does_any (g : Gr) (ao : Option Addr) (cap : Nat) (e : Evt) (eo : Option Addr) (ec : Nat) (w : World) (hr : RdS w ao g.n g.f) (hn : ao = none → g.n = 0 ∧ cap = 0) (hm : g.n ≤ 4398046511104) (hl : RdL w eo e.ps) (hlen : e.ps.length ≤ 140737488355328) (hpl : e.pl.size ≤ 140737488355328) :
    Calls Try.prog 7 #[gval g ao cap, eval e eo ec] w fun e w' => e = .returned (.bool true) ∧ Below w.heap.size w w' := by
  obtain ⟨r, hrr⟩ : ∃ r, r = actG g e := ⟨_, rfl⟩
  have HRN : Hid (r.1.n ≤ 4398046511104) := by
    show r.1.n ≤ 4398046511104
    rcases act_cases hrr with ⟨_, h⟩ | ⟨ok, hc, h⟩
    · rw [h]; exact hm
    · rw [h]
      obtain ⟨q1, q2, _⟩ := ((ok_done ok e hc).1).nums
      show (doneG g e).n ≤ 4398046511104
      omega
  have HCP : Hid (∀ w, RdS w ao g.n g.f → Calls Try.prog 26 #[gval g ao cap] w (CopyEnd w g)) := fun w hr => copyGrid_any g ao cap w hr hn hm
  have HDO : Hid (∀ w oc cc, RdS w oc g.n g.f → (oc = none → g.n = 0 ∧ cc = 0) → RdL w eo e.ps → Calls Try.prog 27 #[gval g oc cc, eval e eo ec] w (AllEnd w r)) := fun w oc cc h1 h2 h3 => do_any g oc cc e eo ec w h1 h2 hm h3 (fun h => done_any e eo ec hlen hpl h) r hrr
  have HAC : Hid (∀ w, RdS w ao g.n g.f → RdL w eo e.ps → Calls Try.prog 28 #[gval g ao cap, eval e eo ec] w (RefEnd w r)) := fun w h h2 => (act_any g ao cap e eo ec w h hn hm h2 hlen hpl r hrr).mono fun _ _ k => k.ref
  obtain ⟨ra, q⟩ := r
  simp only at HRN
  obtain ⟨gg, hgg⟩ : ∃ b, b = goodG g := ⟨_, rfl⟩
  have HGC : Hid (∀ w oc cc, RdS w oc g.n g.f → Calls Try.prog 30 #[gval g oc cc] w fun e w' => e = .returned (.bool gg) ∧ Below w.heap.size w w') := fun w oc cc h => good_any g oc cc w h (by omega) gg hgg
  have HGR : Hid (∀ w, RdS w ao g.n g.f → Calls Try.prog 31 #[gval g ao cap] w fun e w' => e = .returned (.bool gg) ∧ Below w.heap.size w w') := fun w h => goodGrid_any g ao cap w h hm gg hgg
  have HSC : Hid (∀ w oc cc, RdS w oc g.n g.f → RdS w ao g.n g.f → Calls Try.prog 29 #[gval g oc cc, gval g ao cap] w fun e w' => e = .returned (.bool true) ∧ Below w.heap.size w w') := fun w oc cc h1 h2 => sameGrid_eq g oc ao cc cap w h1 h2 hm
  have HR : Hid (RdS w ao g.n g.f ∧ RdL w eo e.ps) := ⟨hr, hl⟩
  clear hr hn hm hrr hgg hl
  go_enter Try.func7, Try.ntmps7
  go_wp2_with (first
    | (go_at_call 26; refine (HCP.out _ (HR.out.1.below (below2 _ _ _))).mono ?_; rintro e1 w2 ⟨oc, cc, rfl, hcp, hcn, hcc⟩; have HC2 : Hid (Copied ((w.alloc (gbox g ao cap)).alloc (ebox (e, eo, ec))) g.n g.f oc cc w2 ∧ (oc = none → g.n = 0 ∧ cc = 0) ∧ g.n ≤ cc) := ⟨hcp, hcn, hcc⟩; obtain ⟨⟨p0, p1, p2, p3, p4, p5, p6, p7, p8⟩, p9⟩ := nine (at_later' hcp.2.2 (at_old (at_new w _) _)); obtain ⟨⟨d0, d1, d2, d3⟩, d4⟩ := four (at_later' hcp.2.2 (at_new1 w _ _)); have hs2 : w.heap.size + 1 < w2.heap.size := (by have := hcp.2.2.size; simp at this; omega); have hs20 : w.heap.size < w2.heap.size := (by omega); clear hcp hcn hcc)
    | (go_at_call 27; refine (HDO.out _ oc cc (HC2.out.1.1.below (below1 _ _)) HC2.out.2.1 (rdl_one HR.out.2 HC2.out.1)).mono ?_; rintro e1 w3 ⟨oa, ca, rfl, hcp⟩; have HC3 : Hid (Copied (w2.alloc (gbox g oc cc)) ra.n ra.f oa ca w3) := hcp; clear p0 p1 p2 p3 p4 p5 p6 p7 p8 p9 d0 d1 d2 d3 d4; obtain ⟨⟨p0, p1, p2, p3, p4, p5, p6, p7, p8⟩, p9⟩ := nine (at_later' hcp.2.2 (at_old (at_later' HC2.out.1.2.2 (at_old (at_new w _) _)) _)); obtain ⟨⟨d0, d1, d2, d3⟩, d4⟩ := four (at_later' hcp.2.2 (at_old (at_later' HC2.out.1.2.2 (at_new1 w _ _)) _)); have hs3 : w2.heap.size < w3.heap.size := (by have := hcp.2.2.size; simp at this; omega); have hs30 : w.heap.size < w3.heap.size := (by omega); have hs31 : w.heap.size + 1 < w3.heap.size := (by omega); clear hcp)
    | (go_at_call 28; refine (HAC.out _ (rd_on HR.out.1 HC2.out.1 HC3.out) (rdl_on HR.out.2 HC2.out.1 HC3.out)).mono ?_; rintro e1 w4 ⟨ob, cb, rfl, hrd, hb4⟩; have HS0 : Hid (Dz w g ra (e, eo, ec) ao oc oa ob cap cc ca cb w2.heap.size w3.heap.size w4.heap.size (w4.alloc (gbox ra ob cb))) := dz_of HR.out.1 HC2.out.1 HC3.out hrd hb4; clear p0 p1 p2 p3 p4 p5 p6 p7 p8 p9 d0 d1 d2 d3 d4; have hs4 : w3.heap.size < w4.heap.size := (by have := hb4.size; simp at this; omega); clear hrd hb4))
  have HSR : Hid (∀ w, RdS w oa ra.n ra.f → RdS w ob ra.n ra.f → Calls Try.prog 29 #[gval ra oa ca, gval ra ob cb] w fun e w' => e = .returned (.bool true) ∧ Below w.heap.size w w') := fun w h1 h2 => sameGrid_eq ra oa ob ca cb w h1 h2 HRN.out
  obtain ⟨⟨p0, p1, p2, p3, p4, p5, p6, p7, p8⟩, p9⟩ := nine HS0.out.boxg; obtain ⟨⟨q0, q1, q2, q3, q4, q5, q6, q7, q8⟩, q9⟩ := nine HS0.out.boxc; obtain ⟨⟨r0, r1, r2, r3, r4, r5, r6, r7, r8⟩, r9⟩ := nine HS0.out.boxa; obtain ⟨⟨s0, s1, s2, s3, s4, s5, s6, s7, s8⟩, s9⟩ := nine HS0.out.boxb
  clear HCP HDO HAC HC2 HC3 HR hs2 hs20 hs3 hs4 hs30 hs31
  go_region_held3 (fun w' => (w'.cell? ⟨w.heap.size, 0, none⟩ = some (.int .i64 g.wide) ∧ w'.cell? ⟨w.heap.size, 1, none⟩ = some (.int .i64 g.high) ∧ w'.cell? ⟨w.heap.size, 2, none⟩ = some (.slice ao g.n cap) ∧ w'.cell? ⟨w.heap.size, 3, none⟩ = some (.int .i64 g.row) ∧ w'.cell? ⟨w.heap.size, 4, none⟩ = some (.int .i64 g.col) ∧ w'.cell? ⟨w.heap.size, 5, none⟩ = some (.int .i64 g.ink) ∧ w'.cell? ⟨w.heap.size, 6, none⟩ = some (.bool g.bold) ∧ w'.cell? ⟨w.heap.size, 7, none⟩ = some (.int .i64 g.top) ∧ w'.cell? ⟨w.heap.size, 8, none⟩ = some (.int .i64 g.bottom)) ∧ (w'.cell? ⟨w2.heap.size, 0, none⟩ = some (.int .i64 g.wide) ∧ w'.cell? ⟨w2.heap.size, 1, none⟩ = some (.int .i64 g.high) ∧ w'.cell? ⟨w2.heap.size, 2, none⟩ = some (.slice oc g.n cc) ∧ w'.cell? ⟨w2.heap.size, 3, none⟩ = some (.int .i64 g.row) ∧ w'.cell? ⟨w2.heap.size, 4, none⟩ = some (.int .i64 g.col) ∧ w'.cell? ⟨w2.heap.size, 5, none⟩ = some (.int .i64 g.ink) ∧ w'.cell? ⟨w2.heap.size, 6, none⟩ = some (.bool g.bold) ∧ w'.cell? ⟨w2.heap.size, 7, none⟩ = some (.int .i64 g.top) ∧ w'.cell? ⟨w2.heap.size, 8, none⟩ = some (.int .i64 g.bottom)) ∧ (w'.cell? ⟨w3.heap.size, 0, none⟩ = some (.int .i64 ra.wide) ∧ w'.cell? ⟨w3.heap.size, 1, none⟩ = some (.int .i64 ra.high) ∧ w'.cell? ⟨w3.heap.size, 2, none⟩ = some (.slice oa ra.n ca) ∧ w'.cell? ⟨w3.heap.size, 3, none⟩ = some (.int .i64 ra.row) ∧ w'.cell? ⟨w3.heap.size, 4, none⟩ = some (.int .i64 ra.col) ∧ w'.cell? ⟨w3.heap.size, 5, none⟩ = some (.int .i64 ra.ink) ∧ w'.cell? ⟨w3.heap.size, 6, none⟩ = some (.bool ra.bold) ∧ w'.cell? ⟨w3.heap.size, 7, none⟩ = some (.int .i64 ra.top) ∧ w'.cell? ⟨w3.heap.size, 8, none⟩ = some (.int .i64 ra.bottom)) ∧ (w'.cell? ⟨w4.heap.size, 0, none⟩ = some (.int .i64 ra.wide) ∧ w'.cell? ⟨w4.heap.size, 1, none⟩ = some (.int .i64 ra.high) ∧ w'.cell? ⟨w4.heap.size, 2, none⟩ = some (.slice ob ra.n cb) ∧ w'.cell? ⟨w4.heap.size, 3, none⟩ = some (.int .i64 ra.row) ∧ w'.cell? ⟨w4.heap.size, 4, none⟩ = some (.int .i64 ra.col) ∧ w'.cell? ⟨w4.heap.size, 5, none⟩ = some (.int .i64 ra.ink) ∧ w'.cell? ⟨w4.heap.size, 6, none⟩ = some (.bool ra.bold) ∧ w'.cell? ⟨w4.heap.size, 7, none⟩ = some (.int .i64 ra.top) ∧ w'.cell? ⟨w4.heap.size, 8, none⟩ = some (.int .i64 ra.bottom))) (first | go_keep | (simp [*, World.cell?_alloc_past]))
    (first
      | (have _t := HS3; go_at_call 29; refine (HSC.out _ oc cc HS3.out.rdc HS3.out.rdg).mono ?_; rintro e1 w9 ⟨rfl, hb4⟩; have HS4 : Hid (Dz w g ra (e, eo, ec) ao oc oa ob cap cc ca cb w2.heap.size w3.heap.size w4.heap.size w9) := HS3.out.later hb4; clear hb4; clear p0 p1 p2 p3 p4 p5 p6 p7 p8 p9 q0 q1 q2 q3 q4 q5 q6 q7 q8 q9 r0 r1 r2 r3 r4 r5 r6 r7 r8 r9 s0 s1 s2 s3 s4 s5 s6 s7 s8 s9; obtain ⟨⟨p0, p1, p2, p3, p4, p5, p6, p7, p8⟩, p9⟩ := nine HS4.out.boxg; obtain ⟨⟨q0, q1, q2, q3, q4, q5, q6, q7, q8⟩, q9⟩ := nine HS4.out.boxc; obtain ⟨⟨r0, r1, r2, r3, r4, r5, r6, r7, r8⟩, r9⟩ := nine HS4.out.boxa; obtain ⟨⟨s0, s1, s2, s3, s4, s5, s6, s7, s8⟩, s9⟩ := nine HS4.out.boxb)
      | (go_at_call 29; refine (HSR.out _ HS0.out.drew.rda HS0.out.drew.rdb).mono ?_; rintro e1 w6 ⟨rfl, hb1⟩; have HS1 : Hid (Dz w g ra (e, eo, ec) ao oc oa ob cap cc ca cb w2.heap.size w3.heap.size w4.heap.size w6) := HS0.out.drew.later hb1; clear hb1; clear p0 p1 p2 p3 p4 p5 p6 p7 p8 p9 q0 q1 q2 q3 q4 q5 q6 q7 q8 q9 r0 r1 r2 r3 r4 r5 r6 r7 r8 r9 s0 s1 s2 s3 s4 s5 s6 s7 s8 s9; obtain ⟨⟨p0, p1, p2, p3, p4, p5, p6, p7, p8⟩, p9⟩ := nine HS1.out.boxg; obtain ⟨⟨q0, q1, q2, q3, q4, q5, q6, q7, q8⟩, q9⟩ := nine HS1.out.boxc; obtain ⟨⟨r0, r1, r2, r3, r4, r5, r6, r7, r8⟩, r9⟩ := nine HS1.out.boxa; obtain ⟨⟨s0, s1, s2, s3, s4, s5, s6, s7, s8⟩, s9⟩ := nine HS1.out.boxb)
      | (go_at_call 30; refine (HGC.out _ oc cc HS1.out.rdc).mono ?_; rintro e1 w7 ⟨rfl, hb2⟩; have HS2 : Hid (Dz w g ra (e, eo, ec) ao oc oa ob cap cc ca cb w2.heap.size w3.heap.size w4.heap.size w7) := HS1.out.later hb2; clear hb2; clear p0 p1 p2 p3 p4 p5 p6 p7 p8 p9 q0 q1 q2 q3 q4 q5 q6 q7 q8 q9 r0 r1 r2 r3 r4 r5 r6 r7 r8 r9 s0 s1 s2 s3 s4 s5 s6 s7 s8 s9; obtain ⟨⟨p0, p1, p2, p3, p4, p5, p6, p7, p8⟩, p9⟩ := nine HS2.out.boxg; obtain ⟨⟨q0, q1, q2, q3, q4, q5, q6, q7, q8⟩, q9⟩ := nine HS2.out.boxc; obtain ⟨⟨r0, r1, r2, r3, r4, r5, r6, r7, r8⟩, r9⟩ := nine HS2.out.boxa; obtain ⟨⟨s0, s1, s2, s3, s4, s5, s6, s7, s8⟩, s9⟩ := nine HS2.out.boxb)
      | (go_at_call 31; refine (HGR.out _ HS2.out.rdg).mono ?_; rintro e1 w8 ⟨rfl, hb3⟩; have HS3 : Hid (Dz w g ra (e, eo, ec) ao oc oa ob cap cc ca cb w2.heap.size w3.heap.size w4.heap.size w8) := HS2.out.later hb3; clear hb3; clear p0 p1 p2 p3 p4 p5 p6 p7 p8 p9 q0 q1 q2 q3 q4 q5 q6 q7 q8 q9 r0 r1 r2 r3 r4 r5 r6 r7 r8 r9 s0 s1 s2 s3 s4 s5 s6 s7 s8 s9; obtain ⟨⟨p0, p1, p2, p3, p4, p5, p6, p7, p8⟩, p9⟩ := nine HS3.out.boxg; obtain ⟨⟨q0, q1, q2, q3, q4, q5, q6, q7, q8⟩, q9⟩ := nine HS3.out.boxc; obtain ⟨⟨r0, r1, r2, r3, r4, r5, r6, r7, r8⟩, r9⟩ := nine HS3.out.boxa; obtain ⟨⟨s0, s1, s2, s3, s4, s5, s6, s7, s8⟩, s9⟩ := nine HS3.out.boxb)
      | (have _t := HS4; go_at_call 32; refine (showsL_any _).mono ?_; rintro e1 w10 ⟨rfl, hb5⟩; have HS5 : Hid (Dz w g ra (e, eo, ec) ao oc oa ob cap cc ca cb w2.heap.size w3.heap.size w4.heap.size w10) := HS4.out.later hb5; clear hb5; clear p0 p1 p2 p3 p4 p5 p6 p7 p8 p9 q0 q1 q2 q3 q4 q5 q6 q7 q8 q9 r0 r1 r2 r3 r4 r5 r6 r7 r8 r9 s0 s1 s2 s3 s4 s5 s6 s7 s8 s9; obtain ⟨⟨p0, p1, p2, p3, p4, p5, p6, p7, p8⟩, p9⟩ := nine HS5.out.boxg; obtain ⟨⟨q0, q1, q2, q3, q4, q5, q6, q7, q8⟩, q9⟩ := nine HS5.out.boxc; obtain ⟨⟨r0, r1, r2, r3, r4, r5, r6, r7, r8⟩, r9⟩ := nine HS5.out.boxa; obtain ⟨⟨s0, s1, s2, s3, s4, s5, s6, s7, s8⟩, s9⟩ := nine HS5.out.boxb))
  go_wp2
  go_ret
  exact ⟨rfl, HS5.out.below⟩

end Go.Proofs.Yteenppbpjdldgaa
