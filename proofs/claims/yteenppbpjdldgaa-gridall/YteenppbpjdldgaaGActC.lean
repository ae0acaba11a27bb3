/- The document's own 'Act': pictures and the new screen. -/
import Derived.Test.YteenppbpjdldgaaGActB
import Derived.Test.YteenppbpjdldgaaGRefE
import Derived.Test.YteenppbpjdldgaaGAll2
namespace Go.Proofs.Yteenppbpjdldgaa
open Go.RowKit

set_option maxRecDepth 4000 in
set_option maxHeartbeats 4000000 in
theorem act_pic (g : Gr) (ok : OkG g) (ao : Option Addr) (cap : Nat) (c : Int) (ps : List Int) (pl : ByteArray) (eo : Option Addr) (ec : Nat) (w : World) (hr : RdS w ao g.n g.f) (hn : ao = none → g.n = 0 ∧ cap = 0) (hlen : pl.size ≤ 140737488355328) (x : Gr) (hx : x = picG g pl) :
    Calls Try.prog 28 #[gval g ao cap, eval ⟨4, c, ps, pl⟩ eo ec] w (RefEndS w ao (x, 0)) := by
  have hm : g.n ≤ 4398046511104 := by obtain ⟨q1, q2, _⟩ := ok.nums; omega
  have HR : Hid (RdS w ao g.n g.f) := hr
  have HPOS : Hid (0 < g.n) := by
    obtain ⟨q1, q2, q3, q4, _⟩ := ok.nums
    have := ok.w1
    have := ok.r1
    show 0 < g.n
    omega
  have HGD : Hid (∀ w, RdS w ao g.n g.f → Calls Try.prog 31 #[gval g ao cap] w fun e w' => e = .returned (.bool true) ∧ Below w.heap.size w w') := fun w hr => goodGrid_any g ao cap w hr hm true ((goodG_iff g).2 ok).symm
  have HCP : Hid (∀ w, RdS w ao g.n g.f → Calls Try.prog 26 #[gval g ao cap] w (CopyEnd w g)) := fun w hr => copyGrid_any g ao cap w hr hn hm
  have HCS : Hid (∀ (w' : World) (b' cap' : Nat), Scr w' b' g.n g.f → g.n ≤ cap' → Calls Try.prog 57 #[gval g (some ⟨b', 0, none⟩) cap', .string pl] w' (GEnd w' b' cap' x)) := by
    intro w' b' cap' hS hcc
    rw [hx]
    exact drawn_any g ok b' cap' w' hS hcc pl hlen _ rfl
  have HXN : Hid (x.n = g.n) := by rw [hx]; rfl
  clear hr hm hx ok hn
  go_enter Try.func28, Try.ntmps28
  go_upto_region 6 with (go_at_call 31; refine (HGD.out _ (HR.out.below (below3 _ _ _ _))).mono ?_; rintro e w2 ⟨rfl, hb2⟩; have q0 := below_block hb2 (at_old (at_old (at_new w _) _) _) (by simp; omega); have q1 := below_block hb2 (at_old (at_new1 w _ _) _) (by simp); have q2 := below_block hb2 (at_new2 w _ _ _) (by simp); have HB : Hid (Below w.heap.size w w2 ∧ w2.heap[w.heap.size]? = some (gbox g ao cap) ∧ w2.heap[w.heap.size + 1]? = some (ebox (⟨4, c, ps, pl⟩, eo, ec)) ∧ w2.heap[w.heap.size + 2]? = some gzero) := ⟨(below3 _ _ _ _).trans (hb2.mono (by simp; omega)), q0, q1, q2⟩; obtain ⟨⟨x0, x1, x2, x3, x4, x5, x6, x7, x8⟩, z⟩ := nine q0; obtain ⟨⟨y0, y1, y2, y3⟩, z3⟩ := four q1; obtain ⟨⟨r0, r1, r2, r3, r4, r5, r6, r7, r8⟩, rv⟩ := nine q2; have m0 : w.heap.size < w2.heap.size := (Array.getElem?_eq_some_iff.1 q0).1; have m1 : w.heap.size + 1 < w2.heap.size := (Array.getElem?_eq_some_iff.1 q1).1; have m2 : w.heap.size + 1 + 1 < w2.heap.size := (Array.getElem?_eq_some_iff.1 q2).1; clear hb2 q0 q1 q2)
  go_cut [5] from 21 to 22 (fun _ wx => ACut w g (⟨4, c, ps, pl⟩, eo, ec) ao cap w2.heap.size wx)
  case first =>
    go_wp2_with (go_at_call 26; refine (HCP.out _ (HR.out.below (HB.out.1.alloc HB.out.1.size _))).mono ?_; rintro e w4 ⟨ao4, cap4, rfl, hcp, _, _⟩; obtain ⟨b', rfl, hb', hcc, hs'⟩ := hcp.2.1 HPOS.out; obtain ⟨⟨s0, s1, s2, s3, s4, s5, s6, s7, s8⟩, sz⟩ := nine (below_block hcp.2.2 (at_old HB.out.2.1 _) (by have := (Array.getElem?_eq_some_iff.1 HB.out.2.1).1; simp; omega)); have HE : Hid (Scr w4 b' g.n g.f ∧ g.n ≤ cap4 ∧ (w2.alloc (gbox g ao cap)).heap.size ≤ b' ∧ Below (w2.alloc (gbox g ao cap)).heap.size (w2.alloc (gbox g ao cap)) w4) := ⟨hs', hcc, hb', hcp.2.2⟩; clear hs' hcc hb' hcp)
    go_meet
    obtain ⟨f1, f2, f3, f4⟩ := HE.out
    obtain ⟨g1, g2, g3, g4⟩ := HB.out
    exact acut_of f1 f2 f3 f4 g1 g2 g3 g4
  case rest =>
    obtain ⟨b', cap', h0, h1, h2, h3, hs, hcc, hA, hA3, hbel⟩ := hcut
    have HC : Hid (wc.heap[w.heap.size]? = some (gbox g (some ⟨b', 0, none⟩) cap') ∧ wc.heap[w.heap.size + 2]? = some gzero ∧ Scr wc b' g.n g.f ∧ g.n ≤ cap' ∧ Below w.heap.size w wc ∧ w.heap.size + 3 ≤ b') := ⟨h0, h2, hs, hcc, hbel, by omega⟩
    have hb3 : w.heap.size + 3 ≤ b' := by omega
    clear x0 x1 x2 x3 x4 x5 x6 x7 x8 z y0 y1 y2 y3 z3 r0 r1 r2 r3 r4 r5 r6 r7 r8 rv
    obtain ⟨⟨x0, x1, x2, x3, x4, x5, x6, x7, x8⟩, z⟩ := nine h0
    obtain ⟨⟨y0, y1, y2, y3⟩, z3⟩ := four h1
    obtain ⟨⟨r0, r1, r2, r3, r4, r5, r6, r7, r8⟩, rv⟩ := nine h2
    obtain ⟨⟨a0, a1, a2, a3, a4, a5, a6, a7, a8⟩, az⟩ := nine h3
    have hlw : w.heap.size + 3 ≤ wc.heap.size := by have := hs.lt; omega
    clear h0 h1 h2 h3 hs hcc hbel
    go_upto_block 0 with fail
    go_cut [5] from 25 to 136 (fun _ wx => AFin w x wx)
    case first =>
      go_wp2_with (go_at_call 57; refine (HCS.out _ b' cap' HC.out.2.2.1 HC.out.2.2.2.1).mono ?_; rintro e w5 ⟨rfl, hs5, hg5⟩; have hc5 : x.n ≤ cap' := (by rw [HXN.out]; exact HC.out.2.2.2.1); have blk0 := grown_block hg5 HC.out.1 (by simp; omega); have blk2 := grown_block hg5 HC.out.2.1 (by simp; omega); have hbb : Below w.heap.size w w5 := HC.out.2.2.2.2.1.trans (grown_below hg5 (by omega) (by omega)); have hz : w.heap.size + 3 ≤ wc.heap.size := hlw; have HE : Hid (Scr w5 b' x.n x.f ∧ x.n ≤ cap' ∧ w.heap.size + 3 ≤ b' ∧ Below w.heap.size w w5 ∧ w5.heap[w.heap.size]? = some (gbox g (some ⟨b', 0, none⟩) cap') ∧ w5.heap[w.heap.size + 2]? = some gzero) := ⟨hs5, hc5, by have := HC.out.2.2.2.2.2; omega, hbb, blk0, blk2⟩; obtain ⟨⟨s0, s1, s2, s3, s4, s5, s6, s7, s8⟩, sz⟩ := nine blk0; clear hs5 hg5 blk0 blk2 hbb hz hc5)
      go_meet
      obtain ⟨f1, f2, f3, f4, f5, f6⟩ := HE.out
      exact afin_of f1 f2 f3 f4 f5 f6
    case rest =>
      obtain ⟨b2, cap2, h0, h2, hs, hcc, hb2, hbel⟩ := hcut
      have HF : Hid (Scr _ b2 x.n x.f ∧ w.heap.size + 3 ≤ b2 ∧ Below w.heap.size w _) := ⟨hs, hb2, hbel⟩
      obtain ⟨⟨k0, k1, k2, k3, k4, k5, k6, k7, k8⟩, kz⟩ := nine h0
      obtain ⟨⟨l0, l1, l2, l3, l4, l5, l6, l7, l8⟩, lz⟩ := nine h2
      clear h0 h2 hs hcc hbel x0 x1 x2 x3 x4 x5 x6 x7 x8 z r0 r1 r2 r3 r4 r5 r6 r7 r8 rv a0 a1 a2 a3 a4 a5 a6 a7 a8 az
      go_wp2
      refine bodyPost_ret (v := .tuple #[gval x (some ⟨b2, 0, none⟩) cap2, .int .i64 0]) (by simp [results, Try.results28, go_sem, *]) rfl ?_
      exact act_end (cap' := cap2) HF.out.1 HF.out.2.1 HF.out.2.2 _ _ _ _ _ _ _ _ _

set_option maxRecDepth 4000 in
set_option maxHeartbeats 4000000 in
theorem act_new (g : Gr) (ok : OkG g) (ao : Option Addr) (cap : Nat) (c : Int) (ps : List Int) (pl : ByteArray) (eo : Option Addr) (ec : Nat) (w : World) (hr : RdS w ao g.n g.f) (hn : ao = none → g.n = 0 ∧ cap = 0) (x : Gr) (hx : x = newG g.wide g.high) :
    Calls Try.prog 28 #[gval g ao cap, eval ⟨5, c, ps, pl⟩ eo ec] w (RefEndS w ao (x, 0)) := by
  have hm : g.n ≤ 4398046511104 := by obtain ⟨q1, q2, _⟩ := ok.nums; omega
  have HR : Hid (RdS w ao g.n g.f) := hr
  have HPOS : Hid (0 < g.n) := by
    obtain ⟨q1, q2, q3, q4, _⟩ := ok.nums
    have := ok.w1
    have := ok.r1
    show 0 < g.n
    omega
  have HGD : Hid (∀ w, RdS w ao g.n g.f → Calls Try.prog 31 #[gval g ao cap] w fun e w' => e = .returned (.bool true) ∧ Below w.heap.size w w') := fun w hr => goodGrid_any g ao cap w hr hm true ((goodG_iff g).2 ok).symm
  have HCP : Hid (∀ w, RdS w ao g.n g.f → Calls Try.prog 26 #[gval g ao cap] w (CopyEnd w g)) := fun w hr => copyGrid_any g ao cap w hr hn hm
  have HCS : Hid (∀ w, Calls Try.prog 36 #[.int .i64 g.wide, .int .i64 g.high] w fun e w' => ∃ b cap, e = .returned (gval x (some ⟨b, 0, none⟩) cap) ∧ Scr w' b x.n x.f ∧ x.n ≤ cap ∧ w.heap.size ≤ b ∧ Below w.heap.size w w') := fun w => newGrid_any g.wide g.high w x hx
  clear hr hm hx ok hn
  go_enter Try.func28, Try.ntmps28
  go_upto_region 6 with (go_at_call 31; refine (HGD.out _ (HR.out.below (below3 _ _ _ _))).mono ?_; rintro e w2 ⟨rfl, hb2⟩; have q0 := below_block hb2 (at_old (at_old (at_new w _) _) _) (by simp; omega); have q1 := below_block hb2 (at_old (at_new1 w _ _) _) (by simp); have q2 := below_block hb2 (at_new2 w _ _ _) (by simp); have HB : Hid (Below w.heap.size w w2 ∧ w2.heap[w.heap.size]? = some (gbox g ao cap) ∧ w2.heap[w.heap.size + 1]? = some (ebox (⟨5, c, ps, pl⟩, eo, ec)) ∧ w2.heap[w.heap.size + 2]? = some gzero) := ⟨(below3 _ _ _ _).trans (hb2.mono (by simp; omega)), q0, q1, q2⟩; obtain ⟨⟨x0, x1, x2, x3, x4, x5, x6, x7, x8⟩, z⟩ := nine q0; obtain ⟨⟨y0, y1, y2, y3⟩, z3⟩ := four q1; obtain ⟨⟨r0, r1, r2, r3, r4, r5, r6, r7, r8⟩, rv⟩ := nine q2; have m0 : w.heap.size < w2.heap.size := (Array.getElem?_eq_some_iff.1 q0).1; have m1 : w.heap.size + 1 < w2.heap.size := (Array.getElem?_eq_some_iff.1 q1).1; have m2 : w.heap.size + 1 + 1 < w2.heap.size := (Array.getElem?_eq_some_iff.1 q2).1; clear hb2 q0 q1 q2)
  go_cut [5] from 21 to 22 (fun _ wx => ACut w g (⟨5, c, ps, pl⟩, eo, ec) ao cap w2.heap.size wx)
  case first =>
    go_wp2_with (go_at_call 26; refine (HCP.out _ (HR.out.below (HB.out.1.alloc HB.out.1.size _))).mono ?_; rintro e w4 ⟨ao4, cap4, rfl, hcp, _, _⟩; obtain ⟨b', rfl, hb', hcc, hs'⟩ := hcp.2.1 HPOS.out; obtain ⟨⟨s0, s1, s2, s3, s4, s5, s6, s7, s8⟩, sz⟩ := nine (below_block hcp.2.2 (at_old HB.out.2.1 _) (by have := (Array.getElem?_eq_some_iff.1 HB.out.2.1).1; simp; omega)); have HE : Hid (Scr w4 b' g.n g.f ∧ g.n ≤ cap4 ∧ (w2.alloc (gbox g ao cap)).heap.size ≤ b' ∧ Below (w2.alloc (gbox g ao cap)).heap.size (w2.alloc (gbox g ao cap)) w4) := ⟨hs', hcc, hb', hcp.2.2⟩; clear hs' hcc hb' hcp)
    go_meet
    obtain ⟨f1, f2, f3, f4⟩ := HE.out
    obtain ⟨g1, g2, g3, g4⟩ := HB.out
    exact acut_of f1 f2 f3 f4 g1 g2 g3 g4
  case rest =>
    obtain ⟨b', cap', h0, h1, h2, h3, hs, hcc, hA, hA3, hbel⟩ := hcut
    have HC : Hid (wc.heap[w.heap.size]? = some (gbox g (some ⟨b', 0, none⟩) cap') ∧ wc.heap[w.heap.size + 2]? = some gzero ∧ Scr wc b' g.n g.f ∧ g.n ≤ cap' ∧ Below w.heap.size w wc ∧ w.heap.size + 3 ≤ b') := ⟨h0, h2, hs, hcc, hbel, by omega⟩
    have hb3 : w.heap.size + 3 ≤ b' := by omega
    clear x0 x1 x2 x3 x4 x5 x6 x7 x8 z y0 y1 y2 y3 z3 r0 r1 r2 r3 r4 r5 r6 r7 r8 rv
    obtain ⟨⟨x0, x1, x2, x3, x4, x5, x6, x7, x8⟩, z⟩ := nine h0
    obtain ⟨⟨y0, y1, y2, y3⟩, z3⟩ := four h1
    obtain ⟨⟨r0, r1, r2, r3, r4, r5, r6, r7, r8⟩, rv⟩ := nine h2
    obtain ⟨⟨a0, a1, a2, a3, a4, a5, a6, a7, a8⟩, az⟩ := nine h3
    have hlw : w.heap.size + 3 ≤ wc.heap.size := by have := hs.lt; omega
    clear h0 h1 h2 h3 hs hcc hbel
    go_upto_block 0 with fail
    go_cut [5] from 25 to 136 (fun _ wx => AFin w x wx)
    case first =>
      go_wp2_with (go_at_call 36; refine (HCS.out _).mono ?_; rintro e w5 ⟨b5, cap5, rfl, hs5, hc5, hb5, hl5⟩; have blk0 := below_block hl5 HC.out.1 (by omega); have blk2 := below_block hl5 HC.out.2.1 (by omega); have hbb : Below w.heap.size w w5 := HC.out.2.2.2.2.1.trans (hl5.mono (by omega)); have hz : w.heap.size + 3 ≤ wc.heap.size := hlw; have HE : Hid (Scr w5 b5 x.n x.f ∧ x.n ≤ cap5 ∧ w.heap.size + 3 ≤ b5 ∧ Below w.heap.size w w5 ∧ w5.heap[w.heap.size]? = some (gbox g (some ⟨b', 0, none⟩) cap') ∧ w5.heap[w.heap.size + 2]? = some gzero) := ⟨hs5, hc5, by have := HC.out.2.2.2.2.2; omega, hbb, blk0, blk2⟩; obtain ⟨⟨s0, s1, s2, s3, s4, s5, s6, s7, s8⟩, sz⟩ := nine blk0; clear hs5 hc5 hl5 hb5 blk0 blk2 hbb hz)
      go_meet
      obtain ⟨f1, f2, f3, f4, f5, f6⟩ := HE.out
      exact afin_of f1 f2 f3 f4 f5 f6
    case rest =>
      obtain ⟨b2, cap2, h0, h2, hs, hcc, hb2, hbel⟩ := hcut
      have HF : Hid (Scr _ b2 x.n x.f ∧ w.heap.size + 3 ≤ b2 ∧ Below w.heap.size w _) := ⟨hs, hb2, hbel⟩
      obtain ⟨⟨k0, k1, k2, k3, k4, k5, k6, k7, k8⟩, kz⟩ := nine h0
      obtain ⟨⟨l0, l1, l2, l3, l4, l5, l6, l7, l8⟩, lz⟩ := nine h2
      clear h0 h2 hs hcc hbel x0 x1 x2 x3 x4 x5 x6 x7 x8 z r0 r1 r2 r3 r4 r5 r6 r7 r8 rv a0 a1 a2 a3 a4 a5 a6 a7 a8 az
      go_wp2
      refine bodyPost_ret (v := .tuple #[gval x (some ⟨b2, 0, none⟩) cap2, .int .i64 0]) (by simp [results, Try.results28, go_sem, *]) rfl ?_
      exact act_end (cap' := cap2) HF.out.1 HF.out.2.1 HF.out.2.2 _ _ _ _ _ _ _ _ _

end Go.Proofs.Yteenppbpjdldgaa
