/- The document's own 'Act': printing. -/
import Derived.Test.YteenppbpjdldgaaGActD
import Derived.Test.YteenppbpjdldgaaGRefE
import Derived.Test.YteenppbpjdldgaaGAll2
namespace Go.Proofs.Yteenppbpjdldgaa
open Go.RowKit

theorem afin_put {w wx : World} {y : Gr} {b' cap' : Nat} (h0 : wx.heap[w.heap.size]? = some (gbox y (some ⟨b', 0, none⟩) cap')) (h2 : wx.heap[w.heap.size + 2]? = some gzero) (hs : Scr wx b' y.n y.f) (hc : y.n ≤ cap') (hb : w.heap.size + 3 ≤ b') (hbel : Below w.heap.size w wx) (i o0 o1 o2 o3 : Nat) (k : Cel) (hi : i < y.n) (e0 : o0 = i * 4) (e1 : o1 = i * 4 + 1) (e2 : o2 = i * 4 + 2) (e3 : o3 = i * 4 + 3) :
    AFin w { y with f := putF y.f i k } ((((wx.setCell ⟨b', o0, none⟩ (.int .i64 k.ch)).setCell ⟨b', o1, none⟩ (.int .i64 k.ink)).setCell ⟨b', o2, none⟩ (.int .i64 k.pic)).setCell ⟨b', o3, none⟩ (.bool k.bold)) :=
  ⟨b', cap', other_set (other_set (other_set (other_set h0 (by omega)) (by omega)) (by omega)) (by omega), other_set (other_set (other_set (other_set h2 (by omega)) (by omega)) (by omega)) (by omega), hs.put i o0 o1 o2 o3 k hi e0 e1 e2 e3, hc, hb, (((hbel.setCell (by show _ ≤ b'; omega) _).setCell (by show _ ≤ b'; omega) _).setCell (by show _ ≤ b'; omega) _).setCell (by show _ ≤ b'; omega) _⟩

theorem back_col (g : Gr) : rowOnG { g with col := 0 } = { rowOnG g with col := 0 } := by
  unfold rowOnG
  split <;> rfl

set_option maxRecDepth 4000 in
set_option maxHeartbeats 4000000 in
theorem act_form (g : Gr) (ok : OkG g) (ao : Option Addr) (cap : Nat) (c : Int) (ps : List Int) (pl : ByteArray) (eo : Option Addr) (ec : Nat) (w : World) (hr : RdS w ao g.n g.f) (hn : ao = none → g.n = 0 ∧ cap = 0) (hcf : c < 32 ∨ 126 < c) :
    Calls Try.prog 28 #[gval g ao cap, eval ⟨1, c, ps, pl⟩ eo ec] w (RefEndS w ao (g, 6)) := by
  have hm : g.n ≤ 4398046511104 := by obtain ⟨q1, q2, _⟩ := ok.nums; omega
  have HR : Hid (RdS w ao g.n g.f) := hr
  have HPOS : Hid (0 < g.n) := by
    obtain ⟨q1, q2, q3, q4, _⟩ := ok.nums
    have := ok.w1
    have := ok.r1
    show 0 < g.n
    omega
  have HGD : Hid (∀ w, RdS w ao g.n g.f → Calls Try.prog 31 #[gval g ao cap] w fun e w' => e = .returned (.bool true) ∧ Below w.heap.size w w') := fun w hr => goodGrid_any g ao cap w hr hm true ((goodG_iff g).2 ok).symm
  have HCP : Hid (∀ w, RdS w ao g.n g.f → Calls Try.prog 26 #[gval g ao cap] w (CopyEnd w g)) := fun w hr => copyGrid_any g ao cap w hr hn hm
  have hcf2 : c < 32 ∨ (32 ≤ c ∧ 126 < c) := by omega
  clear hr hm ok hn hcf
  go_enter Try.func28, Try.ntmps28
  go_upto_region 6 with (go_at_call 31; refine (HGD.out _ (HR.out.below (below3 _ _ _ _))).mono ?_; rintro e w2 ⟨rfl, hb2⟩; have q0 := below_block hb2 (at_old (at_old (at_new w _) _) _) (by simp; omega); have q1 := below_block hb2 (at_old (at_new1 w _ _) _) (by simp); have q2 := below_block hb2 (at_new2 w _ _ _) (by simp); have HB : Hid (Below w.heap.size w w2 ∧ w2.heap[w.heap.size]? = some (gbox g ao cap) ∧ w2.heap[w.heap.size + 1]? = some (ebox (⟨1, c, ps, pl⟩, eo, ec)) ∧ w2.heap[w.heap.size + 2]? = some gzero) := ⟨(below3 _ _ _ _).trans (hb2.mono (by simp; omega)), q0, q1, q2⟩; obtain ⟨⟨x0, x1, x2, x3, x4, x5, x6, x7, x8⟩, z⟩ := nine q0; obtain ⟨⟨y0, y1, y2, y3⟩, z3⟩ := four q1; obtain ⟨⟨r0, r1, r2, r3, r4, r5, r6, r7, r8⟩, rv⟩ := nine q2; have m0 : w.heap.size < w2.heap.size := (Array.getElem?_eq_some_iff.1 q0).1; have m1 : w.heap.size + 1 < w2.heap.size := (Array.getElem?_eq_some_iff.1 q1).1; have m2 : w.heap.size + 1 + 1 < w2.heap.size := (Array.getElem?_eq_some_iff.1 q2).1; clear hb2 q0 q1 q2)
  go_cut [5] from 21 to 22 (fun _ wx => ACut w g (⟨1, c, ps, pl⟩, eo, ec) ao cap w2.heap.size wx)
  case first =>
    go_wp2_with (go_at_call 26; refine (HCP.out _ (HR.out.below (HB.out.1.alloc HB.out.1.size _))).mono ?_; rintro e w4 ⟨ao4, cap4, rfl, hcp, _, _⟩; obtain ⟨b', rfl, hb', hcc, hs'⟩ := hcp.2.1 HPOS.out; obtain ⟨⟨s0, s1, s2, s3, s4, s5, s6, s7, s8⟩, sz⟩ := nine (below_block hcp.2.2 (at_old HB.out.2.1 _) (by have := (Array.getElem?_eq_some_iff.1 HB.out.2.1).1; simp; omega)); have HE : Hid (Scr w4 b' g.n g.f ∧ g.n ≤ cap4 ∧ (w2.alloc (gbox g ao cap)).heap.size ≤ b' ∧ Below (w2.alloc (gbox g ao cap)).heap.size (w2.alloc (gbox g ao cap)) w4) := ⟨hs', hcc, hb', hcp.2.2⟩; clear hs' hcc hb' hcp)
    go_meet
    obtain ⟨f1, f2, f3, f4⟩ := HE.out
    obtain ⟨g1, g2, g3, g4⟩ := HB.out
    exact acut_of f1 f2 f3 f4 g1 g2 g3 g4
  case rest =>
    obtain ⟨b', cap', h0, h1, h2, h3, hs, hcc, hA, hA3, hbel⟩ := hcut
    have HC : Hid (wc.heap[w.heap.size]? = some (gbox g (some ⟨b', 0, none⟩) cap') ∧ wc.heap[w.heap.size + 2]? = some gzero ∧ Scr wc b' g.n g.f ∧ g.n ≤ cap' ∧ Below w.heap.size w wc ∧ w.heap.size + 3 ≤ b') := ⟨h0, h2, hs, hcc, hbel, by omega⟩
    have hb3 : w.heap.size + 3 ≤ b' := by omega
    clear x0 x1 x2 x3 x4 x5 x6 x7 x8 z y0 y1 y2 y3 z3 r0 r1 r2 r3 r4 r5 r6 r7 r8 rv
    obtain ⟨⟨x0, x1, x2, x3, x4, x5, x6, x7, x8⟩, z⟩ := nine h0
    obtain ⟨⟨y0, y1, y2, y3⟩, z3⟩ := four h1
    obtain ⟨⟨r0, r1, r2, r3, r4, r5, r6, r7, r8⟩, rv⟩ := nine h2
    obtain ⟨⟨a0, a1, a2, a3, a4, a5, a6, a7, a8⟩, az⟩ := nine h3
    have hlw : w.heap.size + 3 ≤ wc.heap.size := by have := hs.lt; omega
    clear h0 h1 h2 h3 hs hcc hbel
    rcases hcf2 with hcf | ⟨hcf0, hcf⟩
    all_goals (
      go_wp2
      refine bodyPost_ret (v := .tuple #[gval g ao cap, .int .i64 6]) (by simp [results, Try.results28, go_sem, *]) rfl ?_
      have hb9 := below_set9 HC.out.2.2.2.2.1 (B := w.heap.size + 2) (by omega) (.int .i64 g.wide) (.int .i64 g.high) (.slice ao g.n cap) (.int .i64 g.row) (.int .i64 g.col) (.int .i64 g.ink) (.bool g.bold) (.int .i64 g.top) (.int .i64 g.bottom)
      exact ⟨ao, cap, rfl, HR.out.below hb9, hb9, .inl rfl⟩)

set_option maxRecDepth 4000 in
set_option maxHeartbeats 4000000 in
theorem act_print (g : Gr) (ok : OkG g) (ao : Option Addr) (cap : Nat) (c : Int) (ps : List Int) (pl : ByteArray) (eo : Option Addr) (ec : Nat) (w : World) (hr : RdS w ao g.n g.f) (hn : ao = none → g.n = 0 ∧ cap = 0) (hc32 : 32 ≤ c) (hc126 : c ≤ 126) (y x : Gr) (hy : y = backG g) (hx : x = putG y c) :
    Calls Try.prog 28 #[gval g ao cap, eval ⟨1, c, ps, pl⟩ eo ec] w (RefEndS w ao (x, 0)) := by
  have hm : g.n ≤ 4398046511104 := by obtain ⟨q1, q2, _⟩ := ok.nums; omega
  have HR : Hid (RdS w ao g.n g.f) := hr
  have HPOS : Hid (0 < g.n) := by
    obtain ⟨q1, q2, q3, q4, _⟩ := ok.nums
    have := ok.w1
    have := ok.r1
    show 0 < g.n
    omega
  have HGD : Hid (∀ w, RdS w ao g.n g.f → Calls Try.prog 31 #[gval g ao cap] w fun e w' => e = .returned (.bool true) ∧ Below w.heap.size w w') := fun w hr => goodGrid_any g ao cap w hr hm true ((goodG_iff g).2 ok).symm
  have HCP : Hid (∀ w, RdS w ao g.n g.f → Calls Try.prog 26 #[gval g ao cap] w (CopyEnd w g)) := fun w hr => copyGrid_any g ao cap w hr hn hm
  obtain ⟨oky, hycw, _, _, hyn⟩ := ok_back ok
  rw [← hy] at oky hycw hyn
  have HOY : Hid (OkG y ∧ y.col < y.wide) := ⟨oky, hycw⟩
  have HX : Hid (x = putG y c) := hx
  have HCS : Hid (∀ (w' : World) (b' cap' : Nat), Scr w' b' g.n g.f → g.n ≤ cap' → Calls Try.prog 55 #[gval g (some ⟨b', 0, none⟩) cap'] w' (NEnd w' b' (rowOnG g))) := fun w' b' cap' hS hcc => nextRow_any g ok b' cap' w' hS hcc _ rfl
  have HYB : Hid ((g.col = g.wide → y = { rowOnG g with col := 0 }) ∧ (g.col ≠ g.wide → y = g)) := by
    constructor
    · intro h; rw [hy]; unfold backG; rw [if_pos h]; exact back_col g
    · intro h; rw [hy]; unfold backG; rw [if_neg h]
  obtain ⟨z0, hz0⟩ : ∃ z0, z0 = rowOnG g := ⟨_, rfl⟩
  rw [← hz0] at HCS HYB
  clear hr hm hx ok hn hy hz0 oky hycw hyn
  go_enter Try.func28, Try.ntmps28
  go_upto_region 6 with (go_at_call 31; refine (HGD.out _ (HR.out.below (below3 _ _ _ _))).mono ?_; rintro e w2 ⟨rfl, hb2⟩; have q0 := below_block hb2 (at_old (at_old (at_new w _) _) _) (by simp; omega); have q1 := below_block hb2 (at_old (at_new1 w _ _) _) (by simp); have q2 := below_block hb2 (at_new2 w _ _ _) (by simp); have HB : Hid (Below w.heap.size w w2 ∧ w2.heap[w.heap.size]? = some (gbox g ao cap) ∧ w2.heap[w.heap.size + 1]? = some (ebox (⟨1, c, ps, pl⟩, eo, ec)) ∧ w2.heap[w.heap.size + 2]? = some gzero) := ⟨(below3 _ _ _ _).trans (hb2.mono (by simp; omega)), q0, q1, q2⟩; obtain ⟨⟨x0, x1, x2, x3, x4, x5, x6, x7, x8⟩, z⟩ := nine q0; obtain ⟨⟨y0, y1, y2, y3⟩, z3⟩ := four q1; obtain ⟨⟨r0, r1, r2, r3, r4, r5, r6, r7, r8⟩, rv⟩ := nine q2; have m0 : w.heap.size < w2.heap.size := (Array.getElem?_eq_some_iff.1 q0).1; have m1 : w.heap.size + 1 < w2.heap.size := (Array.getElem?_eq_some_iff.1 q1).1; have m2 : w.heap.size + 1 + 1 < w2.heap.size := (Array.getElem?_eq_some_iff.1 q2).1; clear hb2 q0 q1 q2)
  go_cut [5] from 21 to 22 (fun _ wx => ACut w g (⟨1, c, ps, pl⟩, eo, ec) ao cap w2.heap.size wx)
  case first =>
    go_wp2_with (go_at_call 26; refine (HCP.out _ (HR.out.below (HB.out.1.alloc HB.out.1.size _))).mono ?_; rintro e w4 ⟨ao4, cap4, rfl, hcp, _, _⟩; obtain ⟨b', rfl, hb', hcc, hs'⟩ := hcp.2.1 HPOS.out; obtain ⟨⟨s0, s1, s2, s3, s4, s5, s6, s7, s8⟩, sz⟩ := nine (below_block hcp.2.2 (at_old HB.out.2.1 _) (by have := (Array.getElem?_eq_some_iff.1 HB.out.2.1).1; simp; omega)); have HE : Hid (Scr w4 b' g.n g.f ∧ g.n ≤ cap4 ∧ (w2.alloc (gbox g ao cap)).heap.size ≤ b' ∧ Below (w2.alloc (gbox g ao cap)).heap.size (w2.alloc (gbox g ao cap)) w4) := ⟨hs', hcc, hb', hcp.2.2⟩; clear hs' hcc hb' hcp)
    go_meet
    obtain ⟨f1, f2, f3, f4⟩ := HE.out
    obtain ⟨g1, g2, g3, g4⟩ := HB.out
    exact acut_of f1 f2 f3 f4 g1 g2 g3 g4
  case rest =>
    obtain ⟨b', cap', h0, h1, h2, h3, hs, hcc, hA, hA3, hbel⟩ := hcut
    have HC : Hid (wc.heap[w.heap.size]? = some (gbox g (some ⟨b', 0, none⟩) cap') ∧ wc.heap[w.heap.size + 2]? = some gzero ∧ Scr wc b' g.n g.f ∧ g.n ≤ cap' ∧ Below w.heap.size w wc ∧ w.heap.size + 3 ≤ b') := ⟨h0, h2, hs, hcc, hbel, by omega⟩
    have hb3 : w.heap.size + 3 ≤ b' := by omega
    clear x0 x1 x2 x3 x4 x5 x6 x7 x8 z y0 y1 y2 y3 z3 r0 r1 r2 r3 r4 r5 r6 r7 r8 rv
    obtain ⟨⟨x0, x1, x2, x3, x4, x5, x6, x7, x8⟩, z⟩ := nine h0
    obtain ⟨⟨y0, y1, y2, y3⟩, z3⟩ := four h1
    obtain ⟨⟨r0, r1, r2, r3, r4, r5, r6, r7, r8⟩, rv⟩ := nine h2
    obtain ⟨⟨a0, a1, a2, a3, a4, a5, a6, a7, a8⟩, az⟩ := nine h3
    have hlw : w.heap.size + 3 ≤ wc.heap.size := by have := hs.lt; omega
    clear h0 h2 h3 hs hcc hbel
    have HEB : Hid (wc.heap[w.heap.size + 1]? = some (ebox (⟨1, c, ps, pl⟩, eo, ec))) := h1
    clear h1
    go_upto_block 0 with fail
    go_cut [5] from 25 to 136 (fun _ wx => AFin w x wx)
    case first =>
      go_upto_if 40 with fail
      go_cut [5] from 40 to 43 (fun _ wx => AFin w y wx ∧ wx.heap[w.heap.size + 1]? = some (ebox (⟨1, c, ps, pl⟩, eo, ec)))
      case first =>
        by_cases hw : g.col = g.wide
        · have hwb : (g.col == g.wide) = true := by simp [hw]
          have HW : Hid (g.col = g.wide) := hw
          clear hw
          go_upto_region 12 with fail
          go_cut [5] from 40 to 42 (fun _ wx => AFin w z0 wx ∧ wx.heap[w.heap.size + 1]? = some (ebox (⟨1, c, ps, pl⟩, eo, ec)))
          case first =>
            go_wp2_with (go_at_call 55; refine (HCS.out _ b' cap' HC.out.2.2.1 HC.out.2.2.2.1).mono ?_; rintro e w5 ⟨b5, cap5, rfl, hs5, hc5, hb5, hl5⟩; have blk0 := below_block hl5 HC.out.1 (by omega); have blk2 := below_block hl5 HC.out.2.1 (by omega); have hbb : Below w.heap.size w w5 := HC.out.2.2.2.2.1.trans (hl5.mono (by omega)); have blk1 := below_block hl5 HEB.out (by omega); have HE1 : Hid (w5.heap[w.heap.size + 1]? = some (ebox (⟨1, c, ps, pl⟩, eo, ec))) := blk1; have hz : w.heap.size + 3 ≤ wc.heap.size := hlw; have HE : Hid (Scr w5 b5 z0.n z0.f ∧ z0.n ≤ cap5 ∧ w.heap.size + 3 ≤ b5 ∧ Below w.heap.size w w5 ∧ w5.heap[w.heap.size]? = some (gbox g (some ⟨b', 0, none⟩) cap') ∧ w5.heap[w.heap.size + 2]? = some gzero) := ⟨hs5, hc5, by have := HC.out.2.2.2.2.2; omega, hbb, blk0, blk2⟩; obtain ⟨⟨s0, s1, s2, s3, s4, s5, s6, s7, s8⟩, sz⟩ := nine blk0; clear hs5 hc5 hl5 hb5 blk0 blk1 blk2 hbb hz)
            go_meet
            obtain ⟨f1, f2, f3, f4, f5, f6⟩ := HE.out
            exact ⟨afin_of f1 f2 f3 f4 f5 f6, set9_other HE1.out (by omega) _ _ _ _ _ _ _ _ _⟩
          case rest =>
            obtain ⟨haf, heb⟩ := hcut
            have HAF : Hid (AFin w z0 wc ∧ wc.heap[w.heap.size + 1]? = some (ebox (⟨1, c, ps, pl⟩, eo, ec))) := ⟨haf, heb⟩
            obtain ⟨b2, cap2, h0, h2, hs, hcc, hb2, hbel⟩ := haf
            obtain ⟨⟨k0, k1, k2, k3, k4, k5, k6, k7, k8⟩, kz⟩ := nine h0
            clear h0 h2 hs hcc hbel x0 x1 x2 x3 x4 x5 x6 x7 x8 z r0 r1 r2 r3 r4 r5 r6 r7 r8 rv a0 a1 a2 a3 a4 a5 a6 a7 a8 az heb
            go_wp2
            go_meet
            rw [HYB.out.1 HW.out]
            exact ⟨HAF.out.1.col 0, other_set HAF.out.2 (by omega)⟩
        · have hwb : (g.col == g.wide) = false := by simp [hw]
          have HW : Hid (g.col ≠ g.wide) := hw
          clear hw
          go_wp2
          go_meet
          rw [HYB.out.2 HW.out]
          exact ⟨afin_here HC.out, HEB.out⟩
      case rest =>
        obtain ⟨⟨b2, cap2, h0, h2, hs, hcc, hb2, hbel⟩, heb⟩ := hcut
        obtain ⟨oky, hycw⟩ := HOY.out
        have hw1 := oky.w1
        have hc1 := oky.c1
        have hr1 := oky.r1
        have hr2 : y.row ≤ 10 := by have := oky.r2; have := oky.h2; omega
        have hw2 := oky.w2
        obtain ⟨q1, q2, q3, q4, _⟩ := oky.nums
        have HP : Hid (wc.heap[w.heap.size]? = some (gbox y (some ⟨b2, 0, none⟩) cap2) ∧ wc.heap[w.heap.size + 2]? = some gzero ∧ Scr wc b2 y.n y.f ∧ y.n ≤ cap2 ∧ Below w.heap.size w wc) := ⟨h0, h2, hs, hcc, hbel⟩
        clear x0 x1 x2 x3 x4 x5 x6 x7 x8 z y0 y1 y2 y3 z3 r0 r1 r2 r3 r4 r5 r6 r7 r8 rv a0 a1 a2 a3 a4 a5 a6 a7 a8 az
        obtain ⟨⟨x0, x1, x2, x3, x4, x5, x6, x7, x8⟩, z⟩ := nine h0
        obtain ⟨⟨y0, y1, y2, y3⟩, z3⟩ := four heb
        obtain ⟨P, hP⟩ : ∃ P : Nat, y.row * y.wide = P := ⟨(y.row * y.wide).toNat, by omega⟩
        obtain ⟨I, hI⟩ : ∃ I : Nat, (P : Int) + y.col = I := ⟨((P : Int) + y.col).toNat, by omega⟩
        have hwr1 : IntKind.i64.wrap (y.row * y.wide) = (P : Int) := by rw [hP, IntKind.wrap_i64]; omega
        have hwr2 : IntKind.i64.wrap ((P : Int) + y.col) = (I : Int) := by rw [hI, IntKind.wrap_i64]; omega
        have hwr3 : IntKind.i64.wrap (I : Int) = (I : Int) := by rw [IntKind.wrap_i64]; omega
        have hIn : I < y.n := by omega
        have hI0 : (0 : Int) ≤ (I : Int) := by omega
        have hI1 : (I : Int) < (y.n : Int) := by omega
        obtain ⟨t0, t1, t2, t3⟩ := hs.cells I hIn
        have hfr : ∀ j, wc.frozen? ⟨b2, j, none⟩ = false := hs.free
        have HI : Hid (I = (y.row * y.wide + y.col).toNat ∧ I < y.n) := ⟨by omega, hIn⟩
        obtain ⟨k0, hk0⟩ : ∃ k, k = y.f I := ⟨_, rfl⟩
        rw [← hk0] at t0 t1 t2 t3
        have hoc : ∀ (w' : World) (j : Nat) (u : Value) (k : Nat), (w'.setCell ⟨b2, j, none⟩ u).cell? ⟨w.heap.size, k, none⟩ = w'.cell? ⟨w.heap.size, k, none⟩ := fun w' j u k => World.cell?_setCell_other _ _ _ _ (by intro e; simp only [Addr.mk.injEq] at e; omega)
        have hycw' : y.col ≤ 24 := by omega
        clear h0 h2 hs hcc hbel heb oky q1 q2 q3 q4 hP hIn hk0 hycw
        go_wp2
        go_meet
        obtain ⟨g1, g2, g3, g4, g5⟩ := HP.out
        obtain ⟨i1, i2⟩ := HI.out
        have hq := (afin_put g1 g2 g3 g4 hb2 g5 I (I * 4) (I * 4 + 1) (I * 4 + 2) (I * 4 + 3) ⟨c, y.ink, 0, y.bold⟩ i2 rfl rfl rfl rfl).col (y.col + 1)
        rw [HX.out]
        unfold putG
        rw [← i1]
        exact hq
    case rest =>
      obtain ⟨b2, cap2, h0, h2, hs, hcc, hb2, hbel⟩ := hcut
      have HF : Hid (Scr _ b2 x.n x.f ∧ w.heap.size + 3 ≤ b2 ∧ Below w.heap.size w _) := ⟨hs, hb2, hbel⟩
      obtain ⟨⟨k0, k1, k2, k3, k4, k5, k6, k7, k8⟩, kz⟩ := nine h0
      obtain ⟨⟨l0, l1, l2, l3, l4, l5, l6, l7, l8⟩, lz⟩ := nine h2
      clear h0 h2 hs hcc hbel x0 x1 x2 x3 x4 x5 x6 x7 x8 z r0 r1 r2 r3 r4 r5 r6 r7 r8 rv a0 a1 a2 a3 a4 a5 a6 a7 a8 az
      go_wp2
      refine bodyPost_ret (v := .tuple #[gval x (some ⟨b2, 0, none⟩) cap2, .int .i64 0]) (by simp [results, Try.results28, go_sem, *]) rfl ?_
      exact act_end (cap' := cap2) HF.out.1 HF.out.2.1 HF.out.2.2 _ _ _ _ _ _ _ _ _

end Go.Proofs.Yteenppbpjdldgaa
