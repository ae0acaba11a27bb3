/- What 'All' does: the screen behind events, or the first error. -/
import Derived.Test.YteenppbpjdldgaaGDone
import Derived.Test.YteenppbpjdldgaaGGood2
namespace Go.Proofs.Yteenppbpjdldgaa
open Go.RowKit

abbrev EvIt := Evt × Option Addr × Nat
@[reducible] def ebox (x : EvIt) : Obj := .cells #[.int .i64 x.1.kind, .int .i64 x.1.b, .slice x.2.1 x.1.ps.length x.2.2, .string x.1.pl] 37

/-- The events lie in memory where the slice points, and the numbers of each. -/
def RdE (w : World) (lo : Option Addr) (evs : List EvIt) : Prop :=
  (∀ x ∈ evs, RdL w x.2.1 x.1.ps) ∧ (evs = [] ∨ ∃ b off, lo = some ⟨b, off, none⟩ ∧ ∀ k (hk : k < evs.length), w.cell? ⟨b, off + k * 4, none⟩ = some (.int .i64 evs[k].1.kind) ∧ w.cell? ⟨b, off + k * 4 + 1, none⟩ = some (.int .i64 evs[k].1.b) ∧ w.cell? ⟨b, off + k * 4 + 2, none⟩ = some (.slice evs[k].2.1 evs[k].1.ps.length evs[k].2.2) ∧ w.cell? ⟨b, off + k * 4 + 3, none⟩ = some (.string evs[k].1.pl))

theorem RdE.below {w w' : World} {lo : Option Addr} {evs : List EvIt} (h : RdE w lo evs) (hb : Below w.heap.size w w') : RdE w' lo evs := by
  refine ⟨fun x hx => (h.1 x hx).below hb, ?_⟩
  rcases h.2 with h | ⟨b, off, ha, hc⟩
  · exact .inl h
  · refine .inr ⟨b, off, ha, fun k hk => ?_⟩
    obtain ⟨h0, h1, h2, h3⟩ := hc k hk
    have hlt := World.block_lt_of_cell? _ _ h0
    simp only at hlt
    exact ⟨(hb.cell (p := ⟨b, off + k * 4, none⟩) hlt).trans h0, (hb.cell (p := ⟨b, off + k * 4 + 1, none⟩) hlt).trans h1, (hb.cell (p := ⟨b, off + k * 4 + 2, none⟩) hlt).trans h2, (hb.cell (p := ⟨b, off + k * 4 + 3, none⟩) hlt).trans h3⟩

/-- Behind the copy: the box holds the screen, its list a copy. -/
structure Start (w : World) (g : Gr) (ao : Option Addr) (cap : Nat) (wx : World) : Prop where
  box : wx.heap[w.heap.size]? = some (gbox g ao cap)
  res : wx.heap[w.heap.size + 1]? = some gzero
  rd : RdS wx ao g.n g.f
  scr : 0 < g.n → ∃ b, ao = some ⟨b, 0, none⟩ ∧ w.heap.size + 2 ≤ b ∧ g.n ≤ cap ∧ Scr wx b g.n g.f
  below : Below w.heap.size w wx

theorem set_box {w : World} {B : Nat} {c0 c1 c2 c3 c4 c5 c6 c7 c8 u : Value} {t : TypeId} (h : w.heap[B]? = some (.cells #[c0, c1, c2, c3, c4, c5, c6, c7, c8] t (0, 0))) : (w.setCell ⟨B, 2, none⟩ u).heap[B]? = some (.cells #[c0, c1, u, c3, c4, c5, c6, c7, c8] t (0, 0)) := by
  have := heap_setCell_same w B 2 _ t u h
  exact this

theorem start_of {w w1 : World} {g : Gr} {ao ao' : Option Addr} {cap cap' : Nat} (h : Copied ((w.alloc (gbox g ao cap)).alloc gzero) g.n g.f ao' cap' w1) : Start w g ao' cap' (w1.setCell ⟨w.heap.size, 2, none⟩ (.slice ao' g.n cap')) := by
  have hb := h.2.2
  have hbx := below_block hb (at_old (at_new w (gbox g ao cap)) gzero) (by simp; omega)
  have hrs := below_block hb (at_new1 w (gbox g ao cap) gzero) (by simp)
  refine ⟨set_box hbx, other_set hrs (by omega), ?_, ?_, ?_⟩
  · rcases Nat.eq_zero_or_pos g.n with h0 | h0
    · exact .inl h0
    · obtain ⟨b, rfl, hb2, _, hs⟩ := h.2.1 h0
      exact (hs.set (by simp at hb2 ⊢; omega) _).rd
  · intro h0
    obtain ⟨b, rfl, hb2, hc, hs⟩ := h.2.1 h0
    exact ⟨b, rfl, by simp at hb2; omega, hc, hs.set (by simp at hb2 ⊢; omega) _⟩
  · exact (((below1 w _).alloc (by simp) _).trans (hb.mono (by simp; omega))).setCell (Nat.le_refl _) _

theorem rd_end {w : World} {g : Gr} {ao : Option Addr} {cap : Nat} {wx w2 : World} (h : Start w g ao cap wx) (hb : Below wx.heap.size wx w2) (u0 u1 u2 u3 u4 u5 u6 u7 u8 : Value) : RdS (((((((((w2.setCell ⟨w.heap.size + 1, 0, none⟩ u0).setCell ⟨w.heap.size + 1, 1, none⟩ u1).setCell ⟨w.heap.size + 1, 2, none⟩ u2).setCell ⟨w.heap.size + 1, 3, none⟩ u3).setCell ⟨w.heap.size + 1, 4, none⟩ u4).setCell ⟨w.heap.size + 1, 5, none⟩ u5).setCell ⟨w.heap.size + 1, 6, none⟩ u6).setCell ⟨w.heap.size + 1, 7, none⟩ u7).setCell ⟨w.heap.size + 1, 8, none⟩ u8) ao g.n g.f := by
  rcases Nat.eq_zero_or_pos g.n with h0 | h0
  · exact .inl h0
  · obtain ⟨b, rfl, hb2, _, hs⟩ := h.scr h0
    exact (scr_set9 (hs.below hb hs.lt) (by omega) _ _ _ _ _ _ _ _ _).rd

/-- The ending of 'All'. -/
def AllEnd (w : World) (r : Gr × Int) (e : Ending) (w' : World) : Prop :=
  ∃ ao cap, e = .returned (.tuple #[gval r.1 ao cap, .int .i64 r.2]) ∧ Copied w r.1.n r.1.f ao cap w'

/-- A copy's place behind a result's box is written. -/
theorem Copied.out {w0 w w2 : World} {n : Nat} {f : Nat → Cel} {ao : Option Addr} {cap B : Nat} (h : Copied w n f ao cap w2) (h0 : Below w0.heap.size w0 w) (hB : w0.heap.size ≤ B) (hB2 : B < w.heap.size) (u0 u1 u2 u3 u4 u5 u6 u7 u8 : Value) :
    Copied w0 n f ao cap (((((((((w2.setCell ⟨B, 0, none⟩ u0).setCell ⟨B, 1, none⟩ u1).setCell ⟨B, 2, none⟩ u2).setCell ⟨B, 3, none⟩ u3).setCell ⟨B, 4, none⟩ u4).setCell ⟨B, 5, none⟩ u5).setCell ⟨B, 6, none⟩ u6).setCell ⟨B, 7, none⟩ u7).setCell ⟨B, 8, none⟩ u8) := by
  refine ⟨?_, ?_, below_set9 (h0.trans (h.2.2.mono h0.size)) hB _ _ _ _ _ _ _ _ _⟩
  · rcases Nat.eq_zero_or_pos n with h1 | h1
    · exact .inl h1
    · obtain ⟨b, rfl, hb, _, hs⟩ := h.2.1 h1
      exact (scr_set9 hs (by omega) _ _ _ _ _ _ _ _ _).rd
  · intro h1
    obtain ⟨b, rfl, hb, hc, hs⟩ := h.2.1 h1
    exact ⟨b, rfl, by have := h0.size; omega, hc, scr_set9 hs (by omega) _ _ _ _ _ _ _ _ _⟩

theorem Start.copied {w : World} {g : Gr} {ao : Option Addr} {cap : Nat} {wx w2 : World} (h : Start w g ao cap wx) (hb : Below wx.heap.size wx w2) (u0 u1 u2 u3 u4 u5 u6 u7 u8 : Value) :
    Copied w g.n g.f ao cap (((((((((w2.setCell ⟨w.heap.size + 1, 0, none⟩ u0).setCell ⟨w.heap.size + 1, 1, none⟩ u1).setCell ⟨w.heap.size + 1, 2, none⟩ u2).setCell ⟨w.heap.size + 1, 3, none⟩ u3).setCell ⟨w.heap.size + 1, 4, none⟩ u4).setCell ⟨w.heap.size + 1, 5, none⟩ u5).setCell ⟨w.heap.size + 1, 6, none⟩ u6).setCell ⟨w.heap.size + 1, 7, none⟩ u7).setCell ⟨w.heap.size + 1, 8, none⟩ u8) := by
  refine ⟨rd_end h hb _ _ _ _ _ _ _ _ _, fun h1 => ?_, below_set9 (h.below.trans (hb.mono h.below.size)) (by omega) _ _ _ _ _ _ _ _ _⟩
  obtain ⟨b, rfl, hb2, hc, hs⟩ := h.scr h1
  exact ⟨b, rfl, by omega, hc, scr_set9 (hs.below hb hs.lt) (by omega) _ _ _ _ _ _ _ _ _⟩

def allR (g : Gr) (evs : List Evt) : Gr × Int := if evs = [] then (g, 0) else if goodG g then allG g evs else (g, 1)

set_option maxHeartbeats 1000000 in
theorem all_stop (g : Gr) (ao : Option Addr) (cap : Nat) (lo : Option Addr) (ln lc : Nat) (w : World) (hr : RdS w ao g.n g.f) (hn : ao = none → g.n = 0 ∧ cap = 0) (hm : g.n ≤ 4398046511104) (hs : 0 < ln) (hl : ln ≤ 140737488355328) (hg : goodG g = false) :
    Calls Try.prog 41 #[gval g ao cap, .slice lo ln lc] w (AllEnd w (g, 1)) := by
  have HR : Hid (RdS w ao g.n g.f) := hr
  have HCL : Hid (∀ w, RdS w ao g.n g.f → Calls Try.prog 63 #[.slice ao g.n cap] w fun e w' => ∃ ao' cap', e = .returned (.slice ao' g.n cap') ∧ Copied w g.n g.f ao' cap' w') := fun w hr => clone_any ao cap g.n g.f w hr hn (by omega)
  have HGD : Hid (∀ w ao' cap', RdS w ao' g.n g.f → Calls Try.prog 30 #[gval g ao' cap'] w fun e w' => e = .returned (.bool false) ∧ Below w.heap.size w w') := fun w ao' cap' hr => good_any g ao' cap' w hr (by omega) false hg.symm
  have HB2 : Hid (∀ o1 o2 : Obj, Below w.heap.size w ((w.alloc o1).alloc o2)) := fun o1 o2 => (below1 _ _).alloc (by simp) _
  have hl1 : (0 : Int) < (ln : Int) := by omega
  clear hr hn hm hg hs
  go_enter Try.func41, Try.ntmps41
  go_upto_region 1 with fail
  go_cut [] from 9 to 12 (fun wx => ∃ ao' cap', Start w g ao' cap' wx)
  case first =>
    go_wp2_with (go_at_call 63; refine (HCL.out _ (HR.out.below (HB2.out _ _))).mono ?_; rintro e w1 ⟨ao', cap', rfl, hcp⟩; have HCP : Hid (Copied _ g.n g.f ao' cap' w1) := hcp; obtain ⟨⟨x0, x1, x2, x3, x4, x5, x6, x7, x8⟩, z⟩ := nine (below_block hcp.2.2 (at_old (at_new w _) _) (by simp; omega)); clear hcp)
    go_meet
    exact ⟨ao', cap', start_of HCP.out⟩
  case rest =>
    obtain ⟨ao', cap', hst⟩ := hcut
    obtain ⟨⟨x0, x1, x2, x3, x4, x5, x6, x7, x8⟩, z⟩ := nine hst.box
    have HST : Hid (Start w g ao' cap' wc) := hst
    clear hst HCL HR
    go_wp2_with (go_at_call 30; refine (HGD.out _ ao' cap' HST.out.rd).mono ?_; rintro e w2 ⟨rfl, hb2⟩; have HB : Hid (Below wc.heap.size wc w2) := hb2; have q1 := below_block hb2 HST.out.box (Array.getElem?_eq_some_iff.1 HST.out.box).1; have q2 := below_block hb2 HST.out.res (Array.getElem?_eq_some_iff.1 HST.out.res).1; obtain ⟨⟨y0, y1, y2, y3, y4, y5, y6, y7, y8⟩, z2⟩ := nine q1; obtain ⟨⟨u0, u1, u2, u3, u4, u5, u6, u7, u8⟩, v⟩ := nine q2; clear hb2 q1 q2)
    refine bodyPost_ret (v := .tuple #[gval g ao' cap', .int .i64 1]) (by simp [results, Try.results41, go_sem, *]) rfl ?_
    exact ⟨ao', cap', rfl, HST.out.copied HB.out _ _ _ _ _ _ _ _ _⟩

/-- What holds at each round's head: the screen so far, in the box; the events to come make of it what all make of the first one. -/
structure AInv (w : World) (g : Gr) (evs : List Evt) (k : Nat) (x : Gr) (b cap : Nat) (wr : World) : Prop where
  ok : OkG x
  says : allG g evs = allG x (evs.drop k)
  box : wr.heap[w.heap.size]? = some (gbox x (some ⟨b, 0, none⟩) cap)
  res : wr.heap[w.heap.size + 1]? = some gzero
  scr : Scr wr b x.n x.f
  caps : x.n ≤ cap
  own : w.heap.size + 2 ≤ b
  below : Below w.heap.size w wr

theorem AInv.rd {w : World} {g : Gr} {evs : List Evt} {k : Nat} {x : Gr} {b cap : Nat} {wr : World} (h : AInv w g evs k x b cap wr) (u0 u1 u2 u3 u4 u5 u6 u7 u8 : Value) : RdS (((((((((wr.setCell ⟨w.heap.size + 1, 0, none⟩ u0).setCell ⟨w.heap.size + 1, 1, none⟩ u1).setCell ⟨w.heap.size + 1, 2, none⟩ u2).setCell ⟨w.heap.size + 1, 3, none⟩ u3).setCell ⟨w.heap.size + 1, 4, none⟩ u4).setCell ⟨w.heap.size + 1, 5, none⟩ u5).setCell ⟨w.heap.size + 1, 6, none⟩ u6).setCell ⟨w.heap.size + 1, 7, none⟩ u7).setCell ⟨w.heap.size + 1, 8, none⟩ u8) (some ⟨b, 0, none⟩) x.n x.f :=
  (scr_set9 h.scr (by have := h.own; omega) _ _ _ _ _ _ _ _ _).rd

theorem drop_step {evs : List Evt} {k : Nat} (hk : k < evs.length) : evs.drop k = evs[k] :: evs.drop (k + 1) := List.drop_eq_getElem_cons hk

/-- Behind one event: what holds at the next round's head. -/
theorem ainv_step {w : World} {g : Gr} {evs : List Evt} {k : Nat} {x y : Gr} {b cap b' cap' : Nat} {wr w3 : World} {o1 o2 : Obj} (h : AInv w g evs k x b cap wr) (hk : k < evs.length) (hc : checkE evs[k] = 0) (hy : y = doneG x evs[k])
    (hs : Scr w3 b' y.n y.f) (hcap : y.n ≤ cap') (hg : ((wr.alloc o1).alloc o2).grownBy w3 (some b)) (hb : b' = b ∨ ((wr.alloc o1).alloc o2).heap.size ≤ b') :
    AInv w g evs (k + 1) y b' cap' (((((((((w3.setCell ⟨w.heap.size, 0, none⟩ (.int .i64 y.wide)).setCell ⟨w.heap.size, 1, none⟩ (.int .i64 y.high)).setCell ⟨w.heap.size, 2, none⟩ (.slice (some ⟨b', 0, none⟩) y.n cap')).setCell ⟨w.heap.size, 3, none⟩ (.int .i64 y.row)).setCell ⟨w.heap.size, 4, none⟩ (.int .i64 y.col)).setCell ⟨w.heap.size, 5, none⟩ (.int .i64 y.ink)).setCell ⟨w.heap.size, 6, none⟩ (.bool y.bold)).setCell ⟨w.heap.size, 7, none⟩ (.int .i64 y.top)).setCell ⟨w.heap.size, 8, none⟩ (.int .i64 y.bottom)) := by
  have hb0 := h.own
  have hsz : w.heap.size + 2 ≤ wr.heap.size := by have := (Array.getElem?_eq_some_iff.1 h.res).1; omega
  have hb1 : w.heap.size + 2 ≤ b' := by rcases hb with rfl | hb
                                        · exact hb0
                                        · simp at hb; omega
  have hbx := grown_block hg (at_old (at_old h.box o1) o2) (by simp; omega)
  have hrs := grown_block hg (at_old (at_old h.res o1) o2) (by simp; omega)
  have hw : Below w.heap.size w w3 := (((h.below.alloc h.below.size _).alloc (by have := h.below.size; simp; omega) _)).trans (grown_below hg (by have := h.below.size; simp; omega) (by omega))
  refine ⟨?_, ?_, set9_same hbx _ _ _ _ _ _ _ _ _, set9_other hrs (by omega) _ _ _ _ _ _ _ _ _, scr_set9 hs (by omega) _ _ _ _ _ _ _ _ _, hcap, hb1, below_set9 hw (Nat.le_refl _) _ _ _ _ _ _ _ _ _⟩
  · rw [hy]; exact (ok_done h.ok _ hc).1
  · rw [h.says, drop_step hk, allG, if_pos hc, hy]

theorem ainv_done {w : World} {g : Gr} {evs : List Evt} {k : Nat} {x : Gr} {b cap : Nat} {wr : World} (h : AInv w g evs k x b cap wr) (hk : ¬ k < evs.length) : allG g evs = (x, 0) := by
  rw [h.says, List.drop_eq_nil_of_le (by omega)]
  rfl
theorem ainv_stop {w : World} {g : Gr} {evs : List Evt} {k : Nat} {x : Gr} {b cap : Nat} {wr : World} (h : AInv w g evs k x b cap wr) (hk : k < evs.length) (hc : checkE evs[k] ≠ 0) : allG g evs = (x, checkE evs[k]) := by
  rw [h.says, drop_step hk, allG, if_neg hc]

end Go.Proofs.Yteenppbpjdldgaa
