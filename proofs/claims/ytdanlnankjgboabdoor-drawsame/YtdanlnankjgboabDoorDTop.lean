/- Turn: the program's answer is the plain machine's. -/
import Derived.Test.YtdanlnankjgboabDoorDShow
import Derived.Test.YtdanlnankjgboabDoorDTurn
import Derived.Test.YtdanlnankjgboabDoorGStart
import Derived.Test.YtdanlnankjgboabDoorGGood2
namespace Go.Proofs.YtdanlnankjgboabDoor
open Go.RowKit
set_option maxRecDepth 100000

set_option maxHeartbeats 1000000 in
theorem own_any (g : Gr) (ao : Option Addr) (cap : Nat) (w : World) (hr : RdS w ao g.n g.f) (hn : ao = none → g.n = 0 ∧ cap = 0) (hm : g.n ≤ 4398046511104) :
    Calls Tryd.prog 13 #[gval g ao cap] w fun e w' => ∃ ao' cap', e = .returned (gval g ao' cap') ∧ Copied w g.n g.f ao' cap' w' := by
  have HR : Hid (RdS w ao g.n g.f) := hr
  have HCL : Hid (∀ w, RdS w ao g.n g.f → Calls Tryd.prog 19 #[.slice ao g.n cap] w fun e w' => ∃ ao' cap', e = .returned (.slice ao' g.n cap') ∧ Copied w g.n g.f ao' cap' w') := fun w hr => clone_any ao cap g.n g.f w hr hn (by omega)
  have HB2 : Hid (∀ o1 o2 : Obj, Below w.heap.size w ((w.alloc o1).alloc o2)) := fun o1 o2 => (below1 _ _).alloc (by simp) _
  clear hr hn hm
  go_enter Tryd.func13, Tryd.ntmps13
  go_wp2_with (go_at_call 19; refine (HCL.out _ (HR.out.below (HB2.out _ _))).mono ?_; rintro e w1 ⟨ao', cap', rfl, hcp⟩; have HCP : Hid (Copied ((w.alloc (gbox g ao cap)).alloc gzero) g.n g.f ao' cap' w1) := hcp; obtain ⟨⟨x0, x1, x2, x3, x4, x5, x6, x7, x8⟩, z⟩ := nine (below_block hcp.2.2 (at_old (at_new w _) _) (by simp; omega)); obtain ⟨⟨u0, u1, u2, u3, u4, u5, u6, u7, u8⟩, v⟩ := nine (below_block hcp.2.2 (at_new1 w _ _) (by simp)); clear hcp)
  refine bodyPost_ret (v := gval g ao' cap') (by simp [results, Tryd.results13, go_sem, *]) rfl ?_
  exact ⟨ao', cap', rfl, (start_of HCP.out).copied (Below.refl _ _) _ _ _ _ _ _ _ _ _⟩

set_option maxHeartbeats 1000000 in
theorem showsD_any (g : Gr) (ao : Option Addr) (cap : Nat) (w : World) (hr : RdS w ao g.n g.f) (hm : (g.n : Int) ≤ 9223372036854775807) (S : Bool) (hS : S = showsB g) :
    Calls Tryd.prog 12 #[gval g ao cap] w fun e w' => e = .returned (.bool S) ∧ Below w.heap.size w w' := by
  obtain ⟨G, hG⟩ : ∃ G, G = goodG g := ⟨_, rfl⟩
  have HG : Hid (∀ w, RdS w ao g.n g.f → Calls Tryd.prog 4 #[gval g ao cap] w fun e w' => e = .returned (.bool G) ∧ Below w.heap.size w w') := fun w hr => good_any g ao cap w hr hm G hG
  have HS : Hid (S = (G && decide (g.col < g.wide))) := by rw [hS, hG]; rfl
  have HR : Hid (RdS w ao g.n g.f) := hr
  clear hr hm hS hG
  cases G
  · go_enter Tryd.func12, Tryd.ntmps12
    go_wp2_with (go_at_call 4; refine (HG.out _ (HR.out.below (below1 _ _))).mono ?_; rintro e w1 ⟨rfl, hb1⟩; have HB1 : Hid (Below w.heap.size w w1) := below_up hb1; obtain ⟨⟨x0, x1, x2, x3, x4, x5, x6, x7, x8⟩, z⟩ := nine (below_block hb1 (at_new w _) (by simp)); clear hb1)
    go_ret
    exact ⟨ret_bool (by rw [HS.out]; rfl), HB1.out⟩
  · go_enter Tryd.func12, Tryd.ntmps12
    go_wp2_with (go_at_call 4; refine (HG.out _ (HR.out.below (below1 _ _))).mono ?_; rintro e w1 ⟨rfl, hb1⟩; have HB1 : Hid (Below w.heap.size w w1) := below_up hb1; obtain ⟨⟨x0, x1, x2, x3, x4, x5, x6, x7, x8⟩, z⟩ := nine (below_block hb1 (at_new w _) (by simp)); clear hb1)
    go_ret
    exact ⟨ret_bool (by rw [HS.out]; rfl), HB1.out⟩

/-- The answer as data. -/
def turnR (x t : Gr) : List UInt8 × Gr × Int := if turnB x t then ((turnP x t).out, (turnP x t).g, 0) else ([], x, 1)

/-- The ending of Turn and Anew. -/
def DrawEnd (w : World) (r : List UInt8 × Gr × Int) (e : Ending) (w' : World) : Prop :=
  ∃ ao cap, e = .returned (.tuple #[.string (bs r.1), gval r.2.1 ao cap, .int .i64 r.2.2]) ∧ Copied w r.2.1.n r.2.1.f ao cap w'

/-- Turn's three boxes. -/
structure Box3 (w wr : World) (a b : Obj) : Prop where
  one : wr.heap[w.heap.size]? = some a
  two : wr.heap[w.heap.size + 1]? = some b
  res : wr.heap[w.heap.size + 2]? = some gzero
  below : Below w.heap.size w wr
theorem Box3.later {w wr w' : World} {a b : Obj} (h : Box3 w wr a b) (hb : Below wr.heap.size wr w') : Box3 w w' a b :=
  ⟨below_block hb h.one (Array.getElem?_eq_some_iff.1 h.one).1, below_block hb h.two (Array.getElem?_eq_some_iff.1 h.two).1, below_block hb h.res (Array.getElem?_eq_some_iff.1 h.res).1, h.below.trans (hb.mono h.below.size)⟩
theorem box3 (w : World) (a b : Obj) : Box3 w (((w.alloc a).alloc b).alloc gzero) a b :=
  ⟨at_old (at_old (at_new w _) _) _, at_old (at_new1 w _ _) _, at_new2' w _ _ _, ((below1 _ _).alloc (by simp) _).alloc (by simp; omega) _⟩

/-- A copy in a later world, its result's box written. -/
theorem Copied.out3 {w wr w2 : World} {n : Nat} {f : Nat → Cel} {ao : Option Addr} {cap : Nat} {a b : Obj} (h : Copied wr n f ao cap w2) (h3 : Box3 w wr a b) (u0 u1 u2 u3 u4 u5 u6 u7 u8 : Value) :
    Copied w n f ao cap (((((((((w2.setCell ⟨w.heap.size + 2, 0, none⟩ u0).setCell ⟨w.heap.size + 2, 1, none⟩ u1).setCell ⟨w.heap.size + 2, 2, none⟩ u2).setCell ⟨w.heap.size + 2, 3, none⟩ u3).setCell ⟨w.heap.size + 2, 4, none⟩ u4).setCell ⟨w.heap.size + 2, 5, none⟩ u5).setCell ⟨w.heap.size + 2, 6, none⟩ u6).setCell ⟨w.heap.size + 2, 7, none⟩ u7).setCell ⟨w.heap.size + 2, 8, none⟩ u8) :=
  h.out h3.below (by omega) (Array.getElem?_eq_some_iff.1 h3.res).1 _ _ _ _ _ _ _ _ _

set_option maxHeartbeats 2000000 in
theorem turn_no (x : Gr) (ao : Option Addr) (cap : Nat) (t : Gr) (ta : Option Addr) (ct : Nat) (w : World) (hr : RdS w ao x.n x.f) (hn : ao = none → x.n = 0 ∧ cap = 0) (hm : x.n ≤ 4398046511104) (ht : RdS w ta t.n t.f) (hmt : t.n ≤ 4398046511104) (hB : turnB x t = false) :
    Calls Tryd.prog 6 #[gval x ao cap, gval t ta ct] w (DrawEnd w ([], x, 1)) := by
  obtain ⟨G, hG⟩ : ∃ G, G = goodG x := ⟨_, rfl⟩
  obtain ⟨S, hS⟩ : ∃ S, S = showsB t := ⟨_, rfl⟩
  have HG : Hid (∀ wr, Box3 w wr (gbox x ao cap) (gbox t ta ct) → Calls Tryd.prog 4 #[gval x ao cap] wr fun e w' => e = .returned (.bool G) ∧ Below wr.heap.size wr w') := fun wr hb => good_any x ao cap wr (hr.below hb.below) (by omega) G hG
  have HS : Hid (∀ wr, Box3 w wr (gbox x ao cap) (gbox t ta ct) → Calls Tryd.prog 12 #[gval t ta ct] wr fun e w' => e = .returned (.bool S) ∧ Below wr.heap.size wr w') := fun wr hb => showsD_any t ta ct wr (ht.below hb.below) (by omega) S hS
  have HO : Hid (∀ wr, Box3 w wr (gbox x ao cap) (gbox t ta ct) → Calls Tryd.prog 13 #[gval x ao cap] wr fun e w' => ∃ ao' cap', e = .returned (gval x ao' cap') ∧ Copied wr x.n x.f ao' cap' w') := fun wr hb => own_any x ao cap wr (hr.below hb.below) hn hm
  have H0 : Hid (Box3 w (((w.alloc (gbox x ao cap)).alloc (gbox t ta ct)).alloc gzero) (gbox x ao cap) (gbox t ta ct)) := box3 w _ _
  have hB' : (G && S && decide (x.wide = t.wide) && decide (x.high = t.high)) = false := by rw [hG, hS]; exact hB
  clear hr hn hm ht hmt hB hG hS
  cases G
  · clear hB'
    go_enter Tryd.func6, Tryd.ntmps6
    go_wp2_with (first
      | (go_at_call 4; refine (HG.out _ H0.out).mono ?_; rintro e w1 ⟨rfl, hb1⟩; have H1 : Hid (Box3 w w1 (gbox x ao cap) (gbox t ta ct)) := H0.out.later hb1; clear hb1 H0; obtain ⟨⟨x0, x1, x2, x3, x4, x5, x6, x7, x8⟩, xf⟩ := nine H1.out.one)
      | (go_at_call 13; refine (HO.out _ H1.out).mono ?_; rintro e w3 ⟨ao', cap', rfl, hcp⟩; have HCP : Hid (Copied w1 x.n x.f ao' cap' w3) := hcp; obtain ⟨⟨u0, u1, u2, u3, u4, u5, u6, u7, u8⟩, uf⟩ := nine (below_block hcp.2.2 H1.out.res (Array.getElem?_eq_some_iff.1 H1.out.res).1); clear hcp x0 x1 x2 x3 x4 x5 x6 x7 x8 xf))
    refine bodyPost_ret (v := .tuple #[.string (bs []), gval x ao' cap', .int .i64 1]) (by simp [results, Tryd.results6, go_sem, *]) rfl ?_
    exact ⟨ao', cap', rfl, HCP.out.out3 H1.out _ _ _ _ _ _ _ _ _⟩
  · cases S
    · clear hB'
      go_enter Tryd.func6, Tryd.ntmps6
      go_wp2_with (first
        | (go_at_call 4; refine (HG.out _ H0.out).mono ?_; rintro e w1 ⟨rfl, hb1⟩; have H1 : Hid (Box3 w w1 (gbox x ao cap) (gbox t ta ct)) := H0.out.later hb1; clear hb1 H0; obtain ⟨⟨y0, y1, y2, y3, y4, y5, y6, y7, y8⟩, yf⟩ := nine H1.out.two)
        | (go_at_call 12; refine (HS.out _ H1.out).mono ?_; rintro e w2 ⟨rfl, hb2⟩; have H2 : Hid (Box3 w w2 (gbox x ao cap) (gbox t ta ct)) := H1.out.later hb2; clear hb2 H1 y0 y1 y2 y3 y4 y5 y6 y7 y8 yf; obtain ⟨⟨x0, x1, x2, x3, x4, x5, x6, x7, x8⟩, xf⟩ := nine H2.out.one)
        | (go_at_call 13; refine (HO.out _ H2.out).mono ?_; rintro e w3 ⟨ao', cap', rfl, hcp⟩; have HCP : Hid (Copied w2 x.n x.f ao' cap' w3) := hcp; obtain ⟨⟨u0, u1, u2, u3, u4, u5, u6, u7, u8⟩, uf⟩ := nine (below_block hcp.2.2 H2.out.res (Array.getElem?_eq_some_iff.1 H2.out.res).1); clear hcp x0 x1 x2 x3 x4 x5 x6 x7 x8 xf))
      refine bodyPost_ret (v := .tuple #[.string (bs []), gval x ao' cap', .int .i64 1]) (by simp [results, Tryd.results6, go_sem, *]) rfl ?_
      exact ⟨ao', cap', rfl, HCP.out.out3 H2.out _ _ _ _ _ _ _ _ _⟩
    · have hor : (x.wide != t.wide) = true ∨ (x.wide != t.wide) = false ∧ (x.high != t.high) = true := by
        by_cases e : x.wide = t.wide
        · refine .inr ⟨by simpa using e, ?_⟩
          simpa [e] using hB'
        · exact .inl (by simpa using e)
      clear hB'
      rcases hor with e1 | ⟨e1, e2⟩
      all_goals (
        go_enter Tryd.func6, Tryd.ntmps6
        go_wp2_with (first
          | (go_at_call 4; refine (HG.out _ H0.out).mono ?_; rintro e w1 ⟨rfl, hb1⟩; have H1 : Hid (Box3 w w1 (gbox x ao cap) (gbox t ta ct)) := H0.out.later hb1; clear hb1 H0; obtain ⟨⟨y0, y1, y2, y3, y4, y5, y6, y7, y8⟩, yf⟩ := nine H1.out.two)
          | (go_at_call 12; refine (HS.out _ H1.out).mono ?_; rintro e w2 ⟨rfl, hb2⟩; have H2 : Hid (Box3 w w2 (gbox x ao cap) (gbox t ta ct)) := H1.out.later hb2; clear hb2 H1 y0 y1 y2 y3 y4 y5 y6 y7 y8 yf; obtain ⟨⟨x0, x1, x2, x3, x4, x5, x6, x7, x8⟩, xf⟩ := nine H2.out.one; obtain ⟨⟨y0, y1, y2, y3, y4, y5, y6, y7, y8⟩, yf⟩ := nine H2.out.two)
          | (go_at_call 13; refine (HO.out _ H2.out).mono ?_; rintro e w3 ⟨ao', cap', rfl, hcp⟩; have HCP : Hid (Copied w2 x.n x.f ao' cap' w3) := hcp; obtain ⟨⟨u0, u1, u2, u3, u4, u5, u6, u7, u8⟩, uf⟩ := nine (below_block hcp.2.2 H2.out.res (Array.getElem?_eq_some_iff.1 H2.out.res).1); clear hcp x0 x1 x2 x3 x4 x5 x6 x7 x8 xf y0 y1 y2 y3 y4 y5 y6 y7 y8 yf))
        refine bodyPost_ret (v := .tuple #[.string (bs []), gval x ao' cap', .int .i64 1]) (by simp [results, Tryd.results6, go_sem, *]) rfl ?_
        exact ⟨ao', cap', rfl, HCP.out.out3 H2.out _ _ _ _ _ _ _ _ _⟩)

end Go.Proofs.YtdanlnankjgboabDoor
