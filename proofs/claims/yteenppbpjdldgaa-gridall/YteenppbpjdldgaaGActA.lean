/- The document's own 'Act': its end, its errors. -/
import Derived.Test.YteenppbpjdldgaaGRefI
import Derived.Test.YteenppbpjdldgaaGRefE
import Derived.Test.YteenppbpjdldgaaGAll2
namespace Go.Proofs.Yteenppbpjdldgaa
open Go.RowKit

/-- The screen and the event lie in boxes, the list is a new one, the screen that was lies in box A. -/
def ACut (w : World) (g : Gr) (ev : EvIt) (ao : Option Addr) (cap : Nat) (A : Nat) (wx : World) : Prop :=
  ∃ b' cap', wx.heap[w.heap.size]? = some (gbox g (some ⟨b', 0, none⟩) cap') ∧ wx.heap[w.heap.size + 1]? = some (ebox ev) ∧ wx.heap[w.heap.size + 2]? = some gzero ∧ wx.heap[A]? = some (gbox g ao cap) ∧ Scr wx b' g.n g.f ∧ g.n ≤ cap' ∧ A < b' ∧ w.heap.size + 3 ≤ A ∧ Below w.heap.size w wx

/-- The screen that is handed back lies in its box. -/
def AFin (w : World) (x : Gr) (wx : World) : Prop :=
  ∃ b' cap', wx.heap[w.heap.size]? = some (gbox x (some ⟨b', 0, none⟩) cap') ∧ wx.heap[w.heap.size + 2]? = some gzero ∧ Scr wx b' x.n x.f ∧ x.n ≤ cap' ∧ w.heap.size + 3 ≤ b' ∧ Below w.heap.size w wx

/-- The list that is handed back is the one handed in, or a new one. -/
def RefEndS (w : World) (a0 : Option Addr) (r : Gr × Int) (e : Ending) (w' : World) : Prop :=
  ∃ ao cap, e = .returned (.tuple #[gval r.1 ao cap, .int .i64 r.2]) ∧ RdS w' ao r.1.n r.1.f ∧ Below w.heap.size w w' ∧ (ao = a0 ∨ ∃ b, ao = some ⟨b, 0, none⟩ ∧ w.heap.size ≤ b)
theorem RefEndS.ref {w : World} {a0 : Option Addr} {r : Gr × Int} {e : Ending} {w' : World} (h : RefEndS w a0 r e w') : RefEnd w r e w' := by
  obtain ⟨ao, cap, h1, h2, h3, _⟩ := h
  exact ⟨ao, cap, h1, h2, h3⟩

theorem act_end {w wy : World} {x : Gr} {a0 : Option Addr} {b' cap' : Nat} (hs : Scr wy b' x.n x.f) (hb : w.heap.size + 3 ≤ b') (hbel : Below w.heap.size w wy) (u0 u1 u2 u3 u4 u5 u6 u7 u8 : Value) :
    RefEndS w a0 (x, 0) (.returned (.tuple #[gval x (some ⟨b', 0, none⟩) cap', .int .i64 0])) (((((((((wy.setCell ⟨w.heap.size + 2, 0, none⟩ u0).setCell ⟨w.heap.size + 2, 1, none⟩ u1).setCell ⟨w.heap.size + 2, 2, none⟩ u2).setCell ⟨w.heap.size + 2, 3, none⟩ u3).setCell ⟨w.heap.size + 2, 4, none⟩ u4).setCell ⟨w.heap.size + 2, 5, none⟩ u5).setCell ⟨w.heap.size + 2, 6, none⟩ u6).setCell ⟨w.heap.size + 2, 7, none⟩ u7).setCell ⟨w.heap.size + 2, 8, none⟩ u8) :=
  ⟨_, _, rfl, (scr_set9 hs (by omega) _ _ _ _ _ _ _ _ _).rd, below_set9 hbel (by omega) _ _ _ _ _ _ _ _ _, .inr ⟨b', rfl, by omega⟩⟩

theorem acut_of {w w2 w4 : World} {g : Gr} {ev : EvIt} {ao : Option Addr} {cap : Nat} {b' cap' : Nat} (hs : Scr w4 b' g.n g.f) (hc : g.n ≤ cap') (hb : (w2.alloc (gbox g ao cap)).heap.size ≤ b') (hbel : Below (w2.alloc (gbox g ao cap)).heap.size (w2.alloc (gbox g ao cap)) w4) (hb2 : Below w.heap.size w w2) (h0 : w2.heap[w.heap.size]? = some (gbox g ao cap)) (h1 : w2.heap[w.heap.size + 1]? = some (ebox ev)) (h2 : w2.heap[w.heap.size + 2]? = some gzero) :
    ACut w g ev ao cap w2.heap.size (((((((((w4.setCell ⟨w.heap.size, 0, none⟩ (.int .i64 g.wide)).setCell ⟨w.heap.size, 1, none⟩ (.int .i64 g.high)).setCell ⟨w.heap.size, 2, none⟩ (.slice (some ⟨b', 0, none⟩) g.n cap')).setCell ⟨w.heap.size, 3, none⟩ (.int .i64 g.row)).setCell ⟨w.heap.size, 4, none⟩ (.int .i64 g.col)).setCell ⟨w.heap.size, 5, none⟩ (.int .i64 g.ink)).setCell ⟨w.heap.size, 6, none⟩ (.bool g.bold)).setCell ⟨w.heap.size, 7, none⟩ (.int .i64 g.top)).setCell ⟨w.heap.size, 8, none⟩ (.int .i64 g.bottom)) := by
  have l2 : w.heap.size + 2 < w2.heap.size := (Array.getElem?_eq_some_iff.1 h2).1
  have l3 : (w2.alloc (gbox g ao cap)).heap.size = w2.heap.size + 1 := by simp
  have q : Below w.heap.size w w4 := (hb2.alloc (by omega) _).trans (hbel.mono (by omega))
  refine ⟨b', cap', set9_same (below_block hbel (at_old h0 _) (by omega)) _ _ _ _ _ _ _ _ _, set9_other (below_block hbel (at_old h1 _) (by omega)) (by omega) _ _ _ _ _ _ _ _ _, set9_other (below_block hbel (at_old h2 _) (by omega)) (by omega) _ _ _ _ _ _ _ _ _, set9_other (below_block hbel (at_new w2 _) (by omega)) (by omega) _ _ _ _ _ _ _ _ _, scr_set9 hs (by omega) _ _ _ _ _ _ _ _ _, hc, by omega, by omega, below_set9 q (Nat.le_refl _) _ _ _ _ _ _ _ _ _⟩

/-- A callee's answer is laid into the screen's box. -/
theorem afin_of {w w4 : World} {x y : Gr} {ao : Option Addr} {cap b' cap' : Nat} (hs : Scr w4 b' x.n x.f) (hc : x.n ≤ cap') (hb : w.heap.size + 3 ≤ b') (hbel : Below w.heap.size w w4) (h0 : w4.heap[w.heap.size]? = some (gbox y ao cap)) (h2 : w4.heap[w.heap.size + 2]? = some gzero) :
    AFin w x (((((((((w4.setCell ⟨w.heap.size, 0, none⟩ (.int .i64 x.wide)).setCell ⟨w.heap.size, 1, none⟩ (.int .i64 x.high)).setCell ⟨w.heap.size, 2, none⟩ (.slice (some ⟨b', 0, none⟩) x.n cap')).setCell ⟨w.heap.size, 3, none⟩ (.int .i64 x.row)).setCell ⟨w.heap.size, 4, none⟩ (.int .i64 x.col)).setCell ⟨w.heap.size, 5, none⟩ (.int .i64 x.ink)).setCell ⟨w.heap.size, 6, none⟩ (.bool x.bold)).setCell ⟨w.heap.size, 7, none⟩ (.int .i64 x.top)).setCell ⟨w.heap.size, 8, none⟩ (.int .i64 x.bottom)) :=
  ⟨b', cap', set9_same h0 _ _ _ _ _ _ _ _ _, set9_other h2 (by omega) _ _ _ _ _ _ _ _ _, scr_set9 hs (by omega) _ _ _ _ _ _ _ _ _, hc, hb, below_set9 hbel (Nat.le_refl _) _ _ _ _ _ _ _ _ _⟩

set_option maxHeartbeats 2000000 in
theorem act_bad (g : Gr) (ao : Option Addr) (cap : Nat) (e : Evt) (eo : Option Addr) (ec : Nat) (w : World) (hr : RdS w ao g.n g.f) (hm : g.n ≤ 4398046511104) (hg : goodG g = false) :
    Calls Try.prog 28 #[gval g ao cap, eval e eo ec] w (RefEndS w ao (g, 1)) := by
  have HR : Hid (RdS w ao g.n g.f) := hr
  have HGD : Hid (∀ w, RdS w ao g.n g.f → Calls Try.prog 31 #[gval g ao cap] w fun e w' => e = .returned (.bool false) ∧ Below w.heap.size w w') := fun w hr => goodGrid_any g ao cap w hr hm false hg.symm
  clear hr hm hg
  go_enter Try.func28, Try.ntmps28
  go_wp2_with (go_at_call 31; refine (HGD.out _ (HR.out.below (below3 _ _ _ _))).mono ?_; rintro e w2 ⟨rfl, hb2⟩; have HB : Hid (Below w.heap.size w w2) := (below3 _ _ _ _).trans (hb2.mono (by simp; omega)); obtain ⟨⟨x0, x1, x2, x3, x4, x5, x6, x7, x8⟩, z⟩ := nine (below_block hb2 (at_old (at_old (at_new w _) _) _) (by simp; omega)); have q2 := below_block hb2 (at_new2 w _ _ _) (by simp); obtain ⟨⟨u0, u1, u2, u3, u4, u5, u6, u7, u8⟩, v⟩ := nine q2; clear hb2 q2)
  refine bodyPost_ret (v := .tuple #[gval g ao cap, .int .i64 1]) (by simp [results, Try.results28, go_sem, *]) rfl ?_
  have hb9 := below_set9 HB.out (B := w.heap.size + 2) (by omega) (.int .i64 g.wide) (.int .i64 g.high) (.slice ao g.n cap) (.int .i64 g.row) (.int .i64 g.col) (.int .i64 g.ink) (.bool g.bold) (.int .i64 g.top) (.int .i64 g.bottom)
  exact ⟨ao, cap, rfl, HR.out.below hb9, hb9, .inl rfl⟩

set_option maxHeartbeats 2000000 in
theorem act_kind (g : Gr) (ok : OkG g) (ao : Option Addr) (cap : Nat) (e : Evt) (eo : Option Addr) (ec : Nat) (w : World) (hr : RdS w ao g.n g.f) (hk : e.kind < 1 ∨ 5 < e.kind) :
    Calls Try.prog 28 #[gval g ao cap, eval e eo ec] w (RefEndS w ao (g, 2)) := by
  have hm : g.n ≤ 4398046511104 := by obtain ⟨q1, q2, _⟩ := ok.nums; omega
  have HR : Hid (RdS w ao g.n g.f) := hr
  have HGD : Hid (∀ w, RdS w ao g.n g.f → Calls Try.prog 31 #[gval g ao cap] w fun e w' => e = .returned (.bool true) ∧ Below w.heap.size w w') := fun w hr => goodGrid_any g ao cap w hr hm true ((goodG_iff g).2 ok).symm
  clear hr hm ok
  have hk2 : e.kind < 1 ∨ (1 ≤ e.kind ∧ 5 < e.kind) := by omega
  clear hk
  rcases hk2 with hk | ⟨hk0, hk⟩
  all_goals (
    go_enter Try.func28, Try.ntmps28
    go_wp2_with (go_at_call 31; refine (HGD.out _ (HR.out.below (below3 _ _ _ _))).mono ?_; rintro e w2 ⟨rfl, hb2⟩; have HB : Hid (Below w.heap.size w w2) := (below3 _ _ _ _).trans (hb2.mono (by simp; omega)); obtain ⟨⟨x0, x1, x2, x3, x4, x5, x6, x7, x8⟩, z⟩ := nine (below_block hb2 (at_old (at_old (at_new w _) _) _) (by simp; omega)); obtain ⟨⟨y0, y1, y2, y3⟩, z3⟩ := four (below_block hb2 (at_old (at_new1 w _ _) _) (by simp)); have q2 := below_block hb2 (at_new2 w _ _ _) (by simp); obtain ⟨⟨u0, u1, u2, u3, u4, u5, u6, u7, u8⟩, v⟩ := nine q2; clear hb2 q2)
    refine bodyPost_ret (v := .tuple #[gval g ao cap, .int .i64 2]) (by simp [results, Try.results28, go_sem, *]) rfl ?_
    have hb9 := below_set9 HB.out (B := w.heap.size + 2) (by omega) (.int .i64 g.wide) (.int .i64 g.high) (.slice ao g.n cap) (.int .i64 g.row) (.int .i64 g.col) (.int .i64 g.ink) (.bool g.bold) (.int .i64 g.top) (.int .i64 g.bottom)
    exact ⟨ao, cap, rfl, HR.out.below hb9, hb9, .inl rfl⟩)

end Go.Proofs.Yteenppbpjdldgaa
