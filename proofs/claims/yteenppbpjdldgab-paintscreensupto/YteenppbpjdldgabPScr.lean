/- A client's screen in the making: the boxes, the cells that are done. -/
import Derived.Test.YteenppbpjdldgabPCellO
import Derived.Test.YteenppbpjdldgabPNew
import Derived.Deep.RegionHeld3
namespace Go.Proofs.Yteenppbpjdldgab.Pt
open Go.RowKit
open Go.Proofs.Yteenppbpjdldgab.Tl (Rc noRc whereT shareT inR findT goodT paneB CIt colsOf RdT RdL tval tbox rval rbox rcells zbox cv)

/-- The cells up to the m-th one are as they are to be. -/
def fillF (v : Vw) (W H : Int) (m : Nat) : Nat → Cel := fun i => if i < m then cellsV v W H i else noCel

theorem fill_put (v : Vw) (W H : Int) (m : Nat) : putF (fillF v W H m) m (cellsV v W H m) = fillF v W H (m + 1) := by
  funext i
  unfold putF fillF
  by_cases e : i = m
  · subst e; rw [if_pos rfl, if_pos (by omega)]
  · rw [if_neg e]
    by_cases h : i < m
    · rw [if_pos h, if_pos (by omega)]
    · rw [if_neg h, if_neg (by omega)]
theorem fill_zero (v : Vw) (W H : Int) (i : Nat) : noCel = fillF v W H 0 i := by unfold fillF; rw [if_neg (by omega)]

theorem cellsV_at (v : Vw) {W H : Int} {I : Nat} {k c : Nat} (hc : (c : Int) < W) (hI : (I : Int) = k * W + c) : cellsV v W H I = if (k : Int) = H - 1 then footT v c else cellT v k c := by
  unfold cellsV
  have hd : (I : Int) / W = k := by
    rw [hI, Int.add_comm, Int.add_mul_ediv_right _ _ (by omega), Int.ediv_eq_zero_of_lt (by omega) hc]
    omega
  have hm : (I : Int) % W = c := by
    rw [hI, Int.add_comm, Int.add_mul_emod_self_right, Int.emod_eq_of_lt (by omega) hc]
  rw [hd, hm]

/-- The boxes and the list. -/
structure ScInv (w : World) (C : Array Value) (x : Gr) (b G cp : Nat) (f : Nat → Cel) (wr : World) : Prop where
  box : wr.heap[w.heap.size]? = some (cbox C)
  res : wr.heap[w.heap.size + 1]? = some gzero
  g : wr.heap[G]? = some (gbox x (some ⟨b, 0, none⟩) cp)
  scr : Scr wr b x.n f
  below : Below w.heap.size w wr
  n1 : w.heap.size + 1 < b
  n2 : b < G

theorem ScInv.next {w : World} {C : Array Value} {x : Gr} {b G cp : Nat} {f : Nat → Cel} {wr w2 : World} (h : ScInv w C x b G cp f wr) (hb : Below wr.heap.size wr w2) : ScInv w C x b G cp f w2 :=
  ⟨below_block hb h.box (Tl.at_lt h.box), below_block hb h.res (Tl.at_lt h.res), below_block hb h.g (Tl.at_lt h.g), h.scr.below hb h.scr.lt, Tl.below_to h.below hb, h.n1, h.n2⟩
theorem ScInv.drew {w : World} {C : Array Value} {x : Gr} {b G cp : Nat} {f : Nat → Cel} {wr : World} (h : ScInv w C x b G cp f wr) : ScInv w C x b G cp f wr.drew :=
  ⟨h.box, h.res, h.g, h.scr.drew, h.below.drew, h.n1, h.n2⟩

theorem heap_set4 {w : World} {B b i0 i1 i2 i3 : Nat} {o : Obj} (h : w.heap[B]? = some o) (hne : B ≠ b) (u0 u1 u2 u3 : Value) : ((((w.setCell ⟨b, i0, none⟩ u0).setCell ⟨b, i1, none⟩ u1).setCell ⟨b, i2, none⟩ u2).setCell ⟨b, i3, none⟩ u3).heap[B]? = some o := by
  rw [Below.heap_setCell _ _ _ _ hne, Below.heap_setCell _ _ _ _ hne, Below.heap_setCell _ _ _ _ hne, Below.heap_setCell _ _ _ _ hne]
  exact h

theorem ScInv.put {w : World} {C : Array Value} {x : Gr} {b G cp : Nat} {f : Nat → Cel} {wr : World} (h : ScInv w C x b G cp f wr) (i : Nat) (c : Cel) (hi : i < x.n) :
    ScInv w C x b G cp (putF f i c) ((((wr.setCell ⟨b, i * 4, none⟩ (.int .i64 c.ch)).setCell ⟨b, i * 4 + 1, none⟩ (.int .i64 c.ink)).setCell ⟨b, i * 4 + 2, none⟩ (.int .i64 c.pic)).setCell ⟨b, i * 4 + 3, none⟩ (.bool c.bold)) := by
  have n1 := h.n1
  have n2 := h.n2
  exact ⟨heap_set4 h.box (by omega) _ _ _ _, heap_set4 h.res (by omega) _ _ _ _, heap_set4 h.g (by omega) _ _ _ _, h.scr.put i _ _ _ _ c hi rfl rfl rfl rfl, (((h.below.setCell (by simp; omega) _).setCell (by simp; omega) _).setCell (by simp; omega) _).setCell (by simp; omega) _, h.n1, h.n2⟩

theorem ScInv.setRow {w : World} {C : Array Value} {x : Gr} {b G cp : Nat} {f : Nat → Cel} {wr : World} (h : ScInv w C x b G cp f wr) (R : Int) : ScInv w C { x with row := R } b G cp f (wr.setCell ⟨G, 3, none⟩ (.int .i64 R)) := by
  have n1 := h.n1
  have n2 := h.n2
  exact ⟨by rw [Below.heap_setCell _ _ _ _ (by simp; omega)]; exact h.box, by rw [Below.heap_setCell _ _ _ _ (by simp; omega)]; exact h.res, heap_setCell_same _ G 3 _ _ _ h.g, h.scr.set (by simp; omega) _, h.below.setCell (by simp; omega) _, h.n1, h.n2⟩

/-- The view may be loaded first of all. -/
theorem yields_view {ops : Array Oper} {S : World → Prop} {op : Oper} {a : Act} (hw : Region.wanted op (yielded ops a.tmps) = true) (x : Operand) (ho : op.op = .load 62 x) (b : Nat) (hx : a.eval x = .pointer (some ⟨b, 0, none⟩)) (C : Array Value) (hs : C.size = 58) (hS : ∀ w, S w → w.heap[b]? = some (cbox C)) : YieldsIf Try.prog ops S op (.agg C) a := by
  have := yieldsIf_load_mid (P := Try.prog) hw 62 x ho b 0 hx C.toList _ (fun w h => cbox_range (hS w h)) Try.underlying62 rfl (by rw [Array.length_toList, hs]; exact infoV)
  simpa using this

end Go.Proofs.Yteenppbpjdldgab.Pt
