/- In the midst of the document's own split and kill. -/
import Derived.Test.YtmdlbclaipajlabTRef2
import Derived.Test.YtmdlbclaipajlabTRef5
import Derived.Test.YtmdlbclaipajlabTSp1
import Derived.Test.YtmdlbclaipajlabTRef0
namespace Go.Proofs.Ytmdlbclaipajlab.Tl
open Go.RowKit

/-- The panes that came in, and what is made of them, in the box at O. -/
structure OInv (w : World) (its : List CIt) (co : Option Addr) (cap O : Nat) (done : List CIt) (v : Value) (wr : World) : Prop where
  row : wr.ownsRow (O + 1) 28 1 v done.length (done.map cv)
  own : ∀ x ∈ done, wr.ownsRow (O + 1) 3 1 (cv x) x.1.length (ints x.1)
  box : wr.heap[w.heap.size]? = some (tbox co its.length cap)
  res : wr.heap[w.heap.size + 1]? = some (tbox none 0 0)
  out : wr.heap[O]? = some (vbox v)
  rd : RdT wr co its
  old : RdT w co its
  far : w.heap.size + 2 ≤ O
  below : Below w.heap.size w wr

theorem OInv.next {w : World} {its : List CIt} {co : Option Addr} {cap O : Nat} {done : List CIt} {v : Value} {wr w2 : World} (h : OInv w its co cap O done v wr) (hb : Below wr.heap.size wr w2) : OInv w its co cap O done v w2 :=
  ⟨row_below h.row hb, fun x hx => row_below (h.own x hx) hb, below_block hb h.box (at_lt h.box), below_block hb h.res (at_lt h.res), below_block hb h.out (at_lt h.out), h.rd.below hb, h.old, h.far, below_to h.below hb⟩

theorem OInv.push {w : World} {its : List CIt} {co : Option Addr} {cap O : Nat} {done : List CIt} {v v' : Value} {wr w2 : World} (h : OInv w its co cap O done v wr) (x : CIt) (ho : wr.ownsRow (O + 1) 3 1 (cv x) x.1.length (ints x.1))
    (hown : w2.ownsRow (O + 1) 28 1 v' (done.length + 1) (done.map cv ++ [cv x])) (hg : (wr.alloc (.cells #[cv x] 28)).grownBy w2 v.ownBlock) :
    OInv w its co cap O (done ++ [x]) v' (w2.setCell ⟨O, 0, none⟩ v') := by
  have hb2 : Below wr.heap.size wr (wr.alloc (.cells #[cv x] 28)) := below1 _ _
  have hrow2 := row_below h.row hb2
  have hO := at_lt h.out
  have hfar := h.far
  have hblk : ∀ b, b < O + 1 → some b ≠ v.ownBlock := fun b hbl e => by have := own_ge h.row e.symm; omega
  have key : ∀ (b : Nat) (o : Obj), wr.heap[b]? = some o → b < O + 1 → w2.heap[b]? = some o := fun b o hbo hbl => by
    have h1 := below_block hb2 hbo (at_lt hbo)
    rw [hg.block b (at_lt h1) (hblk b hbl)]
    exact h1
  have hout := key _ _ h.out (by omega)
  have hb3 : Below w.heap.size w w2 := (below_to h.below hb2).trans ⟨hg.os, hg.tape, hg.output, hg.size, fun b hbl => hg.block b (by have := (below_to h.below hb2).size; omega) (hblk b (by omega))⟩
  refine ⟨?_, ?_, ?_, ?_, ?_, ?_, h.old, h.far, hb3.setCell (by simp; omega) _⟩
  · have := row_setT (j := 0) (u := v') hown hout ne41'
    simpa using this
  · intro y hy
    rcases List.mem_append.1 hy with hy | hy
    · exact row_setT (row_keep (row_below (h.own y hy) hb2) hrow2 ne283' hg) hout ne413'
    · simp at hy
      subst hy
      exact row_setT (row_keep (row_below ho hb2) hrow2 ne283' hg) hout ne413'
  · rw [Below.heap_setCell _ _ _ _ (by simp; omega)]; exact key _ _ h.box (by omega)
  · rw [Below.heap_setCell _ _ _ _ (by simp; omega)]; exact key _ _ h.res (by omega)
  · rw [heap_setCell_same w2 O 0 _ _ v' hout]
    rfl
  · exact rdT_set h.old (by omega) (h.old.below hb3) _ _

theorem OInv.out2 {w : World} {its : List CIt} {co : Option Addr} {cap O : Nat} {done : List CIt} {v : Value} {wr w2 : World} {o : Obj} (h : OInv w its co cap O done v wr) (hg : (wr.alloc o).grownBy w2 v.ownBlock) : w2.heap[O]? = some (vbox v) := by
  have h1 := at_old h.out o
  rw [hg.block _ (at_lt h1) (fun e => by have := own_ge h.row e.symm; omega)]
  exact h1

/-- What is made is handed back. -/
theorem OInv.fin {w : World} {its : List CIt} {co : Option Addr} {cap O : Nat} {done : List CIt} {c2 : Option Addr} {n k2 : Nat} {wr : World} (h : OInv w its co cap O done (.slice c2 n k2) wr) (r : List (List Int) × Int) (hr : r = (colsOf done, 0)) :
    SpEnd w r (.returned (.tuple #[tval c2 n k2, .int .i64 0])) (wr.setCell ⟨w.heap.size + 1, 0, none⟩ (.slice c2 n k2)) := by
  subst hr
  have hn : n = done.length := by
    obtain ⟨_, _, e⟩ := row_shape h.row
    simp only [Value.slice.injEq] at e
    exact e.2.1
  subst hn
  exact ⟨c2, k2, done, rfl, rfl, (rdT_own (row_setT h.row h.res ne41') (fun x hx => ⟨_, row_setT (h.own x hx) h.res ne413'⟩)).2, h.below.setCell (by simp) _⟩

/-- The panes that came in are handed back. -/
theorem back_same {w : World} {its : List CIt} {co : Option Addr} {cap : Nat} {wr : World} (h0 : RdT w co its) (hb : Below w.heap.size w wr) (q : Int) (r : List (List Int) × Int) (hr : r = (colsOf its, q)) :
    SpEnd w r (.returned (.tuple #[tval co its.length cap, .int .i64 q])) (wr.setCell ⟨w.heap.size + 1, 0, none⟩ (.slice co its.length cap)) := by
  subst hr
  exact ⟨co, cap, its, rfl, rfl, rdT_set h0 (by omega) (h0.below hb) _ _, hb.setCell (by simp) _⟩

/-- Ahead of the making. -/
structure JInv (w : World) (its : List CIt) (co : Option Addr) (cap : Nat) (wx : World) : Prop where
  box : wx.heap[w.heap.size]? = some (tbox co its.length cap)
  res : wx.heap[w.heap.size + 1]? = some (tbox none 0 0)
  rd : RdT wx co its
  below : Below w.heap.size w wx
theorem JInv.next {w : World} {its : List CIt} {co : Option Addr} {cap : Nat} {wx w2 : World} (h : JInv w its co cap wx) (hb : Below wx.heap.size wx w2) : JInv w its co cap w2 :=
  ⟨below_block hb h.box (at_lt h.box), below_block hb h.res (at_lt h.res), h.rd.below hb, below_to h.below hb⟩
theorem jinv_start {w : World} {its : List CIt} {co : Option Addr} {cap : Nat} (hr : RdT w co its) : JInv w its co cap ((w.alloc (tbox co its.length cap)).alloc (tbox none 0 0)) :=
  ⟨at_old (at_new w _) _, at_new1 w _ _, hr.below (below2 _ _ _), below2 _ _ _⟩
theorem JInv.make {w : World} {its : List CIt} {co : Option Addr} {cap : Nat} {wx : World} (h : JInv w its co cap wx) (h0 : RdT w co its) : OInv w its co cap wx.heap.size [] (.slice none 0 0) (wx.alloc (vbox (.slice none 0 0))) :=
  ⟨by simpa using World.ownsRow_nil _ _ _ _, fun x hx => by simp at hx, at_old h.box _, at_old h.res _, at_new _ _, h.rd.below (below1 _ _), h0, by have := at_lt h.res; omega, below_to h.below (below1 _ _)⟩

end Go.Proofs.Ytmdlbclaipajlab.Tl
