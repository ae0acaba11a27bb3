/- What holds in the midst of 'Split' and 'Kill'. -/
import Derived.Test.YtmdlbclaipajlabTIns2
namespace Go.Proofs.Ytmdlbclaipajlab.Tl
open Go.RowKit

theorem insL_map {α β : Type} (f : α → β) (l : List α) (i : Nat) (x : α) : insL (l.map f) i (f x) = (insL l i x).map f := by
  simp [insL]

theorem row_setT {w : World} {base sz n B j : Nat} {e t : TypeId} {v u : Value} {xs : List Value} {c : Array Value} (h : w.ownsRow base e sz v n xs) (hB : w.heap[B]? = some (.cells c t (0, 0))) (ht : t ≠ e) : (w.setCell ⟨B, j, none⟩ u).ownsRow base e sz v n xs := by
  refine ⟨h.1, ?_⟩
  rcases h.2 with h0 | ⟨g, c', cur, hv, hbb, hg, rest⟩
  · exact .inl h0
  · refine .inr ⟨g, c', cur, hv, hbb, ?_, rest⟩
    rw [Below.heap_setCell _ _ _ _ (by intro e; simp only at e; subst e; rw [hB] at hg; simp at hg; exact ht hg.2)]
    exact hg
theorem row_grownT {w w' : World} {base sz n g : Nat} {e t : TypeId} {v : Value} {xs : List Value} {c : Array Value} (h : w.ownsRow base e sz v n xs) (hG : w.grownBy w' (some g)) (hB : w.heap[g]? = some (.cells c t (0, 0))) (ht : t ≠ e) : w'.ownsRow base e sz v n xs := by
  refine ⟨h.1, ?_⟩
  rcases h.2 with h0 | ⟨g', c', cur, hv, hbb, hg, rest⟩
  · exact .inl h0
  · refine .inr ⟨g', c', cur, hv, hbb, ?_, rest⟩
    rw [hG.block g' (at_lt hg) (by intro e; simp only [Option.some.injEq] at e; subst e; rw [hB] at hg; simp at hg; exact ht hg.2)]
    exact hg
theorem row_grownB {w w' : World} {base sz n g : Nat} {e : TypeId} {v : Value} {xs : List Value} (h : w.ownsRow base e sz v n xs) (hG : w.grownBy w' (some g)) (hne : v.ownBlock ≠ some g) : w'.ownsRow base e sz v n xs := by
  refine ⟨h.1, ?_⟩
  rcases h.2 with h0 | ⟨g', c', cur, rfl, hbb, hg, rest⟩
  · exact .inl h0
  · exact .inr ⟨g', c', cur, rfl, hbb, by rw [hG.block g' (at_lt hg) (by simpa [Value.ownBlock] using hne)]; exact hg, rest⟩
theorem grown_at {w w' : World} {g b : Nat} {e t : TypeId} {c c' : Array Value} (hG : w.grownBy w' (some g)) (hg : w.heap[g]? = some (.cells c e (0, 0))) (hb : w.heap[b]? = some (.cells c' t (0, 0))) (ht : t ≠ e) : w'.heap[b]? = some (.cells c' t (0, 0)) := by
  rw [hG.block b (at_lt hb) (by intro x; simp only [Option.some.injEq] at x; subst x; rw [hg] at hb; simp at hb; exact ht hb.2.symm)]
  exact hb
theorem set_at {w : World} {g b j : Nat} {e t : TypeId} {u : Value} {c c' : Array Value} (hg : w.heap[g]? = some (.cells c e (0, 0))) (hb : w.heap[b]? = some (.cells c' t (0, 0))) (ht : t ≠ e) : (w.setCell ⟨g, j, none⟩ u).heap[b]? = some (.cells c' t (0, 0)) := by
  rw [Below.heap_setCell _ _ _ _ (by intro x; simp only at x; subst x; rw [hg] at hb; simp at hb; exact ht hb.2.symm)]
  exact hb

/-- Lists of one's own are read. -/
theorem rdT_own {w : World} {base : Nat} {co : Option Addr} {n c : Nat} {its : List CIt} (h : w.ownsRow base 28 1 (.slice co n c) n (its.map cv)) (he : ∀ x ∈ its, ∃ b, w.ownsRow b 3 1 (cv x) x.1.length (ints x.1)) : n = its.length ∧ RdT w co its := by
  have hl : n = its.length := by have := h.1; simp at this; omega
  refine ⟨hl, fun x hx => by obtain ⟨b, hb⟩ := he x hx; exact row_rd hb, ?_⟩
  rcases h.2 with ⟨_, h0⟩ | ⟨g, cap, cur, hv, hb, hg, hc, _, hs, ht⟩
  · left; rw [h0] at hl; exact List.length_eq_zero_iff.1 hl.symm
  · right
    simp only [Value.slice.injEq] at hv
    refine ⟨g, 0, hv.1, fun k hk => ?_⟩
    have e1 : (its.map cv)[k]? = some (cv its[k]) := by simp [hk]
    rw [← ht, List.getElem?_take_of_lt (by omega)] at e1
    simp only [World.cell?, hg, Nat.zero_add]
    simpa using e1

/-- What 'Split' and 'Kill' end with. -/
def SpEnd (w : World) (r : List (List Int) × Int) (e : Ending) (w' : World) : Prop :=
  ∃ co' cap' its', e = .returned (.tuple #[tval co' its'.length cap', .int .i64 r.2]) ∧ colsOf its' = r.1 ∧ RdT w' co' its' ∧ Below w.heap.size w w'

/-- In the midst: the panes that came in, the copy, the boxes. -/
structure SInv (w : World) (its : List CIt) (co : Option Addr) (cap g : Nat) (its' : List CIt) (T : Nat) (wx : World) : Prop where
  cols : colsOf its' = colsOf its
  box : wx.heap[w.heap.size]? = some (tbox co its.length cap)
  res : wx.heap[w.heap.size + 1]? = some (tbox none 0 0)
  to2 : wx.heap[T]? = some (tbox (some ⟨g, 0, none⟩) its.length its.length)
  cp : Cp its' g wx
  rd : RdT wx co its
  far : w.heap.size + 2 ≤ g ∧ w.heap.size + 2 ≤ T
  below : Below w.heap.size w wx

theorem SInv.len {w : World} {its : List CIt} {co : Option Addr} {cap g : Nat} {its' : List CIt} {T : Nat} {wx : World} (h : SInv w its co cap g its' T wx) : its'.length = its.length := by
  have := congrArg List.length h.cols
  simpa using this

theorem SInv.next {w : World} {its : List CIt} {co : Option Addr} {cap g : Nat} {its' : List CIt} {T : Nat} {wx w2 : World} (h : SInv w its co cap g its' T wx) (hb : Below wx.heap.size wx w2) : SInv w its co cap g its' T w2 :=
  ⟨h.cols, below_block hb h.box (at_lt h.box), below_block hb h.res (at_lt h.res), below_block hb h.to2 (at_lt h.to2), h.cp.below hb, h.rd.below hb, h.far, below_to h.below hb⟩

theorem sinv_start {w w1 : World} {its : List CIt} {co : Option Addr} {cap g : Nat} {its' : List CIt} (hr : RdT w co its) (hc : colsOf its' = colsOf its) (hg : ((w.alloc (tbox co its.length cap)).alloc (tbox none 0 0)).heap.size ≤ g) (hcp : Cp its' g w1) (hb : Below ((w.alloc (tbox co its.length cap)).alloc (tbox none 0 0)).heap.size ((w.alloc (tbox co its.length cap)).alloc (tbox none 0 0)) w1) :
    SInv w its co cap g its' w1.heap.size (w1.alloc (tbox (some ⟨g, 0, none⟩) its.length its.length)) := by
  have hl : its'.length = its.length := by
    have := congrArg List.length hc
    simpa using this
  have hb2 : Below w.heap.size w w1 := below_to (below2 w _ _) hb
  have hs : w.heap.size + 2 ≤ w1.heap.size := by have := hb.size; simp at this; omega
  refine ⟨hc, at_old (below_block hb (at_old (at_new w _) _) (by simp; omega)) _, at_old (below_block hb (at_new1 w _ _) (by simp)) _, at_new _ _, hcp.below (below1 _ _), (hr.below hb2).below (below1 _ _), ⟨by simpa using hg, hs⟩, below_to hb2 (below1 _ _)⟩

/-- The copy is handed back as it is. -/
theorem SInv.same {w : World} {its : List CIt} {co : Option Addr} {cap g : Nat} {its' : List CIt} {T : Nat} {wx : World} (h : SInv w its co cap g its' T wx) (q : Int) (r : List (List Int) × Int) (hr : r = (colsOf its, q)) :
    SpEnd w r (.returned (.tuple #[tval (some ⟨g, 0, none⟩) its.length its.length, .int .i64 q])) (wx.setCell ⟨w.heap.size + 1, 0, none⟩ (.slice (some ⟨g, 0, none⟩) its.length its.length)) := by
  subst hr
  have hf := h.far
  exact ⟨some ⟨g, 0, none⟩, its.length, its', by rw [h.len], h.cols, (h.cp.set (by omega)).rd, h.below.setCell (by simp) _⟩

end Go.Proofs.Ytmdlbclaipajlab.Tl
