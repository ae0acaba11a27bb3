/- What the deletions of 'Kill' end with. -/
import Derived.Test.YtmdlbclaipajlabTSp1
import Derived.Test.YtmdlbclaipajlabTDel
namespace Go.Proofs.Ytmdlbclaipajlab.Tl
open Go.RowKit

theorem erase_map {α β : Type} (f : α → β) (l : List α) (i : Nat) : (l.map f).eraseIdx i = (l.eraseIdx i).map f := by
  rw [List.eraseIdx_eq_take_drop_succ, List.eraseIdx_eq_take_drop_succ]
  simp
theorem ints_del (l : List Int) (i : Nat) : (ints l).eraseIdx i = ints (l.eraseIdx i) := erase_map _ l i

theorem mem_del {α : Type} {l : List α} {i : Nat} {y : α} (h : y ∈ l.eraseIdx i) : y ∈ l := List.mem_of_mem_eraseIdx h

theorem kill_delL {w : World} {its : List CIt} {co : Option Addr} {cap g : Nat} {its' : List CIt} {T : Nat} {wx : World} (h : SInv w its co cap g its' T wx) (hm : its.length ≤ 1048576) (i : Nat) (hi : i < its.length) :
    Calls Try.prog 48 #[.slice (some ⟨g, 0, none⟩) its.length its.length, .int .i64 i, .int .i64 ((i : Int) + 1)] wx fun e w' =>
      e = .returned (.slice (some ⟨g, 0, none⟩) (its.length - 1) its.length) ∧ w'.heap[w.heap.size + 1]? = some (tbox none 0 0) ∧ w'.heap[T]? = some (tbox (some ⟨g, 0, none⟩) its.length its.length) ∧
        SpEnd w ((colsOf its).eraseIdx i, 0) (.returned (.tuple #[tval (some ⟨g, 0, none⟩) (its.length - 1) its.length, .int .i64 0])) ((w'.setCell ⟨T, 0, none⟩ (.slice (some ⟨g, 0, none⟩) (its.length - 1) its.length)).setCell ⟨w.heap.size + 1, 0, none⟩ (.slice (some ⟨g, 0, none⟩) (its.length - 1) its.length)) := by
  have hf := h.far
  have hl := h.len
  refine (del_anyL (w.heap.size + 2) g its.length its.length i (its'.map cv) wx (h.row hm) hm hi (cv_one its')).mono ?_
  rintro e w' ⟨rfl, hown, hg⟩
  have q2 := grown_at hg h.cp.row h.res ne41
  have q3 := grown_at hg h.cp.row h.to2 ne41
  have hle : (its'.eraseIdx i).length = its.length - 1 := by rw [List.length_eraseIdx]; simp [hl, hi]
  refine ⟨rfl, q2, q3, some ⟨g, 0, none⟩, its.length, its'.eraseIdx i, by rw [hle], ?_, ?_, ?_⟩
  · have := h.cols
    simp only [colsOf] at this ⊢
    rw [← this, erase_map]
  · rw [erase_map] at hown
    have hq : (w'.setCell ⟨T, 0, none⟩ (.slice (some ⟨g, 0, none⟩) (its.length - 1) its.length)).heap[w.heap.size + 1]? = some (tbox none 0 0) := by
      rw [Below.heap_setCell _ _ _ _ (by simp; omega)]; exact q2
    refine (rdT_own (row_setT (row_setT hown q3 ne41) hq ne41) (fun x hx => ?_)).2
    exact ⟨_, row_setT (row_setT (row_grownT (h.cp.own x (mem_del hx)) hg h.cp.row ne283) q3 ne413) hq ne413⟩
  · have hb3 : Below w.heap.size w w' := h.below.trans (grown_below hg h.below.size (by omega))
    exact (hb3.setCell (by simp; omega) _).setCell (by simp) _

theorem kill_delI {w : World} {its : List CIt} {co : Option Addr} {cap g : Nat} {its' : List CIt} {T : Nat} {wx : World} (h : SInv w its co cap g its' T wx) (hm : its.length ≤ 1048576) (i : Nat) (hi : i < its.length) (x : CIt) (hx : its'[i]? = some x) (hxm : x.1.length ≤ 1048576) (j : Nat) (hj : j < x.1.length) (W : World) (q : Int) (hq : q = (j : Int) + 1) (hb : Below wx.heap.size wx W) :
    Calls Try.prog 49 #[.slice x.2.1 x.1.length x.2.2, .int .i64 j, .int .i64 q] W fun e w' =>
      e = .returned (.slice x.2.1 (x.1.length - 1) x.2.2) ∧ (w'.cell? ⟨w.heap.size + 1, 0, none⟩ = some (.slice none 0 0) ∧ w'.frozen? ⟨w.heap.size + 1, 0, none⟩ = false) ∧ w'.cell? ⟨T, 0, none⟩ = some (.slice (some ⟨g, 0, none⟩) its.length its.length) ∧ w'.cell? ⟨g, i, none⟩ = some (.slice x.2.1 x.1.length x.2.2) ∧ w'.frozen? ⟨g, i, none⟩ = false ∧
        SpEnd w ((colsOf its).set i (x.1.eraseIdx j), 0) (.returned (.tuple #[tval (some ⟨g, 0, none⟩) its.length its.length, .int .i64 0])) ((w'.setCell ⟨g, i, none⟩ (.slice x.2.1 (x.1.length - 1) x.2.2)).setCell ⟨w.heap.size + 1, 0, none⟩ (.slice (some ⟨g, 0, none⟩) its.length its.length)) := by
  subst hq
  have h2 := h.next hb
  have hxo := h2.cp.own x (List.mem_of_getElem? hx)
  obtain ⟨b, hxb, hgb⟩ := own_some hxo (by intro e; rw [e] at hj; simp at hj)
  have hxo' := hxo
  unfold cv at hxo'
  rw [hxb] at hxo'
  have hll : (x.1.eraseIdx j).length = x.1.length - 1 := by rw [List.length_eraseIdx]; simp [hj]
  have key := del_anyI (g + 1) b x.1.length x.2.2 j (ints x.1) W hxo' hxm hj (ints_one _)
  rw [← hxb] at key
  refine key.mono ?_
  rintro e w' ⟨rfl, hown, hg⟩
  rw [ints_del] at hown
  have hown' : w'.ownsRow (g + 1) 3 1 (.slice x.2.1 (x.1.eraseIdx j).length x.2.2) (x.1.eraseIdx j).length (ints (x.1.eraseIdx j)) := by rw [hll]; exact hown
  have := set_end h2 hm i hi x hx b hxb hg (x.1.eraseIdx j) x.2.1 x.2.2 (g + 1) hown'
  rw [hll] at this
  obtain ⟨t1, t2, t3⟩ := this
  exact ⟨rfl, ⟨(one t1).1, (one t1).2 0⟩, (one t2).1, t3⟩

end Go.Proofs.Ytmdlbclaipajlab.Tl
