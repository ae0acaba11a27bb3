/- The numbers that lead from one ink to another. -/
import Derived.Test.YtpichplhidiokabDoorDFun
import Derived.Deep.AppendLies
namespace Go.Proofs.YtpichplhidiokabDoor
open Go.RowKit
set_option maxRecDepth 100000

def strV (L : List ByteArray) : List Value := L.map Value.string

/-- In the midst: the two boxes, and the texts so far. -/
structure InkS (w wi : World) (G C : Array Value) (ao : Option Addr) (cap : Nat) (L : List ByteArray) : Prop where
  gb : wi.heap[w.heap.size]? = some (.cells G 24 (0, 0))
  cb : wi.heap[w.heap.size + 1]? = some (.cells C 33 (0, 0))
  own : wi.ownsRow (w.heap.size + 2) 9 1 (.slice ao L.length cap) L.length (strV L)
  below : Below w.heap.size w wi
  size : w.heap.size + 2 ≤ wi.heap.size

theorem info9 : (Tryd.prog.info? 9).map (fun i => (i.zero, i.size, i.bytes)) = some (some (.string ⟨#[]⟩), 1, 16) := by kernel_rfl

/-- One more text. -/
theorem wpList_append_ink {w wi : World} {G C : Array Value} {ops : Array Oper} {rest : List Oper} {o : Oper} {a : Act} {Q : Exit → Act → World → Prop} (hgd : o.guard = none) (sl x : Operand)
    (ho : o.op = .call { callee := .builtin .append, args := #[sl, x], argTypes := #[69, 69] })
    (ao : Option Addr) (cap n : Nat) (L : List ByteArray) (hn : n = L.length) (s : ByteArray) (h : InkS w wi G C ao cap L) (hl : n ≤ 4) (B : Nat) (hB : B = wi.heap.size) (hs : a.eval sl = .slice ao n cap) (hx : a.eval x = .slice (some ⟨B, 0, none⟩) 1 1)
    (hk : ∀ g' cap' w', Hid (InkS w w' G C (some ⟨g', 0, none⟩) cap' (L ++ [s])) → wpList Tryd.prog ops Q rest (a.put o.dst (.slice (some ⟨g', 0, none⟩) (n + 1) cap')) w') : wpList Tryd.prog ops Q (o :: rest) a (wi.alloc (.cells #[.string s] 9)) := by
  subst hB
  subst hn
  obtain ⟨i, hi, hz0, hz1, hz2⟩ := info_parts info9
  have hsz := h.size
  refine wpList_append_lies _ hgd sl x 69 ho (w.heap.size + 2) 9 i (.string ⟨#[]⟩) 1 16 Tryd.underlying69 hi hz0 hz1 hz2 rfl (by decide) (.slice ao L.length cap) L.length (strV L) hs (h.own.alloc _) ⟨wi.heap.size, 0, none⟩ 1 1 [.string s] hx rfl ?_ ?_ (by decide) (by unfold maxLen; omega) (by omega) (by simp; omega) (wi.heap.size + 1) (by simp) ?_
  · exact World.news_of_block (at_new wi _)
  · intro u hu
    simp only [List.mem_singleton] at hu
    subst hu
    rfl
  · intro g' cap' w' hown hgrow _ _
    have hne : ∀ k, k < w.heap.size + 2 → some k ≠ Value.ownBlock (.slice ao L.length cap) := fun k hk e => by
      have := (h.own.lt k e.symm).1
      omega
    refine hk g' cap' w' ⟨?_, ?_, ?_, ?_, ?_⟩
    · exact grown_block hgrow (at_old h.gb _) (hne _ (by omega))
    · exact grown_block hgrow (at_old h.cb _) (hne _ (by omega))
    · have : strV (L ++ [s]) = strV L ++ [.string s] := by simp [strV]
      rw [this, List.length_append]
      exact hown
    · have b2 : Below w.heap.size w (wi.alloc (.cells #[.string s] 9)) := h.below.trans ((below1 wi _).mono h.below.size)
      exact b2.grown hgrow (by simp; omega) (fun k hk => by have := (h.own.lt k hk).1; omega)
    · have := hgrow.size
      simp at this
      omega

/-- The texts joined. -/
theorem join_ink {w wi : World} {G C : Array Value} {ao : Option Addr} {cap : Nat} {L : List ByteArray} (h : InkS w wi G C ao cap L) (hl : L.length ≤ 4) (R : List (List UInt8)) (hR : L.map (·.data.toList) = R) (hj : (Lib.join R [59]).length ≤ 100) :
    Calls Tryd.prog 43 #[.slice ao L.length cap, .string ⟨#[59]⟩] wi fun e w' => e = .returned (.string (bs (Lib.join R [59]))) ∧ Below w.heap.size w w' := by
  subst hR
  rcases h.own.2 with ⟨hv, h0⟩ | ⟨g, c, cur, hv, _, hg, hc, _, hs, ht⟩
  · simp only [Value.slice.injEq] at hv
    obtain ⟨rfl, _, rfl⟩ := hv
    have hL : L = [] := List.length_eq_zero_iff.1 h0
    subst hL
    refine (Tryd.strings_Join_none none 0 ⟨#[59]⟩ wi).mono ?_
    rintro e w' ⟨rfl, rfl⟩
    exact ⟨rfl, h.below⟩
  · simp only [Value.slice.injEq] at hv
    obtain ⟨rfl, _, rfl⟩ := hv
    refine (Tryd.strings_Join g 0 cap L ⟨#[59]⟩ wi (fun j x hx => ?_) (Array.getElem?_eq_some_iff.1 hg).1 (by omega) hc ?_).mono ?_
    · have hj : j < L.length := (List.getElem?_eq_some_iff.1 hx).1
      rw [cell_of_row wi g (0 + j) _ _ _ hg]
      have h1 : (strV L)[j]? = some (.string x) := by simp [strV, hx]
      rw [← ht, List.getElem?_take_of_lt (by omega)] at h1
      simpa using h1
    · exact Nat.le_trans hj (by decide)
    · rintro e w' ⟨rfl, hb⟩
      exact ⟨rfl, h.below.trans (hb.mono h.below.size)⟩

/-- The boxes at the beginning. -/
theorem ink_start (w : World) (G C : Array Value) : InkS w ((w.alloc (.cells G 24)).alloc (.cells C 33)) G C none 0 [] :=
  ⟨at_old (at_new w _) _, at_new1 w _ _, World.ownsRow_nil _ _ _ _, (below1 _ _).alloc (by simp) _, by simp⟩
/-- The screen's box is written. -/
theorem InkS.set {w wi : World} {G C : Array Value} {ao : Option Addr} {cap : Nat} {L : List ByteArray} (h : InkS w wi G C ao cap L) (j : Nat) (u : Value) : InkS w (wi.setCell ⟨w.heap.size, j, none⟩ u) (G.setIfInBounds j u) C ao cap L := by
  refine ⟨set_cells h.gb u, ?_, ?_, h.below.setCell (Nat.le_refl _) _, by have := h.size; simpa using this⟩
  · rw [Below.heap_setCell _ _ _ _ (by simp)]
    exact h.cb
  · refine ⟨h.own.1, ?_⟩
    rcases h.own.2 with hn | ⟨g, c, cur, hv, hb, hg, rest⟩
    · exact .inl hn
    · refine .inr ⟨g, c, cur, hv, hb, ?_, rest⟩
      rw [Below.heap_setCell _ _ _ _ (by simp; omega)]
      exact hg

end Go.Proofs.YtpichplhidiokabDoor
