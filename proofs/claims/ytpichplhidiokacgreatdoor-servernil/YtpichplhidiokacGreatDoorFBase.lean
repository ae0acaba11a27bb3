/- Words for what one byte's step leaves in memory: rows of numbers of the call's own, and where they lie. -/
import Derived.Test.YtpichplhidiokacGreatDoorRows
import Derived.Test.YtpichplhidiokacGreatDoorFPures
import Derived.WalkKit
import Derived.WalkSpells
import Derived.WalkLawsBesides
namespace Go.Proofs.YtpichplhidiokacGreatDoor.Ps
open Go.RowKit

def ints (l : List Int) : List Value := l.map (.int .i64)

/-- The slice value holds the numbers, in a row of the call's own. -/
def Own (base : Nat) (w : World) (ao : Option Addr) (cap : Nat) (l : List Int) : Prop := w.ownsRow base 3 1 (.slice ao l.length cap) l.length (ints l)

theorem own_nil (base : Nat) (w : World) : Own base w none 0 [] := World.ownsRow_nil _ _ _ _

def blk (ao : Option Addr) : Option Nat := ao.map (·.block)

/-- What one byte's step leaves: the numbers of the parser and of the event are owned; nothing old but the parser's own row has turned. -/
structure Stepped (base : Nat) (w : World) (a0 : Option Addr) (r : PS × Ev) (ao : Option Addr) (cap : Nat) (po : Option Addr) (pc : Nat) (w' : World) : Prop where
  own : Own base w' ao cap r.1.ps
  pown : Own base w' po pc r.2.ps
  grown : w.grownBy w' (blk a0)
  lies : blk ao = none ∨ blk ao = blk a0 ∨ ∃ g, blk ao = some g ∧ w.heap.size ≤ g
  plies : po = none ∨ (blk po = blk a0 ∧ ao = none)

theorem Below.toGrown {w w' : World} (h : Below w.heap.size w w') (row : Option Nat) : w.grownBy w' row :=
  ⟨h.os, h.tape, h.output, h.size, fun k hk _ => h.block k hk⟩

theorem stepped_nil {base : Nat} {w w' : World} {a0 : Option Addr} {r : PS × Ev} (h1 : r.1.ps = []) (h2 : r.2.ps = []) (hb : Below w.heap.size w w') : Stepped base w a0 r none 0 none 0 w' :=
  ⟨by rw [h1]; exact own_nil _ _, by rw [h2]; exact own_nil _ _, Below.toGrown hb _, .inl rfl, .inl rfl⟩

/-- The ending of a step's function. -/
def StepEnd (base : Nat) (w : World) (a0 : Option Addr) (r : PS × Ev) (e : Ending) (w' : World) : Prop :=
  ∃ ao cap po pc, e = .returned (.tuple #[.agg #[.int .i64 r.1.place, .slice ao r.1.ps.length cap, .string r.1.pl, .bool r.1.lg], .agg #[.int .i64 r.2.kind, .int .i64 r.2.b, .slice po r.2.ps.length pc, .string r.2.pl]]) ∧ Stepped base w a0 r ao cap po pc w'

theorem end_nil {base : Nat} {w w' : World} {a0 : Option Addr} {r : PS × Ev} {e : Ending} (h1 : r.1.ps = []) (h2 : r.2.ps = [])
    (he : e = .returned (.tuple #[.agg #[.int .i64 r.1.place, .slice none 0 0, .string r.1.pl, .bool r.1.lg], .agg #[.int .i64 r.2.kind, .int .i64 r.2.b, .slice none 0 0, .string r.2.pl]])) (hb : Below w.heap.size w w') : StepEnd base w a0 r e w' :=
  ⟨none, 0, none, 0, by rw [he, h1, h2]; rfl, stepped_nil h1 h2 hb⟩

theorem grown_trans {a b c : World} {row : Option Nat} (h : a.grownBy b row) (k : b.grownBy c row) : a.grownBy c row :=
  ⟨k.os.trans h.os, k.tape.trans h.tape, k.output.trans h.output, Nat.le_trans h.size k.size, fun i hi hne => (k.block i (Nat.lt_of_lt_of_le hi h.size) hne).trans (h.block i hi hne)⟩

theorem grown_alloc {a w : World} {row : Option Nat} (h : a.grownBy w row) (o : Obj) : a.grownBy (w.alloc o) row := grown_trans h (World.grownBy_alloc w o row)

theorem grown_drew {a w : World} {row : Option Nat} (h : a.grownBy w row) : a.grownBy w.drew row := ⟨h.os, h.tape, h.output, h.size, h.block⟩

theorem grown_refl (w : World) (row : Option Nat) : w.grownBy w row := ⟨rfl, rfl, rfl, Nat.le_refl _, fun _ _ _ => rfl⟩

theorem own_alloc {base : Nat} {w : World} {ao : Option Addr} {cap : Nat} {l : List Int} (h : Own base w ao cap l) (o : Obj) : Own base (w.alloc o) ao cap l := World.ownsRow.alloc h o
theorem own_drew {base : Nat} {w : World} {ao : Option Addr} {cap : Nat} {l : List Int} (h : Own base w ao cap l) : Own base w.drew ao cap l := World.ownsRow.drew h

/-- A row of numbers that are there: where it lies, what its cells hold. -/
theorem own_form {base : Nat} {w : World} {ao : Option Addr} {cap : Nat} {l : List Int} (h : Own base w ao cap l) (hl : 0 < l.length) : ∃ g, ao = some ⟨g, 0, none⟩ ∧ base ≤ g ∧ g < w.heap.size := by
  rcases h.2 with ⟨_, h0⟩ | ⟨g, c, cur, hv, hb, hg, _⟩
  · omega
  · simp only [Value.slice.injEq] at hv
    refine ⟨g, hv.1, hb, ?_⟩
    rcases Nat.lt_or_ge g w.heap.size with hlt | hge
    · exact hlt
    · rw [Array.getElem?_eq_none hge] at hg; cases hg

theorem own_cell {base : Nat} {w : World} {g cap : Nat} {l : List Int} (h : Own base w (some ⟨g, 0, none⟩) cap l) (j : Nat) (hj : j < l.length) : w.cell? ⟨g, j, none⟩ = some (.int .i64 (l.getD j 0)) := by
  rw [World.ownsRow.cellAt h j (by omega)]
  simp [ints, hj]

theorem own_store {base : Nat} {w : World} {g cap : Nat} {l : List Int} (h : Own base w (some ⟨g, 0, none⟩) cap l) (j : Nat) (x : Int) :
    Own base (w.setCell ⟨g, j, none⟩ (.int .i64 x)) (some ⟨g, 0, none⟩) cap (l.set j x) ∧ w.grownBy (w.setCell ⟨g, j, none⟩ (.int .i64 x)) (some g) := by
  obtain ⟨h1, h2⟩ := World.ownsRow.stored h j (.int .i64 x)
  refine ⟨?_, h2⟩
  unfold Own
  rw [List.length_set]
  simpa [ints, List.map_set] using h1

/-- A block of four cells: what the walk reads off it. -/
theorem four {w : World} {b : Nat} {c0 c1 c2 c3 : Value} {t : TypeId} (h : w.heap[b]? = some (.cells #[c0, c1, c2, c3] t (0, 0))) :
    w.cell? ⟨b, 0, none⟩ = some c0 ∧ w.cell? ⟨b, 1, none⟩ = some c1 ∧ w.cell? ⟨b, 2, none⟩ = some c2 ∧ w.cell? ⟨b, 3, none⟩ = some c3 ∧
    w.frozen? ⟨b, 0, none⟩ = false ∧ w.frozen? ⟨b, 1, none⟩ = false ∧ w.frozen? ⟨b, 2, none⟩ = false ∧ w.frozen? ⟨b, 3, none⟩ = false :=
  ⟨cell_of_row w b 0 _ t _ h, cell_of_row w b 1 _ t _ h, cell_of_row w b 2 _ t _ h, cell_of_row w b 3 _ t _ h, frozen_of_row w b 0 _ t h, frozen_of_row w b 1 _ t h, frozen_of_row w b 2 _ t h, frozen_of_row w b 3 _ t h⟩

theorem grown_set {a w : World} {row : Option Nat} (h : a.grownBy w row) {p : Addr} (hp : a.heap.size ≤ p.block) (u : Value) : a.grownBy (w.setCell p u) row :=
  ⟨h.os, h.tape, h.output, by have := h.size; simpa [World.setCell] using this, fun k hk hne => (Below.heap_setCell _ _ _ _ (by omega)).trans (h.block k hk hne)⟩

theorem own_set {base : Nat} {w : World} {ao : Option Addr} {cap : Nat} {l : List Int} (h : Own base w ao cap l) {p : Addr} (hp : blk ao ≠ some p.block) (u : Value) : Own base (w.setCell p u) ao cap l := by
  refine ⟨h.1, ?_⟩
  rcases h.2 with hn | ⟨g, c, cur, hv, hb, hg, rest⟩
  · exact .inl hn
  · refine .inr ⟨g, c, cur, hv, hb, ?_, rest⟩
    rw [Below.heap_setCell _ _ _ _ (fun e => hp (by simp only [Value.slice.injEq] at hv; rw [hv.1]; simp [blk, e]))]
    exact hg

/-- Row by row: what 'grownBy' leaves of a block that is not the row. -/
theorem grown_block {w w' : World} {row : Option Nat} (hg : w.grownBy w' row) {b : Nat} {o : Obj} (h : w.heap[b]? = some o) (hne : some b ≠ row) : w'.heap[b]? = some o := by
  rw [hg.block b (Array.getElem?_eq_some_iff.1 h).1 hne]; exact h

theorem at_new (w : World) (o : Obj) : (w.alloc o).heap[w.heap.size]? = some o := heap_alloc_new w o
theorem at_old {w : World} {b : Nat} {x : Obj} (h : w.heap[b]? = some x) (o : Obj) : (w.alloc o).heap[b]? = some x := by
  rw [Below.heap_alloc w o b (Array.getElem?_eq_some_iff.1 h).1]; exact h
theorem at_new1 (w : World) (o1 o2 : Obj) : ((w.alloc o1).alloc o2).heap[w.heap.size + 1]? = some o2 := by
  have := at_new (w.alloc o1) o2
  simpa using this
theorem at_new2 (w : World) (o1 o2 o3 : Obj) : (((w.alloc o1).alloc o2).alloc o3).heap[w.heap.size + 1 + 1]? = some o3 := by
  have := at_new ((w.alloc o1).alloc o2) o3
  simpa using this

end Go.Proofs.YtpichplhidiokacGreatDoor.Ps
