/- Words for panes in memory: a list of lists that is read; small contracts. -/
import Derived.Test.YtpichplhidiokacGreatDoorRows
import Derived.Test.YtpichplhidiokacGreatDoorTMach
import Derived.WalkKit
import Derived.WalkSpells
import Derived.WalkLawsBesides
import Derived.Handy
import Derived.OwnWalk
import Derived.Deep.RegionWith
import Derived.Deep.Quiet
namespace Go.Proofs.YtpichplhidiokacGreatDoor.Tl
open Go.RowKit

@[reducible] def tval (co : Option Addr) (n cap : Nat) : Value := .agg #[.slice co n cap]
@[reducible] def tbox (co : Option Addr) (n cap : Nat) : Obj := .cells #[.slice co n cap] 34
@[reducible] def rcells (r : Rc) : Array Value := #[.int .i64 r.row, .int .i64 r.col, .int .i64 r.high, .int .i64 r.wide]
@[reducible] def rval (r : Rc) : Value := .agg (rcells r)
@[reducible] def rbox (r : Rc) : Obj := .cells (rcells r) 64

/-- A list of numbers that is read. -/
def RdL (w : World) (ao : Option Addr) (l : List Int) : Prop := l = [] ∨ ∃ b off, ao = some ⟨b, off, none⟩ ∧ ∀ j, j < l.length → w.cell? ⟨b, off + j, none⟩ = some (.int .i64 (l.getD j 0))

theorem RdL.below {w w' : World} {ao : Option Addr} {l : List Int} (h : RdL w ao l) (hb : Below w.heap.size w w') : RdL w' ao l := by
  rcases h with h | ⟨b, off, ha, hc⟩
  · exact .inl h
  · refine .inr ⟨b, off, ha, fun j hj => ?_⟩
    have h0 := hc j hj
    have hlt := World.block_lt_of_cell? _ _ h0
    exact (hb.cell (p := ⟨b, off + j, none⟩) hlt).trans h0

/-- A column: its numbers, where they lie, its capacity. -/
abbrev CIt := List Int × Option Addr × Nat
@[reducible] def cv (x : CIt) : Value := .slice x.2.1 x.1.length x.2.2
@[reducible] def colsOf (its : List CIt) : List (List Int) := its.map (·.1)

structure RdT (w : World) (co : Option Addr) (its : List CIt) : Prop where
  each : ∀ x ∈ its, RdL w x.2.1 x.1 ∧ (x.2.1 = none → x.1 = [] ∧ x.2.2 = 0)
  row : its = [] ∨ ∃ b off, co = some ⟨b, off, none⟩ ∧ ∀ k (hk : k < its.length), w.cell? ⟨b, off + k, none⟩ = some (cv its[k])

theorem RdT.below {w w' : World} {co : Option Addr} {its : List CIt} (h : RdT w co its) (hb : Below w.heap.size w w') : RdT w' co its := by
  refine ⟨fun x hx => ⟨(h.each x hx).1.below hb, (h.each x hx).2⟩, ?_⟩
  rcases h.row with h | ⟨b, off, ha, hc⟩
  · exact .inl h
  · refine .inr ⟨b, off, ha, fun k hk => ?_⟩
    have h0 := hc k hk
    have hlt := World.block_lt_of_cell? _ _ h0
    exact (hb.cell (p := ⟨b, off + k, none⟩) hlt).trans h0

theorem one {w : World} {b : Nat} {c0 : Value} {t : TypeId} (h : w.heap[b]? = some (.cells #[c0] t (0, 0))) : w.cell? ⟨b, 0, none⟩ = some c0 ∧ (∀ j, w.frozen? ⟨b, j, none⟩ = false) :=
  ⟨cell_of_row w b 0 _ t _ h, fun j => frozen_of_row w b j _ t h⟩
theorem four {w : World} {b : Nat} {c0 c1 c2 c3 : Value} {t : TypeId} (h : w.heap[b]? = some (.cells #[c0, c1, c2, c3] t (0, 0))) :
    (w.cell? ⟨b, 0, none⟩ = some c0 ∧ w.cell? ⟨b, 1, none⟩ = some c1 ∧ w.cell? ⟨b, 2, none⟩ = some c2 ∧ w.cell? ⟨b, 3, none⟩ = some c3) ∧ (∀ j, w.frozen? ⟨b, j, none⟩ = false) :=
  ⟨⟨cell_of_row w b 0 _ t _ h, cell_of_row w b 1 _ t _ h, cell_of_row w b 2 _ t _ h, cell_of_row w b 3 _ t _ h⟩, fun j => frozen_of_row w b j _ t h⟩

theorem at_new (w : World) (o : Obj) : (w.alloc o).heap[w.heap.size]? = some o := heap_alloc_new w o
theorem at_old {w : World} {b : Nat} {x : Obj} (h : w.heap[b]? = some x) (o : Obj) : (w.alloc o).heap[b]? = some x := by
  rw [Below.heap_alloc w o b (Array.getElem?_eq_some_iff.1 h).1]; exact h
theorem at_new1 (w : World) (o1 o2 : Obj) : ((w.alloc o1).alloc o2).heap[w.heap.size + 1]? = some o2 := by
  have := at_new (w.alloc o1) o2
  simpa using this
theorem at_lt {w : World} {b : Nat} {x : Obj} (h : w.heap[b]? = some x) : b < w.heap.size := (Array.getElem?_eq_some_iff.1 h).1
theorem ret_bool {a b : Bool} (h : a = b) : Ending.returned (.bool a) = .returned (.bool b) := by rw [h]
theorem ret_int {a b : Int} (h : a = b) : Ending.returned (.int .i64 a) = .returned (.int .i64 b) := by rw [h]
theorem below1 (w : World) (o : Obj) : Below w.heap.size w (w.alloc o) := (Below.refl _ _).alloc (Nat.le_refl _) _
theorem below2 (w : World) (o o' : Obj) : Below w.heap.size w ((w.alloc o).alloc o') := (below1 w o).alloc (by simp) _
theorem below_block {w w' : World} {B b : Nat} {o : Obj} (hb : Below B w w') (h : w.heap[b]? = some o) (hB : b < B) : w'.heap[b]? = some o := by
  rw [hb.block b hB]; exact h
theorem below_to {w w1 w2 : World} (h : Below w.heap.size w w1) (h2 : Below w1.heap.size w1 w2) : Below w.heap.size w w2 := h.trans (h2.mono h.size)

theorem info_parts {P : Program} {e : TypeId} {z : Value} {sz by_ : Nat} (h : (P.info? e).map (fun i => (i.zero, i.size, i.bytes)) = some (some z, sz, by_)) : ∃ i, P.info? e = some i ∧ i.zero = some z ∧ i.size = sz ∧ i.bytes = by_ := by
  cases hq : P.info? e with
  | none => simp [hq] at h
  | some i => simp only [hq, Option.map_some, Option.some.injEq, Prod.mk.injEq] at h; exact ⟨i, rfl, h.1, h.2.1, h.2.2⟩

theorem isPane_any (p : Int) (w : World) : Calls Tryz.prog 60 #[.int .i64 p] w fun e w' => e = .returned (.bool (paneB p)) ∧ w' = w := by
  by_cases h1 : 0 ≤ p
  · go_enter Tryz.func60, Tryz.ntmps60
    go_wp2
    go_ret
    exact ⟨ret_bool (by simp [paneB, h1]), rfl⟩
  · have h1' : p < 0 := by omega
    go_enter Tryz.func60, Tryz.ntmps60
    go_wp2
    go_ret
    exact ⟨ret_bool (by simp [paneB]; omega), rfl⟩

end Go.Proofs.YtpichplhidiokacGreatDoor.Tl
