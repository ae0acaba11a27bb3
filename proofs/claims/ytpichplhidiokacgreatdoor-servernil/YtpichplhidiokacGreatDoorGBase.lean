/- Words for a screen in memory: its value, its box, the cells of its list. -/
import Derived.Test.YtpichplhidiokacGreatDoorRows
import Derived.Test.YtpichplhidiokacGreatDoorGMach
import Derived.WalkKit
import Derived.WalkSpells
import Derived.WalkLawsBesides
namespace Go.Proofs.YtpichplhidiokacGreatDoor
open Go.RowKit

/-- A screen's value: its list lies at 'ao'. -/
@[reducible] def gcells (g : Gr) (ao : Option Addr) (cap : Nat) : Array Value := #[.int .i64 g.wide, .int .i64 g.high, .slice ao g.n cap, .int .i64 g.row, .int .i64 g.col, .int .i64 g.ink, .bool g.bold, .int .i64 g.top, .int .i64 g.bottom]
@[reducible] def gval (g : Gr) (ao : Option Addr) (cap : Nat) : Value := .agg (gcells g ao cap)
@[reducible] def gbox (g : Gr) (ao : Option Addr) (cap : Nat) : Obj := .cells (gcells g ao cap) 37

@[reducible] def ccells (c : Cel) : Array Value := #[.int .i64 c.ch, .int .i64 c.ink, .int .i64 c.pic, .bool c.bold]
@[reducible] def cval (c : Cel) : Value := .agg (ccells c)

def cel4 (c : Cel) (j : Nat) : Option Value := (ccells c)[j]?

/-- A block of nine cells: what the walk reads off it. -/
theorem nine {w : World} {b : Nat} {c0 c1 c2 c3 c4 c5 c6 c7 c8 : Value} {t : TypeId} (h : w.heap[b]? = some (.cells #[c0, c1, c2, c3, c4, c5, c6, c7, c8] t (0, 0))) :
    (w.cell? ⟨b, 0, none⟩ = some c0 ∧ w.cell? ⟨b, 1, none⟩ = some c1 ∧ w.cell? ⟨b, 2, none⟩ = some c2 ∧ w.cell? ⟨b, 3, none⟩ = some c3 ∧ w.cell? ⟨b, 4, none⟩ = some c4 ∧ w.cell? ⟨b, 5, none⟩ = some c5 ∧ w.cell? ⟨b, 6, none⟩ = some c6 ∧ w.cell? ⟨b, 7, none⟩ = some c7 ∧ w.cell? ⟨b, 8, none⟩ = some c8) ∧
    (∀ j, w.frozen? ⟨b, j, none⟩ = false) :=
  ⟨⟨cell_of_row w b 0 _ t _ h, cell_of_row w b 1 _ t _ h, cell_of_row w b 2 _ t _ h, cell_of_row w b 3 _ t _ h, cell_of_row w b 4 _ t _ h, cell_of_row w b 5 _ t _ h, cell_of_row w b 6 _ t _ h, cell_of_row w b 7 _ t _ h, cell_of_row w b 8 _ t _ h⟩, fun j => frozen_of_row w b j _ t h⟩

theorem four {w : World} {b : Nat} {c0 c1 c2 c3 : Value} {t : TypeId} (h : w.heap[b]? = some (.cells #[c0, c1, c2, c3] t (0, 0))) :
    (w.cell? ⟨b, 0, none⟩ = some c0 ∧ w.cell? ⟨b, 1, none⟩ = some c1 ∧ w.cell? ⟨b, 2, none⟩ = some c2 ∧ w.cell? ⟨b, 3, none⟩ = some c3) ∧ (∀ j, w.frozen? ⟨b, j, none⟩ = false) :=
  ⟨⟨cell_of_row w b 0 _ t _ h, cell_of_row w b 1 _ t _ h, cell_of_row w b 2 _ t _ h, cell_of_row w b 3 _ t _ h⟩, fun j => frozen_of_row w b j _ t h⟩

theorem at_new (w : World) (o : Obj) : (w.alloc o).heap[w.heap.size]? = some o := heap_alloc_new w o
theorem at_old {w : World} {b : Nat} {x : Obj} (h : w.heap[b]? = some x) (o : Obj) : (w.alloc o).heap[b]? = some x := by
  rw [Below.heap_alloc w o b (Array.getElem?_eq_some_iff.1 h).1]; exact h
theorem at_new1 (w : World) (o1 o2 : Obj) : ((w.alloc o1).alloc o2).heap[w.heap.size + 1]? = some o2 := by
  have := at_new (w.alloc o1) o2
  simpa using this
theorem at_new2 (w : World) (o1 o2 o3 : Obj) : (((w.alloc o1).alloc o2).alloc o3).heap[w.heap.size + 1 + 1]? = some o3 := by
  have := at_new ((w.alloc o1).alloc o2) o3
  simpa using this
theorem ret_bool {a b : Bool} (h : a = b) : Ending.returned (.bool a) = .returned (.bool b) := by rw [h]
theorem ret_int {a b : Int} (h : a = b) : Ending.returned (.int .i64 a) = .returned (.int .i64 b) := by rw [h]
theorem below1 (w : World) (o : Obj) : Below w.heap.size w (w.alloc o) := (Below.refl _ _).alloc (Nat.le_refl _) _
theorem below_block {w w' : World} {B b : Nat} {o : Obj} (hb : Below B w w') (h : w.heap[b]? = some o) (hB : b < B) : w'.heap[b]? = some o := by
  rw [hb.block b hB]; exact h
theorem below_up {w w1 : World} {o : Obj} (hb : Below (w.alloc o).heap.size (w.alloc o) w1) : Below w.heap.size w w1 :=
  ((Below.refl _ _).alloc (Nat.le_refl _) _).trans (hb.mono (by simp))

theorem plain_any (b : Int) (w : World) : Calls Tryz.prog 107 #[.int .i64 b] w fun e w' => e = .returned (.bool (plainN b)) ∧ w' = w := by
  by_cases h1 : 32 ≤ b
  · go_enter Tryz.func107, Tryz.ntmps107
    go_wp2
    go_ret
    exact ⟨ret_bool (by simp [plainN, h1]), rfl⟩
  · have h1' : b < 32 := by omega
    go_enter Tryz.func107, Tryz.ntmps107
    go_wp2
    go_ret
    exact ⟨ret_bool (by simp [plainN]; omega), rfl⟩

theorem ink_any (b : Int) (w : World) : Calls Tryz.prog 90 #[.int .i64 b] w fun e w' => e = .returned (.bool (inkN b)) ∧ w' = w := by
  by_cases h1 : 0 ≤ b
  · go_enter Tryz.func90, Tryz.ntmps90
    go_wp2
    go_ret
    exact ⟨ret_bool (by simp [inkN, h1]), rfl⟩
  · have h1' : b < 0 := by omega
    go_enter Tryz.func90, Tryz.ntmps90
    go_wp2
    go_ret
    exact ⟨ret_bool (by simp [inkN]; omega), rfl⟩

theorem within_any (n a b : Int) (w : World) : Calls Tryz.prog 77 #[.int .i64 n, .int .i64 a, .int .i64 b] w fun e w' => e = .returned (.int .i64 (max a (min n b))) ∧ w' = w := by
  go_enter Tryz.func77, Tryz.ntmps77
  go_wp2
  all_goals (go_ret; exact ⟨ret_int (by omega), rfl⟩)

theorem at_new2' (w : World) (o1 o2 o3 : Obj) : (((w.alloc o1).alloc o2).alloc o3).heap[w.heap.size + 2]? = some o3 := at_new2 w o1 o2 o3

end Go.Proofs.YtpichplhidiokacGreatDoor
