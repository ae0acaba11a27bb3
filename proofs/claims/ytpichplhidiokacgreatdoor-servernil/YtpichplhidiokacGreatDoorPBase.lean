/- Words for a view in memory: its value, its box, what is read off it. -/
import Derived.Test.YtpichplhidiokacGreatDoorPMach
import Derived.Test.YtpichplhidiokacGreatDoorTWhere
import Derived.Deep.MidRow
namespace Go.Proofs.YtpichplhidiokacGreatDoor.Pt
open Go.RowKit
open Go.Proofs.YtpichplhidiokacGreatDoor.Tl (Rc noRc whereT shareT inR findT goodT paneB CIt colsOf RdT RdL tval tbox rval rbox rcells zbox cv)

/-- Where a view's parts lie. -/
structure Lay where
  co : Option Addr
  cap : Nat
  its : List CIt
  ga : Nat → Option Addr
  gc : Nat → Nat

/-- The cells of the six screens. -/
def gall (v : Vw) (l : Lay) : List Value := (gcells (v.gs 0) (l.ga 0) (l.gc 0)).toList ++ (gcells (v.gs 1) (l.ga 1) (l.gc 1)).toList ++ (gcells (v.gs 2) (l.ga 2) (l.gc 2)).toList ++ (gcells (v.gs 3) (l.ga 3) (l.gc 3)).toList ++ (gcells (v.gs 4) (l.ga 4) (l.gc 4)).toList ++ (gcells (v.gs 5) (l.ga 5) (l.gc 5)).toList
def vlist (v : Vw) (l : Lay) : List Value := .slice l.co l.its.length l.cap :: (gall v l ++ [.int .i64 v.wide, .int .i64 v.high, .int .i64 v.focus])
def vcells (v : Vw) (l : Lay) : Array Value := (vlist v l).toArray
def vval (v : Vw) (l : Lay) : Value := .agg (vcells v l)
def vbox (v : Vw) (l : Lay) : Obj := .cells (vcells v l) 40

theorem vlist_length (v : Vw) (l : Lay) : (vlist v l).length = 58 := rfl
theorem gall_length (v : Vw) (l : Lay) : (gall v l).length = 54 := rfl
theorem vcells_size (v : Vw) (l : Lay) : (vcells v l).size = 58 := rfl
theorem gall_at (v : Vw) (l : Lay) (p j : Nat) (hp : p < 6) (hj : j < 9) : (gall v l)[p * 9 + j]? = (gcells (v.gs p) (l.ga p) (l.gc p))[j]? := by
  have h1 : p = 0 ∨ p = 1 ∨ p = 2 ∨ p = 3 ∨ p = 4 ∨ p = 5 := by omega
  have h2 : j = 0 ∨ j = 1 ∨ j = 2 ∨ j = 3 ∨ j = 4 ∨ j = 5 ∨ j = 6 ∨ j = 7 ∨ j = 8 := by omega
  rcases h1 with rfl | rfl | rfl | rfl | rfl | rfl <;> rcases h2 with rfl | rfl | rfl | rfl | rfl | rfl | rfl | rfl | rfl <;> rfl

/-- 'C' are the cells of a view. -/
structure VC (v : Vw) (l : Lay) (C : Array Value) : Prop where
  eq : C = vcells v l
  cells : C[0]? = some (.slice l.co l.its.length l.cap) ∧ C[55]? = some (.int .i64 v.wide) ∧ C[56]? = some (.int .i64 v.high) ∧ C[57]? = some (.int .i64 v.focus)
theorem vc (v : Vw) (l : Lay) : VC v l (vcells v l) := ⟨rfl, rfl, rfl, rfl, rfl⟩
@[reducible] def cbox (C : Array Value) : Obj := .cells C 40

structure RdV (w : World) (v : Vw) (l : Lay) : Prop where
  cols : v.cols = colsOf l.its
  rd : RdT w l.co l.its
  gs : ∀ p, p < 6 → RdS w (l.ga p) (v.gs p).n (v.gs p).f
  m1 : l.its.length ≤ 5864062014805
  m2 : ∀ x ∈ l.its, x.1.length ≤ 17592186044416
  m3 : ∀ p, p < 6 → (v.gs p).n ≤ 4398046511104
  m4 : v.cols.flatten.length ≤ 17592186044416

theorem RdV.below {w w' : World} {v : Vw} {l : Lay} (h : RdV w v l) (hb : Below w.heap.size w w') : RdV w' v l :=
  ⟨h.cols, h.rd.below hb, fun p hp => (h.gs p hp).below hb, h.m1, h.m2, h.m3, h.m4⟩

/-- The view's box: what the walk reads off it. -/
theorem cbox_cells {w : World} {b : Nat} {v : Vw} {l : Lay} {C : Array Value} (hC : VC v l C) (h : w.heap[b]? = some (cbox C)) :
    (w.cell? ⟨b, 0, none⟩ = some (.slice l.co l.its.length l.cap) ∧ w.cell? ⟨b, 55, none⟩ = some (.int .i64 v.wide) ∧ w.cell? ⟨b, 56, none⟩ = some (.int .i64 v.high) ∧ w.cell? ⟨b, 57, none⟩ = some (.int .i64 v.focus)) ∧
    (∀ j, w.frozen? ⟨b, j, none⟩ = false) :=
  ⟨⟨(cell_of_row w b 0 _ _ _ h).trans hC.cells.1, (cell_of_row w b 55 _ _ _ h).trans hC.cells.2.1, (cell_of_row w b 56 _ _ _ h).trans hC.cells.2.2.1, (cell_of_row w b 57 _ _ _ h).trans hC.cells.2.2.2⟩, fun j => frozen_of_row w b j _ _ h⟩
theorem cbox_range {w : World} {b : Nat} {C : Array Value} (h : w.heap[b]? = some (cbox C)) : w.rangeAt b 0 C.toList := fun j x hx => by
  rw [cell_of_row w b (0 + j) _ _ _ h, Nat.zero_add]
  simpa using hx
theorem cbox_all {w : World} {b : Nat} {v : Vw} {l : Lay} {C : Array Value} (hC : VC v l C) (h : w.heap[b]? = some (cbox C)) : w.rangeAt b 1 (gall v l) := fun j x hx => by
  rw [cell_of_row w b (1 + j) _ _ _ h, hC.eq]
  have hj : j < (gall v l).length := (List.getElem?_eq_some_iff.1 hx).1
  simp only [vcells, List.getElem?_toArray, vlist]
  rw [Nat.add_comm, List.getElem?_cons_succ, List.getElem?_append_left hj]
  exact hx
theorem cbox_grid {w : World} {b : Nat} {v : Vw} {l : Lay} {C : Array Value} (hC : VC v l C) (h : w.heap[b]? = some (cbox C)) (p : Nat) (hp : p < 6) : w.rangeAt b (1 + p * 9) (gcells (v.gs p) (l.ga p) (l.gc p)).toList := fun j x hx => by
  have hj : j < 9 := by have := (List.getElem?_eq_some_iff.1 hx).1; simpa using this
  rw [show 1 + p * 9 + j = 1 + (p * 9 + j) by omega]
  exact cbox_all hC h (p * 9 + j) x (by rw [gall_at v l p j hp hj]; simpa using hx)
theorem VC.size {v : Vw} {l : Lay} {C : Array Value} (hC : VC v l C) : C.size = 58 := by rw [hC.eq]; rfl

theorem infoV : (Tryz.prog.info? 40).map (·.size) = some 58 := by kernel_rfl
theorem infoA : (Tryz.prog.info? 38).map (·.size) = some 54 := by kernel_rfl
theorem infoG : (Tryz.prog.info? 37).map (·.size) = some 9 := by kernel_rfl

/-- The whole view is loaded. -/
theorem wpList_load_view {ops : Array Oper} {rest : List Oper} {op : Oper} {a : Act} {w : World} {Q : Exit → Act → World → Prop} (C : Array Value) (hs : C.size = 58) (hgd : op.guard = none) (x : Operand) (ho : op.op = .load 40 x)
    (b : Nat) (hx : a.eval x = .pointer (some ⟨b, 0, none⟩)) (hb : w.heap[b]? = some (cbox C)) (h : wpList Tryz.prog ops Q rest (a.put op.dst (.agg C)) w) : wpList Tryz.prog ops Q (op :: rest) a w :=
  wpList_load_mid hgd 40 x ho b 0 hx C.toList _ (cbox_range hb) Tryz.underlying40 rfl (by rw [Array.length_toList, hs]; exact infoV) (by simpa using h)

/-- The six screens are loaded. -/
theorem wpList_load_all {ops : Array Oper} {rest : List Oper} {op : Oper} {a : Act} {w : World} {Q : Exit → Act → World → Prop} (v : Vw) (l : Lay) (C : Array Value) (hC : VC v l C) (hgd : op.guard = none) (x : Operand) (ho : op.op = .load 38 x)
    (b : Nat) (hx : a.eval x = .pointer (some ⟨b, 1, none⟩)) (hb : w.heap[b]? = some (cbox C)) (A : Array Value) (hA : A = (gall v l).toArray) (h : wpList Tryz.prog ops Q rest (a.put op.dst (.agg A)) w) : wpList Tryz.prog ops Q (op :: rest) a w :=
  wpList_load_mid hgd 38 x ho b 1 hx (gall v l) _ (cbox_all hC hb) Tryz.underlying38 rfl infoA (hA ▸ h)

theorem run_index_grid (v : Vw) (l : Lay) (p : Nat) (hp : p < 6) (w : World) : (Instr.index 38 (.agg (gall v l).toArray) (.int .i64 p)).run Tryz.prog w = .ok (gval (v.gs p) (l.ga p) (l.gc p)) w := by
  have h1 : p = 0 ∨ p = 1 ∨ p = 2 ∨ p = 3 ∨ p = 4 ∨ p = 5 := by omega
  rcases h1 with rfl | rfl | rfl | rfl | rfl | rfl <;> (simp [Instr.index, asIntOf, part, go_sem]; rfl)

theorem wpList_index_grid {ops : Array Oper} {rest : List Oper} {op : Oper} {a : Act} {w : World} {Q : Exit → Act → World → Prop} (v : Vw) (l : Lay) (hgd : op.guard = none) (x ix : Operand) (ho : op.op = .index 38 x ix)
    (A : Array Value) (hx : a.eval x = .agg A) (p : Nat) (hi : a.eval ix = .int .i64 p) (hA : A = (gall v l).toArray) (hp : p < 6) (h : wpList Tryz.prog ops Q rest (a.put op.dst (gval (v.gs p) (l.ga p) (l.gc p))) w) : wpList Tryz.prog ops Q (op :: rest) a w :=
  wpList_plain hgd fun K hK => by
    unfold Oper.wp execOp
    simp only [ho, hx, hi, hA, Sem.run_bind, run_index_grid v l p hp, Result.andThen_ok, Sem.run_pure]
    exact hK _ _ h

/-- One screen is loaded. -/
theorem wpList_load_grid {ops : Array Oper} {rest : List Oper} {op : Oper} {a : Act} {w : World} {Q : Exit → Act → World → Prop} (v : Vw) (l : Lay) (C : Array Value) (hC : VC v l C) (hgd : op.guard = none) (x : Operand) (ho : op.op = .load 37 x)
    (b p : Nat) (hp : p < 6) (hx : a.eval x = .pointer (some ⟨b, 1 + p * 9, none⟩)) (hb : w.heap[b]? = some (cbox C)) (h : wpList Tryz.prog ops Q rest (a.put op.dst (gval (v.gs p) (l.ga p) (l.gc p))) w) : wpList Tryz.prog ops Q (op :: rest) a w :=
  wpList_load_mid hgd 37 x ho b (1 + p * 9) hx (gcells (v.gs p) (l.ga p) (l.gc p)).toList _ (cbox_grid hC hb p hp) Tryz.underlying37 rfl infoG h

end Go.Proofs.YtpichplhidiokacGreatDoor.Pt
