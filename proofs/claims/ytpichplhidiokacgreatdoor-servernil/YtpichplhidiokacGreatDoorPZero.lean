/- A view that is made anew: its zero value. -/
import Derived.Test.YtpichplhidiokacGreatDoorPBase
import Derived.Deep.WholeRow
namespace Go.Proofs.YtpichplhidiokacGreatDoor.Pt
open Go.RowKit

def zg : Gr := ⟨0, 0, 0, fun _ => noCel, 0, 0, 0, false, 0, 0⟩
def zv : Vw := ⟨[], fun _ => zg, 0, 0, 0⟩
def zl : Lay := ⟨none, 0, [], fun _ => none, fun _ => 0⟩
theorem vcells_one (v : Vw) (l : Lay) : (vcells v l).all (·.oneCell') = true := by
  unfold vcells vlist gall
  simp [Value.oneCell']

theorem zero_view (w : World) : (zeroValue 40).run Tryz.prog w = .ok (.agg (vcells zv zl)) w := Tryz.zeroValue40 w

theorem run_alloc_view (w : World) : (Instr.alloc 40 true (.tuple #[])).run Tryz.prog w = .ok (.pointer (some ⟨w.heap.size, 0, none⟩)) (w.alloc (cbox (vcells zv zl))) := by
  simp only [Instr.alloc, Sem.run_bind, zero_view, Result.andThen_ok]
  rfl

theorem wpList_run {ops : Array Oper} {rest : List Oper} {op : Oper} {a : Act} {w w' : World} {Q : Exit → Act → World → Prop} {v : Value} (hgd : op.guard = none) (hr : (execOp a.eval op).run Tryz.prog w = .ok (.value v) w')
    (h : wpList Tryz.prog ops Q rest (a.put op.dst v) w') : wpList Tryz.prog ops Q (op :: rest) a w :=
  wpList_plain hgd fun K hK => by
    unfold Oper.wp
    rw [hr]
    exact hK _ _ h

theorem wpList_alloc_view {ops : Array Oper} {rest : List Oper} {op : Oper} {a : Act} {w : World} {Q : Exit → Act → World → Prop} (hgd : op.guard = none) (ho : op.op = .alloc 40)
    (h : wpList Tryz.prog ops Q rest (a.put op.dst (.pointer (some ⟨w.heap.size, 0, none⟩))) (w.alloc (cbox (vcells zv zl)))) : wpList Tryz.prog ops Q (op :: rest) a w :=
  wpList_run hgd (by unfold execOp; simp only [ho, Sem.run_bind, run_alloc_view, Result.andThen_ok, Sem.run_pure]) h

/-- A whole view goes into the block that was made last. -/
theorem wpList_store_view {ops : Array Oper} {rest : List Oper} {op : Oper} {a : Act} {W : World} {Q : Exit → Act → World → Prop} (v v' : Vw) (l l' : Lay) (hgd : op.guard = none) (x y : Operand) (ho : op.op = .store 40 x y)
    (hx : a.eval x = .pointer (some ⟨W.heap.size, 0, none⟩)) (hy : a.eval y = .agg (vcells v' l'))
    (h : wpList Tryz.prog ops Q rest (a.put op.dst undef) (W.alloc (cbox (vcells v' l')))) : wpList Tryz.prog ops Q (op :: rest) a (W.alloc (cbox (vcells v l))) :=
  wpList_plain hgd fun K hK => by
    unfold Oper.wp execOp
    simp only [ho, hx, hy, Sem.run_bind, run_storeAt_new (P := Tryz.prog) W 40 (vcells v l) (vcells v' l') (by rw [vcells_size]; exact infoV) (by rw [vcells_size, vcells_size]) (vcells_one v' l'), Result.andThen_ok, Sem.run_pure]
    exact hK _ _ h

end Go.Proofs.YtpichplhidiokacGreatDoor.Pt
