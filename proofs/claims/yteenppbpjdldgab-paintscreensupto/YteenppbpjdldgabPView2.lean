/- A view that is made anew: its zero value, its parts, its cells. -/
import Derived.Test.YteenppbpjdldgabPScreen
import Derived.Deep.WholeRow
namespace Go.Proofs.Yteenppbpjdldgab.Pt
open Go.RowKit
open Go.Proofs.Yteenppbpjdldgab.Tl (Rc noRc whereT shareT inR findT goodT paneB CIt colsOf RdT RdL tval tbox rval rbox rcells zbox cv)

/-- The view that is asked of: pane 2 alone, two by two. -/
def g2 : Gr := newG 2 2
def zg : Gr := ⟨0, 0, 0, fun _ => noCel, 0, 0, 0, false, 0, 0⟩
def zv : Vw := ⟨[], fun _ => zg, 0, 0, 0⟩
def zl : Lay := ⟨none, 0, [], fun _ => none, fun _ => 0⟩
def v0 : Vw := ⟨[[2]], fun _ => zg, 2, 2, 2⟩
def l0 (a b : Nat) : Lay := ⟨some ⟨b, 0, none⟩, 1, [([2], some ⟨a, 0, none⟩, 1)], fun _ => none, fun _ => 0⟩
def v2 : Vw := ⟨[[2]], fun p => if p = 2 then g2 else zg, 2, 2, 2⟩
def l2 (a b : Nat) (ga : Option Addr) : Lay := ⟨some ⟨b, 0, none⟩, 1, [([2], some ⟨a, 0, none⟩, 1)], fun p => if p = 2 then ga else none, fun p => if p = 2 then g2.n else 0⟩

theorem v2_screen : (screenV v2 3 3).n = 9 ∧ (screenV v2 3 3).f 2 = ⟨46, 0, 0, false⟩ ∧ (screenV v2 3 3).f 6 = ⟨50, 0, 0, true⟩ := by
  refine ⟨by decide, ?_, ?_⟩
  · exact (celB_iff _ _).1 (by decide)
  · exact (celB_iff _ _).1 (by decide)

theorem vcells_one (v : Vw) (l : Lay) : (vcells v l).all (·.oneCell') = true := by
  unfold vcells vlist gall
  simp [Value.oneCell']

theorem zero_view (w : World) : (zeroValue 62).run Try.prog w = .ok (.agg (vcells zv zl)) w := Try.zeroValue62 w

theorem run_alloc_view (w : World) : (Instr.alloc 62 true (.tuple #[])).run Try.prog w = .ok (.pointer (some ⟨w.heap.size, 0, none⟩)) (w.alloc (cbox (vcells zv zl))) := by
  simp only [Instr.alloc, Sem.run_bind, zero_view, Result.andThen_ok]
  rfl

theorem run_build_view (a b : Nat) (w : World) : (Instr.build 62 #[(0, .agg #[.slice (some ⟨b, 0, none⟩) 1 1]), (2, .int .i64 2), (3, .int .i64 2), (4, .int .i64 2)]).run Try.prog w = .ok (.agg (vcells v0 (l0 a b))) w := by
  simp only [Instr.build, Sem.run_bind, zero_view, Result.andThen_ok]
  kernel_rfl

theorem wpList_run {ops : Array Oper} {rest : List Oper} {op : Oper} {a : Act} {w w' : World} {Q : Exit → Act → World → Prop} {v : Value} (hgd : op.guard = none) (hr : (execOp a.eval op).run Try.prog w = .ok (.value v) w')
    (h : wpList Try.prog ops Q rest (a.put op.dst v) w') : wpList Try.prog ops Q (op :: rest) a w :=
  wpList_plain hgd fun K hK => by
    unfold Oper.wp
    rw [hr]
    exact hK _ _ h

theorem wpList_alloc_view {ops : Array Oper} {rest : List Oper} {op : Oper} {a : Act} {w : World} {Q : Exit → Act → World → Prop} (hgd : op.guard = none) (ho : op.op = .alloc 62)
    (h : wpList Try.prog ops Q rest (a.put op.dst (.pointer (some ⟨w.heap.size, 0, none⟩))) (w.alloc (cbox (vcells zv zl)))) : wpList Try.prog ops Q (op :: rest) a w :=
  wpList_run hgd (by unfold execOp; simp only [ho, Sem.run_bind, run_alloc_view, Result.andThen_ok, Sem.run_pure]) h

theorem wpList_build_view {ops : Array Oper} {rest : List Oper} {op : Oper} {ac : Act} {w : World} {Q : Exit → Act → World → Prop} (a b : Nat) (hgd : op.guard = none) (x0 x1 x2 x3 : Operand) (ho : op.op = .build 62 #[(0, x0), (2, x1), (3, x2), (4, x3)])
    (h0 : ac.eval x0 = .agg #[.slice (some ⟨b, 0, none⟩) 1 1]) (h1 : ac.eval x1 = .int .i64 2) (h2 : ac.eval x2 = .int .i64 2) (h3 : ac.eval x3 = .int .i64 2)
    (h : wpList Try.prog ops Q rest (ac.put op.dst (.agg (vcells v0 (l0 a b)))) w) : wpList Try.prog ops Q (op :: rest) ac w :=
  wpList_run hgd (by
    have hp : ((#[(0, x0), (2, x1), (3, x2), (4, x3)] : Array (Nat × Operand)).map fun (i, x) => (i, ac.eval x)) = #[(0, .agg #[.slice (some ⟨b, 0, none⟩) 1 1]), (2, .int .i64 2), (3, .int .i64 2), (4, .int .i64 2)] := by simp [h0, h1, h2, h3]
    unfold execOp
    simp only [ho, hp, Sem.run_bind, run_build_view a b, Result.andThen_ok, Sem.run_pure]) h

/-- A whole view goes into the block that was made last. -/
theorem wpList_store_view {ops : Array Oper} {rest : List Oper} {op : Oper} {a : Act} {W : World} {Q : Exit → Act → World → Prop} (v v' : Vw) (l l' : Lay) (hgd : op.guard = none) (x y : Operand) (ho : op.op = .store 62 x y)
    (hx : a.eval x = .pointer (some ⟨W.heap.size, 0, none⟩)) (hy : a.eval y = .agg (vcells v' l'))
    (h : wpList Try.prog ops Q rest (a.put op.dst undef) (W.alloc (cbox (vcells v' l')))) : wpList Try.prog ops Q (op :: rest) a (W.alloc (cbox (vcells v l))) :=
  wpList_plain hgd fun K hK => by
    unfold Oper.wp execOp
    simp only [ho, hx, hy, Sem.run_bind, run_storeAt_new (P := Try.prog) W 62 (vcells v l) (vcells v' l') (by rw [vcells_size]; exact infoV) (by rw [vcells_size, vcells_size]) (vcells_one v' l'), Result.andThen_ok, Sem.run_pure]
    exact hK _ _ h

/-- The screen of pane 2 goes into its place. -/
theorem put_two {w : World} {V a b : Nat} {ga : Option Addr} (h : w.heap[V]? = some (cbox (vcells v0 (l0 a b)))) :
    (((((((((w.setCell ⟨V, 19, none⟩ (.int .i64 g2.wide)).setCell ⟨V, 20, none⟩ (.int .i64 g2.high)).setCell ⟨V, 21, none⟩ (.slice ga g2.n g2.n)).setCell ⟨V, 22, none⟩ (.int .i64 g2.row)).setCell ⟨V, 23, none⟩ (.int .i64 g2.col)).setCell ⟨V, 24, none⟩ (.int .i64 g2.ink)).setCell ⟨V, 25, none⟩ (.bool g2.bold)).setCell ⟨V, 26, none⟩ (.int .i64 g2.top)).setCell ⟨V, 27, none⟩ (.int .i64 g2.bottom)).heap[V]? = some (cbox (vcells v2 (l2 a b ga))) := by
  have h0 := heap_setCell_same _ V 19 _ _ (.int .i64 g2.wide) h
  have h1 := heap_setCell_same _ V 20 _ _ (.int .i64 g2.high) h0
  have h2 := heap_setCell_same _ V 21 _ _ (.slice ga g2.n g2.n) h1
  have h3 := heap_setCell_same _ V 22 _ _ (.int .i64 g2.row) h2
  have h4 := heap_setCell_same _ V 23 _ _ (.int .i64 g2.col) h3
  have h5 := heap_setCell_same _ V 24 _ _ (.int .i64 g2.ink) h4
  have h6 := heap_setCell_same _ V 25 _ _ (.bool g2.bold) h5
  have h7 := heap_setCell_same _ V 26 _ _ (.int .i64 g2.top) h6
  have h8 := heap_setCell_same _ V 27 _ _ (.int .i64 g2.bottom) h7
  refine h8.trans ?_
  refine congrArg (fun c => some (Obj.cells c 62 (0, 0))) ?_
  kernel_rfl

end Go.Proofs.Yteenppbpjdldgab.Pt
