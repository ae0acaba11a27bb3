/- Several texts in one, each as it was: PMach, PBase, PZero. -/
import Derived.Test.YtjikokfjnbhngaaGreatDoorMGMach
import Derived.Test.YtjikokfjnbhngaaGreatDoorMTMach
import Derived.Test.YtjikokfjnbhngaaGreatDoorMTGood
import Derived.Deep.MidRow
import Derived.Deep.WholeRow

/- The plain machine of chapter 4: what is to be seen at a place, the line at the foot, a client's screen. -/
namespace Go.Proofs.YtjikokfjnbhngaaGreatDoor.Pt
open Go.Proofs.YtjikokfjnbhngaaGreatDoor.Tl (Rc noRc whereT shareT inR findT goodT paneB)
def inRb (r:Rc) (row col:Int):Bool:=decide (r.row≤row∧row < r.row+r.high∧r.col≤col∧col < r.col+r.wide)
theorem inRb_iff (r:Rc) (row col:Int):inRb r row col=true↔inR r row col:=by unfold inRb inR;exact decide_eq_true_iff
theorem inRb_not {r:Rc} {row col:Int} (h:inRb r row col=false):¬ inR r row col:=fun k=>by rw [←inRb_iff,h] at k;cases k
def sign (b:Int):Cel:=⟨b,0,0,false⟩
structure Vw where
 cols:List (List Int)
 gs:Nat→Gr
 wide:Int
 high:Int
 focus:Int
def Vw.place (v:Vw) (p:Int):Rc:=whereT v.cols v.wide v.high p
def Vw.share (v:Vw) (k:Int):Int×Int:=shareT v.wide v.cols.length k
abbrev withinV (v:Vw) (row col:Int):Prop:=0≤row∧row < v.high∧0≤col∧col < v.wide
def paneAt (v:Vw) (row col:Int):Option Nat:=(List.range 6).find? fun p=>inRb (v.place p) row col
def lineB (v:Vw) (col:Int):Bool:=(List.range (v.cols.length - 1)).any fun k=>decide (0 < (v.share k).2∧col=(v.share k).1+(v.share k).2)
def cellT (v:Vw) (row col:Int):Cel:=
 if withinV v row col then
  match paneAt v row col with
  | some p=>atG (v.gs p) (row - (v.place p).row) (col - (v.place p).col)
  | none=>if lineB v col then sign 124 else sign 45
 else sign 46
def footT (v:Vw) (col:Int):Cel:=
 if 0≤col∧col % 2=0∧col / 2 < v.cols.flatten.length then ⟨48+max 0 (min (v.cols.flatten.getD (col / 2).toNat 0) 9),0,0,decide (v.cols.flatten.getD (col / 2).toNat 0=v.focus)⟩ else sign 32
theorem share_far {length:Int} (h:¬ (0≤length∧length < 25)) (n k:Int):shareT length n k=(0,0):=Tl.share_no (by omega)
theorem where_far {cols:List (List Int)} {wide high:Int} (h:¬ (0≤wide∧wide < 25)∨¬ (0≤high∧high < 25)) (p:Int):whereT cols wide high p=noRc:=by
 rcases Tl.where_cases cols wide high p with e | ⟨i,j,_,h1,h2,_⟩
 ·exact e
 ·rcases h with h | h
  ·rw [share_far h] at h1;exact absurd rfl h1
  ·rw [share_far h] at h2;exact absurd rfl h2
theorem noRc_out (row col:Int):¬ inR noRc row col:=by unfold inR noRc;simp only;omega
theorem place_apart (v:Vw) {p q row col:Int} (h1:inR (v.place p) row col) (h2:inR (v.place q) row col):p=q:=by
 by_cases hs:(0≤v.wide∧v.wide < 25)∧(0≤v.high∧v.high < 25)
 ·by_cases e:p=q
  ·exact e
  ·exact(Tl.where_apart v.cols v.wide v.high p q row col hs.1.1 hs.1.2 hs.2.1 hs.2.2 e h1 h2).elim
 ·unfold Vw.place at h1
  rw [where_far (by omega)] at h1
  exact(noRc_out _ _ h1).elim
theorem place_cases (v:Vw) (p:Int):v.place p=noRc∨(0≤(v.place p).row∧0≤(v.place p).col∧0 < (v.place p).high∧0 < (v.place p).wide∧(v.place p).row+(v.place p).high≤24∧(v.place p).col+(v.place p).wide≤24∧0≤p∧p < 6):=by
 by_cases hs:(0≤v.wide∧v.wide < 25)∧(0≤v.high∧v.high < 25)
 ·obtain⟨⟨a1,a2,a3,a4,a5,a6⟩,h⟩:=Tl.where_in v.cols v.wide v.high p hs.1.1 hs.1.2 hs.2.1 hs.2.2 _ rfl
  rcases Tl.where_cases v.cols v.wide v.high p with e | ⟨i,j,hf,h1,h2,he⟩
  ·exact .inl e
  ·rcases h with h | ⟨h3,h4,h5⟩
   ·rw [he] at h;exact absurd h.1 h2
   ·have hg:goodT v.cols=true:=by
     cases hg:goodT v.cols
     ·have:whereT v.cols v.wide v.high p=noRc:=by unfold whereT;rw [if_pos hg]
      rw [this] at h3;exact absurd h3 (by decide)
     ·rfl
    have hp:=((Tl.goodT_iff _).1 hg).pane p (Tl.hasT_iff.1 h5)
    simp only [paneB,decide_eq_true_eq] at hp
    exact .inr ⟨a1,a2,h3,h4,by unfold Vw.place;omega,by unfold Vw.place;omega,hp.1,hp.2⟩
 ·left
  exact where_far (by omega) p
theorem place_num (v:Vw) (p:Int):0≤(v.place p).row∧0≤(v.place p).col∧0≤(v.place p).high∧0≤(v.place p).wide∧(v.place p).row≤24∧(v.place p).col≤24∧(v.place p).high≤24∧(v.place p).wide≤24:=by
 rcases place_cases v p with h | h
 ·rw [h];decide
 ·omega
theorem paneAt_some (v:Vw) {p:Nat} {row col:Int} (hp:p < 6) (h:inR (v.place p) row col):paneAt v row col=some p:=by
 cases e:paneAt v row col with
 | none=>
  have:=List.find?_eq_none.1 e p (List.mem_range.2 hp)
  exact absurd ((inRb_iff _ _ _).2 h) this
 | some q=>
  have h2:=List.find?_some e
  have:=place_apart v h ((inRb_iff _ _ _).1 h2)
  exact congrArg some (by omega)
theorem paneAt_none (v:Vw) {row col:Int} (h:∀ p:Nat,p < 6→¬ inR (v.place p) row col):paneAt v row col=none:=by
 refine List.find?_eq_none.2 fun p hp e=>h p (List.mem_range.1 hp) ((inRb_iff _ _ _).1 e)
theorem cellT_out (v:Vw) {row col:Int} (h:¬ withinV v row col):cellT v row col=sign 46:=by unfold cellT;rw [if_neg h]
theorem cellT_at (v:Vw) {row col:Int} (h:withinV v row col) {p:Nat} (hp:p < 6) (hi:inR (v.place p) row col):cellT v row col=atG (v.gs p) (row - (v.place p).row) (col - (v.place p).col):=by
 unfold cellT;rw [if_pos h,paneAt_some v hp hi]
theorem cellT_line (v:Vw) {row col:Int} (h:withinV v row col) (hn:∀ p:Nat,p < 6→¬ inR (v.place p) row col) {k:Nat} (hk:k+1 < v.cols.length) (h1:0 < (v.share k).2) (h2:col=(v.share k).1+(v.share k).2):cellT v row col=sign 124:=by
 unfold cellT
 rw [if_pos h,paneAt_none v hn]
 have:lineB v col=true:=List.any_eq_true.2 ⟨k,List.mem_range.2 (by omega),decide_eq_true ⟨h1,h2⟩⟩
 simp only [this,if_true]
theorem cellT_bar (v:Vw) {row col:Int} (h:withinV v row col) (hn:∀ p:Nat,p < 6→¬ inR (v.place p) row col) (hl:∀ k:Nat,k+1 < v.cols.length→¬ (0 < (v.share k).2∧col=(v.share k).1+(v.share k).2)):cellT v row col=sign 45:=by
 unfold cellT
 rw [if_pos h,paneAt_none v hn]
 have:lineB v col=false:=by
  refine List.any_eq_false.2 fun k hk e=>hl k ?_ (of_decide_eq_true e)
  have:=List.mem_range.1 hk
  omega
 simp [this]
def nxB (L n k:Nat):Bool:=decide (n+1≤k+1) || decide ((0 < (shareT L (n+1) k).2↔0 < (shareT L (n+1) (k+1:Nat)).2)∧(0 < (shareT L (n+1) k).2→(shareT L (n+1) (k+1:Nat)).1 - 1=(shareT L (n+1) k).1+(shareT L (n+1) k).2))
theorem all_nx:((List.range 25).all fun L=>(List.range 6).all fun n=>(List.range (n+1)).all fun k=>nxB L n k)=true:=by decide+kernel
theorem share_next (v:Vw) (k:Nat) (hk:k+1 < v.cols.length) (col:Int):(0 < (v.share k).2∧col=(v.share k).1+(v.share k).2)↔(0 < (v.share (k+1:Nat)).2∧col=(v.share (k+1:Nat)).1 - 1):=by
 unfold Vw.share
 by_cases h:(v.cols.length:Int) < 1∨6 < (v.cols.length:Int)∨24 < v.wide∨v.wide < 0
 ·rw [Tl.share_no (by omega),Tl.share_no (k:=(k+1:Nat)) (by omega)]
  simp
 ·obtain⟨L,hL⟩:∃ m:Nat,v.wide=m:=⟨v.wide.toNat,by omega⟩
  obtain⟨n,hn⟩:∃ m:Nat,v.cols.length=m+1:=⟨v.cols.length - 1,by omega⟩
  rw [hL,hn]
  have h1:=all_nx
  rw [List.all_eq_true] at h1
  have h1:=h1 L (List.mem_range.2 (by omega))
  rw [List.all_eq_true] at h1
  have h1:=h1 n (List.mem_range.2 (by omega))
  rw [List.all_eq_true] at h1
  have h1:=h1 k (List.mem_range.2 (by omega))
  unfold nxB at h1
  simp only [Bool.or_eq_true,decide_eq_true_eq] at h1
  rcases h1 with h1 | ⟨h1,h2⟩
  ·omega
  ·push_cast at h1 h2 ⊢
   constructor
   ·rintro⟨a,b⟩;exact⟨h1.1 a,by rw [h2 a];exact b⟩
   ·rintro⟨a,b⟩;exact⟨h1.2 a,by rw [←h2 (h1.2 a)];exact b⟩
theorem footT_at (v:Vw) {col:Int} {k:Nat} {p:Int} (hc:col=2*k) (hk:k < v.cols.flatten.length) (hp:v.cols.flatten.getD k 0=p):footT v col=⟨48+max 0 (min p 9),0,0,decide (p=v.focus)⟩:=by
 unfold footT
 have e:(col / 2).toNat=k:=by omega
 rw [if_pos ⟨by omega,by omega,by omega⟩,e,hp]
theorem footT_no (v:Vw) {col:Int} (h:¬ (0≤col∧col % 2=0∧col / 2 < v.cols.flatten.length)):footT v col=sign 32:=by
 unfold footT;rw [if_neg h]
def cellsV (v:Vw) (wide high:Int) (i:Nat):Cel:=if (i:Int) / wide=high - 1 then footT v ((i:Int) % wide) else cellT v ((i:Int) / wide) ((i:Int) % wide)
def cursorV (v:Vw):Int×Int:=if (v.place v.focus).wide=0 then (0,0) else ((v.place v.focus).row+min (v.gs v.focus.toNat).row ((v.place v.focus).high - 1),(v.place v.focus).col+min (v.gs v.focus.toNat).col ((v.place v.focus).wide - 1))
def screenV (v:Vw) (wide high:Int):Gr:=
 {newG wide high with f:=cellsV v (newG wide high).wide (newG wide high).high,row:=max 0 (min (cursorV v).1 ((newG wide high).high - 1)),col:=max 0 (min (cursorV v).2 ((newG wide high).wide - 1))}
end Go.Proofs.YtjikokfjnbhngaaGreatDoor.Pt

/- Words for a view in memory: its value, its box, what is read off it. -/
namespace Go.Proofs.YtjikokfjnbhngaaGreatDoor.Pt
open Go.RowKit
open Go.Proofs.YtjikokfjnbhngaaGreatDoor.Tl (Rc noRc whereT shareT inR findT goodT paneB CIt colsOf RdT RdL tval tbox rval rbox rcells zbox cv)
structure Lay where
 co:Option Addr
 cap:Nat
 its:List CIt
 ga:Nat→Option Addr
 gc:Nat→Nat
def gall (v:Vw) (l:Lay):List Value:=(gcells (v.gs 0) (l.ga 0) (l.gc 0)).toList++(gcells (v.gs 1) (l.ga 1) (l.gc 1)).toList++(gcells (v.gs 2) (l.ga 2) (l.gc 2)).toList++(gcells (v.gs 3) (l.ga 3) (l.gc 3)).toList++(gcells (v.gs 4) (l.ga 4) (l.gc 4)).toList++(gcells (v.gs 5) (l.ga 5) (l.gc 5)).toList
def vlist (v:Vw) (l:Lay):List Value:=.slice l.co l.its.length l.cap::(gall v l++[.int .i64 v.wide,.int .i64 v.high,.int .i64 v.focus])
def vcells (v:Vw) (l:Lay):Array Value:=(vlist v l).toArray
def vval (v:Vw) (l:Lay):Value:=.agg (vcells v l)
def vbox (v:Vw) (l:Lay):Obj:=.cells (vcells v l) 58
theorem vlist_length (v:Vw) (l:Lay):(vlist v l).length=58:=rfl
theorem gall_length (v:Vw) (l:Lay):(gall v l).length=54:=rfl
theorem vcells_size (v:Vw) (l:Lay):(vcells v l).size=58:=rfl
theorem gall_at (v:Vw) (l:Lay) (p j:Nat) (hp:p < 6) (hj:j < 9):(gall v l)[p*9+j]?=(gcells (v.gs p) (l.ga p) (l.gc p))[j]?:=by
 have h1:p=0∨p=1∨p=2∨p=3∨p=4∨p=5:=by omega
 have h2:j=0∨j=1∨j=2∨j=3∨j=4∨j=5∨j=6∨j=7∨j=8:=by omega
 rcases h1 with rfl | rfl | rfl | rfl | rfl | rfl <;>rcases h2 with rfl | rfl | rfl | rfl | rfl | rfl | rfl | rfl | rfl <;>rfl
structure VC (v:Vw) (l:Lay) (C:Array Value):Prop where
 eq:C=vcells v l
 cells:C[0]?=some (.slice l.co l.its.length l.cap)∧C[55]?=some (.int .i64 v.wide)∧C[56]?=some (.int .i64 v.high)∧C[57]?=some (.int .i64 v.focus)
theorem vc (v:Vw) (l:Lay):VC v l (vcells v l):=⟨rfl,rfl,rfl,rfl,rfl⟩
@[reducible] def cbox (C:Array Value):Obj:=.cells C 58
structure RdV (w:World) (v:Vw) (l:Lay):Prop where
 cols:v.cols=colsOf l.its
 rd:RdT w l.co l.its
 gs:∀ p,p < 6→RdS w (l.ga p) (v.gs p).n (v.gs p).f
 m1:l.its.length≤5864062014805
 m2:∀ x∈l.its,x.1.length≤17592186044416
 m3:∀ p,p < 6→(v.gs p).n≤4398046511104
 m4:v.cols.flatten.length≤17592186044416
theorem RdV.below {w w':World} {v:Vw} {l:Lay} (h:RdV w v l) (hb:Below w.heap.size w w'):RdV w' v l:=
 ⟨h.cols,h.rd.below hb,fun p hp=>(h.gs p hp).below hb,h.m1,h.m2,h.m3,h.m4⟩
theorem cbox_cells {w:World} {b:Nat} {v:Vw} {l:Lay} {C:Array Value} (hC:VC v l C) (h:w.heap[b]?=some (cbox C)):
  (w.cell? ⟨b,0,none⟩=some (.slice l.co l.its.length l.cap)∧w.cell? ⟨b,55,none⟩=some (.int .i64 v.wide)∧w.cell? ⟨b,56,none⟩=some (.int .i64 v.high)∧w.cell? ⟨b,57,none⟩=some (.int .i64 v.focus))∧
  (∀ j,w.frozen? ⟨b,j,none⟩=false):=
 ⟨⟨(cell_of_row w b 0 _ _ _ h).trans hC.cells.1,(cell_of_row w b 55 _ _ _ h).trans hC.cells.2.1,(cell_of_row w b 56 _ _ _ h).trans hC.cells.2.2.1,(cell_of_row w b 57 _ _ _ h).trans hC.cells.2.2.2⟩,fun j=>frozen_of_row w b j _ _ h⟩
theorem cbox_range {w:World} {b:Nat} {C:Array Value} (h:w.heap[b]?=some (cbox C)):w.rangeAt b 0 C.toList:=fun j x hx=>by
 rw [cell_of_row w b (0+j) _ _ _ h,Nat.zero_add]
 simpa using hx
theorem cbox_all {w:World} {b:Nat} {v:Vw} {l:Lay} {C:Array Value} (hC:VC v l C) (h:w.heap[b]?=some (cbox C)):w.rangeAt b 1 (gall v l):=fun j x hx=>by
 rw [cell_of_row w b (1+j) _ _ _ h,hC.eq]
 have hj:j < (gall v l).length:=(List.getElem?_eq_some_iff.1 hx).1
 simp only [vcells,List.getElem?_toArray,vlist]
 rw [Nat.add_comm,List.getElem?_cons_succ,List.getElem?_append_left hj]
 exact hx
theorem cbox_grid {w:World} {b:Nat} {v:Vw} {l:Lay} {C:Array Value} (hC:VC v l C) (h:w.heap[b]?=some (cbox C)) (p:Nat) (hp:p < 6):w.rangeAt b (1+p*9) (gcells (v.gs p) (l.ga p) (l.gc p)).toList:=fun j x hx=>by
 have hj:j < 9:=by have:=(List.getElem?_eq_some_iff.1 hx).1;simpa using this
 rw [show 1+p*9+j=1+(p*9+j) by omega]
 exact cbox_all hC h (p*9+j) x (by rw [gall_at v l p j hp hj];simpa using hx)
theorem VC.size {v:Vw} {l:Lay} {C:Array Value} (hC:VC v l C):C.size=58:=by rw [hC.eq];rfl
theorem infoV:(Tryz.prog.info? 58).map (·.size)=some 58:=by kernel_rfl
theorem infoA:(Tryz.prog.info? 56).map (·.size)=some 54:=by kernel_rfl
theorem infoG:(Tryz.prog.info? 40).map (·.size)=some 9:=by kernel_rfl
theorem wpList_load_view {ops:Array Oper} {rest:List Oper} {op:Oper} {a:Act} {w:World} {Q:Exit→Act→World→Prop} (C:Array Value) (hs:C.size=58) (hgd:op.guard=none) (x:Operand) (ho:op.op=.load 58 x)
  (b:Nat) (hx:a.eval x=.pointer (some ⟨b,0,none⟩)) (hb:w.heap[b]?=some (cbox C)) (h:wpList Tryz.prog ops Q rest (a.put op.dst (.agg C)) w):wpList Tryz.prog ops Q (op::rest) a w:=
 wpList_load_mid hgd 58 x ho b 0 hx C.toList _ (cbox_range hb) Tryz.underlying58 rfl (by rw [Array.length_toList,hs];exact infoV) (by simpa using h)
theorem wpList_load_all {ops:Array Oper} {rest:List Oper} {op:Oper} {a:Act} {w:World} {Q:Exit→Act→World→Prop} (v:Vw) (l:Lay) (C:Array Value) (hC:VC v l C) (hgd:op.guard=none) (x:Operand) (ho:op.op=.load 56 x)
  (b:Nat) (hx:a.eval x=.pointer (some ⟨b,1,none⟩)) (hb:w.heap[b]?=some (cbox C)) (A:Array Value) (hA:A=(gall v l).toArray) (h:wpList Tryz.prog ops Q rest (a.put op.dst (.agg A)) w):wpList Tryz.prog ops Q (op::rest) a w:=
 wpList_load_mid hgd 56 x ho b 1 hx (gall v l) _ (cbox_all hC hb) Tryz.underlying56 rfl infoA (hA ▸ h)
theorem run_index_grid (v:Vw) (l:Lay) (p:Nat) (hp:p < 6) (w:World):(Instr.index 56 (.agg (gall v l).toArray) (.int .i64 p)).run Tryz.prog w=.ok (gval (v.gs p) (l.ga p) (l.gc p)) w:=by
 have h1:p=0∨p=1∨p=2∨p=3∨p=4∨p=5:=by omega
 rcases h1 with rfl | rfl | rfl | rfl | rfl | rfl <;>(simp [Instr.index,asIntOf,part,go_sem];rfl)
theorem wpList_index_grid {ops:Array Oper} {rest:List Oper} {op:Oper} {a:Act} {w:World} {Q:Exit→Act→World→Prop} (v:Vw) (l:Lay) (hgd:op.guard=none) (x ix:Operand) (ho:op.op=.index 56 x ix)
  (A:Array Value) (hx:a.eval x=.agg A) (p:Nat) (hi:a.eval ix=.int .i64 p) (hA:A=(gall v l).toArray) (hp:p < 6) (h:wpList Tryz.prog ops Q rest (a.put op.dst (gval (v.gs p) (l.ga p) (l.gc p))) w):wpList Tryz.prog ops Q (op::rest) a w:=
 wpList_plain hgd fun K hK=>by
  unfold Oper.wp execOp
  simp only [ho,hx,hi,hA,Sem.run_bind,run_index_grid v l p hp,Result.andThen_ok,Sem.run_pure]
  exact hK _ _ h
theorem wpList_load_grid {ops:Array Oper} {rest:List Oper} {op:Oper} {a:Act} {w:World} {Q:Exit→Act→World→Prop} (v:Vw) (l:Lay) (C:Array Value) (hC:VC v l C) (hgd:op.guard=none) (x:Operand) (ho:op.op=.load 40 x)
  (b p:Nat) (hp:p < 6) (hx:a.eval x=.pointer (some ⟨b,1+p*9,none⟩)) (hb:w.heap[b]?=some (cbox C)) (h:wpList Tryz.prog ops Q rest (a.put op.dst (gval (v.gs p) (l.ga p) (l.gc p))) w):wpList Tryz.prog ops Q (op::rest) a w:=
 wpList_load_mid hgd 40 x ho b (1+p*9) hx (gcells (v.gs p) (l.ga p) (l.gc p)).toList _ (cbox_grid hC hb p hp) Tryz.underlying40 rfl infoG h
end Go.Proofs.YtjikokfjnbhngaaGreatDoor.Pt

/- A view that is made anew: its zero value. -/
namespace Go.Proofs.YtjikokfjnbhngaaGreatDoor.Pt
open Go.RowKit
def zg:Gr:=⟨0,0,0,fun _=>noCel,0,0,0,false,0,0⟩
def zv:Vw:=⟨[],fun _=>zg,0,0,0⟩
def zl:Lay:=⟨none,0,[],fun _=>none,fun _=>0⟩
theorem vcells_one (v:Vw) (l:Lay):(vcells v l).all (·.oneCell')=true:=by
 unfold vcells vlist gall
 simp [Value.oneCell']
theorem zero_view (w:World):(zeroValue 58).run Tryz.prog w=.ok (.agg (vcells zv zl)) w:=Tryz.zeroValue58 w
theorem run_alloc_view (w:World):(Instr.alloc 58 true (.tuple #[])).run Tryz.prog w=.ok (.pointer (some ⟨w.heap.size,0,none⟩)) (w.alloc (cbox (vcells zv zl))):=by
 simp only [Instr.alloc,Sem.run_bind,zero_view,Result.andThen_ok]
 rfl
theorem wpList_run {ops:Array Oper} {rest:List Oper} {op:Oper} {a:Act} {w w':World} {Q:Exit→Act→World→Prop} {v:Value} (hgd:op.guard=none) (hr:(execOp a.eval op).run Tryz.prog w=.ok (.value v) w')
  (h:wpList Tryz.prog ops Q rest (a.put op.dst v) w'):wpList Tryz.prog ops Q (op::rest) a w:=
 wpList_plain hgd fun K hK=>by
  unfold Oper.wp
  rw [hr]
  exact hK _ _ h
theorem wpList_alloc_view {ops:Array Oper} {rest:List Oper} {op:Oper} {a:Act} {w:World} {Q:Exit→Act→World→Prop} (hgd:op.guard=none) (ho:op.op=.alloc 58)
  (h:wpList Tryz.prog ops Q rest (a.put op.dst (.pointer (some ⟨w.heap.size,0,none⟩))) (w.alloc (cbox (vcells zv zl)))):wpList Tryz.prog ops Q (op::rest) a w:=
 wpList_run hgd (by unfold execOp;simp only [ho,Sem.run_bind,run_alloc_view,Result.andThen_ok,Sem.run_pure]) h
theorem wpList_store_view {ops:Array Oper} {rest:List Oper} {op:Oper} {a:Act} {W:World} {Q:Exit→Act→World→Prop} (v v':Vw) (l l':Lay) (hgd:op.guard=none) (x y:Operand) (ho:op.op=.store 58 x y)
  (hx:a.eval x=.pointer (some ⟨W.heap.size,0,none⟩)) (hy:a.eval y=.agg (vcells v' l'))
  (h:wpList Tryz.prog ops Q rest (a.put op.dst undef) (W.alloc (cbox (vcells v' l')))):wpList Tryz.prog ops Q (op::rest) a (W.alloc (cbox (vcells v l))):=
 wpList_plain hgd fun K hK=>by
  unfold Oper.wp execOp
  simp only [ho,hx,hy,Sem.run_bind,run_storeAt_new (P:=Tryz.prog) W 58 (vcells v l) (vcells v' l') (by rw [vcells_size];exact infoV) (by rw [vcells_size,vcells_size]) (vcells_one v' l'),Result.andThen_ok,Sem.run_pure]
  exact hK _ _ h
end Go.Proofs.YtjikokfjnbhngaaGreatDoor.Pt
