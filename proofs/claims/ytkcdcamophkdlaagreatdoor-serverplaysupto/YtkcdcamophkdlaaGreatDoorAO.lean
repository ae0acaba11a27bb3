import Derived.Test.YtkcdcamophkdlaaGreatDoorAN
import Derived.Test.YtkcdcamophkdlaaGreatDoorAF
import Derived.Deep.WholeRow
set_option maxHeartbeats 1000000
open Go.Proofs.Tryz
namespace Go.Proofs.YtkcdcamophkdlaaGreatDoor.Pt
open Go.Proofs.YtkcdcamophkdlaaGreatDoor.Tl (Rc dx gW cZ gJ bL cK dG)
variable {col row p:Int}
def xO (r:Rc) (row col:Int):Bool:=decide (r.row<=row∧row < r.row+r.high∧r.col<=col∧col < r.col+r.wide)
theorem FQ (r:Rc) (row col:Int):xO r row col=true↔gJ r row col:=by unfold xO gJ;exact decide_eq_true_iff
theorem aa7 {r:Rc} (h:xO r row col=false):¬ gJ r row col:=fun k=>by rw [<-FQ,h] at k;cases k
def sign (b:Int):aH:=⟨b,0,0,false⟩
structure Vw where
 aj:List (List Int)
 gs:Nat->Gr
 wide:Int
 high:Int
 focus:Int
def Vw.place (v:Vw) (p:Int):Rc:=gW v.aj v.wide v.high p
def Vw.share (v:Vw) (k:Int):Int×Int:=cZ v.wide v.aj.length k
abbrev zH (v:Vw) (row col:Int):Prop:=0<=row∧row < v.high∧0<=col∧col < v.wide
def Gb (v:Vw) (row col:Int):Option Nat:=(List.range 6).find? fun p=>xO (v.place p) row col
def A8 (v:Vw) (col:Int):Bool:=(List.range (v.aj.length - 1)).any fun k=>decide (0 < (v.share k).2∧col=(v.share k).1+(v.share k).2)
def pQ (v:Vw) (row col:Int):aH:=
 if zH v row col then
  match Gb v row col with
  | some p=>iy (v.gs p) (row - (v.place p).row) (col - (v.place p).col)
  | none=>if A8 v col then sign 124 else sign 45
 else sign 46
def sK (v:Vw) (col:Int):aH:=
 if 0<=col∧col % 2=0∧col / 2 < v.aj.flatten.length then ⟨48+max 0 (min (v.aj.flatten.getD (col / 2).toNat 0) 9),0,0,decide (v.aj.flatten.getD (col / 2).toNat 0=v.focus)⟩ else sign 32
theorem OV {c:Int} (h:¬ (0<=c∧c < 25)) (n k:Int):cZ c n k=(0,0):=Tl.OX (by omega)
theorem U8 {c:List (List Int)} {wide high:Int} (h:¬ (0<=wide∧wide < 25)∨¬ (0<=high∧high < 25)) (p:Int):gW c wide high p=dx:=by
 rcases Tl.GD c wide high p with e | ⟨i,j,_,d,f,_⟩
 ·exact e
 ·rcases h with h | h
  ·rw [OV h] at d;exact absurd rfl d
  ·rw [OV h] at f;exact absurd rfl f
theorem acj (row col:Int):¬ gJ dx row col:=by unfold gJ dx;simp only;omega
theorem adE (v:Vw) {q:Int} (c:gJ (v.place p) row col) (f:gJ (v.place q) row col):p=q:=by
 by_cases d:(0<=v.wide∧v.wide < 25)∧(0<=v.high∧v.high < 25)
 ·by_cases e:p=q
  ·exact e
  ·exact(Tl.ahF v.aj v.wide v.high p q row col d.1.1 d.1.2 d.2.1 d.2.2 e c f).elim
 ·unfold Vw.place at c;rw [U8 (by omega)] at c;exact(acj _ _ c).elim
theorem TI (v:Vw) (p:Int):v.place p=dx∨(0<=(v.place p).row∧0<=(v.place p).col∧0 < (v.place p).high∧0 < (v.place p).wide∧(v.place p).row+(v.place p).high<=24∧(v.place p).col+(v.place p).wide<=24∧0<=p∧p < 6):=by
 by_cases c:(0<=v.wide∧v.wide < 25)∧(0<=v.high∧v.high < 25)
 ·obtain⟨⟨k,m,_,_,_,_⟩,h⟩:=Tl.U9 v.aj v.wide v.high p c.1.1 c.1.2 c.2.1 c.2.2 _ rfl;rcases Tl.GD v.aj v.wide v.high p with e | ⟨i,j,t,s,n,r⟩
  ·exact .inl e
  ·rcases h with h | ⟨d,o,q⟩
   ·rw [r] at h;exact absurd h.1 n
   ·have f:cK v.aj=true:=by
     cases f:cK v.aj
     ·have:gW v.aj v.wide v.high p=dx:=(by unfold gW;rw [if_pos f]);rw [this] at d;exact absurd d (by decide)
     ·rfl
    have g:=((Tl.nG _).1 f).pane p (Tl.qC.1 q);simp only [dG,decide_eq_true_eq] at g;exact .inr ⟨k,m,d,o,by unfold Vw.place;omega,by unfold Vw.place;omega,g.1,g.2⟩
 ·left;exact U8 (by omega) p
theorem TJ (v:Vw) (p:Int):0<=(v.place p).row∧0<=(v.place p).col∧0<=(v.place p).high∧0<=(v.place p).wide∧(v.place p).row<=24∧(v.place p).col<=24∧(v.place p).high<=24∧(v.place p).wide<=24:=by
 rcases TI v p with h | h
 ·rw [h];decide
 ·omega
theorem adk (v:Vw) {p:Nat} (d:p < 6) (h:gJ (v.place p) row col):Gb v row col=some p:=by
 cases e:Gb v row col with
 | none=>
  have:=List.find?_eq_none.1 e p (List.mem_range.2 d);exact absurd ((FQ _ _ _).2 h) this
 | some q=>
  have c:=List.find?_some e;have:=adE v h ((FQ _ _ _).1 c);exact congrArg some (by omega)
theorem Tj (v:Vw) (h:∀ p:Nat,p < 6->¬ gJ (v.place p) row col):Gb v row col=none:=by
 refine List.find?_eq_none.2 fun p c e=>h p (List.mem_range.1 c) ((FQ _ _ _).1 e)
theorem XD (v:Vw) (h:¬ zH v row col):pQ v row col=sign 46:=by unfold pQ;rw [if_neg h]
theorem XC (v:Vw) (h:zH v row col) {p:Nat} (d:p < 6) (c:gJ (v.place p) row col):pQ v row col=iy (v.gs p) (row - (v.place p).row) (col - (v.place p).col):=by
 unfold pQ;rw [if_pos h,adk v d c]
theorem ZY (v:Vw) {k:Nat} (d:col=2*k) (f:k < v.aj.flatten.length) (c:v.aj.flatten.getD k 0=p):sK v col=⟨48+max 0 (min p 9),0,0,decide (p=v.focus)⟩:=by
 unfold sK;have e:(col / 2).toNat=k:=by omega
 rw [if_pos ⟨by omega,by omega,by omega⟩,e,c]
theorem QY (v:Vw) (h:¬ (0<=col∧col % 2=0∧col / 2 < v.aj.flatten.length)):sK v col=sign 32:=by
 unfold sK;rw [if_neg h]
def qZ (v:Vw) (wide high:Int) (i:Nat):aH:=if (i:Int) / wide=high - 1 then sK v ((i:Int) % wide) else pQ v ((i:Int) / wide) ((i:Int) % wide)
def CK (v:Vw):Int×Int:=if (v.place v.focus).wide=0 then (0,0) else ((v.place v.focus).row+min (v.gs v.focus.toNat).row ((v.place v.focus).high - 1),(v.place v.focus).col+min (v.gs v.focus.toNat).col ((v.place v.focus).wide - 1))
def mD (v:Vw) (wide high:Int):Gr:=
 {newG wide high with f:=qZ v (newG wide high).wide (newG wide high).high,row:=max 0 (min (CK v).1 ((newG wide high).high - 1)),col:=max 0 (min (CK v).2 ((newG wide high).wide - 1))}
open Go.RowKit
open Go.Proofs.YtkcdcamophkdlaaGreatDoor.Tl (Rc dx gW cZ gJ bL cK dG bn ak aI bV tval aT rval fK pz ng cv)
variable (v:Vw) {w:World} {C:Array Value} {b:Nat} {ops:Array Oper} {rest:List Oper} {op:Oper} {a:Act} {Q:Exit->Act->World->Prop}
structure Lay where
 co:Option Addr
 cap:Nat
 its:List bn
 ga:Nat->Option Addr
 gc:Nat->Nat
def mR (v:Vw) (l:Lay):List Value:=(bE (v.gs 0) (l.ga 0) (l.gc 0)).toList++(bE (v.gs 1) (l.ga 1) (l.gc 1)).toList++(bE (v.gs 2) (l.ga 2) (l.gc 2)).toList++(bE (v.gs 3) (l.ga 3) (l.gc 3)).toList++(bE (v.gs 4) (l.ga 4) (l.gc 4)).toList++(bE (v.gs 5) (l.ga 5) (l.gc 5)).toList
def jg (v:Vw) (l:Lay):List Value:=.slice l.co l.its.length l.cap::(mR v l++[.int .i64 v.wide,.int .i64 v.high,.int .i64 v.focus])
def bP (v:Vw) (l:Lay):Array Value:=(jg v l).toArray
def Bq (v:Vw) (l:Lay):Obj:=.cells (bP v l) 36
theorem DU (l:Lay):(jg v l).length=58:=rfl
theorem QZ (l:Lay):(mR v l).length=54:=rfl
theorem ajC (l:Lay):(bP v l).size=58:=rfl
theorem Mw (l:Lay) (p j:Nat) (f:p < 6) (e:j < 9):(mR v l)[p*9+j]?=(bE (v.gs p) (l.ga p) (l.gc p))[j]?:=by
 have c:p=0∨p=1∨p=2∨p=3∨p=4∨p=5:=by omega
 have d:j=0∨j=1∨j=2∨j=3∨j=4∨j=5∨j=6∨j=7∨j=8:=by omega
 rcases c with rfl | rfl | rfl | rfl | rfl | rfl <;>rcases d with rfl | rfl | rfl | rfl | rfl | rfl | rfl | rfl | rfl <;>rfl
structure VC (v:Vw) (l:Lay) (C:Array Value):Prop where
 eq:C=bP v l
 cells:C[0]?=some (.slice l.co l.its.length l.cap)∧C[55]?=some (.int .i64 v.wide)∧C[56]?=some (.int .i64 v.high)∧C[57]?=some (.int .i64 v.focus)
theorem vc (l:Lay):VC v l (bP v l):=⟨rfl,rfl,rfl,rfl,rfl⟩
@[reducible] def bf (C:Array Value):Obj:=.cells C 36
structure dw (w:World) (v:Vw) (l:Lay):Prop where
 aj:v.aj=ak l.its
 rd:aI w l.co l.its
 gs:∀ p,p < 6->aL w (l.ga p) (v.gs p).n (v.gs p).f
 m1:l.its.length<=5864062014805
 m2:∀ x∈l.its,x.1.length<=17592186044416
 m3:∀ p,p < 6->(v.gs p).n<=4398046511104
 m4:v.aj.flatten.length<=17592186044416
theorem dw.below {w':World} {v:Vw} {l:Lay} (h:dw w v l) (c:Below w.heap.size w w'):dw w' v l:=
 ⟨h.aj,h.rd.below c,fun p d=>(h.gs p d).below c,h.m1,h.m2,h.m3,h.m4⟩
theorem CF {v:Vw} {l:Lay} (c:VC v l C) (h:w.heap[b]?=some (bf C)):
  (w.cell? ⟨b,0,none⟩=some (.slice l.co l.its.length l.cap)∧w.cell? ⟨b,55,none⟩=some (.int .i64 v.wide)∧w.cell? ⟨b,56,none⟩=some (.int .i64 v.high)∧w.cell? ⟨b,57,none⟩=some (.int .i64 v.focus))∧
  (∀ j,w.frozen? ⟨b,j,none⟩=false):=
 ⟨⟨(cell_of_row w b 0 _ _ _ h).trans c.cells.1,(cell_of_row w b 55 _ _ _ h).trans c.cells.2.1,(cell_of_row w b 56 _ _ _ h).trans c.cells.2.2.1,(cell_of_row w b 57 _ _ _ h).trans c.cells.2.2.2⟩,fun j=>frozen_of_row w b j _ _ h⟩
theorem Ql (h:w.heap[b]?=some (bf C)):w.rangeAt b 0 C.toList:=fun j x c=>by
 rw [cell_of_row w b (0+j) _ _ _ h,Nat.zero_add]
 simpa using c
theorem Qk {v:Vw} {l:Lay} (d:VC v l C) (h:w.heap[b]?=some (bf C)):w.rangeAt b 1 (mR v l):=fun j x c=>by
 rw [cell_of_row w b (1+j) _ _ _ h,d.eq]
 have e:j < (mR v l).length:=(gL c).1
 simp only [bP,List.getElem?_toArray,jg]
 rw [Nat.add_comm,List.getElem?_cons_succ,List.getElem?_append_left e]
 exact c
theorem LY {v:Vw} {l:Lay} (d:VC v l C) (h:w.heap[b]?=some (bf C)) (p:Nat) (f:p < 6):w.rangeAt b (1+p*9) (bE (v.gs p) (l.ga p) (l.gc p)).toList:=fun j x c=>by
 have e:j < 9:=by have:=(gL c).1;simpa using this
 rw [show 1+p*9+j=1+(p*9+j) by omega]
 exact Qk d h (p*9+j) x (by rw [Mw v l p j f e];simpa using c)
theorem VC.size {v:Vw} {l:Lay} (c:VC v l C):C.size=58:=by rw [c.eq];rfl
theorem vX:(prog.info? 36).map (·.size)=some 58:=by kernel_rfl
theorem aa9:(prog.info? 34).map (·.size)=some 54:=by kernel_rfl
theorem nJ:(prog.info? 33).map (·.size)=some 9:=by kernel_rfl
theorem yt (C:Array Value) (f:C.size=58) (c:op.guard=none) (x:Operand) (e:op.op=.load 36 x) (b:Nat) (g:a.eval x=.pointer (some ⟨b,0,none⟩)) (d:w.heap[b]?=some (bf C)) (h:wpList prog ops Q rest (a.put op.dst (.agg C)) w):wpList prog ops Q (op::rest) a w:=
 wpList_load_mid c 36 x e b 0 g C.toList _ (Ql d) underlying36 rfl (by rw [Array.length_toList,f];exact vX) (by simpa using h)
theorem Pk (l:Lay) (C:Array Value) (e:VC v l C) (c:op.guard=none) (x:Operand) (g:op.op=.load 34 x) (b:Nat) (i:a.eval x=.pointer (some ⟨b,1,none⟩)) (f:w.heap[b]?=some (bf C)) (A:Array Value) (d:A=(mR v l).toArray) (h:wpList prog ops Q rest (a.put op.dst (.agg A)) w):wpList prog ops Q (op::rest) a w:=
 wpList_load_mid c 34 x g b 1 i (mR v l) _ (Qk e f) underlying34 rfl aa9 (d ▸ h)
theorem afJ (l:Lay) (p:Nat) (d:p < 6) (w:World):(Instr.index 34 (.agg (mR v l).toArray) (.int .i64 p)).run prog w=.ok (ay (v.gs p) (l.ga p) (l.gc p)) w:=by
 have c:p=0∨p=1∨p=2∨p=3∨p=4∨p=5:=by omega
 rcases c with rfl | rfl | rfl | rfl | rfl | rfl <;>(simp [Instr.index,asIntOf,part,go_sem];rfl)
theorem J4 (l:Lay) (c:op.guard=none) (x d:Operand) (i:op.op=.index 34 x d) (A:Array Value) (k:a.eval x=.agg A) (p:Nat) (g:a.eval d=.int .i64 p) (e:A=(mR v l).toArray) (j:p < 6) (h:wpList prog ops Q rest (a.put op.dst (ay (v.gs p) (l.ga p) (l.gc p))) w):wpList prog ops Q (op::rest) a w:=
 wpList_plain c fun K f=>by
  unfold Oper.wp execOp
  simp only [i,k,g,e,Sem.run_bind,afJ v l p j,Result.andThen_ok,Sem.run_pure]
  exact f _ _ h
variable (v:Vw) (l:Lay) {ops:Array Oper} {rest:List Oper} {op:Oper} {a:Act} {Q:Exit->Act->World->Prop} {w:World}
def zg:Gr:=⟨0,0,0,fun _=>aX,0,0,0,false,0,0⟩
def zv:Vw:=⟨[],fun _=>zg,0,0,0⟩
def zl:Lay:=⟨none,0,[],fun _=>none,fun _=>0⟩
theorem U5:(bP v l).all (·.oneCell')=true:=by
 unfold bP jg mR;simp [Value.oneCell']
theorem Vq (w:World):(zeroValue 36).run prog w=.ok (.agg (bP zv zl)) w:=zeroValue36 w
theorem afB (w:World):(Instr.alloc 36 true (.tuple #[])).run prog w=.ok (.pointer (some ⟨w.heap.size,0,none⟩)) (w.alloc (bf (bP zv zl))):=by
 simp only [Instr.alloc,Sem.run_bind,Vq,Result.andThen_ok]
 rfl
theorem J5 {w':World} {v:Value} (c:op.guard=none) (e:(execOp a.eval op).run prog w=.ok (.value v) w') (h:wpList prog ops Q rest (a.put op.dst v) w'):wpList prog ops Q (op::rest) a w:=
 wpList_plain c fun K d=>by
  unfold Oper.wp
  rw [e]
  exact d _ _ h
theorem J3 (c:op.guard=none) (d:op.op=.alloc 36) (h:wpList prog ops Q rest (a.put op.dst (.pointer (some ⟨w.heap.size,0,none⟩))) (w.alloc (bf (bP zv zl)))):wpList prog ops Q (op::rest) a w:=
 J5 c (by unfold execOp;simp only [d,Sem.run_bind,afB,Result.andThen_ok,Sem.run_pure]) h
theorem Vk {W:World} (d:Vw) (l c:Lay) (e:op.guard=none) (x y:Operand) (g:op.op=.store 36 x y) (i:a.eval x=.pointer (some ⟨W.heap.size,0,none⟩)) (j:a.eval y=.agg (bP d c)) (h:wpList prog ops Q rest (a.put op.dst undef) (W.alloc (bf (bP d c)))):wpList prog ops Q (op::rest) a (W.alloc (bf (bP v l))):=
 wpList_plain e fun K f=>by
  unfold Oper.wp execOp
  simp only [g,i,j,Sem.run_bind,run_storeAt_new (P:=prog) W 36 (bP v l) (bP d c) (by rw [ajC];exact vX) (by rw [ajC,ajC]) (U5 d c),Result.andThen_ok,Sem.run_pure]
  exact f _ _ h
open Go.Proofs.YtkcdcamophkdlaaGreatDoor.Tl (aO)
structure Cw (w:World) (a b:Gr) (oa ob:Option Addr) (ca cb:Nat) (wr:World):Prop where
 one:wr.heap[w.heap.size]?=some (aB a oa ca)
 two:wr.heap[w.heap.size+1]?=some (aB b ob cb)
 ra:aL wr oa a.n a.f
 rb:aL wr ob b.n b.f
 below:Below w.heap.size w wr
theorem Cw.later {w:World} {a b:Gr} {f g:Option Addr} {d e:Nat} {wr w':World} (h:Cw w a b f g d e wr) (c:Below wr.heap.size wr w'):Cw w a b f g d e w':=
 ⟨aG c h.one (gQ h.one).1,aG c h.two (gQ h.two).1,h.ra.below c,h.rb.below c,h.below.trans (c.mono h.below.size)⟩
theorem afL (a:Gr) (H B G:Int) (o2:Bool) (x A:Int) (h j:Option Addr) (m o:Nat) (w:World) (D:aL w h a.n a.f) (E:aL w j a.n a.f) (V:a.n<=4398046511104):
  kA 35 #[ay a h m,ay ⟨a.wide,a.high,a.n,a.f,H,B,G,o2,x,A⟩ j o] w (.bool true):=by
 obtain⟨b,c⟩:∃ b:Gr,b=⟨a.wide,a.high,a.n,a.f,H,B,G,o2,x,A⟩:=⟨_,rfl⟩;rw [<-c];have J:b.wide=a.wide:=by rw [c]
 have K:b.high=a.high:=by rw [c]
 have L:b.n=a.n:=by rw [c]
 have u:Hid (b.f=a.f∧b.n=a.n):=by rw [c];exact⟨rfl,rfl⟩
 have I:Hid (Cw w a b h j m o ((w.alloc (aB a h m)).alloc (aB b j o))):=by
  have d:Below w.heap.size w ((w.alloc (aB a h m)).alloc (aB b j o)):=(aM _ _).alloc (by simp) _;exact⟨aF (at_new w _) _,bK w _ _,D.below d,by rw [u.out.1,u.out.2];exact E.below d,d⟩
 clear c D E;go_enter func35,ntmps35;go_wp2;go_loopw [30] (fun i wr=>∃ k:Nat,k<=a.n∧i=.int .i64 k∧Cw w a b h j m o wr) (fun i _=>a.n - (intOf i).toNat)
 case atStart=>exact⟨0,Nat.zero_le _,rfl,I.out⟩
 case round=>
  obtain⟨k,_,rfl,e⟩:=hrel;have z:=gH e;by_cases s:k < a.n
  ·obtain⟨⟨_,_,_,_,_,_,_,_,_⟩,_⟩:=nine e.one;obtain⟨⟨_,_,U,_,_,_,_,_,_⟩,_⟩:=nine e.two;have t:=e.ra;have g:=e.rb;rw [u.out.1,u.out.2] at g;obtain⟨_,_,rfl,q⟩:=t.resolve_left (by omega);obtain⟨_,_,rfl,r⟩:=g.resolve_left (by omega);obtain⟨R,S,x,T⟩:=q k s;obtain⟨M,N,O,P⟩:=r k s;have:(k:Int) < (a.n:Int):=(by omega);have:(0:Int)<=(k:Int):=(by omega);obtain⟨y,F⟩:∃ y,y=a.f k:=⟨_,rfl⟩;rw [<-F] at R S x T M N O P;rw [L] at U;clear q r t g e F J K;go_wp2_with fail;go_quiet (fail);go_wp2;go_roundw
   case rel=>exact⟨k+1,by omega,by go_num,z.out.later (below_drewN (Below.refl _ _) _)⟩
   case measure=>simp [intOf];omega
  ·clear e;go_wp2;go_ret;exact⟨rfl,z.out.below⟩
theorem afM (a:Gr) (d e:Option Addr) (g h:Nat) (w:World) (j:aL w d a.n a.f) (k:aL w e a.n a.f) (m:a.n<=4398046511104):
  kA 13 #[ay a d g,ay a e h] w (.bool true):=by
 have q:Hid (∀ w,aL w d a.n a.f->aL w e a.n a.f->kA 35 #[ay a d g,ay a e h] w (.bool true)):=fun w r s=>afL a a.row a.col a.aA a.bold a.top a.bottom d e g h w r s m;have i:Hid (aL w d a.n a.f∧aL w e a.n a.f):=⟨j,k⟩;clear j k m;go_enter func13,ntmps13;go_wp2_with (go_at_call 35;refine(q.out _ (i.out.1.below (aO _ _ _)) (i.out.2.below (aO _ _ _))).mono ?_;rintro _ t ⟨rfl,c⟩;have o:Hid (Below w.heap.size w t):=(aO _ _ _).trans (c.mono (by simp;omega));obtain⟨⟨_,_,_,_,_,_,_,_,_⟩,_⟩:=nine (aG c (aF (at_new w _) _) (by simp;omega));obtain⟨⟨_,_,_,_,_,_,_,_,_⟩,_⟩:=nine (aG c (bK w _ _) (by simp));clear c);go_ret;exact⟨rfl,o.out⟩
end Go.Proofs.YtkcdcamophkdlaaGreatDoor.Pt
