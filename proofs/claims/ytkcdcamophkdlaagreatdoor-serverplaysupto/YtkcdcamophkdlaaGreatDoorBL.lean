import Derived.Test.YtkcdcamophkdlaaGreatDoorBJ
import Derived.Test.YtkcdcamophkdlaaGreatDoorBK
import Derived.Test.YtkcdcamophkdlaaGreatDoorBI
set_option maxHeartbeats 8000000
set_option maxRecDepth 100000
open Go.Proofs.Tryz
namespace Go.Proofs.YtkcdcamophkdlaaGreatDoor.Sv
open Go.RowKit
open Go.Proofs.YtkcdcamophkdlaaGreatDoor.Tl (bn ak aI dK cv)
open Go.Proofs.YtkcdcamophkdlaaGreatDoor.Pt (Vw jg mR)
variable {w w' w'':World} {X X':Nat->Prop} {L L':Lay} {S S':aD} {ao:Option Addr} {cap:Nat} {g:Gr}
def iU (S:aD) (i:Nat):Bool:=(S.cl i).isSome
def zy (S:aD) (L:Lay):List Value:=jg S.v L.l++Ga S L++[.bool (iU S 0),.bool (iU S 1),.bool (iU S 2),.int .i64 S.acts]
def wu (S:aD) (L:Lay):Array Value:=(zy S L).toArray
@[reducible] def rW (S:aD) (L:Lay):Obj:=.cells (wu S L) 44
theorem ahl:(44:TypeId)≠38:=by decide
theorem ahk:(44:TypeId)≠3:=by decide
def Gw (X:Nat->Prop) (w:World) (ao:Option Addr) (cap:Nat) (g:Gr):Prop:=(g.n=0∧ao=none∧cap=0)∨∃ b,ao=some ⟨b,0,none⟩∧aL w ao g.n g.f∧b < w.heap.size∧¬ X b
theorem Gw.rd (h:Gw X w ao cap g):aL w ao g.n g.f:=by
 rcases h with h | ⟨b,_,h,_⟩
 ·exact .inl h.1
 ·exact h
theorem Gw.none (h:Gw X w ao cap g):ao=none->g.n=0∧cap=0:=by
 intro e;rcases h with h | ⟨b,c,_⟩
 ·exact⟨h.1,h.2.2⟩
 ·rw [e] at c;cases c
theorem aee {b c n:Nat} {f:Nat->aH} (h:aL w (some ⟨b,c,none⟩) n f) (m:w'.heap[b]?=w.heap[b]?):aL w' (some ⟨b,c,none⟩) n f:=by
 rcases h with h | ⟨p,d,e,j⟩
 ·exact .inl h
 ·cases e;have e:∀ o,w'.cell? ⟨b,o,none⟩=w.cell? ⟨b,o,none⟩:=fun o=>World.cell?_of_block m;refine .inr ⟨b,c,rfl,fun i l=>?_⟩;simp only [e];exact j i l
theorem Gw.keep (h:Gw X w ao cap g) (j:w.heap.size<=w'.heap.size) (d:∀ b,b < w.heap.size->¬ X b->w'.heap[b]?=w.heap[b]?∧¬ X' b):Gw X' w' ao cap g:=by
 rcases h with h | ⟨b,f,i,c,e⟩
 ·exact .inl h
 ·subst f;exact .inr ⟨b,rfl,aee i (d b c e).1,by omega,(d b c e).2⟩
structure bJ (X:Nat->Prop) (w:World) (S:aD) (L:Lay):Prop where
 ok:lq S
 box:w.heap[L.sb]?=some (rW S L)
 mine:X L.sb
 aj:S.v.aj=ak L.l.its
 rd:aI w L.l.co L.l.its
 ty:dK w L.l.co L.l.its
 gs:∀ p,p < 6->Gw X w (L.l.ga p) (L.l.gc p) (S.v.gs p)
 ps:∀ p,p < 6->Pl w (L.pa p) (L.pc p) (S.ps p).ps
 xl:∀ b,X b->b < w.heap.size
theorem bJ.lt (h:bJ X w S L):L.sb < w.heap.size:=(gQ h.box).1
theorem bJ.keep (h:bJ X w S L) {M:Nat->Prop} (k:Kp M w w') (j:∀ b,M b->b < w.heap.size->X b∧b≠L.sb∧∃ (c:Array Value) (t:TypeId) (q:Nat×Nat),w.heap[b]?=some (.cells c t q)∧t≠38∧t≠3) (x:X' L.sb) (l:∀ b,b < w.heap.size->X' b->X b) (m:∀ b,X' b->b < w'.heap.size):bJ X' w' S L:=by
 have f:∀ (b:Nat) (c:Array Value) (t:TypeId),t=38∨t=3->w.heap[b]?=some (.cells c t (0,0))->w'.heap[b]?=w.heap[b]?:=fun b c t y d=>by
  refine k.block b (gQ d).1 (fun i=>?_);obtain⟨_,_,_,_,q,n,r,u⟩:=j b i (gQ d).1;rw [d] at n;simp only [Option.some.injEq,Obj.cells.injEq] at n;rw [<-n.2.1] at r u;exact y.elim r u
 refine⟨h.ok,by rw [k.block _ h.lt (fun i=>(j _ i h.lt).2.1 rfl)];exact h.box,x,h.aj,aI.keep h.rd h.ty f,dK.keep h.ty f,fun p o=>(h.gs p o).keep k.size (fun b d v=>⟨k.block b d (fun i=>v (j b i d).1),fun e=>v (l b d e)⟩),fun p o=>(h.ps p o).keep fun b c d=>f b c 3 (.inr rfl) d,m⟩
theorem bJ.below (h:bJ X w S L) (c:Below w.heap.size w w'):bJ X w' S L:=
 h.keep (M:=fun _=>False) (Kp.of_below _ c) (fun _ e=>e.elim) h.mine (fun _ _ e=>e) (fun b e=>Nat.lt_of_lt_of_le (h.xl b e) c.size)
theorem bJ.drew (h:bJ X w S L):bJ X w.drew S L:=h.below ((Below.refl _ _).drew)
structure gZ (X:Nat->Prop) (w:World) (L:Lay) (S':aD) (L':Lay) (w':World):Prop where
 ref:bJ X w' S' L'
 sb:L'.sb=L.sb
 kp:Kp (fun b=>b=L.sb) w w'
theorem gZ.trans {d:aD} {c:Lay} (h:gZ X w L S' L' w') (k:gZ X w' L' d c w''):gZ X w L d c w'':=
 ⟨k.ref,k.sb.trans h.sb,h.kp.trans k.kp (fun _ e=>.inl (e.trans h.sb))⟩
theorem gZ.refl (h:bJ X w S L):gZ X w L S L w:=⟨h,rfl,Kp.refl _ _⟩
theorem gZ.later (h:gZ X w L S' L' w') (c:Below w'.heap.size w' w''):gZ X w L S' L' w'':=
 ⟨h.ref.below c,h.sb,h.kp.trans (Kp.of_below (fun _=>False) c) (fun _ e=>e.elim)⟩
theorem JE (h:bJ X w S L) (j:Kp (fun b=>b=L.sb) w w') (i:L'.sb=L.sb) (z:lq S') (d:w'.heap[L.sb]?=some (rW S' L')) (u:S'.v.aj=ak L'.l.its) (B:aI w L'.l.co L'.l.its) (r:dK w L'.l.co L'.l.its) (y:∀ p,p < 6->Gw X w (L'.l.ga p) (L'.l.gc p) (S'.v.gs p)) (A:∀ p,p < 6->Pl w (L'.pa p) (L'.pc p) (S'.ps p).ps):gZ X w L S' L' w':=by
 have o:∀ (b:Nat) (x:Array Value) (t:TypeId),t≠44->w.heap[b]?=some (.cells x t (0,0))->w'.heap[b]?=w.heap[b]?:=fun b x t m d=>by
  refine j.block b (gQ d).1 (fun e=>?_);rw [e,h.box] at d;simp only [Option.some.injEq,Obj.cells.injEq] at d;exact m d.2.1.symm
 have f:∀ (b:Nat) (c:Array Value) (t:TypeId),t=38∨t=3->w.heap[b]?=some (.cells c t (0,0))->w'.heap[b]?=w.heap[b]?:=fun b c t m d=>o b c t (fun e=>by rw [e] at m;exact m.elim ahl ahk) d;exact⟨⟨z,by rw [i];exact d,by rw [i];exact h.mine,u,aI.keep B r f,dK.keep r f,fun p n=>(y p n).keep j.size (fun b d q=>⟨j.block b d (fun e=>q (by rw [e];exact h.mine)),q⟩),fun p n=>(A p n).keep fun b c d=>f b c 3 (.inr rfl) d,fun b e=>Nat.lt_of_lt_of_le (h.xl b e) j.size⟩,i,j⟩
theorem JF (h:bJ X w S L) (j:Kp (fun b=>b=L.sb) w w') (l:lq S') (i:w'.heap[L.sb]?=some (rW S' L)) (d:S'.v.aj=S.v.aj) (e:S'.v.gs=S.v.gs) (f:S'.ps=S.ps):gZ X w L S' L w':=
 JE h j rfl l i (d.trans h.aj) h.rd h.ty (fun p c=>by rw [e];exact h.gs p c) (fun p c=>by rw [f];exact h.ps p c)
theorem aft (h:bJ X w S L) (p:Nat) (e:p < 6) (g:Gr) (ao:Option Addr) (cap:Nat):(w.setCells L.sb (1+p*9) (bE g ao cap).toList).heap[L.sb]?=some (rW (j4 S p g) (zn L p ao cap)):=by
 simp only [World.setCells];rw [bG (bG (bG (bG (bG (bG (bG (bG (bG h.box _) _) _) _) _) _) _) _) _];have d:p=0∨p=1∨p=2∨p=3∨p=4∨p=5:=by omega
 refine congrArg (fun c=>some (Obj.cells c 44 (0,0))) ?_;rcases d with rfl | rfl | rfl | rfl | rfl | rfl <;>kernel_rfl
theorem afu (h:bJ X w S L) (p:Nat) (e:p < 6) (s:Ps.PS) (ao:Option Addr) (cap:Nat):(w.setCells L.sb (58+p*4) (dD s ao cap)).heap[L.sb]?=some (rW (qL S p s) (Dk L p ao cap)):=by
 simp only [World.setCells];rw [bG (bG (bG (bG h.box _) _) _) _];have d:p=0∨p=1∨p=2∨p=3∨p=4∨p=5:=by omega
 refine congrArg (fun c=>some (Obj.cells c 44 (0,0))) ?_;rcases d with rfl | rfl | rfl | rfl | rfl | rfl <;>kernel_rfl
theorem OE (h:bJ X w S L) (p:Nat) (f:p < 6) (g:Gr) (ao:Option Addr) (cap:Nat) (c:g=dO∨OkG g) (d:Gw X w ao cap g):gZ X w L (j4 S p g) (zn L p ao cap) (w.setCells L.sb (1+p*9) (bE g ao cap).toList):=by
 refine JE h (oI L.sb (bE g ao cap).toList (1+p*9) w) rfl (Vb h.ok p g c) (aft h p f g ao cap) h.aj h.rd h.ty (fun q i=>?_) h.ps;show Gw X w (upd L.l.ga p ao q) (upd L.l.gc p cap q) (upd S.v.gs p g q);by_cases e:q=p
 ·rw [e,dY,dY,dY];exact d
 ·rw [upd_ne _ _ e,upd_ne _ _ e,upd_ne _ _ e];exact h.gs q i
theorem Uh (h:bJ X w S L) (p:Nat) (d:p < 6) (s:Ps.PS) (ao:Option Addr) (cap:Nat) (i:Ps.GoodS s) (c:Pl w ao cap s.ps):gZ X w L (qL S p s) (Dk L p ao cap) (w.setCells L.sb (58+p*4) (dD s ao cap)):=by
 refine JE h (oI L.sb (dD s ao cap) (58+p*4) w) rfl (Vd h.ok p s i) (afu h p d s ao cap) h.aj h.rd h.ty h.gs (fun q f=>?_);show Pl w (upd L.pa p ao q) (upd L.pc p cap q) (upd S.ps p s q).ps;by_cases e:q=p
 ·rw [e,dY,dY,dY];exact c
 ·rw [upd_ne _ _ e,upd_ne _ _ e,upd_ne _ _ e];exact h.ps q f
theorem Uj (h:bJ X w S L) (e:List (List Int)) (d:Option Addr) (cap:Nat) (c:List bn) (i:Tl.eY e) (f:e=ak c) (j:aI w d c) (m:dK w d c):gZ X w L {S with v:={S.v with aj:=e}} {L with l:={L.l with co:=d,cap:=cap,its:=c}} (w.setCell ⟨L.sb,0,none⟩ (.slice d c.length cap)):=
 JE h (jF w L.sb 0 (.slice d c.length cap)) rfl ⟨i,h.ok.w1,h.ok.w2,h.ok.h1,h.ok.h2,h.ok.grid,h.ok.par,h.ok.cl⟩ (by rw [bG h.box];rfl) f j m h.gs h.ps
theorem OD (h:bJ X w S L) (p:Int):gZ X w L {S with v:={S.v with focus:=p}} L (w.setCell ⟨L.sb,57,none⟩ (.int .i64 p)):=
 JF h (jF w L.sb _ _) ⟨h.ok.t,h.ok.w1,h.ok.w2,h.ok.h1,h.ok.h2,h.ok.grid,h.ok.par,h.ok.cl⟩ (by rw [bG h.box];rfl) rfl rfl rfl
theorem afz (h:bJ X w S L) (n m:Int) (c:iM n m=true):gZ X w L {S with v:={S.v with wide:=n,high:=m}} L ((w.setCell ⟨L.sb,55,none⟩ (.int .i64 n)).setCell ⟨L.sb,56,none⟩ (.int .i64 m)):=by
 simp only [iM,decide_eq_true_eq] at c;refine JF h ((jF w L.sb _ _).trans (jF _ L.sb _ _) (fun _ e=>.inl e)) ⟨h.ok.t,c.1,c.2.1,c.2.2.1,c.2.2.2,h.ok.grid,h.ok.par,h.ok.cl⟩ (by rw [bG (bG h.box _)];rfl) rfl rfl rfl
theorem adY (h:bJ X w S L):gZ X w L (aC S) L (w.setCell ⟨L.sb,85,none⟩ (.int .i64 ((S.acts+1:Nat):Int))):=
 JF h (jF w L.sb _ _) ⟨h.ok.t,h.ok.w1,h.ok.w2,h.ok.h1,h.ok.h2,h.ok.grid,h.ok.par,h.ok.cl⟩ (by rw [bG h.box];rfl) rfl rfl rfl
theorem bJ.like (h:bJ X w S L) (n:lq S') (c:S'.v=S.v) (f:S'.ps=S.ps) (j:S'.acts=S.acts) (d:∀ i,i < 3->iU S' i=iU S i):bJ X w S' L:=by
 have m:rW S' L=rW S L:=by
  have l:zy S' L=zy S L:=(by unfold zy Ga;rw [c,f,j,d 0 (by omega),d 1 (by omega),d 2 (by omega)]);unfold rW wu;rw [l]
 exact⟨n,by rw [m];exact h.box,h.mine,by rw [c];exact h.aj,h.rd,h.ty,fun p e=>by rw [c];exact h.gs p e,fun p e=>by rw [f];exact h.ps p e,h.xl⟩
theorem gZ.like (h:gZ X w L S L' w') (j:lq S') (c:S'.v=S.v) (d:S'.ps=S.ps) (e:S'.acts=S.acts) (f:∀ i,i < 3->iU S' i=iU S i):gZ X w L S' L' w':=
 ⟨h.ref.like j c d e f,h.sb,h.kp⟩
theorem T9 (h:bJ X w S L) (i:Nat) (f:i < 3) (x:Option Cl) (e:∀ c,x=some c->su c) (u:Bool) (d:u=x.isSome):gZ X w L {S with cl:=upd S.cl i x} L (w.setCell ⟨L.sb,82+i,none⟩ (.bool u)):=by
 subst d;refine JF h (jF w L.sb _ _) (J2 h.ok i x e) ?_ rfl rfl rfl;rw [bG h.box];refine congrArg (fun c=>some (Obj.cells c 44 (0,0))) ?_;have:i=0∨i=1∨i=2:=by omega
 rcases this with rfl | rfl | rfl <;>rfl
theorem afy (S:aD) (L:Lay):(wu S L).size=86:=rfl
theorem Ui (S:aD) (L:Lay) (j:Nat) (c:j < 58):(wu S L)[j]?=(jg S.v L.l)[j]?:=by
 show (zy S L).toArray[j]?=_;rw [List.getElem?_toArray,zy,List.append_assoc,List.getElem?_append_left (by rw [Pt.DU];exact c)]
theorem afx (S:aD) (L:Lay) (p j:Nat) (d:p < 6) (c:j < 4):(wu S L)[58+(p*4+j)]?=(dD (S.ps p) (L.pa p) (L.pc p))[j]?:=by
 show (zy S L).toArray[58+(p*4+j)]?=_;rw [List.getElem?_toArray,zy,List.append_assoc,List.getElem?_append_right (by rw [Pt.DU];omega),Pt.DU,List.getElem?_append_left (by show _ < 24;omega)];have:58+(p*4+j) - 58=p*4+j:=by omega
 rw [this];exact Ti S L p j d c
theorem afw (S:aD) (L:Lay) (i:Nat) (c:i < 3):(wu S L)[82+i]?=some (.bool (iU S i)):=by
 have:i=0∨i=1∨i=2:=by omega
 rcases this with rfl | rfl | rfl <;>rfl
theorem bJ.frozen (h:bJ X w S L) (j:Nat):w.frozen? ⟨L.sb,j,none⟩=false:=frozen_of_row w L.sb j _ _ h.box
theorem bJ.cell (h:bJ X w S L) (j:Nat):w.cell? ⟨L.sb,j,none⟩=(wu S L)[j]?:=cell_of_row w L.sb j _ _ _ h.box
theorem bJ.acts (h:bJ X w S L):w.cell? ⟨L.sb,85,none⟩=some (.int .i64 S.acts):=(h.cell 85).trans rfl
theorem bJ.here (h:bJ X w S L) (i:Nat) (c:i < 3):w.cell? ⟨L.sb,82+i,none⟩=some (.bool (iU S i)):=(h.cell _).trans (afw S L i c)
theorem bJ.kJ (h:bJ X w S L):w.cell? ⟨L.sb,0,none⟩=some (.slice L.l.co L.l.its.length L.l.cap):=(h.cell 0).trans rfl
theorem bJ.sides (h:bJ X w S L):w.cell? ⟨L.sb,55,none⟩=some (.int .i64 S.v.wide)∧w.cell? ⟨L.sb,56,none⟩=some (.int .i64 S.v.high)∧w.cell? ⟨L.sb,57,none⟩=some (.int .i64 S.v.focus):=
 ⟨(h.cell 55).trans rfl,(h.cell 56).trans rfl,(h.cell 57).trans rfl⟩
theorem bJ.view (h:bJ X w S L):w.rangeAt L.sb 0 (jg S.v L.l):=fun j x c=>by
 have d:j < 58:=(gL c).1
 rw [Nat.zero_add,h.cell j,Ui S L j d]
 exact c
theorem bJ.grid (h:bJ X w S L) (p:Nat) (f:p < 6):w.rangeAt L.sb (1+p*9) (bE (S.v.gs p) (L.l.ga p) (L.l.gc p)).toList:=fun j x c=>by
 have d:j < 9:=(gL c).1
 have e:1+p*9+j=(p*9+j)+1:=by omega
 rw [h.cell,Ui S L _ (by omega),e]
 show (mR S.v L.l++_)[p*9+j]?=_
 rw [List.getElem?_append_left (by rw [Pt.QZ];omega),Pt.Mw S.v L.l p j f d]
 simpa using c
theorem bJ.par (h:bJ X w S L) (p:Nat) (e:p < 6):w.rangeAt L.sb (58+p*4) (dD (S.ps p) (L.pa p) (L.pc p)):=fun j x c=>by
 have d:j < 4:=(gL c).1
 rw [h.cell,show 58+p*4+j=58+(p*4+j) by omega,afx S L p j e d]
 exact c
theorem bJ.there (h:bJ X w S L) (o n:Nat) (e:o+n<=86):w.there L.sb o n:=fun j d=>by
 have c:o+j < (wu S L).size:=by rw [afy];omega
 refine⟨?_,h.frozen _⟩
 rw [h.cell,Array.getElem?_eq_getElem c]
 rfl
theorem bJ.few (h:bJ X w S L):L.l.its.length<=5864062014805∧(∀ x∈L.l.its,x.1.length<=17592186044416)∧(ak L.l.its).flatten.length<=17592186044416:=by
 have d:=Tl.sM h.ok.t;have i:L.l.its.length<=6:=by rw [h.aj] at d;simpa using d
 have e:∀ x∈L.l.its,x.1.length<=3:=fun x c=>(h.ok.t.kI x.1 (by rw [h.aj];exact List.mem_map.2 ⟨x,c,rfl⟩)).2;refine⟨by omega,fun x c=>by have:=e x c;omega,?_⟩
 have:=Tl.Dn S.v.aj.flatten [0,1,2,3,4,5] h.ok.t.once (fun p f=>by
  have:=h.ok.t.pane p f
  simp only [Tl.dG,decide_eq_true_eq] at this
  have:p=0∨p=1∨p=2∨p=3∨p=4∨p=5:=by omega
  simpa using this)
 rw [<-h.aj];simp only [List.length_cons,List.length_nil] at this;omega
open Go.Proofs.YtkcdcamophkdlaaGreatDoor.Tl (ak aI dK bn tval aR Rc rval gW)
variable {w wr:World} {X:Nat->Prop} {S:aD} {L:Lay} {k b:Nat}
theorem QV (S:aD) (k:Nat) (h:aR S.v.aj k=true):j4 (gB S k) k (sJ S.v k)=gB S (k+1):=by
 unfold gB j4 upd;simp only [aD.mk.injEq,Pt.Vw.mk.injEq,and_true,true_and];refine⟨?_,?_⟩
 ·funext q;by_cases e:q=k
  ·subst e;rw [if_pos rfl,if_pos (by omega),if_pos h]
  ·rw [if_neg e];by_cases c:q < k
   ·rw [if_pos c,if_pos (show q < k+1 by omega)]
   ·rw [if_neg c,if_neg (show ¬ q < k+1 by omega)]
 ·funext q;by_cases e:q=k
  ·subst e;rw [if_neg (by omega),if_pos (by omega),if_pos h]
  ·by_cases c:q < k
   ·rw [if_pos c,if_pos (show q < k+1 by omega)]
   ·rw [if_neg c,if_neg (show ¬ q < k+1 by omega)]
theorem ZK (S:aD) (k:Nat) (h:aR S.v.aj k=true) (c:sJ S.v k=S.v.gs k):gB S k=gB S (k+1):=by
 rw [<-QV S k h,c];unfold j4;have:upd (gB S k).v.gs k (S.v.gs k)=(gB S k).v.gs:=by
  funext q;by_cases e:q=k
  ·rw [e,dY,QU]
  ·rw [upd_ne _ _ e]
 rw [this]
theorem ZJ (S:aD) (k:Nat) (h:aR S.v.aj k=false):qL (j4 (gB S k) k dO) k Ps.ground=gB S (k+1):=by
 unfold gB j4 qL upd;simp only [aD.mk.injEq,Pt.Vw.mk.injEq,and_true,true_and];refine⟨?_,?_⟩
 ·funext q;by_cases e:q=k
  ·subst e;rw [if_pos rfl,if_pos (by omega),if_neg (by rw [h];decide)]
  ·rw [if_neg e];by_cases c:q < k
   ·rw [if_pos c,if_pos (show q < k+1 by omega)]
   ·rw [if_neg c,if_neg (show ¬ q < k+1 by omega)]
 ·funext q;by_cases e:q=k
  ·subst e;rw [if_pos rfl,if_pos (by omega),if_neg (by rw [h];decide)]
  ·rw [if_neg e];by_cases c:q < k
   ·rw [if_pos c,if_pos (show q < k+1 by omega)]
   ·rw [if_neg c,if_neg (show ¬ q < k+1 by omega)]
def iq (X:Nat->Prop) (w:World) (S:aD) (L:Lay) (k:Nat) (wr:World):Prop:=∃ L',gZ X w L (gB S k) L' wr∧L'.l.co=L.l.co∧L'.l.its=L.l.its∧L'.l.cap=L.l.cap
theorem iq.below {w':World} (h:iq X w S L k wr) (e:Below wr.heap.size wr w'):iq X w S L k w':=by
 obtain⟨L',c,d⟩:=h;exact⟨L',c.later e,d⟩
theorem iq.cells (h:iq X w S L k wr):wr.cell? ⟨L.sb,0,none⟩=some (.slice L.l.co L.l.its.length L.l.cap)∧wr.cell? ⟨L.sb,55,none⟩=some (.int .i64 S.v.wide)∧wr.cell? ⟨L.sb,56,none⟩=some (.int .i64 S.v.high):=by
 obtain⟨_,c,f,i,j⟩:=h;have e:=c.ref.kJ;have d:=c.ref.sides;rw [c.sb,f,i,j] at e;rw [c.sb] at d;exact⟨e,d.1,d.2.1⟩
theorem iq.rd (h:iq X w S L k wr):aI wr L.l.co L.l.its:=by
 obtain⟨_,c,d,e,_⟩:=h;have:=c.ref.rd;rwa [d,e] at this
theorem iq.size (h:iq X w S L k wr):w.heap.size<=wr.heap.size:=by
 obtain⟨_,c,_⟩:=h;exact c.kp.size
theorem NG:(prog.info? 40).map (·.size)=some 4:=by kernel_rfl
theorem ado:(dD Ps.ground none 0).toArray.all (·.oneCell')=true:=by simp [Value.oneCell']
theorem Br {c:Bool} {A B:Prop} (h:c=true) (a:A):if c=true then A else B:=by rw [if_pos h];exact a
theorem aeI {B:Nat} {c:Rc} (d:wr.heap[B]?=some (Tl.fK c)) (r:Rc):((((wr.setCell ⟨B,0,none⟩ (.int .i64 r.row)).setCell ⟨B,1,none⟩ (.int .i64 r.col)).setCell ⟨B,2,none⟩ (.int .i64 r.high)).setCell ⟨B,3,none⟩ (.int .i64 r.wide)).heap[B]?=some (Tl.fK r):=by
 rw [bG (bG (bG (bG d _) _) _) _]
 rfl
theorem ae1 {d:World} (h:iq X w S L k d) (j:k < 6) (q:aR S.v.aj (k:Int)=false):d.there L.sb (1+k*9) 9∧(d.setCells L.sb (1+k*9) (bE dO none 0).toList).there L.sb (58+k*4) 4∧iq X w S L (k+1) ((d.setCells L.sb (1+k*9) (bE dO none 0).toList).setCells L.sb (58+k*4) (dD Ps.ground none 0)):=by
 obtain⟨L',c,p⟩:=h;have f:=OE c.ref k j dO none 0 (.inl rfl) (.inl ⟨rfl,rfl,rfl⟩);have n:=Uh f.ref k j Ps.ground none 0 Ps.rC (Ps.kP _ _);have i:=c.trans (f.trans n);have l:=c.ref.there (1+k*9) 9 (by omega);have m:=f.ref.there (58+k*4) 4 (by omega);rw [ZJ S k q] at i;have e:L'.sb=L.sb:=c.sb;have o:(zn L' k none 0).sb=L.sb:=c.sb;rw [o] at i m;rw [e] at l;exact⟨l,m,_,i,p⟩
def V3 (X:Nat->Prop) (w:World) (S:aD) (L:Lay) (k:Nat) (r:Rc) (t:Value) (wx:World):Prop:=∃ T,t=.pointer (some ⟨T,0,none⟩)∧wx.heap[T]?=some (Tl.fK r)∧iq X w S L k wx
structure Ij (X:Nat->Prop) (w:World) (S:aD) (L:Lay) (k:Nat) (x:Gr) (ao:Option Addr) (cap:Nat) (w5:World):Prop where
 there:w5.there L.sb (1+k*9) 9
 next:iq X w S L (k+1) (w5.setCells L.sb (1+k*9) (bE x ao cap).toList)
theorem ae2 {i d:World} (h:iq X w S L k i) (z:k < 6) (y:aR S.v.aj (k:Int)=true) {x:Gr} (p:x=sJ S.v k) (D:OkG x) {c:Nat} (B:aL d (some ⟨b,0,none⟩) x.n x.f) (E:i.heap.size<=b) (C:Below i.heap.size i d) (o:b < d.heap.size):Ij X w S L k x (some ⟨b,0,none⟩) c d:=by
 obtain⟨L',l,t⟩:=h;have A:=l.ref.xl;have m:=l.later C;have u:Gw X d (some ⟨b,0,none⟩) c x:=.inr ⟨b,rfl,B,o,fun e=>by have:=A b e;omega⟩;have r:=OE m.ref k z x (some ⟨b,0,none⟩) c (.inr D) u;have q:=m.ref.there (1+k*9) 9 (by omega);have j:=m.trans r;rw [p,QV S k y] at j;rw [l.sb] at j q;exact⟨q,zn L' k (some ⟨b,0,none⟩) c,by rw [p];exact j,t⟩
theorem ahW {c:Array Oper} {T:World->Prop} {d:Oper} {a:Act} (l:Region.wanted d (yielded c a.tmps)=true) (x:Operand) (f:d.op=.load 33 x) (b:Nat) (m:a.eval x=.pointer (some ⟨b,0,none⟩)) (g:Gr) (ao:Option Addr) (cap:Nat) (e:∀ w,T w->w.heap[b]?=some (aB g ao cap)):YieldsIf prog c T d (ay g ao cap) a:=
 yieldsIf_load_mid (P:=prog) l 33 x f b 0 m (bE g ao cap).toList _ (fun w h j v i=>by rw [Nat.zero_add,cell_of_row w b j _ _ _ (e w h)];simpa using i) underlying33 rfl Pt.nJ
theorem TT {n:Nat} {f:Nat->aH} (d:0 < n) (h:aL w (some ⟨b,0,none⟩) n f):b < w.heap.size:=by
 rcases h with h | ⟨j,i,e,c⟩
 ·omega
 ·simp only [Option.some.injEq,Addr.mk.injEq,and_true] at e;obtain⟨rfl,rfl⟩:=e;have:=(c 0 d).1;exact World.block_lt_of_cell? _ _ this
theorem JJ (X:Nat->Prop) (w:World) (S:aD) (L:Lay) (h:bJ X w S L):
  kC 12 #[.pointer (some ⟨L.sb,0,none⟩)] w fun e w'=>e=.returned (.tuple #[])∧∃ L',gZ X w L (gB S 6) L' w':=by
 have HS:=gH h;have ak:Hid (iq X w S L 0 w):=⟨L,by rw [ZL];exact gZ.refl h,rfl,rfl,rfl⟩;have kW:Hid (∀ (p:Int) k W,iq X w S L k W->kA 23 #[tval L.l.co L.l.its.length L.l.cap,.int .i64 p] W (.bool (aR S.v.aj p))):=fun p k W N=>Tl.pU L.l.its L.l.co L.l.cap p W N.rd h.few.1 h.few.2.2 _ (by rw [<-h.aj]);have ad:Hid (∀ (p:Int) k W,iq X w S L k W->kA 32 #[tval L.l.co L.l.its.length L.l.cap,.int .i64 S.v.wide,.int .i64 S.v.high,.int .i64 p] W (rval (S.v.place p))):=fun p k W N=>Tl.adD L.l.its L.l.co L.l.cap S.v.wide S.v.high p W N.rd h.few.1 h.few.2.1 _ (by rw [<-h.aj];rfl);have vw:=gH h.ok;have ag:=h.lt;clear h;go_enter func12,ntmps12;go_wp2;go_loopw [7] (fun i wr=>∃ k:Nat,k<=6∧i=.int .i64 k∧iq X w S L k wr) (fun i _=>6 - (intOf i).toNat)
 case atStart=>exact⟨0,by omega,rfl,ak.out⟩
 case round=>
  obtain⟨k,hk,rfl,hi⟩:=hrel;have Z:=gH hi;obtain⟨u,y,z⟩:=hi.cells;have xJ:L.sb < wr.heap.size:=Nat.lt_of_lt_of_le ag hi.size;clear hi;by_cases J:k < 6
  ·have aq:(k:Int) < 6:=(by omega);have ax:(0:Int)<=(k:Int):=(by omega);cases hh:aR S.v.aj (k:Int)
   ·have uW:Hid (kA 23 #[tval L.l.co L.l.its.length L.l.cap,.int .i64 k] wr (.bool false)):=(by rw [<-hh];exact kW.out k k wr Z.out);go_wp2_with (go_at_call 23;refine uW.out.mono ?_;rintro e m ⟨rfl,A⟩;have o:=gH (Z.out.below A);have ah:L.sb < m.heap.size:=Nat.lt_of_lt_of_le xJ A.size;clear A);obtain⟨q1,q2,q3⟩:=ae1 (o.out.below ((Below.refl _ _).drew)) J hh;have ae:=gH q1;have af:=gH q2;have uZ:=gH q3;clear q1 q2 q3 u y z;refine bg (fun _=>True) trivial (fun c=>?_);refine tk 0 c ?_;refine tk 1 c ?_;refine tk 2 c ?_;refine tk 3 c ?_;refine tk 4 c ?_;refine tk 5 c ?_;refine tk 6 c ?_;refine tk 7 c ?_;refine tk 8 c ?_;refine tk 9 c ?_;refine tk 11 c ?_;refine tk 12 c ?_;refine rA 10 fun K d=>?_;refine Br (by kernel_rfl) ?_;refine wp_store_mid 33 _ _ rfl L.sb (1+k*9) (bE dO none 0) rfl rfl ae.out Pt.nJ (gone _ _ _) ?_;refine d.out _ _ trivial (fun c=>?_);clear d K;generalize m.drew.setCells L.sb (1+k*9) (bE dO none 0).toList=W1 at*;refine pt ?_;refine tk 13 c ?_;refine rA 14 fun K d=>?_;refine Br (by kernel_rfl) ?_;refine wp_store_mid 40 _ _ rfl L.sb (58+k*4) ((dD Ps.ground none 0).toArray) rfl rfl af.out NG ado ?_;refine d.out _ _ trivial (fun c=>?_);clear d K;have H6:=uZ.out;generalize W1.setCells L.sb (58+k*4) (dD Ps.ground none 0).toArray.toList=W2 at*;refine pt ?_;refine dn ?_;clear uZ ae af;go_wp2;go_roundw
    case rel=>exact⟨k+1,by omega,by go_num,H6⟩
    case measure=>simp [intOf];omega
   ·have uW:Hid (kA 23 #[tval L.l.co L.l.its.length L.l.cap,.int .i64 k] wr (.bool true)):=(by rw [<-hh];exact kW.out k k wr Z.out);obtain⟨r,N⟩:∃ r,r=S.v.place (k:Int):=⟨_,rfl⟩;have G5:=gH N;have kX:Hid (∀ W,iq X w S L k W->kA 32 #[tval L.l.co L.l.its.length L.l.cap,.int .i64 S.v.wide,.int .i64 S.v.high,.int .i64 k] W (rval r)):=fun W h=>(by rw [N];exact ad.out k k W h);have HH:=gH hh;clear N hh ad kW;go_wp2_with (go_at_call 23;refine uW.out.mono ?_;rintro e m ⟨rfl,A⟩;have o:=gH (Z.out.below A);have ah:L.sb < m.heap.size:=Nat.lt_of_lt_of_le xJ A.size;clear A);clear u y z;obtain⟨u,y,z⟩:=o.out.cells;go_cut [3] from 31 to 48 (fun t3 wx=>V3 X w S L k r t3 wx)
    case first=>
     refine bg (fun w'=>w'.cell? ⟨L.sb,0,none⟩=some (.slice L.l.co L.l.its.length L.l.cap)∧w'.cell? ⟨L.sb,55,none⟩=some (.int .i64 S.v.wide)∧w'.cell? ⟨L.sb,56,none⟩=some (.int .i64 S.v.high)) ⟨u,y,z⟩ (fun c=>?_);refine tk 0 c ?_;refine tk 1 c ?_;refine tk 2 c ?_;refine tk 3 c ?_;refine tk 4 c ?_;refine tk 5 c ?_;refine tk 6 c ?_;refine tk 7 c ?_;refine tk 8 c ?_;refine tk 9 c ?_;refine tk 10 c ?_;refine tk 11 c ?_;refine tk 12 c ?_;refine tk 13 c ?_;refine tk 14 c ?_;refine tk 15 c ?_;refine rB 16 17 (fun K d=>?_) (fun K d=>?_)
     ·go_simp;go_at_call 32;refine(kX.out _ (o.out.below ((Below.refl _ _).drew))).mono ?_;rintro e Q ⟨rfl,H⟩;have q:=gH (o.out.below (jq H));clear H;obtain⟨u,y,z⟩:=q.out.cells
      (try go_simp)
      refine d.out _ _ ⟨u,y,z⟩ (fun c=>?_);clear d K;refine pt ?_;refine rA 17 fun K d=>?_;go_simp;obtain⟨u,y,z⟩:=(q.out.below (aM Q (Tl.fK Tl.dx))).cells;refine d.out _ _ ⟨u,y,z⟩ (fun c=>?_);clear d K;refine pt ?_;refine rA 18 fun K d=>?_;go_simp;obtain⟨u,y,z⟩:=(q.out.below (aM Q (Tl.fK r))).cells;refine d.out _ _ ⟨u,y,z⟩ (fun c=>?_);clear d K;refine pt ?_;refine dn ?_;go_wp2_with fail;go_meet;exact⟨Q.heap.size,rfl,at_new _ _,q.out.below (aM _ _)⟩
     ·go_simp;have ab:Hid (iq X w S L k (m.alloc (Tl.fK Tl.dx)).drew):=o.out.below ((aM m _).drew);obtain⟨u,y,z⟩:=ab.out.cells;refine d.out _ _ ⟨u,y,z⟩ (fun c=>?_);clear d K;refine pt ?_;refine rA 16 fun K d=>?_;go_simp;go_at_call 32;refine(kX.out _ ab.out).mono ?_;rintro e Q ⟨rfl,H⟩;have ou:Below (m.alloc (Tl.fK Tl.dx)).heap.size (m.alloc (Tl.fK Tl.dx)) Q:=jq H;have qo:Hid (Below m.heap.size m Q):=(aM m _).trans (ou.mono (by simp));have nT:Hid (Q.heap[m.heap.size]?=some (Tl.fK Tl.dx)):=aG ou (at_new _ _) (by simp);clear H ou;have q:=gH (o.out.below qo.out);obtain⟨u,y,z⟩:=q.out.cells
      (try go_simp)
      refine d.out _ _ ⟨u,y,z⟩ (fun c=>?_);clear d K;refine pt ?_;obtain⟨⟨t0,t1,t2,t3⟩,tf⟩:=four nT.out;have kg:Hid (iq X w S L k ((((Q.setCell ⟨m.heap.size,0,none⟩ (.int .i64 r.row)).setCell ⟨m.heap.size,1,none⟩ (.int .i64 r.col)).setCell ⟨m.heap.size,2,none⟩ (.int .i64 r.high)).setCell ⟨m.heap.size,3,none⟩ (.int .i64 r.wide))):=o.out.below ((((qo.out.setCell (p:=⟨m.heap.size,0,none⟩) (Nat.le_refl _) _).setCell (p:=⟨m.heap.size,1,none⟩) (Nat.le_refl _) _).setCell (p:=⟨m.heap.size,2,none⟩) (Nat.le_refl _) _).setCell (p:=⟨m.heap.size,3,none⟩) (Nat.le_refl _) _);refine rA 18 fun K d=>?_;go_simp;obtain⟨u,y,z⟩:=kg.out.cells;refine d.out _ _ ⟨u,y,z⟩ (fun c=>?_);clear d K;refine pt ?_;refine dn ?_;go_wp2_with fail;go_meet;exact⟨m.heap.size,rfl,aeI nT.out r,kg.out⟩
    case rest=>
     obtain⟨T,rfl,hT,U⟩:=hcut;have q:=gH U;have au:L.sb < wc.heap.size:=Nat.lt_of_lt_of_le ag U.size;clear U u y z Z o kX uW;obtain⟨⟨t0,t1,t2,t3⟩,tf⟩:=four hT;have ar:=(gQ hT).1;obtain⟨B,C⟩:∃ B,B=max r.wide 1:=⟨_,rfl⟩;obtain⟨D,Y⟩:∃ D,D=max r.high 1:=⟨_,rfl⟩;go_wp2_with fail;refine bg (fun w'=>w'.cell? ⟨T,3,none⟩=some (.int .i64 r.wide)∧w'.cell? ⟨T,2,none⟩=some (.int .i64 r.high)) ⟨t3,t2⟩ (fun c=>?_);refine tk 0 c ?_;refine tk 1 c ?_;refine tk 2 c ?_;refine tk 3 c ?_;refine tk 4 c ?_;refine tk 5 c ?_;refine tk 6 c ?_;refine tk 7 c ?_;refine dn ?_;rw [<-C, <-Y];obtain⟨L2,O,ap⟩:=q.out;have M8:(gB S k).v.gs k=S.v.gs k:=QU S k;have ai:Hid (∀ w',Below wc.heap.size wc w'->w'.rangeAt L.sb (1+k*9) (bE (S.v.gs k) (L2.l.ga k) (L2.l.gc k)).toList):=fun w' P=>by
      have:=(O.ref.below P).grid k J;rwa [O.sb,M8] at this
     have Vz:Hid (∀ w',Below wc.heap.size wc w'->aL w' (L2.l.ga k) (S.v.gs k).n (S.v.gs k).f):=fun w' P=>by
      have:=((O.ref.below P).gs k J).rd;rwa [M8] at this
     have Ea:=gH (vw.out.grid k J);obtain⟨x,hx⟩:∃ x,x=sJ S.v k:=⟨_,rfl⟩;have EH:Hid (x=nE (S.v.gs k) B D):=(by show x=_;rw [hx,C,Y,G5.out];rfl);have ac:Hid (OkG x):=by
      show OkG x;have hs:=Ou vw.out.w1 vw.out.w2 vw.out.h1 vw.out.h2 (k:Int);rw [EH.out,C,Y,G5.out];exact(Mr Ea.out (by simp only [iM,decide_eq_true_eq];omega)).1
     have K9:Hid (x=S.v.gs k->∀ W,iq X w S L k W->iq X w S L (k+1) W):=fun e W hW=>by
      obtain⟨L3,h3,h4⟩:=hW;exact⟨L3,by rw [<-ZK S k HH.out (by rw [<-hx,e])];exact h3,h4⟩
     have GK:Hid (∀ W j t E,iq X w S L k W->aL j (some ⟨t,0,none⟩) x.n x.f->W.heap.size<=t->Below W.heap.size W j->t < j.heap.size->Ij X w S L k x (some ⟨t,0,none⟩) E j):=fun W j t E F h2 h3 h4 h5=>ae2 F J HH.out hx ac.out h2 h3 h4 h5;clear O ap M8 hx t0 t1 t2 t3 tf hT;generalize S.v.gs k=G at*;generalize L2.l.ga k=ga at*;generalize L2.l.gc k=gc at*;have HG:Hid (wc.drew.rangeAt L.sb (1+k*9) (bE G ga gc).toList):=ai.out _ ((Below.refl _ _).drew);have KF:Hid (iq X w S L k (wc.alloc (aB G ga gc)).drew):=q.out.below ((aM wc _).drew);by_cases M:G.wide=0
     ·have am:(G.wide==0)=true:=(by simp [M]);have Ig:Hid (x=newG B D):=(by show x=_;rw [EH.out];unfold nE;rw [if_pos M]);clear M C Y;go_wp2_with (refine wpList_load_mid rfl 33 _ rfl L.sb (1+k*9) rfl (bE G ga gc).toList _ HG.out underlying33 rfl Pt.nJ ?_);generalize (wc.alloc (aB G ga gc)).drew=W0 at*;refine bg (fun _=>True) trivial (fun c=>?_);refine tk 0 c ?_;refine tk 1 c ?_;refine tk 2 c ?_;refine tk 3 c ?_;refine tk 5 c ?_;refine tk 6 c ?_;refine tk 7 c ?_;refine rA 4 fun K d=>?_;go_simp;go_at_call 33;refine(NW B D _ x Ig.out).mono ?_;rintro e j ⟨t,E,rfl,V,oW,I,vW⟩;have R:=gH (GK.out W0 j t E KF.out V.rd I (jq vW) V.lt);have ED:=gH R.out.there;clear V oW I vW
      (try go_simp)
      refine d.out _ _ trivial (fun c=>?_);clear d K;refine pt ?_;refine tk 8 c ?_;refine rA 9 fun K d=>?_;refine Br (by kernel_rfl) ?_;refine wp_store_mid 33 _ _ rfl L.sb (1+k*9) (bE x (some ⟨t,0,none⟩) E) rfl rfl ED.out Pt.nJ (gone _ _ _) ?_;refine d.out _ _ trivial (fun c=>?_);clear d K;have H6:=R.out.next;generalize j.setCells L.sb (1+k*9) (bE x (some ⟨t,0,none⟩) E).toList=W6 at*;refine pt ?_;refine dn ?_;clear R ED;go_wp2;go_roundw
      case rel=>exact⟨k+1,by omega,by go_num,H6⟩
      case measure=>simp [intOf];omega
     ·have am:(G.wide==0)=false:=(by simp [M]);have Em:Hid (OkG G):=Ea.out.resolve_left (fun e=>M (by rw [e];rfl));by_cases F:G.wide=B∧G.high=D
      ·have av:(G.wide !=B)=false:=(by simp [F.1]);have aw:(G.high !=D)=false:=(by simp [F.2]);have Le:Hid (x=G):=(by show x=_;rw [EH.out];unfold nE;rw [if_neg M,if_pos F]);clear M F C Y;go_wp2_with (refine wpList_load_mid rfl 33 _ rfl L.sb (1+k*9) rfl (bE G ga gc).toList _ HG.out underlying33 rfl Pt.nJ ?_);go_roundw
       case rel=>exact⟨k+1,by omega,by go_num,K9.out Le.out _ KF.out⟩
       case measure=>simp [intOf];omega
      ·have an:(G.wide !=B)=true∨((G.wide !=B)=false∧(G.high !=D)=true):=by
        by_cases e:G.wide=B
        ·right;exact⟨by simp [e],by simpa using fun e2=>F ⟨e,e2⟩⟩
        ·left;simpa using e
       have Le:Hid (x=Gg G B D):=(by show x=_;rw [EH.out];unfold nE;rw [if_neg M,if_neg F,if_pos ((iT G).2 Em.out)];rfl);have vv:Hid (∀ W,aL W ga G.n G.f->kC 34 #[ay G ga gc,.int .i64 B,.int .i64 D] W (Lm W (x,0))):=fun W N=>aeY G Em.out ga gc B D W N x Le.out;have Cb:Hid (∀ {W':World},Below (wc.alloc (aB G ga gc)).drew.heap.size (wc.alloc (aB G ga gc)).drew W'->aL W' ga G.n G.f):=fun P=>Vz.out _ (((aM wc _).drew).trans (P.mono (by simp)));have al:Hid (∀ j t,aL j (some ⟨t,0,none⟩) x.n x.f->t < j.heap.size):=fun j t h=>TT (A9 ac.out) h;have Bv:Hid ((wc.alloc (aB G ga gc)).drew.heap[wc.heap.size]?=some (aB G ga gc)):=at_new wc _;have yE:Hid (∀ (j:World) (cs:List Value),j.heap[wc.heap.size]?=some (aB G ga gc)->(j.setCells L.sb (1+k*9) cs).heap[wc.heap.size]?=some (aB G ga gc)):=fun j cs P=>by
        rw [(oI L.sb cs (1+k*9) j).block wc.heap.size (gQ P).1 (by omega)];exact P
       clear M F C Y;rcases an with e1 | ⟨e1,e2⟩
       all_goals (
        go_wp2_with (refine wpList_load_mid rfl 33 _ rfl L.sb (1+k*9) rfl (bE G ga gc).toList _ HG.out underlying33 rfl Pt.nJ ?_)
        generalize (wc.alloc (aB G ga gc)).drew=W0 at*
        generalize wc.heap.size=B6 at*
        refine bg (fun w'=>w'.heap[B6]?=some (aB G ga gc)) Bv.out (fun c=>?_)
        refine tk 0 c ?_
        refine tk 1 c ?_
        refine ty 2 rfl (ay G ga gc) (ahW (by rfl) _ rfl B6 rfl G ga gc (fun w0 h=>h)) c ?_
        refine tk 3 c ?_
        refine tk 4 c ?_
        refine tk 9 c ?_
        refine tk 10 c ?_
        refine tk 11 c ?_
        refine rA 5 fun K d=>?_
        go_simp
        go_at_call 34
        refine(vv.out _ (Cb.out ((Below.refl _ _).drew))).mono ?_
        rintro e j ⟨t,E,rfl,Nt,vW,I⟩
        have R:=gH (GK.out W0 j t E KF.out Nt I (jq vW) (al.out j t Nt))
        have ED:=gH R.out.there
        have aa:Hid (j.heap[B6]?=some (aB G ga gc)):=aG (jq vW) Bv.out (gQ Bv.out).1
        have jL:Hid ((j.setCells L.sb (1+k*9) (bE x (some ⟨t,0,none⟩) E).toList).heap[B6]?=some (aB G ga gc)):=yE.out j _ aa.out
        clear Nt I vW
        (try go_simp)
        refine d.out _ _ aa.out (fun c=>?_)
        clear d K
        refine pt ?_
        refine tk 6 c ?_
        refine tk 7 c ?_
        refine tk 8 c ?_
        refine tk 12 c ?_
        refine rA 13 fun K d=>?_
        refine Br (by kernel_rfl) ?_
        refine wp_store_mid 33 _ _ rfl L.sb (1+k*9) (bE x (some ⟨t,0,none⟩) E) rfl rfl ED.out Pt.nJ (gone _ _ _) ?_
        refine d.out _ _ jL.out (fun c=>?_)
        clear d K
        have H6:=R.out.next
        generalize j.setCells L.sb (1+k*9) (bE x (some ⟨t,0,none⟩) E).toList=W6 at*
        refine pt ?_
        refine dn ?_
        clear R ED
        go_wp2
        go_roundw
        case rel=>exact⟨k+1,by omega,by go_num,H6⟩
        case measure=>simp [intOf];omega)
  ·obtain rfl:k=6:=(by omega);clear u y z;go_wp2;go_end0;obtain⟨L',F,_⟩:=Z.out;exact⟨rfl,L',F⟩
open Go.Proofs.YtkcdcamophkdlaaGreatDoor.Pt (Vw jg bP)
variable (X0:Nat->Prop) (a b s:Nat) {w:World}
theorem ae7 {X:Nat->Prop} {a b s:Nat} (d:w.heap[a]?=some qb) (e:w.heap[b]?=some (uE a)) (m:w.heap[s]?=some (rW gD (newL a b s))) (c:X s) (l:∀ b,X b->b < w.heap.size):bJ X w gD (newL a b s):=by
 refine⟨Ph,m,c,rfl,⟨?_,?_⟩,⟨?_,?_⟩,fun p _=>.inl ⟨rfl,rfl,rfl⟩,fun p _=>Ps.kP _ _,l⟩
 ·intro x c;simp only [newL,List.mem_singleton] at c;subst c;refine⟨.inr ⟨a,0,rfl,fun j f=>?_⟩,fun h=>by cases h⟩;have:j=0:=(by simpa using f);subst this;exact cell_of_row w a 0 _ _ _ d
 ·refine .inr ⟨b,0,rfl,fun k i=>?_⟩;have:k=0:=(by simpa [newL] using i);subst this;exact cell_of_row w b 0 _ _ _ e
 ·intro x c;cases c;exact⟨_,e⟩
 ·intro x c y n;simp only [newL,List.mem_singleton] at c;subst c;cases n;exact⟨_,d⟩
theorem afG (w:World):(Instr.build 44 #[(0,.agg (bP gD.v (newL a b s).l))]).run prog w=.ok (.agg (wu gD (newL a b s))) w:=by
 simp only [Instr.build,Sem.run_bind,zeroValue44,Result.andThen_ok]
 kernel_rfl
theorem ahS {d:Array Oper} {c:List Oper} {f:Oper} {e:Act} {Q:Exit->Act->World->Prop} (j:f.guard=none) (m:Operand) (o:f.op=.build 44 #[(0,m)]) (n:e.eval m=.agg (bP gD.v (newL a b s).l)) (h:wpList prog d Q c (e.put f.dst (.agg (wu gD (newL a b s)))) w):wpList prog d Q (f::c) e w:=
 Pt.J5 j (by
  have p:((#[(0,m)]:Array (Nat×Operand)).map fun(i,x)=>(i,e.eval x))=#[(0,.agg (bP gD.v (newL a b s).l))]:=by simp [n]
  unfold execOp
  simp only [o,p,Sem.run_bind,afG a b s,Result.andThen_ok,Sem.run_pure]) h
theorem ae8 (w:World) (a b s:Nat) (c:a=w.heap.size) (d:b=w.heap.size+1) (j:s=w.heap.size+2) (h:∀ b,X0 b->b < w.heap.size):bJ (fun i=>X0 i∨i=s) (((w.alloc qb).alloc (uE a)).alloc (rW gD (newL a b s))) gD (newL a b s):=by
 subst c;subst d;subst j;refine ae7 (aF (aF (at_new w _) _) _) (aF ?_ _) ?_ (.inr rfl) ?_
 ·have:=at_new (w.alloc qb) (uE w.heap.size);simpa using this
 ·have:=at_new ((w.alloc qb).alloc (uE w.heap.size)) (rW gD (newL w.heap.size (w.heap.size+1) (w.heap.size+2)));simpa using this
 ·intro i f;have l:(((w.alloc qb).alloc (uE w.heap.size)).alloc (rW gD (newL w.heap.size (w.heap.size+1) (w.heap.size+2)))).heap.size=w.heap.size+3:=(by simp);rw [l];rcases f with e | e
  ·have:=h i e;omega
  ·omega
theorem ae6 (w:World) (o:∀ b,X0 b->b < w.heap.size):kC 5 #[] w fun e w'=>∃ L,e=.returned (.pointer (some ⟨L.sb,0,none⟩))∧bJ (fun i=>X0 i∨i=L.sb) w' newS L∧w.heap.size<=L.sb∧Below w.heap.size w w':=by
 have y:Hid (bJ (fun i=>X0 i∨i=w.heap.size+2) (((w.alloc qb).alloc (uE w.heap.size)).alloc (rW gD (newL w.heap.size (w.heap.size+1) (w.heap.size+2)))) gD (newL w.heap.size (w.heap.size+1) (w.heap.size+2))):=ae8 X0 w _ _ _ rfl rfl rfl o;have v:Hid (∀ p q r:Obj,Below w.heap.size w (((w.alloc p).alloc q).alloc r)):=fun p q r=>((aM _ _).alloc (by simp) _).alloc (by simp;omega) _;have x:Hid (∀ W,bJ (fun i=>X0 i∨i=w.heap.size+2) W gD (newL w.heap.size (w.heap.size+1) (w.heap.size+2))->Below w.heap.size w W->kC 12 #[.pointer (some ⟨w.heap.size+2,0,none⟩)] W fun e w'=>e=.returned (.tuple #[])∧∃ L,L.sb=w.heap.size+2∧bJ (fun i=>X0 i∨i=L.sb) w' newS L∧Below w.heap.size w w'):=fun W z d=>by
  refine(JJ _ W gD _ z).mono ?_;rintro e w' ⟨rfl,L',c⟩;have:=d.size;have j:L'.sb=w.heap.size+2:=c.sb;refine⟨rfl,L',j,?_,⟨c.kp.os.trans d.os,c.kp.tape.trans d.tape,c.kp.output.trans d.output,Nat.le_trans d.size c.kp.size,fun i A=>?_⟩⟩
  ·rw [j,acd, <-Mq (S:=gD) Ph.t (fun _ _ _=>rfl) (fun _ _ _=>rfl)];exact c.ref
  ·rw [c.kp.block i (by omega) (fun e=>by have:i=w.heap.size+2:=e;omega),d.block i A]
 clear o;go_enter func5,ntmps5
 go_wp2_with (first
  | (refine Vh w.heap.size (w.heap.size+1) (w.heap.size+2) rfl _ _ _ rfl rfl rfl rfl ?_)
  | (refine ahS w.heap.size (w.heap.size+1) (w.heap.size+2) rfl _ rfl rfl ?_)
  | (go_at_call 12;refine(x.out _ y.out (v.out _ _ _)).mono ?_;rintro e u ⟨rfl,h,l,m,n⟩;have f:Hid (h.sb=w.heap.size+2∧bJ (fun i=>X0 i∨i=h.sb) u newS h∧Below w.heap.size w u):=⟨l,m,n⟩;clear l m n))
 go_ret;exact⟨h,by rw [f.out.1];rfl,f.out.2.1,by rw [f.out.1];omega,f.out.2.2⟩
end Go.Proofs.YtkcdcamophkdlaaGreatDoor.Sv
