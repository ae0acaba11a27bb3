import Derived.Test.YtkcdcamophkdlaaGreatDoorAU
import Derived.Test.YtkcdcamophkdlaaGreatDoorAV
set_option maxHeartbeats 8000000
set_option maxRecDepth 100000
open Go.Proofs.Tryz
namespace Go.Proofs.YtkcdcamophkdlaaGreatDoor.Sv
open Go.RowKit
open Go.Proofs.YtkcdcamophkdlaaGreatDoor.Tl (ak aI dK bn)
variable {S:aD} {w:World} {L:Lay}
theorem oI (B:Nat):∀ (a:List Value) (o:Nat) (w:World),Kp (fun b=>b=B) w (w.setCells B o a)
 | [],_,_=>Kp.refl _ _
 | v::r,o,w=>(jF w B o v).trans (oI B r (o+1) _) (fun _ e=>.inl e)
@[reducible] def j4 (S:aD) (p:Nat) (g:Gr):aD:={S with v:={S.v with gs:=upd S.v.gs p g}}
@[reducible] def zn (L:Lay) (p:Nat) (ao:Option Addr) (cap:Nat):Lay:={L with l:={L.l with ga:=upd L.l.ga p ao,gc:=upd L.l.gc p cap}}
@[reducible] def qL (S:aD) (p:Nat) (s:Ps.PS):aD:={S with ps:=upd S.ps p s}
@[reducible] def Dk (L:Lay) (p:Nat) (ao:Option Addr) (cap:Nat):Lay:={L with pa:=upd L.pa p ao,pc:=upd L.pc p cap}
theorem adS (h:aS w S L) (p:Nat) (b:p < 6) (g:Gr) (ao:Option Addr) (cap:Nat):(w.setCells L.sb (1+p*9) (bE g ao cap).toList).heap[L.sb]?=some (lK (j4 S p g) (zn L p ao cap)):=by
 simp only [World.setCells];rw [bG (bG (bG (bG (bG (bG (bG (bG (bG h.box _) _) _) _) _) _) _) _) _];have a:p=0∨p=1∨p=2∨p=3∨p=4∨p=5:=by omega
 refine congrArg (fun c=>some (Obj.cells c 58 (0,0))) ?_;rcases a with rfl | rfl | rfl | rfl | rfl | rfl <;>kernel_rfl
theorem adV (h:aS w S L) (p:Nat) (b:p < 6) (s:Ps.PS) (ao:Option Addr) (cap:Nat):(w.setCells L.sb (58+p*4) (dD s ao cap)).heap[L.sb]?=some (lK (qL S p s) (Dk L p ao cap)):=by
 simp only [World.setCells];rw [bG (bG (bG (bG h.box _) _) _) _];have a:p=0∨p=1∨p=2∨p=3∨p=4∨p=5:=by omega
 refine congrArg (fun c=>some (Obj.cells c 58 (0,0))) ?_;rcases a with rfl | rfl | rfl | rfl | rfl | rfl <;>kernel_rfl
theorem Vb (h:lq S) (p:Nat) (g:Gr) (a:g=dO∨OkG g):lq (j4 S p g):=by
 refine⟨h.t,h.w1,h.w2,h.h1,h.h2,fun q b=>?_,h.par,h.cl⟩;by_cases e:q=p
 ·show upd S.v.gs p g q=dO∨OkG (upd S.v.gs p g q);rw [e,dY];exact a
 ·show upd S.v.gs p g q=dO∨OkG (upd S.v.gs p g q);rw [upd_ne _ _ e];exact h.grid q b
theorem Vd (h:lq S) (p:Nat) (s:Ps.PS) (b:Ps.GoodS s):lq (qL S p s):=by
 refine⟨h.t,h.w1,h.w2,h.h1,h.h2,h.grid,fun q a=>?_,h.cl⟩;by_cases e:q=p
 ·show Ps.GoodS (upd S.ps p s q);rw [e,dY];exact b
 ·show Ps.GoodS (upd S.ps p s q);rw [upd_ne _ _ e];exact h.par q a
theorem IX (h:aS w S L) (p:Nat) (f:p < 6) (g:Gr) (ao:Option Addr) (cap:Nat) (b:g=dO∨OkG g) (d:Gl w ao cap g):aY w S L (j4 S p g) (zn L p ao cap) (w.setCells L.sb (1+p*9) (bE g ao cap).toList):=by
 have a:=oI L.sb (bE g ao cap).toList (1+p*9) w;refine⟨Dw h a rfl (Vb h.ok p g b) (adS h p f g ao cap) h.aj h.rd h.ty (fun q j=>?_) h.ps h.cl h.apart,rfl,a.sb,fun i _ m=>.inl ⟨m,rfl⟩⟩;show Gl w (upd L.l.ga p ao q) (upd L.l.gc p cap q) (upd S.v.gs p g q);by_cases e:q=p
 ·rw [e,dY,dY,dY];exact d
 ·rw [upd_ne _ _ e,upd_ne _ _ e,upd_ne _ _ e];exact h.gs q j
theorem Tq (h:aS w S L) (p:Nat) (f:p < 6) (s:Ps.PS) (ao:Option Addr) (cap:Nat) (a:Ps.GoodS s) (d:Pl w ao cap s.ps):aY w S L (qL S p s) (Dk L p ao cap) (w.setCells L.sb (58+p*4) (dD s ao cap)):=by
 have b:=oI L.sb (dD s ao cap) (58+p*4) w;refine⟨Dw h b rfl (Vd h.ok p s a) (adV h p f s ao cap) h.aj h.rd h.ty h.gs (fun q g=>?_) h.cl h.apart,rfl,b.sb,fun i _ a=>.inl ⟨a,rfl⟩⟩;show Pl w (upd L.pa p ao q) (upd L.pc p cap q) (upd S.ps p s q).ps;by_cases e:q=p
 ·rw [e,dY,dY,dY];exact d
 ·rw [upd_ne _ _ e,upd_ne _ _ e,upd_ne _ _ e];exact h.ps q g
theorem adW (h:aS w S L) (aj:List (List Int)) (b:Option Addr) (cap:Nat) (a:List bn):(w.setCell ⟨L.sb,0,none⟩ (.slice b a.length cap)).heap[L.sb]?=some (lK {S with v:={S.v with aj:=aj}} {L with l:={L.l with co:=b,cap:=cap,its:=a}}):=by
 rw [bG h.box]
 rfl
theorem UM (h:aS w S L) (aj:List (List Int)) (b:Option Addr) (cap:Nat) (a:List bn) (g:Tl.eY aj) (e:aj=ak a) (j:aI w b a) (m:dK w b a):aY w S L {S with v:={S.v with aj:=aj}} {L with l:={L.l with co:=b,cap:=cap,its:=a}} (w.setCell ⟨L.sb,0,none⟩ (.slice b a.length cap)):=by
 have d:=jF w L.sb 0 (.slice b a.length cap);exact⟨Dw h d rfl ⟨g,h.ok.w1,h.ok.w2,h.ok.h1,h.ok.h2,h.ok.grid,h.ok.par,h.ok.cl⟩ (adW h aj b cap a) e j m h.gs h.ps h.cl h.apart,rfl,d.sb,fun i _ f=>.inl ⟨f,rfl⟩⟩
theorem QX (h:aS w S L) (p:Int):aY w S L {S with v:={S.v with focus:=p}} L (w.setCell ⟨L.sb,57,none⟩ (.int .i64 p)):=
 Gp h (jF w L.sb _ _) ⟨h.ok.t,h.ok.w1,h.ok.w2,h.ok.h1,h.ok.h2,h.ok.grid,h.ok.par,h.ok.cl⟩ (TQ h p) rfl rfl rfl rfl
theorem adX (h:aS w S L) (n:Int):(w.setCell ⟨L.sb,55,none⟩ (.int .i64 n)).heap[L.sb]?=some (lK {S with v:={S.v with wide:=n}} L):=by
 rw [bG h.box]
 rfl
theorem adT (h:aS w S L) (n:Int):(w.setCell ⟨L.sb,56,none⟩ (.int .i64 n)).heap[L.sb]?=some (lK {S with v:={S.v with high:=n}} L):=by
 rw [bG h.box]
 rfl
theorem agq (h:aS w S L) (n m:Int) (a:iM n m=true):aY w S L {S with v:={S.v with wide:=n,high:=m}} L ((w.setCell ⟨L.sb,55,none⟩ (.int .i64 n)).setCell ⟨L.sb,56,none⟩ (.int .i64 m)):=by
 simp only [iM,decide_eq_true_eq] at a;have b:aY w S L {S with v:={S.v with wide:=n}} L (w.setCell ⟨L.sb,55,none⟩ (.int .i64 n)):=Gp h (jF w L.sb _ _) ⟨h.ok.t,a.1,a.2.1,h.ok.h1,h.ok.h2,h.ok.grid,h.ok.par,h.ok.cl⟩ (adX h n) rfl rfl rfl rfl;exact b.trans (Gp b.bO (jF _ L.sb _ _) ⟨h.ok.t,a.1,a.2.1,a.2.2.1,a.2.2.2,h.ok.grid,h.ok.par,h.ok.cl⟩ (adT b.bO m) rfl rfl rfl rfl)
open Go.Proofs.YtkcdcamophkdlaaGreatDoor.Tl (ak aI dK bn tval aR Rc rval)
variable (r:Rc) {w wr w4:World} {S:aD} {L:Lay} {l c:List Int} {B P cap k:Nat} {c0:Rc} {x:Gr} {ao:Option Addr} {aj:List (List Int)}
def nD (v:Pt.Vw) (l:List Int):Pt.Vw:={v with gs:=fun p=>if (p:Int)∈l then sJ v p else v.gs p}
@[reducible] def xE (S:aD) (l:List Int):aD:={S with v:=nD S.v l}
theorem ZH (v:Pt.Vw):nD v []=v:=by simp [nD]
theorem ZG {v:Pt.Vw}:nD v v.aj.flatten=jR v:=by
 unfold nD jR;congr 1;funext p;by_cases h:(p:Int)∈v.aj.flatten
 ·rw [if_pos h,if_pos (Tl.qC.2 h)]
 ·rw [if_neg h,if_neg (fun e=>h (Tl.qC.1 e))]
theorem ZI (v:Pt.Vw) (l:List Int) (p:Nat) (a:(p:Int) ∉ l):j4 ⟨nD v l,fun _=>Ps.ground,fun _=>none,0⟩ p (nE ((nD v l).gs p) (max (v.place p).wide 1) (max (v.place p).high 1))=⟨nD v (l++[(p:Int)]),fun _=>Ps.ground,fun _=>none,0⟩:=by
 unfold j4 nD upd;simp only [aD.mk.injEq,Pt.Vw.mk.injEq,and_true,true_and];funext q;by_cases e:q=p
 ·subst e;rw [if_pos rfl,if_neg a,if_pos (by simp)]
  rfl
 ·rw [if_neg e];have:((q:Int)∈l++[(p:Int)])↔(q:Int)∈l:=by
   simp only [List.mem_append,List.mem_singleton];exact⟨fun h=>h.elim id (fun h=>absurd (by omega) e),.inl⟩
  simp only [this]
def iO (w:World) (S:aD) (L:Lay) (l:List Int) (wr:World):Prop:=∃ L',aY w S L (xE S l) L' wr∧L'.l.co=L.l.co∧L'.l.its=L.l.its∧L'.l.cap=L.l.cap
theorem iO.below {w':World} (h:iO w S L l wr) (e:Below wr.heap.size wr w'):iO w S L l w':=by
 obtain⟨a,b,d⟩:=h;exact⟨a,b.later e,d⟩
theorem iO.cells (h:iO w S L l wr):wr.cell? ⟨L.sb,0,none⟩=some (.slice L.l.co L.l.its.length L.l.cap)∧wr.cell? ⟨L.sb,55,none⟩=some (.int .i64 S.v.wide)∧wr.cell? ⟨L.sb,56,none⟩=some (.int .i64 S.v.high):=by
 obtain⟨_,a,e,f,g⟩:=h;have d:=a.bO.kJ;have b:=a.bO.sides;rw [a.sb,e,f,g] at d;rw [a.sb] at b;exact⟨d,b.1,b.2.1⟩
theorem iO.rd (h:iO w S L l wr):aI wr L.l.co L.l.its:=by
 obtain⟨_,a,b,d,_⟩:=h;have:=a.bO.rd;rwa [b,d] at this
theorem iO.size (h:iO w S L l wr):w.heap.size<=wr.heap.size:=by
 obtain⟨_,a,_⟩:=h;exact a.kp.size
theorem JH:¬ nU 88:=by unfold nU;decide
theorem iO.JG (h:iO w S L l wr) (b:wr.heap[B]?=some (Tl.fK c0)) (a:w.heap.size<=B) (u0 u1 u2 u3:Value):iO w S L l ((((wr.setCell ⟨B,0,none⟩ u0).setCell ⟨B,1,none⟩ u1).setCell ⟨B,2,none⟩ u2).setCell ⟨B,3,none⟩ u3):=by
 obtain⟨d,e,f⟩:=h;exact⟨d,(((e.set b JH a 0 u0).set (bG b u0) JH a 1 u1).set (bG (bG b u0) u1) JH a 2 u2).set (bG (bG (bG b u0) u1) u2) JH a 3 u3,f⟩
theorem aeH (a:wr.heap[B]?=some (Tl.fK c0)) (r:Rc):((((wr.setCell ⟨B,0,none⟩ (.int .i64 r.row)).setCell ⟨B,1,none⟩ (.int .i64 r.col)).setCell ⟨B,2,none⟩ (.int .i64 r.high)).setCell ⟨B,3,none⟩ (.int .i64 r.wide)).heap[B]?=some (Tl.fK r):=by
 rw [bG (bG (bG (bG a _) _) _) _]
 rfl
def Vt (w:World) (S:aD) (L:Lay) (l:List Int) (r:Rc) (t:Value) (wx:World):Prop:=∃ T,t=.pointer (some ⟨T,0,none⟩)∧wx.heap[T]?=some (Tl.fK r)∧iO w S L l wx
structure DW (w:World) (S:aD) (L:Lay) (l:List Int) (P:Nat) (x:Gr) (ao:Option Addr) (cap:Nat) (w4:World):Prop where
 there:w4.there L.sb (1+P*9) 9
 next:iO w S L (l++[(P:Int)]) (w4.setCells L.sb (1+P*9) (bE x ao cap).toList)
 other:∀ (T:Nat) (r:Rc) (j:Nat) (u:Value),w4.heap[T]?=some (Tl.fK r)->(Tl.pz r)[j]?=some u->(w4.setCells L.sb (1+P*9) (bE x ao cap).toList).cell? ⟨T,j,none⟩=some u
theorem DW.JG (h:DW w S L l P x ao cap w4) {T:Nat} {r:Rc} {j:Nat} {u:Value} (a:w4.heap[T]?=some (Tl.fK r)) (b:(Tl.pz r)[j]?=some u):(w4.setCells L.sb (1+P*9) (bE x ao cap).toList).cell? ⟨T,j,none⟩=some u:=h.other T r j u a b
theorem aeJ:(Tl.pz r)[3]?=some (.int .i64 r.wide):=rfl
theorem aeG:(Tl.pz r)[2]?=some (.int .i64 r.high):=rfl
theorem ZN (S:aD) (l:List Int) (p:Nat) (a:(p:Int) ∉ l):j4 (xE S l) p (nE ((nD S.v l).gs p) (max (S.v.place p).wide 1) (max (S.v.place p).high 1))=xE S (l++[(p:Int)]):=by
 have h:=ZI S.v l p a;simp only [j4,aD.mk.injEq,and_true] at h;unfold xE j4;rw [<-h]
theorem ZM {d:Lay} (o:x=nE ((nD S.v l).gs P) (max (S.v.place P).wide 1) (max (S.v.place P).high 1)∧OkG x) (s:P < 6) (q:Gl w4 ao cap x) (h:aY w S L (xE S l) d w4∧d.l.co=L.l.co∧d.l.its=L.l.its∧d.l.cap=L.l.cap) (i:(P:Int) ∉ l):DW w S L l P x ao cap w4:=by
 obtain⟨b,p⟩:=h;have n:=IX b.bO P s x ao cap (.inr o.2) q;rw [b.sb] at n;refine⟨by have:=b.bO.there (1+P*9) 9 (by omega);rwa [b.sb] at this,⟨zn d P ao cap,?_,p⟩,fun T r j u m t=>?_⟩
 ·rw [<-ZN S l P i, <-o.1];exact b.trans n
 ·have g:T≠L.sb:=fun e=>by
   have f:=b.bO.box;rw [b.sb, <-e,m] at f;simp only [Option.some.injEq,Obj.cells.injEq] at f;exact absurd f.2.1 (by decide)
  rw [World.cell?_of_block (a:=⟨T,j,none⟩) ((oI L.sb _ _ w4).block T (gQ m).1 g),cell_of_row w4 T j _ _ _ m];exact t
theorem fM {c:Bool} {A B:Prop} (h:c=true) (a:A):if c=true then A else B:=by rw [if_pos h];exact a
theorem ag9 (h:aj[k]?=some c):(aj.take (k+1)).flatten=(aj.take k).flatten++c:=by
 have:k < aj.length:=(gL h).1;rw [List.take_add_one,h];simp
theorem acU (n:Tl.eY aj) {m:Nat} (h:aj[k]?=some c) (j:m < c.length):c[m] ∉ (aj.take k).flatten++c.take m:=by
 have f:=n.once;have d:k < aj.length:=(gL h).1;have i:aj[k]=c:=by simpa [d] using h
 rw [Cz aj k d,List.flatten_append,List.flatten_cons,i, <-List.append_assoc] at f;have b:=(List.nodup_append.1 f).1;have e:(aj.take k).flatten++c=((aj.take k).flatten++c.take m)++c[m]::c.drop (m+1):=by
  conv=>lhs;rw [Cz c m j]
  rw [List.append_assoc]
 rw [e] at b;have g:=List.nodup_append.1 b;intro a;exact g.2.2 _ a _ (List.mem_cons_self ..) rfl
theorem Fa (w:World) (S:aD) (L:Lay) (h:aS w S L):
  kC 11 #[.pointer (some ⟨L.sb,0,none⟩)] w fun e z=>e=.returned (.tuple #[])∧∃ L',aY w S L {S with v:=jR S.v} L' z:=by
 have HS:=gH h;have aa:Hid (iO w S L [] w):=⟨L,by rw [show xE S []=S by unfold xE;rw [ZH]];exact aY.refl h,rfl,rfl,rfl⟩;have wI:Hid (∀ wr,iO w S L S.v.aj.flatten wr->∃ L',aY w S L {S with v:=jR S.v} L' wr):=fun wr ⟨L',h1,_⟩=>⟨L',by rw [<-ZG];exact h1⟩;have av:L.l.its.length<=6:=by
  have h6:=Tl.sM h.ok.t;rw [h.aj] at h6;simpa using h6
 have D7:Hid (S.v.aj=ak L.l.its∧Tl.eY S.v.aj∧S.v.aj.length=L.l.its.length):=⟨h.aj,h.ok.t,by rw [h.aj];simp⟩;obtain⟨co,D⟩:∃ co,co=L.l.co:=⟨_,rfl⟩;have qP:=gH D;have VR:Hid (∀ (p:Int) W l,iO w S L l W->kA 30 #[tval co L.l.its.length L.l.cap,.int .i64 S.v.wide,.int .i64 S.v.high,.int .i64 p] W (rval (S.v.place p))):=fun p W l N=>by rw [D];exact Tl.U7 L.l.its L.l.co L.l.cap S.v.wide S.v.high p W N.rd h.few.1 h.few.2 _ (by rw [<-h.aj];rfl)
 have U:Hid (∀ l W,iO w S L l W->W.cell? ⟨L.sb,0,none⟩=some (.slice co L.l.its.length L.l.cap)∧W.cell? ⟨L.sb,55,none⟩=some (.int .i64 S.v.wide)∧W.cell? ⟨L.sb,56,none⟩=some (.int .i64 S.v.high)):=fun l W N=>by rw [D];exact N.cells
 have lT:Hid (∀ l W,iO w S L l W->aI W co L.l.its):=fun l W N=>by rw [D];exact N.rd
 have vw:=gH h.ok;obtain⟨j,n,o⟩:=U.out [] w aa.out;have an:=(gQ h.box).1;clear h D;go_enter func11,ntmps11;go_wp2;go_loopw [17] (fun i wr=>∃ k:Nat,k<=L.l.its.length∧i=.int .i64 k∧iO w S L (S.v.aj.take k).flatten wr) (fun i _=>L.l.its.length - (intOf i).toNat)
 case atStart=>exact⟨0,Nat.zero_le _,rfl,by simpa using aa.out⟩
 case round=>
  obtain⟨k,hk,rfl,Z⟩:=hrel;have KG:=gH Z;clear Z j n o;by_cases E:k < L.l.its.length
  ·have au:(k:Int) < (L.l.its.length:Int):=(by omega);have az:(0:Int)<=(k:Int):=(by omega);obtain⟨b,ag,rfl,R⟩:=(lT.out _ _ KG.out).row.resolve_left (by intro e;rw [e] at E;simp at E);have u:=R k E;obtain⟨x,O⟩:∃ x,x=L.l.its[k]:=⟨_,rfl⟩;rw [<-O] at u;have HX:Hid (x∈L.l.its∧S.v.aj[k]?=some x.1):=⟨by rw [O];exact List.getElem_mem E,by rw [D7.out.1,O];simp [E]⟩;have aq:x.1.length<=3:=(D7.out.2.1.kI x.1 (List.mem_of_getElem? HX.out.2)).2;obtain⟨C,xo,xc⟩:=x;simp only [Tl.cv] at u aq;clear R O;go_wp2;go_loopw [23] (fun i ar=>∃ m:Nat,m<=C.length∧i=.int .i64 m∧iO w S L ((S.v.aj.take k).flatten++C.take m) ar) (fun i _=>C.length - (intOf i).toNat)
   case atStart=>exact⟨0,Nat.zero_le _,rfl,by simpa using KG.out⟩
   case round=>
    obtain⟨m,hm,rfl,Z⟩:=hrel;rename_i Pm wr;obtain⟨l,hl⟩:∃ l,l=(S.v.aj.take k).flatten++C.take m:=⟨_,rfl⟩;rw [<-hl] at Z;have HL:=gH hl;have F:=gH Z;clear Z hl u;by_cases y:m < C.length
    ·have aw:(m:Int) < (C.length:Int):=(by omega);have aA:(0:Int)<=(m:Int):=(by omega);obtain⟨xb,xf,af,Y⟩:=(((lT.out _ _ F.out).each _ HX.out.1).1).resolve_left (by intro e;simp only at e;rw [e] at y;simp at y);simp only at af Y;subst af;have ap:=Y m y;obtain⟨q,hq⟩:∃ q,q=C.getD m 0:=⟨_,rfl⟩;rw [<-hq] at ap;have M:q=C[m]:=(by rw [hq];simp [y]);have ae:0<=q∧q < 6:=vU D7.out.2.1 (Tl.qC.2 (List.mem_flatten.2 ⟨C,List.mem_of_getElem? HX.out.2,by rw [M];exact List.getElem_mem y⟩));obtain⟨P,rfl⟩:=Int.eq_ofNat_of_zero_le ae.1;have qB:P < 6:=(by omega);have MP:(P:Int) < 6:=(by omega);have jU:(0:Int)<=(P:Int):=(by omega);have ai:Hid ((P:Int) ∉ l):=(by rw [HL.out];show (P:Int) ∉ _;rw [M];exact acU D7.out.2.1 HX.out.2 y);have dF:Hid (l++[(P:Int)]=(S.v.aj.take k).flatten++C.take (m+1)):=by
      show l++[(P:Int)]=_;rw [HL.out,M,List.append_assoc,List.take_add_one,List.getElem?_eq_getElem y]
      rfl
     obtain⟨r,N⟩:∃ r,r=S.v.place P:=⟨_,rfl⟩;have G5:=gH N;have kX:Hid (∀ W,iO w S L l W->kA 30 #[tval (some ⟨b,ag,none⟩) L.l.its.length L.l.cap,.int .i64 S.v.wide,.int .i64 S.v.high,.int .i64 P] W (rval r)):=fun W h=>(by rw [N];exact VR.out P W l h);obtain⟨j,n,o⟩:=U.out l wr F.out;have xJ:L.sb < wr.heap.size:=Nat.lt_of_lt_of_le an F.out.size;clear Y hq M ae N;go_wp2_with fail;go_cut [7] from 27 to 40 (fun t7 wx=>Vt w S L l r t7 wx)
     case first=>
      refine bg (fun z=>z.cell? ⟨L.sb,0,none⟩=some (.slice (some ⟨b,ag,none⟩) L.l.its.length L.l.cap)∧z.cell? ⟨L.sb,55,none⟩=some (.int .i64 S.v.wide)∧z.cell? ⟨L.sb,56,none⟩=some (.int .i64 S.v.high)) ⟨j,n,o⟩ (fun a=>?_);refine tk 0 a ?_;refine tk 1 a ?_;refine tk 2 a ?_;refine tk 3 a ?_;refine tk 4 a ?_;refine tk 5 a ?_;refine tk 6 a ?_;refine tk 7 a ?_;refine tk 8 a ?_;refine tk 9 a ?_;refine tk 10 a ?_;refine tk 11 a ?_;refine tk 12 a ?_;refine rB 13 14 (fun K d=>?_) (fun K d=>?_)
      ·go_simp;go_at_call 30;refine(kX.out _ (F.out.below ((Below.refl _ _).drew))).mono ?_;rintro e V ⟨rfl,J⟩;have s:=gH (F.out.below (jq J));obtain⟨j,n,o⟩:=U.out _ _ s.out
       (try go_simp)
       refine d.out _ _ ⟨j,n,o⟩ (fun a=>?_);clear d K;refine pt ?_;refine rA 14 fun K d=>?_;go_simp;obtain⟨j,n,o⟩:=U.out _ _ (s.out.below (aM V (Tl.fK Tl.dx)));refine d.out _ _ ⟨j,n,o⟩ (fun a=>?_);clear d K;refine pt ?_;refine rA 15 fun K d=>?_;go_simp;obtain⟨j,n,o⟩:=U.out _ _ (s.out.below (aM V (Tl.fK r)));refine d.out _ _ ⟨j,n,o⟩ (fun a=>?_);clear d K;refine pt ?_;refine dn ?_;go_wp2_with fail;go_meet;exact⟨V.heap.size,rfl,at_new _ _,s.out.below (aM _ _)⟩
      ·go_simp;have ab:Hid (iO w S L l (wr.alloc (Tl.fK Tl.dx)).drew):=F.out.below ((aM wr _).drew);obtain⟨j,n,o⟩:=U.out _ _ ab.out;refine d.out _ _ ⟨j,n,o⟩ (fun a=>?_);clear d K;refine pt ?_;refine rA 13 fun K d=>?_;go_simp;go_at_call 30;refine(kX.out _ ab.out).mono ?_;rintro e V ⟨rfl,J⟩;have Rm:Below (wr.alloc (Tl.fK Tl.dx)).heap.size (wr.alloc (Tl.fK Tl.dx)) V:=jq J;have s:Hid (iO w S L l V):=F.out.below ((aM wr _).trans (Rm.mono (by simp)));have X:Hid (V.heap[wr.heap.size]?=some (Tl.fK Tl.dx)):=aG Rm (at_new _ _) (by simp);clear J;obtain⟨j,n,o⟩:=U.out _ _ s.out
       (try go_simp)
       refine d.out _ _ ⟨j,n,o⟩ (fun a=>?_);clear d K;refine pt ?_;obtain⟨⟨t0,t1,t2,t3⟩,tf⟩:=four X.out;have f:Hid (iO w S L l ((((V.setCell ⟨wr.heap.size,0,none⟩ (.int .i64 r.row)).setCell ⟨wr.heap.size,1,none⟩ (.int .i64 r.col)).setCell ⟨wr.heap.size,2,none⟩ (.int .i64 r.high)).setCell ⟨wr.heap.size,3,none⟩ (.int .i64 r.wide))):=s.out.JG X.out (F.out.size) _ _ _ _;refine rA 15 fun K d=>?_;go_simp;obtain⟨j,n,o⟩:=U.out _ _ f.out;refine d.out _ _ ⟨j,n,o⟩ (fun a=>?_);clear d K;refine pt ?_;refine dn ?_;go_wp2_with fail;go_meet;exact⟨wr.heap.size,rfl,aeH X.out r,f.out⟩
     case rest=>
      obtain⟨T,rfl,hT,A,g,ad⟩:=hcut;have HT:=gH hT;have HM:Hid (aY w S L (xE S l) A wc∧A.l.co=L.l.co∧A.l.its=L.l.its∧A.l.cap=L.l.cap):=⟨g,ad⟩;have ah:=gH (g.bO.gs P qB);have HG:Hid (∀ z,Below wc.heap.size wc z->z.rangeAt L.sb (1+P*9) (bE ((nD S.v l).gs P) (A.l.ga P) (A.l.gc P)).toList):=fun z hb=>by
       have:=(g.bO.below hb).grid P qB;rwa [g.sb] at this
      obtain⟨⟨t0,t1,t2,t3⟩,tf⟩:=four hT;obtain⟨x,O⟩:∃ x,x=nE ((nD S.v l).gs P) (max (S.v.place P).wide 1) (max (S.v.place P).high 1):=⟨_,rfl⟩;have Ih:Hid (x=nE ((nD S.v l).gs P) (max (S.v.place P).wide 1) (max (S.v.place P).high 1)∧OkG x):=by
       refine⟨O,?_⟩;have hs:=Ou vw.out.w1 vw.out.w2 vw.out.h1 vw.out.h2 (P:Int);rw [O];exact(Mr (g.bO.ok.grid P qB) (by simp only [iM,decide_eq_true_eq];omega)).1
      have uU:Hid (∀ W,Gl W (A.l.ga P) (A.l.gc P) ((nD S.v l).gs P)->kC 31 #[ay ((nD S.v l).gs P) (A.l.ga P) (A.l.gc P),.int .i64 (max r.wide 1),.int .i64 (max r.high 1)] W fun e z=>∃ aK Q,e=.returned (ay x aK Q)∧Gl z aK Q x∧Below W.heap.size W z):=fun W hl=>(by rw [G5.out];exact ZO _ _ _ (g.bO.ok.grid P qB) _ _ W hl x O);have GK:Hid (∀ w4 H I,Gl w4 H I x->aY w S L (xE S l) A w4->DW w S L l P x H I w4):=fun w4 H I h1 h2=>ZM Ih.out qB h1 ⟨h2,HM.out.2⟩ ai.out;have ax:=(gQ hT).1;clear Ih;have Da:L.sb < wc.heap.size:=(by have:=g.kp.size;omega);generalize A.l.ga P=ga at*;generalize A.l.gc P=gc at*;generalize (nD S.v l).gs P=G at*;clear hT g ad O j n o F kX;go_wp2_with fail;refine bg (fun z=>z.cell? ⟨T,3,none⟩=some (.int .i64 r.wide)∧z.cell? ⟨T,2,none⟩=some (.int .i64 r.high)) ⟨t3,t2⟩ (fun a=>?_);refine tk 0 a ?_;refine tk 1 a ?_;refine tk 2 a ?_;refine tk 3 a ?_;refine tk 4 a ?_;refine tk 5 a ?_;refine tk 6 a ?_;refine tk 8 a ?_;refine tk 9 a ?_;refine tk 10 a ?_;refine tk 11 a ?_;refine tk 12 a ?_;refine tk 13 a ?_;refine tk 15 a ?_;refine tk 16 a ?_;refine rA 7 fun K d=>?_;refine fM (by kernel_rfl) ?_;refine wp_load_mid 33 _ rfl L.sb (1+P*9) rfl (bE G ga gc).toList _ (HG.out _ ((Below.refl _ _).drew)) underlying33 rfl Pt.nJ ?_;refine d.out _ _ ⟨t3,t2⟩ (fun a=>?_);clear d K;refine pt ?_;refine rA 14 fun K d=>?_;go_simp;go_at_call 31;refine(uU.out _ (ah.out.below ((Below.refl _ _).drew))).mono ?_;rintro e w4 ⟨H,I,rfl,am,ac⟩;have f:Hid (DW w S L l P x H I w4):=GK.out w4 H I am (HM.out.1.later (jq ac));have I7:=aG (jq ac) HT.out (gQ HT.out).1;obtain⟨⟨t0,t1,t2,t3⟩,tf⟩:=four I7
      (try go_simp)
      refine d.out _ _ ⟨t3,t2⟩ (fun a=>?_);clear d K;refine pt ?_;refine tk 17 a ?_;refine rA 18 fun K d=>?_;refine fM (by kernel_rfl) ?_;refine wp_store_mid 33 _ _ rfl L.sb (1+P*9) (bE x H I) rfl rfl f.out.there Pt.nJ (gone _ _ _) ?_;refine d.out _ _ ⟨f.out.JG I7 (aeJ r),f.out.JG I7 (aeG r)⟩ (fun a=>?_);clear d K;refine pt ?_;refine dn ?_;have GY:Hid (iO w S L ((S.v.aj.take k).flatten++C.take (m+1)) (w4.setCells L.sb (1+P*9) (bE x H I).toList)):=(by rw [<-dF.out];exact f.out.next);clear f I7 t0 t1 t2 t3 tf;generalize w4.setCells L.sb (1+P*9) (bE x H I).toList=w5 at*;go_wp2;go_roundw
      case rel=>exact⟨m+1,by omega,by go_num,GY.out⟩
      case measure=>simp [intOf];omega
    ·have al:(C.length:Int)<=(m:Int):=(by omega);have HE:Hid (l=(S.v.aj.take (k+1)).flatten):=by
      show l=_;rw [HL.out,ag9 HX.out.2,List.take_of_length_le (l:=C) (by omega)]
     go_wp2_with fail;go_roundw
     case rel=>exact⟨k+1,by omega,by go_num,by rw [<-HE.out];exact F.out⟩
     case measure=>simp [intOf];omega
  ·have al:(L.l.its.length:Int)<=(k:Int):=(by omega);have HE:Hid ((S.v.aj.take k).flatten=S.v.aj.flatten):=by
    show (S.v.aj.take k).flatten=_;rw [List.take_of_length_le (by have:=D7.out.2.2;omega)]
   go_wp2;go_end0;exact⟨rfl,wI.out _ (by rw [<-HE.out];exact KG.out)⟩
open Go.Proofs.YtkcdcamophkdlaaGreatDoor.Tl (ak aI dK bn tval aT aR dP)
variable {w:World} {S:aD} {L:Lay}
theorem aeW (wide high:Int) (w:World) (S:aD) (L:Lay) (h:aS w S L):
  kC 44 #[.pointer (some ⟨L.sb,0,none⟩),.int .i64 wide,.int .i64 high] w fun e q=>e=.returned (.int .i64 (iK S wide high).2)∧∃ o,aY w S L (iK S wide high).1 o q:=by
 have n:=gH h;cases a:iM wide high
 ·have d:Hid (∀ w,kD 73 #[.int .i64 wide,.int .i64 high] w (.bool false)):=fun w=>(by rw [<-a];exact CU wide high w);have b:Hid (iK S wide high=(S,1)):=(by show iK S wide high=_;unfold iK;rw [a];rfl);clear h a;go_enter func44,ntmps44;go_wp2_with (go_at_call 73;refine(d.out _).mono ?_;rintro e g ⟨rfl,f⟩;subst g);go_ret;rw [b.out];exact⟨rfl,L,aY.refl n.out⟩
 ·have d:Hid (∀ w,kD 73 #[.int .i64 wide,.int .i64 high] w (.bool true)):=fun w=>(by rw [<-a];exact CU wide high w);have b:Hid (iK S wide high=({S with v:=jR {S.v with wide:=wide,high:=high}},0)):=(by show iK S wide high=_;unfold iK;rw [a];rfl);have i:=gH (agq h wide high a);obtain⟨_,_,_⟩:=h.sides;have:=h.frozen;have:=(gQ h.box).1;clear h a;go_enter func44,ntmps44
  go_wp2_with (first
   | (go_at_call 73;refine(d.out _).mono ?_;rintro e g ⟨rfl,f⟩;subst g)
   | (go_at_call 11;refine(Fa _ {S with v:={S.v with wide:=wide,high:=high}} L i.out.bO).mono ?_;rintro e _ ⟨rfl,p,j⟩;have m:=gH (i.out.trans j);clear j))
  go_ret;rw [b.out];exact⟨rfl,p,m.out⟩
theorem adl {e:World} (h:aS w S L) (g:Below w.heap.size w e) {aj:List (List Int)} {b:Option Addr} {cap:Nat} {a:List bn} (j:Tl.eY aj) (i:ak a=aj) (d:aI e b a∧dK e b a) (n:Int) (o:Obj):
  aY w S L {S with v:={S.v with aj:=aj,focus:=n}} {L with l:={L.l with co:=b,cap:=cap,its:=a}} (((e.setCell ⟨L.sb,0,none⟩ (.slice b a.length cap)).setCell ⟨L.sb,57,none⟩ (.int .i64 n)).alloc o):=by
 have f:=UM (h.below g) aj b cap a j i.symm d.1 d.2;exact(aY.from g (f.trans (QX f.bO n))).later (aM _ _)
theorem aeN (h:aS w S L) {B:Nat} {r:Rp} (a:w.heap[B]?=some (bA r)):¬ qx S L B:=h.other a (by decide) (by decide)
theorem agM (p:Int) (right:Bool) (w:World) (S:aD) (L:Lay) (h:aS w S L):
  kC 19 #[.pointer (some ⟨L.sb,0,none⟩),.int .i64 p,.bool right] w fun e w'=>e=.returned (eF (iX S p right).2)∧∃ L',aY w S L (iX S p right).1 L' w':=by
 have s:=gH h;have HB:Hid (∀ o:Obj,Below w.heap.size w (w.alloc o)):=fun o=>aM w o;obtain⟨n,y⟩:∃ n,n=fU S.v.aj:=⟨_,rfl⟩;have T:Hid (∀ w,aS w S L->kA 38 #[.pointer (some ⟨L.sb,0,none⟩)] w (.int .i64 n)):=fun w h=>by rw [y];exact ahr w S L h
 by_cases z:n=6
 ·have H:Hid (iX S p right=(S,err 5)):=(by show iX S p right=_;unfold iX;rw [<-y,if_pos z]);subst z;clear h y;go_enter func19,ntmps19;go_wp2_with (go_at_call 38;refine(T.out _ (s.out.alloc _)).mono ?_;rintro e j ⟨rfl,b⟩;have a:Hid (Below w.heap.size w j∧j.heap[w.heap.size]?=some (bA (err 0))):=⟨vO b,aG b (at_new w _) (by simp)⟩;obtain⟨⟨_,O,G⟩,_⟩:=three a.out.2;clear b);refine bodyPost_ret (v:=eF (err 5)) (by simp [results,results19,go_sem, *];exact⟨rfl,rfl,rfl⟩) rfl ?_;rw [H.out];exact⟨rfl,L,((aY.refl s.out).later a.out.1).reply a.out.2 (Nat.le_refl _) _ _ _⟩
 ·obtain⟨r,A⟩:∃ r,r=dP S.v.aj p n right:=⟨_,rfl⟩;have FE:n < 6:=(by rw [y] at z ⊢;exact(U1 z).1);have e6:((n:Int)==6)=false:=(by simp;omega);have Y:Hid (∀ w,aS w S L->kC 39 #[tval L.l.co L.l.its.length L.l.cap,.int .i64 p,.int .i64 n,.bool right] w (Tl.jy w r)):=fun w h=>Tl.agD L.l.its L.l.co L.l.cap p n right w h.rd h.few.1 h.few.2 r (by rw [A,h.aj]);obtain⟨O,G⟩:=r;have HR:=gH A;have C:Hid (∀ j g:World,Below (w.alloc (bA (err 0))).heap.size (w.alloc (bA (err 0))) j->Below j.heap.size j g->Below w.heap.size w g∧g.heap[w.heap.size]?=some (bA (err 0))):=fun j g h1 h2=>by
   have E:=h1.trans (h2.mono h1.size);exact⟨vO E,aG E (at_new w _) (by simp)⟩
  by_cases F:G=0
  ·have M:fU S.v.aj≠6:=(by rw [<-y];exact z);have H:Hid (iX S p right=({S with v:=jR {S.v with aj:=O,focus:=n}},⟨0,n,[]⟩)):=by
    show iX S p right=_;unfold iX;rw [if_neg M, <-y, <-A,if_pos F]
   have iF:Hid (Tl.eY O):=by
    have:=(JV h.ok.t (p:=p) (n:=n) (right:=right) (by rw [<-A];exact F)).1;rwa [<-A] at this
   have I:Hid (∀ g:World,g.heap[w.heap.size]?=some (bA (err 0))->∀ (u v:Value) (o:Obj),(((g.setCell ⟨L.sb,0,none⟩ u).setCell ⟨L.sb,57,none⟩ v).alloc o).heap[w.heap.size]?=some (bA (err 0))):=fun g hw u v o=>by
    have ab:=(gQ h.box).1;refine aF ?_ o;rw [Below.heap_setCell _ _ _ _ (by simp;omega),Below.heap_setCell _ _ _ _ (by simp;omega)];exact hw
   subst F;clear h y A M z;go_enter func19,ntmps19
   go_wp2_with (first
    | (go_at_call 38;refine(T.out _ (s.out.alloc _)).mono ?_;rintro e j ⟨rfl,b⟩;have a:=gH b;have d:=(s.out.alloc (bA (err 0))).below b;have D:=d.kJ;have K:=(gQ d.box).1;clear d b)
    | (go_at_call 39;refine(Y.out _ ((s.out.alloc (bA (err 0))).below a.out)).mono ?_;rintro e g ⟨Q,U,N,rfl,J,Z,m⟩;have f:Hid (ak N=O∧(aI g Q N∧dK g Q N)∧Below j.heap.size j g):=⟨J,Z,m⟩;have i:=((s.out.alloc (bA (err 0))).below a.out).below m;have X:=i.kJ;have W:=i.sides.2.2;have V:=i.frozen;have aa:=(gQ i.box).1;clear i J Z m D)
    | (go_at_call 11;have q:=adl s.out (vO (a.out.trans (f.out.2.2.mono a.out.size))) iF.out f.out.1 f.out.2.1 (cap:=U) n (aT Q N.length U);refine(Fa _ _ _ q.bO).mono ?_;rintro e w3 ⟨rfl,L3,E⟩;have R:Hid (aY w S L {S with v:=jR {S.v with aj:=O,focus:=n}} L3 w3∧w3.heap[w.heap.size]?=some (bA (err 0))):=⟨q.trans E,E.kp.at (I.out g (C.out j g a.out f.out.2.2).2 _ _ _) (aeN q.bO (I.out g (C.out j g a.out f.out.2.2).2 _ _ _))⟩;obtain⟨⟨q0,q1,q2⟩,qf⟩:=three R.out.2;clear q E X W V))
   refine bodyPost_ret (v:=eF ⟨0,n,[]⟩) (by simp [results,results19,go_sem, *]) rfl ?_;rw [H.out];exact⟨rfl,L3,R.out.1.reply R.out.2 (Nat.le_refl _) _ _ _⟩
  ·have M:fU S.v.aj≠6:=(by rw [<-y];exact z);have H:Hid (iX S p right=(S,err G)):=by
    show iX S p right=_;unfold iX;rw [if_neg M, <-y, <-A,if_neg F]
   have e2:(G !=0)=true:=(by simpa using F);clear h y A M z F;go_enter func19,ntmps19
   go_wp2_with (first
    | (go_at_call 38;refine(T.out _ (s.out.alloc _)).mono ?_;rintro e j ⟨rfl,b⟩;have a:=gH b;have d:=(s.out.alloc (bA (err 0))).below b;have D:=d.kJ;have K:=(gQ d.box).1;clear d b)
    | (go_at_call 39;refine(Y.out _ ((s.out.alloc (bA (err 0))).below a.out)).mono ?_;rintro e g ⟨Q,U,N,rfl,_,_,m⟩;have f:=gH (C.out j g a.out m);obtain⟨⟨q0,q1,q2⟩,qf⟩:=three f.out.2;have xJ:=(gQ f.out.2).1;clear m D))
   refine bodyPost_ret (v:=eF (err G)) (by simp [results,results19,go_sem, *];exact⟨rfl,rfl,rfl⟩) rfl ?_;rw [H.out];have q:=((aY.refl s.out).later f.out.1).reply f.out.2 (Nat.le_refl _) (.int .i64 G) (.int .i64 0) (.string ⟨#[]⟩);exact⟨rfl,L,q.later (aM _ _)⟩
open Go.Proofs.YtkcdcamophkdlaaGreatDoor.Tl (ak aI dK bn tval aT aR dS)
theorem Jk:(prog.info? 40).map (·.size)=some 4:=by kernel_rfl
theorem Ov (s:Ps.PS) (ao:Option Addr) (cap:Nat):(dD s ao cap).toArray.all (·.oneCell')=true:=by simp [Value.oneCell']
theorem cell0 {w:World} {b:Nat} {c0:Value} {t:TypeId} (h:w.heap[b]?=some (.cells #[c0] t (0,0))):w.cell? ⟨b,0,none⟩=some c0:=cell_of_row w b 0 _ t _ h
@[reducible] def ME (S:aD) (aj:List (List Int)) (P:Nat):aD:={S with v:={S.v with aj:=aj,gs:=upd S.v.gs P dO},ps:=upd S.ps P Ps.ground}
structure PU (w:World) (S:aD) (L:Lay) (aj:List (List Int)) (P TB:Nat) (co:Option Addr) (cap:Nat) (its:List bn) (wr:World):Prop where
 there:∀ w',Below wr.heap.size wr w'->w'.there L.sb (1+P*9) 9
 ahf:∀ w',Below wr.heap.size wr w'->(w'.setCells L.sb (1+P*9) (bE dO none 0).toList).there L.sb (58+P*4) 4
 next:∀ w',Below wr.heap.size wr w'->∃ L',aY w S L (ME S aj P) L' ((w'.setCells L.sb (1+P*9) (bE dO none 0).toList).setCells L.sb (58+P*4) (dD Ps.ground none 0))∧L'.l.co=co∧L'.l.its=its∧
  ((w'.setCells L.sb (1+P*9) (bE dO none 0).toList).setCells L.sb (58+P*4) (dD Ps.ground none 0)).heap[TB]?=some (aT co its.length cap)
theorem abJ {w e:World} {S:aD} {L:Lay} (h:aS w S L) (o:Below w.heap.size w e) {aj:List (List Int)} {d:Option Addr} {cap:Nat} {a:List bn} (u:Tl.eY aj) (t:ak a=aj) (g:aI e d a∧dK e d a) {P:Nat} (n:P < 6):
  PU w S L aj P e.heap.size d cap a ((e.setCell ⟨L.sb,0,none⟩ (.slice d a.length cap)).alloc (aT d a.length cap)):=by
 have q:=UM (h.below o) aj d cap a u t.symm g.1 g.2;have j:=(aY.from o q).later (aM _ (aT d a.length cap));have i:((e.setCell ⟨L.sb,0,none⟩ (.slice d a.length cap)).alloc (aT d a.length cap)).heap[e.heap.size]?=some (aT d a.length cap):=by
  have:=at_new (e.setCell ⟨L.sb,0,none⟩ (.slice d a.length cap)) (aT d a.length cap);simpa using this
 have f:e.heap.size≠L.sb:=by
  have:=(gQ (h.below o).box).1;omega
 refine⟨fun p b=>(j.bO.below b).there _ _ (by omega),fun p b=>?_,fun p b=>?_⟩
 ·have m:=IX (j.bO.below b) P n dO none 0 (.inl rfl) (.inl ⟨rfl,rfl,rfl⟩);exact m.bO.there (58+P*4) 4 (by omega)
 ·have m:=IX (j.bO.below b) P n dO none 0 (.inl rfl) (.inl ⟨rfl,rfl,rfl⟩);have s:=Tq m.bO P n Ps.ground none 0 Ps.rC (World.ownsRow_nil _ _ _ _);refine⟨_,(j.later b).trans (m.trans s),rfl,rfl,?_⟩;rw [(oI L.sb _ _ _).block e.heap.size ?_ f,(oI L.sb _ _ _).block e.heap.size ?_ f]
  ·exact aG b i (gQ i).1
  ·have:=(gQ i).1;have:=b.size;omega
  ·have:=(oI L.sb (bE dO none 0).toList (1+P*9) p).size;have:=(gQ i).1;have:=b.size;omega
theorem abP (p:Int) (w:World) (S:aD) (L:Lay) (h:aS w S L):
  kC 41 #[.pointer (some ⟨L.sb,0,none⟩),.int .i64 p] w fun e w'=>e=.returned (.int .i64 (iH S p).2)∧∃ M,aY w S L (iH S p).1 M w':=by
 have J:Hid (aS w S L):=h;have ht:=h.kJ;have af:=(gQ h.box).1;obtain⟨r,C⟩:∃ r,r=dS S.v.aj p:=⟨_,rfl⟩;have I:Hid (∀ w,aS w S L->kC 71 #[tval L.l.co L.l.its.length L.l.cap,.int .i64 p] w (Tl.jy w r)):=fun w h=>Tl.abD L.l.its L.l.co L.l.cap p w h.rd h.few.1 h.few.2 r (by rw [C,h.aj]);obtain⟨j,r2⟩:=r;by_cases G:r2=0
 ·have hk:=FV h.ok.t (p:=p) (by rw [<-C];exact G);rw [<-C] at hk;have W:=hk.1;have hp:=hk.2.1;clear hk;obtain⟨p1,p2⟩:=vU h.ok.t hp;obtain⟨P,rfl⟩:=Int.eq_ofNat_of_zero_le p1;have qB:P < 6:=(by omega);have MP:(P:Int) < 6:=(by omega);have jU:(0:Int)<=(P:Int):=(by omega);have Y:Hid (iH S (P:Int)=({S with v:=jR {S.v with aj:=j,gs:=upd S.v.gs P dO,focus:=if S.v.focus=(P:Int) then firstT j else S.v.focus},ps:=upd S.ps P Ps.ground},0)):=by
   show iH S _=_;unfold iH;rw [<-C,if_pos G,Int.toNat_natCast]
  have iF:Hid (Tl.eY j):=W;have hs:=h.sides.2.2;have hf:=h.frozen;subst G;clear h C hp p1 p2 W;go_enter func41,ntmps41;go_wp2_with (go_at_call 71;refine(I.out _ J.out).mono ?_;rintro e D ⟨m,u,f,rfl,A,FI,d⟩;have n:Hid (ak f=j∧Below w.heap.size w D):=⟨A,d⟩;have X:Hid (PU w S L j P D.heap.size m u f ((D.setCell ⟨L.sb,0,none⟩ (.slice m f.length u)).alloc (aT m f.length u))):=abJ J.out d iF.out A FI qB;have g:=J.out.below d;have ah:=g.kJ;have ac:=g.frozen;have T:=(gQ g.box).1;clear g A FI d ht hs hf);generalize CY:D.heap.size=TB at*;generalize (D.setCell ⟨L.sb,0,none⟩ (.slice m f.length u)).alloc (aT m f.length u)=W5 at*;clear CY ah ac T;have q:Below W5.heap.size W5 W5.drew:=(Below.refl _ _).drew;have Au:Hid (W5.drew.there L.sb (1+P*9) 9):=X.out.there W5.drew q;have GY:Hid (∃ M,aY w S L (ME S j P) M ((W5.drew.setCells L.sb (1+P*9) (bE dO none 0).toList).setCells L.sb (58+P*4) (dD Ps.ground none 0).toArray.toList)∧M.l.co=m∧M.l.its=f∧((W5.drew.setCells L.sb (1+P*9) (bE dO none 0).toList).setCells L.sb (58+P*4) (dD Ps.ground none 0).toArray.toList).heap[TB]?=some (aT m f.length u)):=X.out.next W5.drew q;have Av:Hid ((W5.drew.setCells L.sb (1+P*9) (bE dO none 0).toList).there L.sb (58+P*4) 4):=X.out.ahf W5.drew q;refine bg (fun _=>True) trivial (fun a=>?_);refine tk 0 a ?_;refine tk 1 a ?_;refine tk 2 a ?_;refine tk 3 a ?_;refine tk 4 a ?_;refine tk 5 a ?_;refine tk 6 a ?_;refine tk 7 a ?_;refine tk 8 a ?_;refine tk 9 a ?_;refine tk 11 a ?_;refine tk 12 a ?_;refine rA 10 fun K Q=>?_;refine fM (by kernel_rfl) ?_;refine wp_store_mid 33 _ _ rfl L.sb (1+P*9) (bE dO none 0) rfl rfl Au.out Pt.nJ (gone _ _ _) ?_;refine Q.out _ _ trivial (fun a=>?_);clear Q K;generalize W5.drew.setCells L.sb (1+P*9) (bE dO none 0).toList=W55 at*;refine pt ?_;refine tk 13 a ?_;refine rA 14 fun K Q=>?_;refine fM (by kernel_rfl) ?_;refine wp_store_mid 40 _ _ rfl L.sb (58+P*4) (dD Ps.ground none 0).toArray rfl rfl Av.out Jk (Ov _ _ _) ?_;refine Q.out _ _ trivial (fun a=>?_);clear Q K;generalize W55.setCells L.sb (58+P*4) (dD Ps.ground none 0).toArray.toList=W6 at*;refine pt ?_;refine dn ?_;obtain⟨L6,o,MX,Nb,H⟩:=GY.out;clear GY;have y:Hid (aY w S L (ME S j P) L6 W6∧L6.l.co=m∧L6.l.its=f∧W6.heap[TB]?=some (aT m f.length u)):=⟨o,MX,Nb,H⟩;have ag:=o.bO.sides.2.2;have ad:=o.bO.frozen;rw [o.sb] at ag ad;have Nh:L.sb < W6.heap.size:=Nat.lt_of_lt_of_le af o.kp.size;have an:=cell0 H;have ab:TB≠L.sb:=fun e=>by
   have hb:=o.bO.box;rw [o.sb, <-e,H] at hb;simp only [Option.some.injEq,Obj.cells.injEq] at hb;exact absurd hb.2.1 (by decide)
  have al:L.sb≠TB:=fun e=>ab e.symm;have ai:=(gQ H).1
  -- the first of the ajd that are left
  have b:0 < f.length:=by
   have:=iF.out.some;rw [<-n.out.1] at this;simpa using this
  have Z:=o.bO.rd;rw [MX,Nb] at Z;obtain⟨b6,o6,aa,RD⟩:=Z.row.resolve_left (by intro e;rw [e] at b;simp at b);have Nv:=RD 0 b;obtain⟨E,s⟩:∃ x,x=f[0]:=⟨_,rfl⟩;rw [<-s] at Nv;have RL:E∈f:=(by rw [s];exact List.getElem_mem b);have NA:j[0]?=some E.1:=(by rw [<-n.out.1,s];simp [b]);have Ji:1<=E.1.length:=(iF.out.kI E.1 (List.mem_of_getElem? NA)).1;obtain⟨b7,o7,V,U⟩:=((Z.each E RL).1).resolve_left (by intro e;rw [e] at Ji;simp at Ji);have M6:=U 0 Ji;have R:E.1.getD 0 0=firstT j:=by
   unfold firstT;simp [List.getD,NA]
  rw [R] at M6;obtain⟨xl,xo,xc⟩:=E;simp only [Tl.cv] at Nv V Ji;subst V;subst aa;rw [Nat.add_zero] at M6 Nv;obtain⟨F,hF⟩:∃ F,F=firstT j:=⟨_,rfl⟩;rw [<-hF] at M6;have mF:Hid (F=firstT j):=hF;have ae:(0:Int) < (f.length:Int):=(by omega);have am:(0:Int) < (xl.length:Int):=(by omega);clear Z RD RL NA U R hF o MX Nb H q Au Av X s;by_cases i:S.v.focus=(P:Int)
  ·have e1:(S.v.focus==(P:Int))=true:=(by simpa using i);have Ca:Hid (S.v.focus=(P:Int)):=i;clear i;go_wp2_with (go_at_call 11;have h7:=QX y.out.1.bO F;rw [y.out.1.sb] at h7;have z:=Fa _ _ _ h7.bO;rw [y.out.1.sb] at z;refine z.mono ?_;rintro e w9 ⟨rfl,N,O⟩;have HE:Hid (aY w S L {S with v:=jR {S.v with aj:=j,gs:=upd S.v.gs P dO,focus:=F},ps:=upd S.ps P Ps.ground} N w9):=(y.out.1.trans h7).trans O;clear h7 z O);go_ret;rw [Y.out,if_pos Ca.out, <-mF.out];exact⟨rfl,N,HE.out⟩
  ·have e1:(S.v.focus==(P:Int))=false:=(by simpa using i);have Ca:Hid (¬ S.v.focus=(P:Int)):=i;clear i;go_wp2_with (go_at_call 11;have z:=Fa _ _ _ y.out.1.bO;rw [y.out.1.sb] at z;refine z.mono ?_;rintro e w9 ⟨rfl,N,O⟩;have HE:Hid (aY w S L {S with v:=jR {S.v with aj:=j,gs:=upd S.v.gs P dO},ps:=upd S.ps P Ps.ground} N w9):=y.out.1.trans O;clear z O);go_ret;rw [Y.out,if_neg Ca.out];exact⟨rfl,N,HE.out⟩
 ·have Y:Hid (iH S p=(S,r2)):=by
   show iH S p=_;unfold iH;rw [<-C,if_neg G]
  have e2:(r2 !=0)=true:=(by simpa using G);clear h C G;go_enter func41,ntmps41;go_wp2_with (go_at_call 71;refine(I.out _ J.out).mono ?_;rintro e D ⟨m,u,f,rfl,_,_,d⟩;have n:Hid (Below w.heap.size w D):=d;clear d);go_ret;rw [Y.out];exact⟨rfl,L,((aY.refl J.out).later n.out).later (aM _ _)⟩
end Go.Proofs.YtkcdcamophkdlaaGreatDoor.Sv
