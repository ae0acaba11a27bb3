import Derived.Test.YtkcdcamophkdlaaGreatDoorAO
import Derived.Test.YtkcdcamophkdlaaGreatDoorAQ
import Derived.Test.YtkcdcamophkdlaaGreatDoorAL
import Derived.Test.YtkcdcamophkdlaaGreatDoorAM
set_option maxRecDepth 100000
open Go.Proofs.Tryz
namespace Go.Proofs.YtkcdcamophkdlaaGreatDoor.Sv
open Go.Proofs.YtkcdcamophkdlaaGreatDoor.Tl (Rc dx gW bL aR cK dP dS)
open Go.Proofs.YtkcdcamophkdlaaGreatDoor.Pt (Vw mD)
structure Cl where
 q:List UInt8
 lost:Bool
 g:Gr
structure aD where
 v:Vw
 ps:Nat->Ps.PS
 cl:Nat->Option Cl
 acts:Nat
structure Ac where
 kind:Int
 p:Int
 n:Int
 m:Int
 bytes:List UInt8
structure Rp where
 code:Int
 n:Int
 out:List UInt8
def dO:Gr:=⟨0,0,0,fun _=>aX,0,0,0,false,0,0⟩
def err (e:Int):Rp:=⟨e,0,[]⟩
def upd {α:Type} (f:Nat->α) (i:Nat) (x:α):Nat->α:=fun k=>if k=i then x else f k
theorem dY {α:Type} (f:Nat->α) (i:Nat) (x:α):upd f i x i=x:=if_pos rfl
theorem upd_ne {α:Type} (f:Nat->α) {i k:Nat} (x:α) (h:k≠i):upd f i x k=f k:=if_neg h
def iM (wide high:Int):Bool:=decide (1<=wide∧wide<=24∧1<=high∧high<=10)
def aeO (g:Gr) (wide:Int):Nat->aH:=fun i=>iy g ((i:Int) / wide) ((i:Int) % wide)
def TW (g:Gr) (wide high:Int):Gr:=
 ⟨(newG wide high).wide,(newG wide high).high,(newG wide high).n,aeO g (newG wide high).wide,min g.row ((newG wide high).high - 1),min g.col ((newG wide high).wide - 1),g.aA,g.bold,(newG wide high).top,(newG wide high).bottom⟩
def nE (g:Gr) (wide high:Int):Gr:=
 if g.wide=0 then newG wide high else if g.wide=wide∧g.high=high then g else if kE g then TW g wide high else g
def sJ (v:Vw) (p:Nat):Gr:=nE (v.gs p) (max (v.place p).wide 1) (max (v.place p).high 1)
def jR (v:Vw):Vw:={v with gs:=fun p=>if aR v.aj p then sJ v p else v.gs p}
def newS:aD:=⟨jR ⟨[[0]],fun _=>dO,20,7,0⟩,fun _=>Ps.ground,fun _=>none,0⟩
def fU (aj:List (List Int)):Nat:=((List.range 6).find? fun n:Nat=>!aR aj n).getD 6
def iX (S:aD) (p:Int) (right:Bool):aD×Rp:=
 if fU S.v.aj=6 then (S,err 5)
 else if (dP S.v.aj p (fU S.v.aj) right).2=0 then
  ({S with v:=jR {S.v with aj:=(dP S.v.aj p (fU S.v.aj) right).1,focus:=fU S.v.aj}},⟨0,fU S.v.aj,[]⟩)
 else (S,err (dP S.v.aj p (fU S.v.aj) right).2)
def firstT (aj:List (List Int)):Int:=(aj.getD 0 []).getD 0 0
def iH (S:aD) (p:Int):aD×Int:=
 if (dS S.v.aj p).2=0 then
  ({S with
    v:=jR {S.v with aj:=(dS S.v.aj p).1,gs:=upd S.v.gs p.toNat dO,focus:=if S.v.focus=p then firstT (dS S.v.aj p).1 else S.v.focus}
    ps:=upd S.ps p.toNat Ps.ground},0)
 else (S,(dS S.v.aj p).2)
def jf (S:aD) (p:Nat) (l:List UInt8):aD:=
 {S with v:={S.v with gs:=upd S.v.gs p (iR (S.v.gs p) ((Ps.bR (S.ps p) l).map iY)).1},ps:=upd S.ps p (Ps.dB (S.ps p) l)}
def jd (S:aD) (p:Int) (l:List UInt8):aD×Int:=if aR S.v.aj p then (jf S p.toNat l,0) else (S,3)
def jc (S:aD) (p:Int):aD×Int:=if aR S.v.aj p then ({S with v:={S.v with focus:=p}},0) else (S,3)
def iK (S:aD) (wide high:Int):aD×Int:=if iM wide high then ({S with v:=jR {S.v with wide:=wide,high:=high}},0) else (S,1)
def jo (i:Int):Bool:=decide (0<=i∧i < 3)
def jm (S:aD) (i:Int):Option Cl:=if jo i then S.cl i.toNat else none
def iw (S:aD) (i wide high:Int):aD×Int:=
 if jo i then (if (S.cl i.toNat).isSome then (S,4) else if iM wide high then ({S with cl:=upd S.cl i.toNat (some ⟨[],true,newG wide high⟩)},0) else (S,1)) else (S,3)
def jB (S:aD) (i:Int):aD×Int:=if (jm S i).isSome then ({S with cl:=upd S.cl i.toNat none},0) else (S,3)
def goes (n:Int) (l:List UInt8):Nat:=(max 0 (min n l.length)).toNat
def jQ (S:aD) (i n:Int):aD×Rp:=
 match jm S i with
 | none=>(S,err 3)
 | some c=>({S with cl:=upd S.cl i.toNat (some {c with q:=c.q.drop (goes n c.q)})},⟨0,goes n c.q,c.q.take (goes n c.q)⟩)
def xP (v:Vw) (c:Cl):bU:=if c.lost then yP (mD v c.g.wide c.g.high) else wG c.g (mD v c.g.wide c.g.high)
def iW (v:Vw) (c:Cl):Cl:=
 if c.lost=true∧c.q≠[] then c
 else if 4000 < c.q.length+(xP v c).out.length then {c with lost:=true}
 else ⟨c.q++(xP v c).out,false,(xP v c).g⟩
def zF (S:aD):aD:={S with cl:=fun i=>(S.cl i).map (iW S.v)}
def lC (S:aD) (a:Ac):aD×Int:=
 if a.kind=2 then iH S a.p
 else if a.kind=3 then jd S a.p a.bytes
 else if a.kind=4 then jc S a.p
 else if a.kind=5 then iK S a.n a.m
 else if a.kind=6 then iw S a.p a.n a.m
 else if a.kind=7 then jB S a.p
 else if a.kind=8 then (zF S,0)
 else (S,2)
def gG (S:aD) (a:Ac):aD×Rp:=
 if a.kind=1 then iX S a.p (decide (a.n=1))
 else if a.kind=9 then jQ S a.p a.n
 else ((lC S a).1,err (lC S a).2)
def aC (S:aD):aD:={S with acts:=S.acts+1}
def dW (S:aD) (a:Ac):aD×Rp:=if S.acts=300 then (S,err 5) else gG (aC S) a
open Go.Proofs.YtkcdcamophkdlaaGreatDoor.Tl (Rc dx gW bL aR cK dP dS eY dG bZ)
variable (g:Gr) {S:aD} {aj:List (List Int)} {v:Vw} {p n wide high:Int} {c:Cl}
theorem agZ (s:Ps.PS) (b:Int):(Ps.bF s b).2.kind=0∨dV (iY (Ps.bF s b).2)=0:=by
 unfold Ps.bF Ps.jl Ps.eB Ps.og Ps.ku
 repeat' split
 all_goals first
  | (left;rfl)
  | (right;rfl)
  | (right;rename_i h;simp [dV,iY,jJ,h])
theorem Ml (l:List UInt8):∀ s,∀ e∈(Ps.bR s l).map iY,dV e=0:=by
 induction l with
 | nil=>intro s e d;simp [Ps.bR] at d
 | cons c r ih=>
  intro s e d;simp only [Ps.bR,List.map_append,List.mem_append] at d;rcases d with h | h
  ·unfold Ps.one at h;split at h
   ·simp at h
   ·rename_i f;simp only [List.map_cons,List.map_nil,List.mem_singleton] at h;rw [h];exact(agZ s (Ps.dA c)).resolve_left f
  ·exact ih _ e h
theorem all_zero:∀ (d:List gM),(∀ e∈d,dV e=0)->∀ g,Did g d (iR g d).1
 | [],_,_=>rfl
 | e::l,h,g=>by
  have j:=h e (by simp)
  have f:=all_zero l (fun x k=>h x (by simp [k])) (nZ g e)
  unfold Did at f ⊢
  unfold iR
  rw [if_pos j]
  exact f
theorem DR (s:Ps.PS) (l:List UInt8):Did g ((Ps.bR s l).map iY) (iR g ((Ps.bR s l).map iY)).1:=all_zero _ (Ml l s) g
theorem ahj (s:Ps.PS) (a b:List UInt8):(iR g ((Ps.bR s (a++b)).map iY)).1=(iR (iR g ((Ps.bR s a).map iY)).1 ((Ps.bR (Ps.dB s a) b).map iY)).1:=by
 rw [Ps.xC,List.map_append];have h:=(DR g s a).append (DR (iR g ((Ps.bR s a).map iY)).1 (Ps.dB s a) b);unfold Did at h;rw [h]
theorem NJ {α:Type} (l:List α) (i:Nat) (x:α):(bZ l i x).Perm (x::l):=by
 unfold bZ;have:=List.perm_middle (a:=x) (l₁:=l.take i) (l₂:=l.drop i);rwa [List.take_append_drop] at this
theorem Us {α:Type} (l:List α) (i:Nat) (h:i < l.length) (x:α):l.set i x=l.take i++x::l.drop (i+1):=by
 rw [List.set_eq_take_append_cons_drop,if_pos h]
theorem Cz {α:Type} (l:List α) (i:Nat) (h:i < l.length):l=l.take i++l[i]::l.drop (i+1):=by
 conv=>lhs;rw [<-List.take_append_drop i l,List.drop_eq_getElem_cons h]
theorem OZ (aj:List (List Int)) (i:Nat) (n:Int):(bZ aj i [n]).flatten.Perm (n::aj.flatten):=by
 have h:(bZ aj i [n]).flatten=(aj.take i).flatten++n::(aj.drop i).flatten:=by
  unfold bZ;rw [List.flatten_append,List.flatten_cons]
  rfl
 rw [h];refine List.perm_middle.trans (List.Perm.cons _ ?_);rw [<-List.flatten_append,List.take_append_drop]
theorem agF (aj:List (List Int)) (i:Nat) (h:i < aj.length) (j:Nat) (n:Int):(aj.set i (bZ aj[i] j n)).flatten.Perm (n::aj.flatten):=by
 rw [Us aj i h];have e:aj.flatten=(aj.take i).flatten++(aj[i]++(aj.drop (i+1)).flatten):=by
  conv=>lhs;rw [Cz aj i h]
  rw [List.flatten_append,List.flatten_cons]
 rw [e,List.flatten_append,List.flatten_cons];refine(List.Perm.append_left _ ((NJ aj[i] j n).append_right _)).trans ?_;rw [List.cons_append];exact List.perm_middle
theorem Zw {α:Type} (l:List α) (i:Nat) (h:i < l.length):(l[i]::l.eraseIdx i).Perm l:=by
 rw [List.eraseIdx_eq_take_drop_succ];refine List.perm_middle.symm.trans ?_;rw [<-Cz l i h]
theorem abF (aj:List (List Int)) (i:Nat) (h:i < aj.length) (p:Int) (d:aj[i]=[p]):(p::(aj.eraseIdx i).flatten).Perm aj.flatten:=by
 rw [List.eraseIdx_eq_take_drop_succ];have e:aj.flatten=(aj.take i).flatten++(p::(aj.drop (i+1)).flatten):=by
  conv=>lhs;rw [Cz aj i h]
  rw [List.flatten_append,List.flatten_cons,d]
  rfl
 rw [e,List.flatten_append];exact List.perm_middle.symm
theorem abM (aj:List (List Int)) (i:Nat) (h:i < aj.length) (j:Nat) (d:j < aj[i].length) (p:Int) (f:aj[i][j]=p):(p::(aj.set i (aj[i].eraseIdx j)).flatten).Perm aj.flatten:=by
 rw [Us aj i h];have e:aj.flatten=(aj.take i).flatten++(aj[i]++(aj.drop (i+1)).flatten):=by
  conv=>lhs;rw [Cz aj i h]
  rw [List.flatten_append,List.flatten_cons]
 rw [e,List.flatten_append,List.flatten_cons];refine List.perm_middle.symm.trans (List.Perm.append_left _ ?_);rw [<-List.cons_append];refine List.Perm.append_right _ ?_;have:=Zw aj[i] j d;rwa [f] at this
theorem Rl {t:List (List Int)} (h:t.flatten.Perm (n::aj.flatten)) (q:Int):aR t q=true↔q=n∨aR aj q=true:=by
 rw [Tl.qC,Tl.qC,h.mem_iff,List.mem_cons]
theorem JV (f:eY aj) {right:Bool} (h:(dP aj p n right).2=0):
  eY (dP aj p n right).1∧aR aj n=false∧∀ q,aR (dP aj p n right).1 q=true↔q=n∨aR aj q=true:=by
 unfold dP at h ⊢;have E:=(Tl.nG aj).2 f;by_cases k:dG n=false
 ·rw [if_pos (.inr k)] at h;simp at h
 ·rw [if_neg (by rw [E];simp [k])] at h ⊢;have A:dG n=true:=(by simpa using k);cases u:bL p aj with
  | none=>rw [u] at h;simp at h
  | some x=>
   obtain⟨i,j⟩:=x;simp only [u] at h ⊢;obtain⟨y,_,_⟩:=Tl.jI u;by_cases r:aR aj n=true
   ·rw [if_pos r] at h;simp at h
   ·have m:aR aj n=false:=(by simpa using r);have o:n ∉ aj.flatten:=fun e=>r (Tl.qC.2 e);rw [if_neg r] at h ⊢;cases right with
    | true=>
     rw [if_pos rfl];have d:=OZ aj (i+1) n;refine⟨⟨?_,?_,?_,?_⟩,m,Rl d⟩
     ·simp [bZ];omega
     ·intro c s;have:=(NJ aj (i+1) [n]).mem_iff.1 s;rcases List.mem_cons.1 this with e | e
      ·subst e;simp
      ·exact f.kI c e
     ·intro q z;rcases List.mem_cons.1 (d.mem_iff.1 z) with e | e
      ·rw [e];exact A
      ·exact f.pane q e
     ·exact d.nodup_iff.2 (List.nodup_cons.2 ⟨o,f.once⟩)
    | false=>
     rw [if_neg (by simp)] at h ⊢;have D:aj.getD i []=aj[i]:=(by simp [List.getD,y]);rw [D] at h ⊢;by_cases C:aj[i].length=3
     ·rw [if_pos C] at h;simp at h
     ·rw [if_neg C];have d:=agF aj i y (j+1) n;have F:=f.kI aj[i] (List.getElem_mem y);refine⟨⟨?_,?_,?_,?_⟩,m,Rl d⟩
      ·simp;exact f.some
      ·intro c s;rcases List.mem_or_eq_of_mem_set s with e | e
       ·exact f.kI c e
       ·have:=(NJ aj[i] (j+1) n).length_eq;rw [e,this];simp;omega
      ·intro q z;rcases List.mem_cons.1 (d.mem_iff.1 z) with e | e
       ·rw [e];exact A
       ·exact f.pane q e
      ·exact d.nodup_iff.2 (List.nodup_cons.2 ⟨o,f.once⟩)
theorem FV (f:eY aj) (h:(dS aj p).2=0):
  eY (dS aj p).1∧aR aj p=true∧aR (dS aj p).1 p=false∧∀ q,q≠p->aR (dS aj p).1 q=aR aj q:=by
 have r:∀ t:List (List Int),(p::t.flatten).Perm aj.flatten->(0 < t.length)->(∀ c∈t,1<=c.length∧c.length<=3)->eY t∧aR aj p=true∧aR t p=false∧∀ q,q≠p->aR t q=aR aj q:=by
  intro t d H s;have m:=d.nodup_iff.2 f.once;rw [List.nodup_cons] at m;refine⟨⟨H,s,fun q C=>f.pane q (d.mem_iff.1 (by simp [C])),m.2⟩,Tl.qC.2 (d.mem_iff.1 (by simp)),?_,fun q C=>?_⟩
  ·cases e:aR t p
   ·rfl
   ·exact absurd (Tl.qC.1 e) m.1
  ·have:aR t q=true↔aR aj q=true:=by
    rw [Tl.qC,Tl.qC, <-d.mem_iff,List.mem_cons];exact⟨fun e=>.inr e,fun e=>e.resolve_left C⟩
   cases K:aR t q <;>cases L:aR aj q <;>simp_all
 unfold dS at h ⊢;have J:=(Tl.nG aj).2 f;rw [if_neg (by rw [J];simp)] at h ⊢;cases y:bL p aj with
 | none=>rw [y] at h;simp at h
 | some x=>
  obtain⟨i,j⟩:=x;simp only [y] at h ⊢;obtain⟨o,F,A⟩:=Tl.jI y;have G:aj.getD i []=aj[i]:=(by simp [List.getD,o]);rw [G] at h ⊢;have:=f.kI aj[i] (List.getElem_mem o);by_cases u:aj[i].length=1
  ·rw [if_pos u] at h ⊢;by_cases D:aj.length=1
   ·rw [if_pos D] at h;simp at h
   ·rw [if_neg D];have I:aj[i]=[p]:=by
     obtain⟨_,E⟩:=List.length_eq_one_iff.1 u;have z:j=0:=(by omega);subst z;simp only [E,List.getElem_cons_zero] at A;rw [E,A]
    refine r _ (abF aj i o p I) ?_ (fun c k=>f.kI c (List.mem_of_mem_eraseIdx k));rw [List.length_eraseIdx,if_pos o];have:=f.some;omega
  ·rw [if_neg u];refine r _ (abM aj i o j F p A) (by simp;exact f.some) (fun c k=>?_);rcases List.mem_or_eq_of_mem_set k with e | e
   ·exact f.kI c e
   ·rw [e,List.length_eraseIdx,if_pos F];omega
theorem ZF (f:eY aj):aR aj (firstT aj)=true:=by
 have d:=f.some;have:=f.kI aj[0] (List.getElem_mem d);have e:firstT aj=aj[0][0]:=by
  unfold firstT;simp [List.getD,d,show 0 < aj[0].length by omega]
 rw [e];exact Tl.qC.2 (List.mem_flatten.2 ⟨aj[0],List.getElem_mem d,List.getElem_mem _⟩)
theorem U1 (h:fU aj≠6):fU aj < 6∧aR aj (fU aj)=false:=by
 unfold fU at h ⊢;cases e:(List.range 6).find? fun n:Nat=>!aR aj n with
 | none=>rw [e] at h;simp at h
 | some n=>
  have d:=List.find?_some e;have f:=List.mem_of_find?_eq_some e;simp only [Option.getD_some];exact⟨List.mem_range.1 f,by simpa using d⟩
structure su (c:Cl):Prop where
 g:OkG c.g
 short:c.q.length<=4000
structure lV (v:Vw):Prop where
 t:eY v.aj
 focus:aR v.aj v.focus=true
 w1:1<=v.wide
 w2:v.wide<=24
 h1:1<=v.high
 h2:v.high<=10
 here:∀ p:Nat,p < 6->aR v.aj p=true->OkG (v.gs p)∧(v.gs p).wide=max (v.place p).wide 1∧(v.gs p).high=max (v.place p).high 1
 gone:∀ p:Nat,p < 6->aR v.aj p=false->v.gs p=dO
structure dJ (S:aD):Prop where
 v:lV S.v
 par:∀ p:Nat,p < 6->Ps.GoodS (S.ps p)
 gone:∀ p:Nat,p < 6->aR S.v.aj p=false->S.ps p=Ps.ground
 cl:∀ i:Nat,i < 3->∀ c,S.cl i=some c->su c
 acts:S.acts<=300
structure lq (S:aD):Prop where
 t:eY S.v.aj
 w1:1<=S.v.wide
 w2:S.v.wide<=24
 h1:1<=S.v.high
 h2:S.v.high<=10
 grid:∀ p:Nat,p < 6->S.v.gs p=dO∨OkG (S.v.gs p)
 par:∀ p:Nat,p < 6->Ps.GoodS (S.ps p)
 cl:∀ i:Nat,i < 3->∀ c,S.cl i=some c->su c
theorem vU (d:eY aj) (h:aR aj p=true):0<=p∧p < 6:=by
 have:=d.pane p (Tl.qC.1 h);simpa [dG] using this
theorem Ou (w1:1<=v.wide) (w2:v.wide<=24) (d:1<=v.high) (e:v.high<=10) (p:Int):1<=max (v.place p).wide 1∧max (v.place p).wide 1<=24∧1<=max (v.place p).high 1∧max (v.place p).high 1<=10:=by
 obtain⟨⟨_,_,_,_,_,_⟩,_⟩:=Tl.U9 v.aj v.wide v.high p (by omega) (by omega) (by omega) (by omega) _ rfl;unfold Vw.place;omega
theorem acg (h:iM wide high=true):(newG wide high).wide=wide∧(newG wide high).high=high:=by
 simp only [iM,decide_eq_true_eq] at h;refine⟨?_,?_⟩
 ·show max 1 (min wide 24)=wide;omega
 ·show max 1 (min high 10)=high;omega
theorem Mr {g:Gr} (h:g=dO∨OkG g) (o:iM wide high=true):OkG (nE g wide high)∧(nE g wide high).wide=wide∧(nE g wide high).high=high:=by
 obtain⟨k,m⟩:=acg o;unfold nE;by_cases f:g.wide=0
 ·rw [if_pos f];exact⟨sQ _ _,k,m⟩
 ·rw [if_neg f];have j:OkG g:=h.resolve_left (fun e=>f (by rw [e];rfl));by_cases d:g.wide=wide∧g.high=high
  ·rw [if_pos d];exact⟨j,d.1,d.2⟩
  ·rw [if_neg d,if_pos ((iT g).2 j)];exact⟨SV j wide high,k,m⟩
theorem IQ (q:eY v.aj) (o:aR v.aj v.focus=true) (w1:1<=v.wide) (w2:v.wide<=24) (k:1<=v.high) (m:v.high<=10) (f:∀ p:Nat,p < 6->aR v.aj p=true->v.gs p=dO∨OkG (v.gs p)) (e:∀ p:Nat,p < 6->aR v.aj p=false->v.gs p=dO):lV (jR v):=by
 refine⟨q,o,w1,w2,k,m,fun p j h=>?_,fun p j h=>?_⟩
 ·have d:aR v.aj p=true:=h;have r:=Ou w1 w2 k m p;have:=Mr (f p j d) (wide:=max (v.place p).wide 1) (high:=max (v.place p).high 1) (by simp only [iM,decide_eq_true_eq];omega);show OkG (if aR v.aj p=true then sJ v p else v.gs p)∧(if aR v.aj p=true then sJ v p else v.gs p).wide=_∧(if aR v.aj p=true then sJ v p else v.gs p).high=_;rw [if_pos d];exact this
 ·have d:aR v.aj p=false:=h;show (if aR v.aj p=true then sJ v p else v.gs p)=dO;rw [if_neg (by rw [d];simp)];exact e p j d
theorem zu:dJ newS:=by
 refine⟨?_,fun _ _=>Ps.rC,fun _ _ _=>rfl,fun _ _ c h=>by simp [newS] at h,by simp [newS]⟩;refine IQ ⟨by decide,by simp,by simp [dG],by simp⟩ (by decide) (by decide) (by decide) (by decide) (by decide) (fun _ _ _=>.inl rfl) (fun _ _ _=>rfl)
theorem lV.grid (h:lV v) (p:Nat) (d:p < 6):v.gs p=dO∨OkG (v.gs p):=by
 cases e:aR v.aj p
 ·exact .inl (h.gone p d e)
 ·exact .inr (h.here p d e).1
theorem dJ.wk (h:dJ S):lq S:=⟨h.v.t,h.v.w1,h.v.w2,h.v.h1,h.v.h2,h.v.grid,h.par,h.cl⟩
theorem J2 (h:lq S) (i:Nat) (x:Option Cl) (m:∀ c,x=some c->su c):lq {S with cl:=upd S.cl i x}:=by
 refine⟨h.t,h.w1,h.w2,h.h1,h.h2,h.grid,h.par,fun j k c f=>?_⟩;by_cases e:j=i
 ·have d:upd S.cl i x j=some c:=f;rw [e,dY] at d;exact m c d
 ·have d:upd S.cl i x j=some c:=f;rw [upd_ne _ _ e] at d;exact h.cl j k c d
theorem Jw (h:dJ S) (d:S.acts≠300):dJ (aC S):=⟨h.v,h.par,h.gone,h.cl,by have:=h.acts;show S.acts+1<=300;omega⟩
theorem acP (h:dJ S) (p:Int) (right:Bool):dJ (iX S p right).1:=by
 unfold iX;by_cases j:fU S.v.aj=6
 ·rw [if_pos j];exact h
 ·rw [if_neg j];by_cases k:(dP S.v.aj p (fU S.v.aj) right).2=0
  ·rw [if_pos k];obtain⟨r,_,o⟩:=JV h.v.t k;obtain⟨_,_⟩:=U1 j;have f:∀ q:Nat,aR (dP S.v.aj p (fU S.v.aj) right).1 q=false->aR S.v.aj q=false:=fun q d=>by
    cases e:aR S.v.aj q
    ·rfl
    ·rw [(o q).2 (.inr e)] at d;simp at d
   refine⟨IQ r ((o _).2 (.inl rfl)) h.v.w1 h.v.w2 h.v.h1 h.v.h2 (fun q d _=>h.v.grid q d) (fun q d m=>h.v.gone q d (f q m)),h.par,fun q d m=>h.gone q d (f q m),h.cl,h.acts⟩
  ·rw [if_neg k];exact h
theorem acL (h:dJ S) (p:Int):dJ (iH S p).1:=by
 unfold iH;by_cases k:(dS S.v.aj p).2=0
 ·rw [if_pos k];obtain⟨s,u,_,r⟩:=FV h.v.t k;obtain⟨x,_⟩:=vU h.v.t u;have:((p.toNat:Nat):Int)=p:=Int.toNat_of_nonneg x;have m:∀ q:Nat,q < 6->upd S.v.gs p.toNat dO q=dO∨OkG (upd S.v.gs p.toNat dO q):=fun q f=>by
   by_cases e:q=p.toNat
   ·left;rw [e,dY]
   ·rw [upd_ne _ _ e];exact h.v.grid q f
  have j:∀ q:Nat,q≠p.toNat->(q:Int)≠p:=fun q f e=>f (by omega);refine⟨IQ s ?_ h.v.w1 h.v.w2 h.v.h1 h.v.h2 (fun q f _=>m q f) (fun q f o=>?_),fun q f=>?_,fun q f o=>?_,h.cl,h.acts⟩
  ·by_cases e:S.v.focus=p
   ·simp only [if_pos e];exact ZF s
   ·simp only [if_neg e];rw [r _ e];exact h.v.focus
  ·by_cases e:q=p.toNat
   ·show upd S.v.gs p.toNat dO q=dO;rw [e,dY]
   ·show upd S.v.gs p.toNat dO q=dO;rw [upd_ne _ _ e];have d:aR (dS S.v.aj p).1 q=false:=o;rw [r _ (j q e)] at d;exact h.v.gone q f d
  ·by_cases e:q=p.toNat
   ·show Ps.GoodS (upd S.ps p.toNat Ps.ground q);rw [e,dY];exact Ps.rC
   ·show Ps.GoodS (upd S.ps p.toNat Ps.ground q);rw [upd_ne _ _ e];exact h.par q f
  ·by_cases e:q=p.toNat
   ·show upd S.ps p.toNat Ps.ground q=Ps.ground;rw [e,dY]
   ·show upd S.ps p.toNat Ps.ground q=Ps.ground;rw [upd_ne _ _ e];have d:aR (dS S.v.aj p).1 q=false:=o;rw [r _ (j q e)] at d;exact h.gone q f d
 ·rw [if_neg k];exact h
theorem acQ (h:dJ S) (p:Nat) (s:p < 6) (k:aR S.v.aj p=true) (l:List UInt8):dJ (jf S p l):=by
 obtain⟨m,o,r⟩:=h.v.here p s k;obtain⟨u,x,y,_⟩:=E9 (DR (S.v.gs p) (S.ps p) l) m;refine⟨⟨h.v.t,h.v.focus,h.v.w1,h.v.w2,h.v.h1,h.v.h2,fun q j d=>?_,fun q j d=>?_⟩,fun q j=>?_,fun q j d=>?_,h.cl,h.acts⟩
 ·by_cases e:q=p
  ·subst e;show OkG (upd S.v.gs q _ q)∧(upd S.v.gs q _ q).wide=_∧(upd S.v.gs q _ q).high=_;rw [dY];exact⟨u,x.trans o,y.trans r⟩
  ·show OkG (upd S.v.gs p _ q)∧(upd S.v.gs p _ q).wide=_∧(upd S.v.gs p _ q).high=_;rw [upd_ne _ _ e];exact h.v.here q j d
 ·have e:q≠p:=fun e=>by
   have f:aR S.v.aj q=false:=d;rw [e,k] at f;simp at f
  show upd S.v.gs p _ q=dO;rw [upd_ne _ _ e];exact h.v.gone q j d
 ·by_cases e:q=p
  ·subst e;show Ps.GoodS (upd S.ps q _ q);rw [dY];exact Ps.Fb _ (h.par q j) l
  ·show Ps.GoodS (upd S.ps p _ q);rw [upd_ne _ _ e];exact h.par q j
 ·have e:q≠p:=fun e=>by
   have f:aR S.v.aj q=false:=d;rw [e,k] at f;simp at f
  show upd S.ps p _ q=Ps.ground;rw [upd_ne _ _ e];exact h.gone q j d
theorem acM (h:dJ S) (p:Int) (l:List UInt8):dJ (jd S p l).1:=by
 unfold jd;by_cases d:aR S.v.aj p=true
 ·rw [if_pos d];obtain⟨f,_⟩:=vU h.v.t d;have e:((p.toNat:Nat):Int)=p:=Int.toNat_of_nonneg f;exact acQ h p.toNat (by omega) (by rw [e];exact d) l
 ·rw [if_neg d];exact h
theorem acJ (h:dJ S) (p:Int):dJ (jc S p).1:=by
 unfold jc;by_cases d:aR S.v.aj p=true
 ·rw [if_pos d];exact⟨⟨h.v.t,d,h.v.w1,h.v.w2,h.v.h1,h.v.h2,h.v.here,h.v.gone⟩,h.par,h.gone,h.cl,h.acts⟩
 ·rw [if_neg d];exact h
theorem acN (h:dJ S) (wide high:Int):dJ (iK S wide high).1:=by
 unfold iK;by_cases d:iM wide high=true
 ·rw [if_pos d];simp only [iM,decide_eq_true_eq] at d;exact⟨IQ h.v.t h.v.focus d.1 d.2.1 d.2.2.1 d.2.2.2 (fun q e _=>h.v.grid q e) h.v.gone,h.par,h.gone,h.cl,h.acts⟩
 ·rw [if_neg d];exact h
theorem Oe (h:dJ S) (i:Nat) (x:Option Cl) (m:∀ c,x=some c->su c):dJ {S with cl:=upd S.cl i x}:=by
 refine⟨h.v,h.par,h.gone,fun j k c f=>?_,h.acts⟩;by_cases e:j=i
 ·have d:upd S.cl i x j=some c:=f;rw [e,dY] at d;exact m c d
 ·have d:upd S.cl i x j=some c:=f;rw [upd_ne _ _ e] at d;exact h.cl j k c d
theorem acF (h:dJ S) (i wide high:Int):dJ (iw S i wide high).1:=by
 unfold iw;split
 ·split
  ·exact h
  ·split
   ·exact Oe h _ _ (fun c e=>by cases e;exact⟨sQ _ _,by simp⟩)
   ·exact h
 ·exact h
theorem acH (h:dJ S) (i:Int):dJ (jB S i).1:=by
 unfold jB;split
 ·exact Oe h _ _ (fun c e=>by cases e)
 ·exact h
theorem aaJ (h:dJ S) {i:Int} (d:jm S i=some c):0<=i∧i < 3∧S.cl i.toNat=some c∧su c:=by
 unfold jm at d;split at d
 ·rename_i e;simp only [jo,decide_eq_true_eq] at e;exact⟨e.1,e.2,d,h.cl _ (by omega) c d⟩
 ·cases d
theorem acI (h:dJ S) (i n:Int):dJ (jQ S i n).1:=by
 unfold jQ;cases f:jm S i with
 | none=>exact h
 | some c=>
  obtain⟨_,_,_,k⟩:=aaJ h f;refine Oe h _ _ (fun d e=>?_);cases e;refine⟨k.g,?_⟩;have:=k.short;simp only [List.length_drop];omega
theorem OO (h:lV v) (wide high:Int):OkG (mD v wide high)∧(mD v wide high).col < (mD v wide high).wide∧(mD v wide high).wide=(newG wide high).wide∧(mD v wide high).high=(newG wide high).high:=by
 have k:=sQ wide high;have r:=k.w1;have q:=k.h1;refine⟨⟨k.w1,k.w2,k.h1,k.h2,k.size,fun i o=>?_,?_,?_,?_,?_,k.i1,k.i2,k.t1,k.t2,k.t3⟩,?_,rfl,rfl⟩
 ·show bS (Pt.qZ v (newG wide high).wide (newG wide high).high i)=true;unfold Pt.qZ;split
  ·unfold Pt.sK;split
   ·refine CQ _ _ _ ?_ (by decide) (by decide);simp only [jJ,decide_eq_true_eq];omega
   ·exact CQ _ _ _ (by decide) (by decide) (by decide)
  ·unfold Pt.pQ;split
   ·split
    ·rename_i p f;have m:p < 6:=List.mem_range.1 (List.mem_of_find?_eq_some f);have j:=List.find?_some f;unfold iy;split
     ·rename_i d;rcases h.grid p m with e | e
      ·rw [e] at d;simp [dO] at d;omega
      ·have:=Int.mul_nonneg d.2.2.1 (show 0<=(v.gs p).wide by have:=e.w1;omega);exact e.cells _ (by omega)
     ·exact CS
    ·split
     ·exact CQ _ _ _ (by decide) (by decide) (by decide)
     ·exact CQ _ _ _ (by decide) (by decide) (by decide)
   ·exact CQ _ _ _ (by decide) (by decide) (by decide)
 ·show 0<=max 0 (min _ _);omega
 ·show max 0 (min _ ((newG wide high).high - 1)) < (newG wide high).high;omega
 ·show 0<=max 0 (min _ _);omega
 ·show max 0 (min _ ((newG wide high).wide - 1))<=(newG wide high).wide;omega
 ·show max 0 (min _ ((newG wide high).wide - 1)) < (newG wide high).wide;omega
theorem NS (h:lV v) (k:OkG c.g):Draws c.g (mD v c.g.wide c.g.high) (xP v c):=by
 obtain⟨f,j,m,o⟩:=OO h c.g.wide c.g.high;obtain⟨d,e,_⟩:=Dm k;unfold xP;split
 ·exact P7 f j (by rw [m,d]) (by rw [o,e])
 ·exact UW k f j (by rw [m,d]) (by rw [o,e])
theorem SY (h:lV v) (k:su c):su (iW v c):=by
 have d:=NS h k.g;unfold iW;split
 ·exact k
 ·split
  ·exact⟨k.g,k.short⟩
  ·refine⟨d.ok,?_⟩;simp only [List.length_append];omega
theorem acR (h:dJ S):dJ (zF S):=by
 refine⟨h.v,h.par,h.gone,fun i k c j=>?_,h.acts⟩;have f:(S.cl i).map (iW S.v)=some c:=j;cases e:S.cl i with
 | none=>rw [e] at f;cases f
 | some d=>
  rw [e] at f;cases f;exact SY h.v (h.cl i k d e)
theorem acG (h:dJ S) (a:Ac):dJ (lC S a).1:=by
 unfold lC;split
 ·exact acL h _
 split
 ·exact acM h _ _
 split
 ·exact acJ h _
 split
 ·exact acN h _ _
 split
 ·exact acF h _ _ _
 split
 ·exact acH h _
 split
 ·exact acR h
 ·exact h
theorem acE (h:dJ S) (a:Ac):dJ (gG S a).1:=by
 unfold gG;split
 ·exact acP h _ _
 split
 ·exact acI h _ _
 ·exact acG h a
theorem SL (h:dJ S) (a:Ac):dJ (dW S a).1:=by
 unfold dW;split
 ·exact h
 ·rename_i d;exact acE (Jw h d) a
open Go.RowKit
open Go.Proofs.YtkcdcamophkdlaaGreatDoor.Tl (bn ak aI dK cv)
open Go.Proofs.YtkcdcamophkdlaaGreatDoor.Pt (Vw jg mR)
variable {w w' w1 a w2:World} {S S2:aD} {ao co:Option Addr} {M:Nat->Prop} {g:Gr} {b B:Nat} {c:Array Value} {t:TypeId} {fr:Nat×Nat} {l:List Int} {its:List bn}
structure Lay where
 sb:Nat
 l:Pt.Lay
 pa:Nat->Option Addr
 pc:Nat->Nat
 cb:Nat->Nat
 ca:Nat->Option Addr
 cc:Nat->Nat
@[reducible] def dD (s:Ps.PS) (ao:Option Addr) (cap:Nat):List Value:=[.int .i64 s.place,.slice ao s.ps.length cap,.string s.pl,.bool s.lg]
@[reducible] def tu (s:Ps.PS) (ao:Option Addr) (cap:Nat):Value:=.agg (dD s ao cap).toArray
def Ga (S:aD) (L:Lay):List Value:=dD (S.ps 0) (L.pa 0) (L.pc 0)++dD (S.ps 1) (L.pa 1) (L.pc 1)++dD (S.ps 2) (L.pa 2) (L.pc 2)++dD (S.ps 3) (L.pa 3) (L.pc 3)++dD (S.ps 4) (L.pa 4) (L.pc 4)++dD (S.ps 5) (L.pa 5) (L.pc 5)
def jk (S:aD) (L:Lay) (i:Nat):Option Addr:=if (S.cl i).isSome then some ⟨L.cb i,0,none⟩ else none
def Bj (S:aD) (L:Lay):List Value:=jg S.v L.l++Ga S L++[.pointer (jk S L 0),.pointer (jk S L 1),.pointer (jk S L 2),.int .i64 S.acts]
def tC (S:aD) (L:Lay):Array Value:=(Bj S L).toArray
@[reducible] def lK (S:aD) (L:Lay):Obj:=.cells (tC S L) 58
@[reducible] def X4 (c:Cl) (ao:Option Addr) (cap:Nat):Array Value:=#[.string (bs c.q),.bool c.lost,.int .i64 c.g.wide,.int .i64 c.g.high,.slice ao c.g.n cap,.int .i64 c.g.row,.int .i64 c.g.col,.int .i64 c.g.aA,.bool c.g.bold,.int .i64 c.g.top,.int .i64 c.g.bottom]
@[reducible] def dR (c:Cl) (ao:Option Addr) (cap:Nat):Obj:=.cells (X4 c ao cap) 68
theorem aha:(68:TypeId)≠65:=by decide
theorem ahm:(58:TypeId)≠68:=by decide
def Gl (w:World) (ao:Option Addr) (cap:Nat) (g:Gr):Prop:=(g.n=0∧ao=none∧cap=0)∨∃ b,ao=some ⟨b,0,none⟩∧av w b g.n g.f∧g.n<=cap
def Pl (w:World) (ao:Option Addr) (cap:Nat) (l:List Int):Prop:=Ps.Own 0 w ao cap l
structure aS (w:World) (S:aD) (L:Lay):Prop where
 ok:lq S
 box:w.heap[L.sb]?=some (lK S L)
 aj:S.v.aj=ak L.l.its
 rd:aI w L.l.co L.l.its
 ty:dK w L.l.co L.l.its
 gs:∀ p,p < 6->Gl w (L.l.ga p) (L.l.gc p) (S.v.gs p)
 ps:∀ p,p < 6->Pl w (L.pa p) (L.pc p) (S.ps p).ps
 cl:∀ i,i < 3->∀ c,S.cl i=some c->w.heap[L.cb i]?=some (dR c (L.ca i) (L.cc i))∧Gl w (L.ca i) (L.cc i) c.g
 apart:∀ i j,i < 3->j < 3->i≠j->(S.cl i).isSome=true->(S.cl j).isSome=true->L.cb i≠L.cb j
def qx (S:aD) (L:Lay) (b:Nat):Prop:=b=L.sb∨∃ i,i < 3∧(S.cl i).isSome=true∧b=L.cb i
structure Kp (M:Nat->Prop) (w w':World):Prop where
 os:w'.os=w.os
 tape:w'.tape=w.tape
 output:w'.output=w.output
 size:w.heap.size<=w'.heap.size
 block:∀ b,b < w.heap.size->¬ M b->w'.heap[b]?=w.heap[b]?
theorem Kp.refl (M:Nat->Prop) (w:World):Kp M w w:=⟨rfl,rfl,rfl,Nat.le_refl _,fun _ _ _=>rfl⟩
theorem Kp.of_below (M:Nat->Prop) (h:Below w.heap.size w w'):Kp M w w':=⟨h.os,h.tape,h.output,h.size,fun b d _=>h.block b d⟩
theorem Kp.set (w:World) {p:Addr} (f:M p.block) (u:Value):Kp M w (w.setCell p u):=
 ⟨rfl,rfl,rfl,by simp,fun b _ d=>Below.heap_setCell _ _ _ _ (fun e=>d (by rw [e];exact f))⟩
theorem Kp.trans {N:Nat->Prop} {b c:World} (h:Kp M a b) (k:Kp N b c) (j:∀ i,N i->M i∨a.heap.size<=i):Kp M a c:=
 ⟨k.os.trans h.os,k.tape.trans h.tape,k.output.trans h.output,Nat.le_trans h.size k.size,fun i d f=>
  (k.block i (Nat.lt_of_lt_of_le d h.size) (fun e=>(j i e).elim f (fun e=>by omega))).trans (h.block i d f)⟩
theorem Kp.drew {b:World} (h:Kp M a b):Kp M a b.drew:=⟨h.os,h.tape,h.output,h.size,h.block⟩
theorem Kp.drewN {b:World} (h:Kp M a b) (n:Nat):Kp M a (b.drewN n):=⟨h.os,h.tape,h.output,h.size,h.block⟩
theorem Kp.at (h:Kp M w w') {o:Obj} (d:w.heap[b]?=some o) (e:¬ M b):w'.heap[b]?=some o:=by
 rw [h.block b (gQ d).1 e];exact d
theorem aS.other {L:Lay} (h:aS w S L) (d:w.heap[b]?=some (.cells c t fr)) (f:58≠t) (j:68≠t):¬ qx S L b:=by
 rintro(e | ⟨i,k,m,e⟩)
 ·rw [e,h.box] at d;simp only [Option.some.injEq,Obj.cells.injEq] at d;exact f d.2.1
 ·obtain⟨x,o⟩:=Option.isSome_iff_exists.1 m;rw [e,(h.cl i k x o).1] at d;simp only [Option.some.injEq,Obj.cells.injEq] at d;exact j d.2.1
theorem aS.FX {L:Lay} (h:aS w S L) (d:qx S L b):b < w.heap.size:=by
 rcases d with e | ⟨i,f,j,e⟩
 ·rw [e];exact(gQ h.box).1
 ·obtain⟨x,k⟩:=Option.isSome_iff_exists.1 j;rw [e];exact(gQ (h.cl i f x k).1).1
theorem aS.afP {L:Lay} (h:aS w S L) {i:Nat} (j:i < 3) {c:Cl} (f:S.cl i=some c):L.sb≠L.cb i:=by
 intro e;have d:=h.box;rw [e,(h.cl i j c f).1] at d;simp only [Option.some.injEq,Obj.cells.injEq] at d;exact ahm d.2.1.symm
theorem Gl.keep {cap:Nat} (h:Gl w ao cap g) (m:∀ (b:Nat) (c:Array Value),w.heap[b]?=some (.cells c 65 (0,0))->w'.heap[b]?=w.heap[b]?):Gl w' ao cap g:=by
 rcases h with h | ⟨b,j,e,k⟩
 ·exact .inl h
 ·refine .inr ⟨b,j,?_,k⟩;obtain⟨d,f,_⟩:=id e;exact e.move (m b d f)
theorem Gl.below {cap:Nat} (h:Gl w ao cap g) (d:Below w.heap.size w w'):Gl w' ao cap g:=h.keep fun b _ e=>d.block b (gQ e).1
theorem Gl.rd {cap:Nat} (h:Gl w ao cap g):aL w ao g.n g.f:=by
 rcases h with h | ⟨b,d,e,_⟩
 ·exact .inl h.1
 ·rw [d];exact e.rd
theorem Gl.none {cap:Nat} (h:Gl w ao cap g):ao=none->g.n=0∧cap=0:=by
 intro e;rcases h with h | ⟨b,d,_⟩
 ·exact⟨h.1,h.2.2⟩
 ·rw [e] at d;cases d
theorem Gl.cap {cap:Nat} (h:Gl w ao cap g):g.n<=cap:=by
 rcases h with h | ⟨b,_,_,d⟩
 ·rw [h.1];exact Nat.zero_le _
 ·exact d
theorem Pl.keep {cap:Nat} (h:Pl w ao cap l) (o:∀ (b:Nat) (c:Array Value),w.heap[b]?=some (.cells c 3 (0,0))->w'.heap[b]?=w.heap[b]?):Pl w' ao cap l:=by
 refine⟨h.1,?_⟩;rcases h.2 with m | ⟨g,k,d,q,f,j,e⟩
 ·exact .inl m
 ·exact .inr ⟨g,k,d,q,f,by rw [o g d j];exact j,e⟩
theorem Pl.rd {cap:Nat} (h:Pl w ao cap l):Ps.Rd w ao l:=Ps.Own.rd h
theorem Pl.none {cap:Nat} (h:Pl w ao cap l):ao=none->l.length=0∧cap=0:=by
 intro e;rcases h.2 with ⟨d,j⟩ | ⟨g,k,f,d,_⟩
 ·simp only [Value.slice.injEq] at d;exact⟨j,d.2.2⟩
 ·simp only [Value.slice.injEq] at d;rw [e] at d;cases d.1
theorem aI.keep (h:aI w co its) (u:dK w co its) (s:∀ (b:Nat) (c:Array Value) (t:TypeId),t=38∨t=3->w.heap[b]?=some (.cells c t (0,0))->w'.heap[b]?=w.heap[b]?):aI w' co its:=by
 refine⟨fun x r=>⟨?_,(h.each x r).2⟩,?_⟩
 ·rcases(h.each x r).1 with f | ⟨b,d,e,o⟩
  ·exact .inl f
  ·obtain⟨c,m⟩:=u.inner x r _ e;refine .inr ⟨b,d,e,fun j y=>?_⟩;rw [World.cell?_of_block (s b c 3 (.inr rfl) m)];exact o j y
 ·rcases h.row with f | ⟨b,d,e,o⟩
  ·exact .inl f
  ·obtain⟨c,m⟩:=u.outer _ e;refine .inr ⟨b,d,e,fun k q=>?_⟩;rw [World.cell?_of_block (s b c _ (.inl rfl) m)];exact o k q
theorem dK.keep (h:dK w co its) (f:∀ (b:Nat) (c:Array Value) (t:TypeId),t=38∨t=3->w.heap[b]?=some (.cells c t (0,0))->w'.heap[b]?=w.heap[b]?):dK w' co its:=
 ⟨fun a e=>by obtain⟨c,d⟩:=h.outer a e;exact⟨c,by rw [f _ c _ (.inl rfl) d];exact d⟩,fun x j a e=>by obtain⟨c,d⟩:=h.inner x j a e;exact⟨c,by rw [f _ c _ (.inr rfl) d];exact d⟩⟩
theorem aS.keep {L:Lay} (h:aS w S L) (k:Kp M w w') (x:∀ b,M b->b < w.heap.size->(∃ (c:Array Value) (t:TypeId) (fr:Nat×Nat),w.heap[b]?=some (.cells c t fr)∧(t=58∨t=68))∧¬ qx S L b):aS w' S L:=by
 have f:∀ (b:Nat) (c:Array Value) (t:TypeId),t≠58->t≠68->w.heap[b]?=some (.cells c t (0,0))->w'.heap[b]?=w.heap[b]?:=fun b c t s u d=>by
  refine k.block b (gQ d).1 (fun m=>?_);obtain⟨⟨_,_,fr,j,r⟩,_⟩:=x b m (gQ d).1;rw [d] at j;simp only [Option.some.injEq,Obj.cells.injEq] at j;rw [j.2.1] at s u;exact r.elim s u
 have m:∀ b,qx S L b->w'.heap[b]?=w.heap[b]?:=fun b d=>k.block b (h.FX d) (fun e=>(x b e (h.FX d)).2 d);have y:∀ (b:Nat) (c:Array Value) (t:TypeId),t=38∨t=3->w.heap[b]?=some (.cells c t (0,0))->w'.heap[b]?=w.heap[b]?:=fun b c t r d=>by
  rcases r with e | e
  ·exact f b c t (by rw [e];decide) (by rw [e];decide) d
  ·exact f b c t (by rw [e];decide) (by rw [e];decide) d
 exact⟨h.ok,by rw [m _ (.inl rfl)];exact h.box,h.aj,aI.keep h.rd h.ty y,dK.keep h.ty y,fun p q=>(h.gs p q).keep fun b c d=>f b c _ (by decide) (by decide) d,
  fun p q=>(h.ps p q).keep fun b c d=>f b c 3 (by decide) (by decide) d,
  fun i o c j=>⟨by rw [m _ (.inr ⟨i,o,by rw [j];rfl,rfl⟩)];exact(h.cl i o c j).1,(h.cl i o c j).2.keep fun b c d=>f b c _ (by decide) (by decide) d⟩,h.apart⟩
theorem aS.below {L:Lay} (h:aS w S L) (d:Below w.heap.size w w'):aS w' S L:=
 h.keep (M:=fun _=>False) (Kp.of_below _ d) (fun _ e=>e.elim)
theorem aS.alloc {L:Lay} (h:aS w S L) (o:Obj):aS (w.alloc o) S L:=h.below (aM w o)
theorem aS.drewN {L:Lay} (h:aS w S L) (n:Nat):aS (w.drewN n) S L:=h.below (below_drewN (Below.refl _ _) n)
theorem aS.drew {L:Lay} (h:aS w S L):aS w.drew S L:=h.below ((Below.refl _ _).drew)
def nU (t:TypeId):Prop:=t=58∨t=68∨t=65∨t=38∨t=3
theorem aS.same {L:Lay} (h:aS w S L) (f:∀ (b:Nat) (x:Array Value) (t:TypeId),nU t->w.heap[b]?=some (.cells x t (0,0))->w'.heap[b]?=w.heap[b]?):aS w' S L:=by
 have o:∀ (b:Nat) (x:Array Value) (t:TypeId),t=38∨t=3->w.heap[b]?=some (.cells x t (0,0))->w'.heap[b]?=w.heap[b]?:=fun b x t q d=>f b x t (q.elim (fun e=>.inr (.inr (.inr (.inl e)))) (fun e=>.inr (.inr (.inr (.inr e))))) d
 exact⟨h.ok,by rw [f _ _ _ (.inl rfl) h.box];exact h.box,h.aj,aI.keep h.rd h.ty o,dK.keep h.ty o,fun p m=>(h.gs p m).keep fun b c d=>f b c _ (.inr (.inr (.inl rfl))) d,
  fun p m=>(h.ps p m).keep fun b c d=>f b c 3 (.inr (.inr (.inr (.inr rfl)))) d,
  fun i k c j=>⟨by rw [f _ _ _ (.inr (.inl rfl)) (h.cl i k c j).1];exact(h.cl i k c j).1,(h.cl i k c j).2.keep fun b c d=>f b c _ (.inr (.inr (.inl rfl))) d⟩,h.apart⟩
theorem aS.set {L:Lay} (h:aS w S L) (k:w.heap[B]?=some (.cells c t fr)) (m:¬ nU t) (j:Nat) (u:Value):aS (w.setCell ⟨B,j,none⟩ u) S L:=
 h.same fun b x o d f=>Below.heap_setCell _ _ _ _ (fun e=>by
  simp only at e
  subst e
  rw [k] at f
  simp only [Option.some.injEq,Obj.cells.injEq] at f
  exact m (f.2.1 ▸ d))
structure aY (w:World) (S:aD) (L:Lay) (S':aD) (L':Lay) (w':World):Prop where
 bO:aS w' S' L'
 sb:L'.sb=L.sb
 kp:Kp (qx S L) w w'
 cb:∀ i,i < 3->(S'.cl i).isSome=true->((S.cl i).isSome=true∧L'.cb i=L.cb i)∨w.heap.size<=L'.cb i
theorem aY.mut {L:Lay} {j:aD} {f:Lay} (h:aY w S L j f w') (o:qx j f b):qx S L b∨w.heap.size<=b:=by
 rcases o with e | ⟨i,k,q,e⟩
 ·exact .inl (.inl (by rw [e,h.sb]))
 ·rcases h.cb i k q with ⟨d,m⟩ | d
  ·exact .inl (.inr ⟨i,k,d,by rw [e,m]⟩)
  ·exact .inr (by rw [e];exact d)
theorem aY.refl {L:Lay} (h:aS w S L):aY w S L S L w:=⟨h,rfl,Kp.refl _ _,fun _ _ d=>.inl ⟨d,rfl⟩⟩
theorem aY.trans {m:aD} {L f j:Lay} (h:aY w S L m f w1) (k:aY w1 m f S2 j w2):aY w S L S2 j w2:=by
 refine⟨k.bO,k.sb.trans h.sb,h.kp.trans k.kp (fun i d=>h.mut d),fun i d s=>?_⟩;have:=h.kp.size;rcases k.cb i d s with ⟨o,q⟩ | o
 ·rcases h.cb i d o with ⟨e,r⟩ | e
  ·exact .inl ⟨e,q.trans r⟩
  ·exact .inr (by rw [q];exact e)
 ·exact .inr (by omega)
theorem aY.from {L f:Lay} (h:Below w.heap.size w w1) (k:aY w1 S L S2 f w2):aY w S L S2 f w2:=
 ⟨k.bO,k.sb,(Kp.of_below _ h).trans k.kp (fun _ d=>.inl d),fun i d j=>(k.cb i d j).elim .inl (fun e=>.inr (by have:=h.size;omega))⟩
theorem aY.later {L d:Lay} (k:aY w S L S2 d w1) (f:Below w1.heap.size w1 w2):aY w S L S2 d w2:=
 ⟨k.bO.below f,k.sb,k.kp.trans (N:=fun _=>False) (Kp.of_below _ f) (fun _ e=>e.elim),k.cb⟩
theorem aY.set {L d:Lay} (k:aY w S L S2 d w1) (h:w1.heap[B]?=some (.cells c t fr)) (m:¬ nU t) (f:w.heap.size<=B) (j:Nat) (u:Value):aY w S L S2 d (w1.setCell ⟨B,j,none⟩ u):=
 ⟨k.bO.set h m j u,k.sb,k.kp.trans (N:=fun b=>b=B) (Kp.set (M:=fun b=>b=B) w1 (p:=⟨B,j,none⟩) rfl u) (fun i e=>.inr (by rw [e];exact f)),k.cb⟩
theorem afT (S:aD) (L:Lay):(tC S L).size=86:=rfl
theorem Ti (S:aD) (L:Lay) (p j:Nat) (h:p < 6) (f:j < 4):(Ga S L)[p*4+j]?=(dD (S.ps p) (L.pa p) (L.pc p))[j]?:=by
 have d:p=0∨p=1∨p=2∨p=3∨p=4∨p=5:=by omega
 have e:j=0∨j=1∨j=2∨j=3:=by omega
 rcases d with rfl | rfl | rfl | rfl | rfl | rfl <;>rcases e with rfl | rfl | rfl | rfl <;>rfl
theorem Ul (S:aD) (L:Lay) (j:Nat) (d:j < 58):(tC S L)[j]?=(jg S.v L.l)[j]?:=by
 show (Bj S L).toArray[j]?=_;rw [List.getElem?_toArray,Bj,List.append_assoc,List.getElem?_append_left (by rw [Pt.DU];exact d)]
theorem afS (S:aD) (L:Lay) (p j:Nat) (e:p < 6) (d:j < 4):(tC S L)[58+(p*4+j)]?=(dD (S.ps p) (L.pa p) (L.pc p))[j]?:=by
 show (Bj S L).toArray[58+(p*4+j)]?=_;rw [List.getElem?_toArray,Bj,List.append_assoc,List.getElem?_append_right (by rw [Pt.DU];omega),Pt.DU,List.getElem?_append_left (by show _ < 24;omega)];have:58+(p*4+j) - 58=p*4+j:=by omega
 rw [this];exact Ti S L p j e d
theorem afR (S:aD) (L:Lay) (i:Nat) (d:i < 3):(tC S L)[82+i]?=some (.pointer (jk S L i)):=by
 have:i=0∨i=1∨i=2:=by omega
 rcases this with rfl | rfl | rfl <;>rfl
theorem afQ (S:aD) (L:Lay):(tC S L)[85]?=some (.int .i64 S.acts):=rfl
theorem aS.frozen {L:Lay} (h:aS w S L) (j:Nat):w.frozen? ⟨L.sb,j,none⟩=false:=frozen_of_row w L.sb j _ _ h.box
theorem aS.cell {L:Lay} (h:aS w S L) (j:Nat):w.cell? ⟨L.sb,j,none⟩=(tC S L)[j]?:=cell_of_row w L.sb j _ _ _ h.box
theorem aS.acts {L:Lay} (h:aS w S L):w.cell? ⟨L.sb,85,none⟩=some (.int .i64 S.acts):=(h.cell 85).trans (afQ S L)
theorem aS.ptr {L:Lay} (h:aS w S L) (i:Nat) (d:i < 3):w.cell? ⟨L.sb,82+i,none⟩=some (.pointer (jk S L i)):=(h.cell _).trans (afR S L i d)
theorem aS.kJ {L:Lay} (h:aS w S L):w.cell? ⟨L.sb,0,none⟩=some (.slice L.l.co L.l.its.length L.l.cap):=(h.cell 0).trans rfl
theorem aS.sides {L:Lay} (h:aS w S L):w.cell? ⟨L.sb,55,none⟩=some (.int .i64 S.v.wide)∧w.cell? ⟨L.sb,56,none⟩=some (.int .i64 S.v.high)∧w.cell? ⟨L.sb,57,none⟩=some (.int .i64 S.v.focus):=
 ⟨(h.cell 55).trans rfl,(h.cell 56).trans rfl,(h.cell 57).trans rfl⟩
theorem aS.view {L:Lay} (h:aS w S L):w.rangeAt L.sb 0 (jg S.v L.l):=fun j x d=>by
 have e:j < 58:=(gL d).1
 rw [Nat.zero_add,h.cell j,Ul S L j e]
 exact d
theorem aS.grid {L:Lay} (h:aS w S L) (p:Nat) (k:p < 6):w.rangeAt L.sb (1+p*9) (bE (S.v.gs p) (L.l.ga p) (L.l.gc p)).toList:=fun j x d=>by
 have f:j < 9:=(gL d).1
 have e:1+p*9+j=(p*9+j)+1:=by omega
 rw [h.cell,Ul S L _ (by omega),e]
 show (mR S.v L.l++_)[p*9+j]?=_
 rw [List.getElem?_append_left (by rw [Pt.QZ];omega),Pt.Mw S.v L.l p j k f]
 simpa using d
theorem aS.par {L:Lay} (h:aS w S L) (p:Nat) (f:p < 6):w.rangeAt L.sb (58+p*4) (dD (S.ps p) (L.pa p) (L.pc p)):=fun j x d=>by
 have e:j < 4:=(gL d).1
 rw [h.cell,show 58+p*4+j=58+(p*4+j) by omega,afS S L p j f e]
 exact d
theorem aS.there {L:Lay} (h:aS w S L) (o n:Nat) (f:o+n<=86):w.there L.sb o n:=fun j e=>by
 have d:o+j < (tC S L).size:=by rw [afT];omega
 refine⟨?_,h.frozen _⟩
 rw [h.cell,Array.getElem?_eq_getElem d]
 rfl
theorem aS.xX {L:Lay} (h:aS w S L):Pt.dw w S.v L.l:=by
 have j:=Tl.sM h.ok.t;have m:L.l.its.length<=6:=by rw [h.aj] at j;simpa using j
 have k:∀ x∈L.l.its,x.1.length<=3:=fun x f=>(h.ok.t.kI x.1 (by rw [h.aj];exact List.mem_map.2 ⟨x,f,rfl⟩)).2;refine⟨h.aj,h.rd,fun p d=>(h.gs p d).rd,by omega,fun x f=>by have:=k x f;omega,fun p d=>?_,?_⟩
 ·rcases h.ok.grid p d with e | e
  ·rw [e];show 0<=_;omega
  ·obtain⟨_,_,_⟩:=e.nums;omega
 ·have:=Tl.Dn S.v.aj.flatten [0,1,2,3,4,5] h.ok.t.once (fun p d=>by
   have:=h.ok.t.pane p d
   simp only [Tl.dG,decide_eq_true_eq] at this
   have:p=0∨p=1∨p=2∨p=3∨p=4∨p=5:=by omega
   simpa using this)
  simp only [List.length_cons,List.length_nil] at this;omega
variable (i:Int) (w:World)
theorem bD {a b:Bool} (h:a=b):Ending.returned (.bool a)=.returned (.bool b):=by rw [h]
theorem Jm:kD 37 #[.int .i64 i] w (.bool (jo i)):=by
 by_cases d:0<=i
 ·go_enter func37,ntmps37;go_wp2;go_ret;exact⟨bD (by simp [jo,d]),rfl⟩
 ·have:i < 0:=(by omega);go_enter func37,ntmps37;go_wp2;go_ret;exact⟨bD (by simp [jo];omega),rfl⟩
theorem CU (wide high:Int) (w:World):kD 73 #[.int .i64 wide,.int .i64 high] w (.bool (iM wide high)):=by
 by_cases d:1<=wide
 ·by_cases e:wide<=24
  ·by_cases f:1<=high
   ·go_enter func73,ntmps73;go_wp2;go_ret;exact⟨bD (by simp [iM,d,e,f]),rfl⟩
   ·have:high < 1:=(by omega);go_enter func73,ntmps73;go_wp2;go_ret;exact⟨bD (by simp [iM];omega),rfl⟩
  ·have:24 < wide:=(by omega);go_enter func73,ntmps73;go_wp2;go_ret;exact⟨bD (by simp [iM];omega),rfl⟩
 ·have:wide < 1:=(by omega);go_enter func73,ntmps73;go_wp2;go_ret;exact⟨bD (by simp [iM];omega),rfl⟩
def ru (S:aD) (L:Lay) (i:Int):Option Addr:=if jo i then jk S L i.toNat else none
theorem TY {a b:Option Addr} (h:a=b):Ending.returned (.pointer a)=.returned (.pointer b):=by rw [h]
theorem yU (S:aD) (L:Lay) (h:aS w S L):kD 18 #[.pointer (some ⟨L.sb,0,none⟩),.int .i64 i] w (.pointer (ru S L i)):=by
 cases d:jo i
 ·have j:Hid (∀ w,kD 37 #[.int .i64 i] w (.bool false)):=fun w=>(by rw [<-d];exact Jm i w);have k:Hid (ru S L i=none):=(by show ru S L i=none;unfold ru;rw [d];rfl);clear h d;go_enter func18,ntmps18;go_wp2_with (go_at_call 37;refine(j.out _).mono ?_;rintro e w1 ⟨rfl,m⟩;subst w1);go_ret;exact⟨TY k.out.symm,rfl⟩
 ·have j:Hid (∀ w,kD 37 #[.int .i64 i] w (.bool true)):=fun w=>(by rw [<-d];exact Jm i w);have f:0<=i∧i < 3:=(by simpa [jo] using d);obtain⟨n,rfl⟩:=Int.eq_ofNat_of_zero_le f.1;have o:n < 3:=(by omega);have k:Hid (ru S L (n:Int)=jk S L n):=(by show ru S L _=_;unfold ru;rw [d];rfl);have:=h.ptr n o;have:(n:Int) < 3:=(by omega);have:(0:Int)<=(n:Int):=(by omega);have:=(gQ h.box).1;clear h d f;go_enter func18,ntmps18;go_wp2_with (go_at_call 37;refine(j.out _).mono ?_;rintro e w1 ⟨rfl,m⟩;subst w1);go_ret;exact⟨TY k.out.symm,rfl⟩
end Go.Proofs.YtkcdcamophkdlaaGreatDoor.Sv
