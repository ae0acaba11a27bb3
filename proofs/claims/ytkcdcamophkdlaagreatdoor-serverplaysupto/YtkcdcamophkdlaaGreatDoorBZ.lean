import Derived.Test.YtkcdcamophkdlaaGreatDoorBQ
import Derived.Test.YtkcdcamophkdlaaGreatDoorBY
import Derived.Test.YtkcdcamophkdlaaGreatDoorBN
set_option maxRecDepth 100000
open Go.Proofs.Tryz
namespace Go.Proofs.YtkcdcamophkdlaaGreatDoor.Sv
open Go.RowKit
open Go.Proofs.YtkcdcamophkdlaaGreatDoor.Tl (aR)
theorem jP.like {X:Nat->Prop} {w:World} {L:Lay} {T U:aD} {r:Rp} {e:Ending} {w':World} (h:jP X w L T r e w') (p:lq U) (d:U.v=T.v) (j:U.ps=T.ps) (l:U.acts=T.acts) (m:∀ i,i < 3->iU U i=iU T i):jP X w L U r e w':=by
 obtain⟨n,c,o⟩:=h;exact⟨n,c,o.like p d j l m⟩
theorem xY {S:aD} {a:Ac} (h:a.kind≠9):rU S a=(dW S a).2:=by unfold rU;rw [if_neg h]
theorem aej (X:Nat->Prop) (a:Ac) (Z:a.bytes.length<=1048576) (w:World) (S:aD) (L:Lay) (h:bJ X w S L) (z:dJ S):
  kC 10 #[.pointer (some ⟨L.sb,0,none⟩),aval a] w (jP X w L (dW S a).1 (rU S a)):=by
 by_cases G:S.acts=300
 ·have q:dW S a=(S,err 5):=(by unfold dW;rw [if_pos G]);have u:rU S a=err 5:=(by unfold rU;rw [q];split <;>rfl);rw [q,u];exact aep X a w S L h G
 have j:S.acts < 300:=by have:=z.acts;omega
 have s:dW S a=gG (aC S) a:=by unfold dW;rw [if_neg G]
 have y:=SL z a;obtain⟨l,p,n,m,d⟩:=a;by_cases H:l=1
 ·subst H;rw [xY (by dsimp only;decide),s];exact aeD X p n m d w S L h z j
 by_cases I:l=2
 ·subst I;rw [xY (by dsimp only;decide),s];exact aeu X p n m d w S L h z j
 by_cases J:l=3
 ·subst J;rw [xY (by dsimp only;decide),s];have q:gG (aC S) ⟨3,p,n,m,d⟩=((jd (aC S) p d).1,err (jd (aC S) p d).2):=rfl;rw [q];cases o:aR S.v.aj p
  ·have u:jd (aC S) p d=(aC S,3):=(by unfold jd;rw [show aR (aC S).v.aj p=false from o];rfl);rw [u];exact aey X p n m d w S L h j o
  ·have u:jd (aC S) p d=(jf (aC S) p.toNat d,0):=(by unfold jd;rw [show aR (aC S).v.aj p=true from o];rfl);rw [u];obtain⟨p1,_⟩:=vU z.v.t o;obtain⟨P,rfl⟩:=Int.eq_ofNat_of_zero_le p1;exact aeB X P (by omega) n m d Z w S L h z j o
 by_cases K:l=4
 ·subst K;rw [xY (by dsimp only;decide),s];have q:gG (aC S) ⟨4,p,n,m,d⟩=((jc (aC S) p).1,err (jc (aC S) p).2):=rfl;rw [q];cases o:aR S.v.aj p
  ·have u:jc (aC S) p=(aC S,3):=(by unfold jc;rw [show aR (aC S).v.aj p=false from o];rfl);rw [u];exact aez X p n m d w S L h j o
  ·have u:jc (aC S) p=({aC S with v:={S.v with focus:=p}},0):=(by unfold jc;rw [show aR (aC S).v.aj p=true from o];rfl);rw [u];exact aeo X p n m d w S L h j o
 by_cases N:l=5
 ·subst N;rw [xY (by dsimp only;decide),s];exact aeC X p n m d w S L h z j
 by_cases R:l=8
 ·subst R;rw [xY (by dsimp only;decide)];rw [s] at y ⊢;refine(aeE X p n m d w S L h j).mono fun e w' F=>F.like y.wk rfl rfl rfl (fun i _=>?_);show ((S.cl i).map (iW S.v)).isSome=(S.cl i).isSome;cases S.cl i <;>rfl
 by_cases O:l=6
 ·subst O;rw [xY (by dsimp only;decide),s];have q:gG (aC S) ⟨6,p,n,m,d⟩=((iw (aC S) p n m).1,err (iw (aC S) p n m).2):=rfl;rw [q];unfold iw;by_cases r:jo p=true
  ·rw [if_pos r];obtain⟨A,U⟩:=CJ r;obtain⟨P,rfl⟩:=Int.eq_ofNat_of_zero_le A;have x:P < 3:=(by omega);cases o:iU S P
   ·rw [if_neg (by show ¬ (S.cl P).isSome=true;rw [show (S.cl P).isSome=false from o];decide)];cases W:iM n m
    ·exact ael X P x n m d w S L h j o W
    ·exact aek X P x n m d w S L h j o W
   ·rw [if_pos (show ((aC S).cl (P:Int).toNat).isSome=true from o)];exact aeF X P x n m d w S L h j o
  ·rw [if_neg r];have D:p < 0∨(0<=p∧2 < p):=(by simp only [jo,decide_eq_true_eq] at r;omega);exact aev X p n m d w S L h j D
 by_cases Q:l=7
 ·subst Q;rw [xY (by dsimp only;decide),s];have q:gG (aC S) ⟨7,p,n,m,d⟩=((jB (aC S) p).1,err (jB (aC S) p).2):=rfl;rw [q];unfold jB jm;by_cases r:jo p=true
  ·obtain⟨A,U⟩:=CJ r;obtain⟨P,rfl⟩:=Int.eq_ofNat_of_zero_le A;have x:P < 3:=(by omega);simp only [if_pos r];cases o:iU S P
   ·rw [if_neg (by show ¬ (S.cl P).isSome=true;rw [show (S.cl P).isSome=false from o];decide)];exact aer X P x n m d w S L h j o
   ·rw [if_pos (show ((aC S).cl (P:Int).toNat).isSome=true from o)];exact aem X P x n m d w S L h j o
  ·simp only [if_neg r];have D:p < 0∨(0<=p∧2 < p):=(by simp only [jo,decide_eq_true_eq] at r;omega);exact aew X p n m d w S L h j D
 by_cases E:l=9
 ·subst E;have Y:rU S ⟨9,p,n,m,d⟩=err (dW S ⟨9,p,n,m,d⟩).2.code:=(by unfold rU;rw [if_pos rfl]);rw [Y];rw [s] at y ⊢;have q:gG (aC S) ⟨9,p,n,m,d⟩=jQ (aC S) p n:=rfl;rw [q] at y ⊢;by_cases r:jo p=true
  ·obtain⟨A,U⟩:=CJ r;obtain⟨P,rfl⟩:=Int.eq_ofNat_of_zero_le A;have x:P < 3:=(by omega);have C:jm (aC S) (P:Int)=S.cl P:=(by unfold jm;rw [if_pos r];rfl);unfold jQ at y ⊢;cases o:S.cl P with
   | none=>
    rw [C,o];exact aes X P x n m d w S L h j (by unfold iU;rw [o];rfl)
   | some c=>
    rw [C,o] at y;rw [C,o];refine(aen X P x n m d w S L h j (by unfold iU;rw [o];rfl)).mono fun e w' F=>F.like y.wk rfl rfl rfl (fun i _=>?_);show (upd S.cl P _ i).isSome=(S.cl i).isSome;by_cases V:i=P
    ·rw [V,dY,o];rfl
    ·rw [upd_ne _ _ V]
  ·have C:jm (aC S) p=none:=(by unfold jm;rw [if_neg r]);have D:p < 0∨(0<=p∧2 < p):=(by simp only [jo,decide_eq_true_eq] at r;omega);unfold jQ;rw [C];exact aex X p n m d w S L h j D
 ·rw [xY (by exact E),s];have q:gG (aC S) ⟨l,p,n,m,d⟩=(aC S,err 2):=by
   unfold gG lC;simp only [if_neg H,if_neg I,if_neg J,if_neg K,if_neg N,if_neg O,if_neg Q,if_neg R,if_neg E]
  rw [q];exact aeA X l p n m d w S L h j (by simpa using H) (by simpa using I) (by simpa using J) (by simpa using K) (by simpa using N) (by simpa using O) (by simpa using Q) (by simpa using R) (by simpa using E)
open Go.Proofs.YtkcdcamophkdlaaGreatDoor.Pt (Vw VC dw bP vc jg)
variable (f:Nat->List UInt8) (a:Ac) (k i:Nat) (g:Nat->List UInt8) {w w0 w':World} {L M:Lay} {S T:aD} {B b:Nat} {r0:Rp}
theorem bJ.xX {X:Nat->Prop} (h:bJ X w S L):dw w S.v L.l:=by
 have j:=Tl.sM h.ok.t;have n:L.l.its.length<=6:=by rw [h.aj] at j;simpa using j
 have m:∀ x∈L.l.its,x.1.length<=3:=fun x d=>(h.ok.t.kI x.1 (by rw [h.aj];exact List.mem_map.2 ⟨x,d,rfl⟩)).2;refine⟨h.aj,h.rd,fun p c=>(h.gs p c).rd,by omega,fun x d=>by have:=m x d;omega,fun p c=>?_,?_⟩
 ·rcases h.ok.grid p c with e | e
  ·rw [e];show 0<=_;omega
  ·obtain⟨_,_,_⟩:=e.nums;omega
 ·have:=Tl.Dn S.v.aj.flatten [0,1,2,3,4,5] h.ok.t.once (fun p c=>by
   have:=h.ok.t.pane p c
   simp only [Tl.dG,decide_eq_true_eq] at this
   have:p=0∨p=1∨p=2∨p=3∨p=4∨p=5:=by omega
   simpa using this)
  simp only [List.length_cons,List.length_nil] at this;omega
theorem ab6 (h:aS w S L) (j:qx S L b):∃ (c:Array Value) (t:TypeId) (d:Nat×Nat),w.heap[b]?=some (.cells c t d)∧(t=58∨t=68):=by
 rcases j with e | ⟨i,l,m,e⟩
 ·rw [e];exact⟨_,_,_,h.box,.inl rfl⟩
 ·obtain⟨x,n⟩:=Option.isSome_iff_exists.1 m;rw [e];exact⟨_,_,_,(h.cl i l x n).1,.inr rfl⟩
def Xk (ks:List Bx) (S:aD) (L M:Lay):Nat->Prop:=fun b=>qx S L b∨b=M.sb∨∃ k∈ks,k.1=b
structure PB (w0:World) (ks:List Bx) (w:World) (S T:aD) (L M:Lay):Prop where
 a:lW w0 ks w S L
 b:bJ (Xk ks S L M) w T M
 far:w0.heap.size<=M.sb
 kt:∀ k∈ks,k.2.2≠44
theorem PB.later {ks:List Bx} (h:PB w0 ks w S T L M) (c:Below w.heap.size w w'):PB w0 ks w' S T L M:=⟨h.a.later c,h.b.below c,h.far,h.kt⟩
theorem PB.xl {ks:List Bx} (h:PB w0 ks w S T L M) (c:Xk ks S L M b):b < w.heap.size:=h.b.xl b c
theorem PB.left {ks:List Bx} (h:PB w0 ks w S T L M) {o:aD} {n:Lay} (k:aY w S L o n w'):PB w0 ks w' o T n M:=by
 have:=k.kp.size;refine⟨h.a.to k,h.b.keep k.kp (fun b p _=>?_) (.inr (.inl rfl)) (fun b r l=>?_) (fun b l=>?_),h.far,h.kt⟩
 ·obtain⟨c,t,q,j,m⟩:=ab6 h.a.bO p;refine⟨.inl p,fun e=>?_,c,t,q,j,?_,?_⟩
  ·rw [e,h.b.box] at j;simp only [Option.some.injEq,Obj.cells.injEq] at j;rcases m with d | d
   ·exact absurd (j.2.1.trans d) (by decide)
   ·exact absurd (j.2.1.trans d) (by decide)
  ·rcases m with d | d <;>rw [d] <;>decide
  ·rcases m with d | d <;>rw [d] <;>decide
 ·rcases l with e | e
  ·rcases k.mut e with d | d
   ·exact .inl d
   ·omega
  ·exact .inr e
 ·rcases l with e | e | ⟨x,l,e⟩
  ·exact k.bO.FX e
  ·have:=h.b.lt;rw [e];omega
  ·have:=(gQ (h.a.ks x l).1).1;omega
theorem PB.right {ks:List Bx} (h:PB w0 ks w S T L M) {n:aD} {l:Lay} (k:gZ (Xk ks S L M) w M n l w'):PB w0 ks w' S n L l:=by
 have m:=h.a.below.size;have j:∀ (b:Nat) (x:Array Value) (t:TypeId),t≠44->w.heap[b]?=some (.cells x t (0,0))->w'.heap[b]?=w.heap[b]?:=fun b x t d c=>by
  refine k.kp.block b (gQ c).1 (fun e=>?_);rw [e,h.b.box] at c;simp only [Option.some.injEq,Obj.cells.injEq] at c;exact d c.2.1.symm
 have o:Xk ks S L l=Xk ks S L M:=by unfold Xk;rw [k.sb]
 refine⟨⟨h.a.bO.same (fun b x t d c=>j b x t (fun e=>by rw [e] at d;unfold nU at d;revert d;decide) c),h.a.mine,⟨k.kp.os.trans h.a.below.os,k.kp.tape.trans h.a.below.tape,k.kp.output.trans h.a.below.output,Nat.le_trans m k.kp.size,fun i p=>?_⟩,fun x c=>⟨?_,(h.a.ks x c).2⟩⟩,by rw [o];exact k.ref,by rw [k.sb];exact h.far,h.kt⟩
 ·have:=h.far;rw [k.kp.block i (by omega) (by omega),h.a.below.block i p]
 ·rw [j _ _ _ (h.kt x c) (h.a.ks x c).1];exact(h.a.ks x c).1
theorem PB.add {ks:List Bx} (h:PB w0 ks w S T L M) (c:Array Value) (t:TypeId) (m:¬ nU t) (l:t≠44):PB w0 ((w.heap.size,c,t)::ks) (w.alloc (.cells c t)) S T L M:=by
 have n:(w.alloc (.cells c t)).heap.size=w.heap.size+1:=by simp
 refine⟨h.a.add c t m,h.b.keep (M:=fun _=>False) (Kp.of_below _ (aM w _)) (fun _ e=>e.elim) (.inr (.inl rfl)) (fun b o j=>?_) (fun b j=>?_),h.far,fun x j=>?_⟩
 ·rcases j with e | e | ⟨x,j,e⟩
  ·exact .inl e
  ·exact .inr (.inl e)
  ·rcases List.mem_cons.1 j with d | d
   ·rw [d] at e;dsimp only at e;omega
   ·exact .inr (.inr ⟨x,d,e⟩)
 ·rw [n];rcases j with e | e | ⟨x,j,e⟩
  ·have:=h.xl (b:=b) (.inl e);omega
  ·have:=h.xl (b:=b) (.inr (.inl e));omega
  ·rcases List.mem_cons.1 j with d | d
   ·rw [d] at e;dsimp only at e;omega
   ·have:=h.xl (b:=b) (.inr (.inr ⟨x,d,e⟩));omega
 ·rcases List.mem_cons.1 j with d | d
  ·rw [d];exact l
  ·exact h.kt x d
theorem PB.less {ks j:List Bx} (h:PB w0 ks w S T L M) (d:∀ x∈j,x∈ks):PB w0 j w S T L M:=by
 have c:∀ b,Xk j S L M b->Xk ks S L M b:=fun b c=>by
  rcases c with e | e | ⟨x,c,e⟩
  ·exact .inl e
  ·exact .inr (.inl e)
  ·exact .inr (.inr ⟨x,d x c,e⟩)
 exact⟨h.a.less d,h.b.keep (M:=fun _=>False) (Kp.refl _ _) (fun _ e=>e.elim) (.inr (.inl rfl)) (fun b _ e=>c b e) (fun b e=>h.xl (c b e)),h.far,fun x c=>h.kt x (d x c)⟩
theorem PB.put {ks y:List Bx} (h:PB w0 ks w S T L M) {c A:Array Value} {t:TypeId} (p:(B,c,t)∈ks) (J:w0.heap.size<=B) (l:Kp (fun b=>b=B) w w') (G:w'.heap[B]?=some (.cells A t (0,0))) (s:∀ k∈y,(k.1≠B∧k∈ks)∨k=(B,A,t)):PB w0 y w' S T L M:=by
 have u:=h.a.below.size;have D:=l.size;obtain⟨m,n⟩:=h.a.ks _ p;have r:=h.kt _ p;dsimp only at m n r;have z:∀ (b:Nat) (x:Array Value) (o:TypeId),o≠t->w.heap[b]?=some (.cells x o (0,0))->w'.heap[b]?=w.heap[b]?:=fun b x o v d=>by
  refine l.block b (gQ d).1 (fun e=>?_);rw [e,m] at d;simp only [Option.some.injEq,Obj.cells.injEq] at d;exact v d.2.1.symm
 have d:∀ b,Xk y S L M b->Xk ks S L M b:=fun b d=>by
  rcases d with e | e | ⟨x,d,e⟩
  ·exact .inl e
  ·exact .inr (.inl e)
  ·rcases s x d with ⟨_,j⟩ | j
   ·exact .inr (.inr ⟨x,j,e⟩)
   ·rw [j] at e;exact .inr (.inr ⟨_,p,e⟩)
 refine⟨⟨h.a.bO.same (fun b x o I d=>z b x o (fun e=>n (e ▸ I)) d),h.a.mine,⟨l.os.trans h.a.below.os,l.tape.trans h.a.below.tape,l.output.trans h.a.below.output,Nat.le_trans u D,fun i H=>?_⟩,fun x d=>?_⟩,h.b.keep l (fun b e _=>?_) (.inr (.inl rfl)) (fun b _ e=>d b e) (fun b e=>Nat.lt_of_lt_of_le (h.xl (d b e)) D),h.far,fun x d=>?_⟩
 ·rw [l.block i (by omega) (by omega),h.a.below.block i H]
 ·rcases s x d with ⟨E,j⟩ | j
  ·obtain⟨C,F⟩:=h.a.ks x j;exact⟨by rw [l.block x.1 (gQ C).1 E];exact C,F⟩
  ·rw [j];exact⟨G,n⟩
 ·refine⟨.inr (.inr ⟨_,p,e.symm⟩),fun j=>?_,c,t,(0,0),by rw [e];exact m,fun q=>n (.inr (.inr (.inr (.inl q)))),fun q=>n (.inr (.inr (.inr (.inr q))))⟩;rw [<-e,j,h.b.box] at m;simp only [Option.some.injEq,Obj.cells.injEq] at m;exact r m.2.1.symm
 ·rcases s x d with ⟨_,j⟩ | j
  ·exact h.kt x j
  ·rw [j];exact r
@[reducible] def aN (f:Nat->List UInt8):Array Value:=#[.string (bs (f 0)),.string (bs (f 1)),.string (bs (f 2))]
@[reducible] def Pb (f:Nat->List UInt8):Obj:=.cells (aN f) 45
def qM (j:Nat) (f g:Nat->List UInt8) (i:Nat):List UInt8:=if i < j then g i else f i
theorem Pf (c:i < 3):(aN f)[i]?=some (.string (bs (f i))):=by
 have:i=0∨i=1∨i=2:=by omega
 rcases this with rfl | rfl | rfl <;>rfl
theorem ahD (j:Nat) (c:j < 3):(aN (qM j f g)).setIfInBounds j (.string (bs (g j)))=aN (qM (j+1) f g):=by
 have:j=0∨j=1∨j=2:=by omega
 rcases this with rfl | rfl | rfl <;>rfl
theorem ahJ:qM 0 f g=f:=funext fun i=>if_neg (by omega)
theorem ahE:aN (qM 3 f g)=aN g:=rfl
theorem U6:¬ nU 45∧(45:TypeId)≠44:=by unfold nU;decide
theorem fT:¬ nU 50∧(50:TypeId)≠44:=by unfold nU;decide
theorem afs (h:w.heap[B]?=some (bA r0)) (r:Rp):(w.setCells B 0 (au r).toList).heap[B]?=some (bA r):=by
 show (((w.setCell ⟨B,0,none⟩ _).setCell ⟨B,1,none⟩ _).setCell ⟨B,2,none⟩ _).heap[B]?=_;rw [bG (bG (bG h _) _) _]
 rfl
theorem jZ (h:w.heap[B]?=some (bA r0)):w.there B 0 3:=fun j c=>by
 refine⟨?_,frozen_of_row w B _ _ _ h⟩
 rw [cell_of_row w B _ _ _ _ h]
 have:j=0∨j=1∨j=2:=by omega
 rcases this with rfl | rfl | rfl <;>rfl
theorem PB.reply {ks d:List Bx} (h:PB w0 ks w S T L M) (c:(B,au r0,50)∈ks) (j:w0.heap.size<=B) (r:Rp) (e:∀ k∈d,(k.1≠B∧k∈ks)∨k=(B,au r,50)):PB w0 d (w.setCells B 0 (au r).toList) S T L M:=
 h.put c j (oI B _ 0 w) (afs (h.a.ks _ c).1 r) e
theorem ads (l:a.bytes.length<=1048576) {ks:List Bx} (h:PB w0 ks w S T L M) (j:dJ S):
  kC 9 #[.pointer (some ⟨L.sb,0,none⟩),aval a] w fun e w'=>e=.returned (eF (dW S a).2)∧∃ c,c.sb=L.sb∧PB w0 ks w' (dW S a).1 T c M:=by
 refine(Y7 a (by omega) w S L h.a.bO j).mono ?_;rintro e w' ⟨rfl,c,d⟩;exact⟨rfl,c,d.sb,h.left d⟩
theorem adu (j:a.bytes.length<=1048576) {ks:List Bx} (h:PB w0 ks w S T L M) (l:dJ T):
  kC 10 #[.pointer (some ⟨M.sb,0,none⟩),aval a] w fun e w'=>e=.returned (eF (rU T a))∧∃ c,c.sb=M.sb∧PB w0 ks w' S (dW T a).1 L c:=by
 refine(aej _ a j w T M h.b l).mono ?_;rintro e w' ⟨rfl,c,d⟩;exact⟨rfl,c,d.sb,h.right d⟩
theorem XZ (S:aD) (i:Nat):clR (S.cl i)=#[.string (bs (pq S i)),.bool (pl S i),.bool (ph S i)]:=by
 unfold pq pl ph;cases S.cl i <;>rfl
theorem aaI (S:aD) (k:Nat) (c:k < 3):jm S (k:Int)=S.cl k:=by
 unfold jm;rw [if_pos (by simp [jo];omega)]
 rfl
theorem adr (c:k < 3) {ks:List Bx} (h:PB w0 ks w S T L M):
  kC 8 #[.pointer (some ⟨L.sb,0,none⟩),.int .i64 k] w fun e w'=>e=.returned (.tuple #[.string (bs (pq S k)),.bool (pl S k),.bool (ph S k)])∧PB w0 ks w' S T L M:=by
 refine(X5 k w S L h.a.bO).mono ?_;rintro e w' ⟨rfl,n,rfl⟩;exact⟨by rw [aaI S k c,XZ],h.later (below_drewN (Below.refl _ _) n)⟩
theorem adv {ks:List Bx} (h:PB w0 ks w S T L M) (j:lV S.v):
  kC 7 #[.pointer (some ⟨L.sb,0,none⟩)] w fun e w'=>∃ l,e=.returned (.agg (bP S.v l))∧dw w' S.v l∧PB w0 ks w' S T L M:=by
 refine(ahw w S L h.a.bO).mono ?_;rintro e w' ⟨l,rfl,c,d⟩;exact⟨l,rfl,c.xX j,h.later d⟩
theorem PB.view {ks:List Bx} (h:PB w0 ks w S T L M):w.rangeAt M.sb 0 (jg T.v M.l):=h.b.view
theorem adt {j:World} (h:lW w [] j newS L):
  kC 5 #[] j fun e w'=>∃ M,e=.returned (.pointer (some ⟨M.sb,0,none⟩))∧PB w [] w' newS newS L M:=by
 refine(ae6 (qx newS L) j (fun b m=>h.bO.FX m)).mono ?_;rintro e w' ⟨M,rfl,c,_,l⟩;have:=h.below.size;refine⟨M,rfl,h.later l,c.keep (M:=fun _=>False) (Kp.refl _ _) (fun _ e=>e.elim) (.inr (.inl rfl)) (fun b _ e=>?_) (fun b e=>?_),by omega,fun k n=>by cases n⟩
 ·rcases e with e | e | ⟨x,d,_⟩
  ·exact .inl e
  ·exact .inr e
  ·cases d
 ·rcases e with e | e | ⟨x,d,_⟩
  ·exact c.xl b (.inl e)
  ·exact c.xl b (.inr e)
  ·cases d
end Go.Proofs.YtkcdcamophkdlaaGreatDoor.Sv
