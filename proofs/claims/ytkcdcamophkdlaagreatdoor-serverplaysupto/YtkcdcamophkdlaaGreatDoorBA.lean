import Derived.Test.YtkcdcamophkdlaaGreatDoorAX
import Derived.Test.YtkcdcamophkdlaaGreatDoorAZ
import Derived.Test.YtkcdcamophkdlaaGreatDoorAW
set_option maxHeartbeats 4000000
set_option maxRecDepth 100000
open Go.Proofs.Tryz
namespace Go.Proofs.YtkcdcamophkdlaaGreatDoor.Sv
open Go.RowKit
open Go.Proofs.YtkcdcamophkdlaaGreatDoor.Tl (ak aI dK bn tval aT aR)
variable {base tc:Nat} {tq:Option Addr}
@[reducible] def je (s:Ps.PS) (ao:Option Addr) (cap:Nat):Obj:=.cells (dD s ao cap).toArray 40
theorem ZA (s:Ps.PS) (n:Ps.GoodS s) (g:Option Addr) (cap:Nat) (l:List UInt8) (u:l.length<=1048576) (w:World) (m:Pl w g cap s.ps):
  kC 89 #[tu s g cap,.string (bs l)] w fun e f=>∃ d b tq tc,∃ c:List Ps.Item,e=.returned (.tuple #[tu (Ps.dB s l) d b,.slice tq c.length tc,.int .i64 0])∧
   Pl f d b (Ps.dB s l).ps∧Ps.Told w.heap.size f tq tc c∧c.map (·.1)=Ps.bR s l∧Below w.heap.size w f:=by
 have q:(bs l).data.toList=l:=by simp
 have:(bs l).size=l.length:=by simp [ByteArray.size]
 have:=n.len;refine(Ps.Zy s g cap (bs l) w m.rd m.none (by omega) (by omega)).mono ?_;rintro e f ⟨o,_,r⟩;obtain⟨d,b,tq,tc,c,h,k,t,j⟩:=r ((Ps.IW _).2 n);rw [q] at h k j;exact⟨d,b,tq,tc,c,h,Ps.Bf k (Nat.zero_le _),t,j,o⟩
theorem WR {g:Gr} (q:OkG g) {s:Ps.PS} (o:Ps.GoodS s) {l:List UInt8} (B:l.length<=1048576) (e:Option Addr) (cap:Nat) (w:World) (m:Gl w e cap g) {b:List Ps.Item} (t:Ps.Told base w tq tc b) (n:b.map (·.1)=Ps.bR s l) (x:Gr) (z:x=(iR g ((Ps.bR s l).map iY)).1):
  kC 90 #[ay g e cap,.slice tq b.length tc] w (AllEnd w (x,0)):=by
 have:b.length<=1048576:=by
  have f:=congrArg List.length n;have j:=Ps.QL l s;simp only [List.length_map] at f;omega
 obtain⟨_,_,_⟩:=q.nums;have d:=UN n;have h:=WS g e cap tq (b.map rX) tc w m.rd m.none (by omega) (UQ t) (by simp;omega) (fun y A=>?_) (x,0) ?_
 ·rwa [List.length_map] at h
 ·have f:y.1∈(Ps.bR s l).map iY:=(by rw [<-d];exact List.mem_map_of_mem A);obtain⟨v,u,r⟩:=List.mem_map.1 f;have j:=Ps.UE l s ⟨o.len,o.size⟩ v u;rw [<-r];have:(iY v).ps.length=v.ps.length:=rfl;have:(iY v).pl.size=v.pl.size:=rfl;obtain⟨_,_⟩:=j;omega
 ·rw [d,z];have k:=DR g s l;unfold Did at k;unfold LG;by_cases c:(Ps.bR s l).map iY=[]
  ·rw [if_pos c,c]
   rfl
  ·rw [if_neg c,if_pos ((iT g).2 q)];exact k.symm
theorem JX {base:Nat} {tq:Option Addr} {tc:Nat} {b:List Ps.Item} {B:Nat} (c:B < base):∀ (d:List Value) (o:Nat) (w:World),Ps.Told base w tq tc b->Ps.Told base (w.setCells B o d) tq tc b
 | [],_,_,h=>h
 | v::r,o,_w,h=>JX c r (o+1) _ (Ps.qJ h c v)
theorem Vp {c:Array Oper} {T:World->Prop} {e:Oper} {a:Act} (l:Region.wanted e (yielded c a.tmps)=true) (x:Operand) (g:e.op=.load 40 x) (b:Nat) (m:a.eval x=.pointer (some ⟨b,0,none⟩)) (s:Ps.PS) (d:Option Addr) (cap:Nat) (f:∀ w,T w->w.heap[b]?=some (je s d cap)):YieldsIf prog c T e (tu s d cap) a:=
 yieldsIf_load_mid (P:=prog) l 40 x g b 0 m (dD s d cap) _ (fun w h j v k=>by rw [Nat.zero_add,cell_of_row w b j _ _ _ (f w h)];simpa using k) underlying40 rfl Jk
structure Ik (w:World) (S:aD) (L:Lay) (B:Nat) (s':Ps.PS) (a1:Option Addr) (c1:Nat) (base:Nat) (tq:Option Addr) (tc:Nat) (evs:List Ps.Item) (wr:World):Prop where
 bO:aY w S L S L wr
 box:wr.heap[B]?=some (je s' a1 c1)
 pl:Pl wr a1 c1 s'.ps
 told:Ps.Told base wr tq tc evs
 lt:L.sb < base
theorem Ik.below {w:World} {S:aD} {L:Lay} {B:Nat} {g:Ps.PS} {e:Option Addr} {f:Nat} {c:List Ps.Item} {wr w':World} (h:Ik w S L B g e f base tq tc c wr) (d:Below wr.heap.size wr w'):Ik w S L B g e f base tq tc c w':=
 ⟨h.bO.later d,aG d h.box (gQ h.box).1,h.pl.keep fun b _ j=>d.block b (gQ j).1,h.told.later d,h.lt⟩
structure PX (w:World) (S:aD) (L:Lay) (P:Nat) (x:Gr) (s':Ps.PS) (ao:Option Addr) (cap:Nat) (w4:World):Prop where
 there:w4.there L.sb (1+P*9) 9
 next:∃ L',aY w S L (j4 (qL S P s') P x) L' (w4.setCells L.sb (1+P*9) (bE x ao cap).toList)
theorem wF (P:Nat) (D:P < 6) (l:List UInt8) (hl:l.length<=1048576) (w:World) (S:aD) (L:Lay) (h:aS w S L) (Oj:OkG (S.v.gs P)):
  kC 72 #[.pointer (some ⟨L.sb,0,none⟩),.int .i64 P,.string (bs l)] w fun e E=>e=.returned (.tuple #[])∧∃ L',aY w S L (jf S P l) L' E:=by
 have HS:=gH h;have R:=h.ok.par P D;have ad:=(gQ h.box).1;obtain⟨s,t⟩:∃ s,s=S.ps P:=⟨_,rfl⟩;obtain⟨g,y⟩:∃ g,g=Ps.dB s l:=⟨_,rfl⟩;obtain⟨x,F⟩:∃ x,x=(iR (S.v.gs P) ((Ps.bR s l).map iY)).1:=⟨_,rfl⟩;have wI:Hid (jf S P l=j4 (qL S P g) P x):=by
  show jf S P l=_;unfold jf;rw [y,F,t]
 have Ep:Hid (w.rangeAt L.sb (58+P*4) (dD s (L.pa P) (L.pc P))):=by rw [t];exact h.par P D
 rw [<-t] at R;have kV:Hid (Ps.GoodS g):=by rw [y];exact Ps.Fb s R l
 have uU:Hid (kC 89 #[tu s (L.pa P) (L.pc P),.string (bs l)] w fun e E=>∃ aK C tq tc,∃ d:List Ps.Item,e=.returned (.tuple #[tu g aK C,.slice tq d.length tc,.int .i64 0])∧Pl E aK C g.ps∧Ps.Told w.heap.size E tq tc d∧d.map (·.1)=Ps.bR s l∧Below w.heap.size w E):=by
  rw [y];exact ZA s R _ _ l hl w (by rw [t];exact h.ps P D)
 have Py:Hid (∀ W X u (base:Nat) tq tc (d:List Ps.Item),Gl W X u (S.v.gs P)->Ps.Told base W tq tc d->d.map (·.1)=Ps.bR s l->kC 90 #[ay (S.v.gs P) X u,.slice tq d.length tc] W (AllEnd W (x,0))):=fun W X u base tq tc d h1 h2 h3=>WR Oj R hl X u W h1 h2 h3 x F;have J:Hid (OkG x):=by rw [F];exact(E9 (DR (S.v.gs P) s l) Oj).1
 have MP:(P:Int) < 6:=by omega
 have jU:(0:Int)<=(P:Int):=by omega
 clear h R t y F Oj;go_enter func72,ntmps72
 go_wp2_with (first
  | (refine wpList_load_mid rfl 40 _ rfl L.sb (58+P*4) rfl (dD s (L.pa P) (L.pc P)) _ Ep.out underlying40 rfl Jk ?_)
  | (go_at_call 89;refine uU.out.mono ?_;rintro e H ⟨k,m,tq,tc,d,rfl,Q,U,O,N⟩;have j:Hid (Ik w S L H.heap.size g k m w.heap.size tq tc d (H.alloc (je g k m))∧d.map (·.1)=Ps.bR s l):=⟨⟨((aY.refl HS.out).later N).later (aM _ _),at_new _ _,Q.keep (fun b _ F=>(aM H (je g k m)).block b (gQ F).1),U.later (aM _ _),ad⟩,O⟩;clear Q U O N))
 show Code.wp _ _ _ _ (H.alloc (je g k m));generalize H.heap.size=B at*;generalize H.alloc (je g k m)=W0 at*;have o:Hid (aY w S L (qL S P g) (Dk L P k m) (W0.drew.setCells L.sb (58+P*4) (dD g k m).toArray.toList)∧Ps.Told w.heap.size (W0.drew.setCells L.sb (58+P*4) (dD g k m).toArray.toList) tq tc d):=by
  have M:=j.out.1.below ((Below.refl _ _).drew);exact⟨M.bO.trans (Tq M.bO.bO P D g k m kV.out M.pl),JX M.lt _ _ _ M.told⟩
 have Au:Hid (W0.drew.there L.sb (58+P*4) 4):=(j.out.1.bO.bO.drew).there _ _ (by omega);have Ro:Hid ((W0.drew.setCells L.sb (58+P*4) (dD g k m).toArray.toList).heap[B]?=some (je g k m)):=by
  have ae:B≠L.sb:=fun e=>by
   have hb:=j.out.1.bO.bO.box;rw [<-e,j.out.1.box] at hb;simp only [Option.some.injEq,Obj.cells.injEq] at hb;exact absurd hb.2.1 (by decide)
  exact((oI L.sb (dD g k m).toArray.toList (58+P*4) W0.drew).block B (gQ j.out.1.box).1 ae).trans j.out.1.box
 refine bg (fun E=>E.heap[B]?=some (je g k m)) j.out.1.box (fun c=>?_);refine tk 0 c ?_;refine tk 1 c ?_;refine ty 2 rfl (tu g k m) (Vp (by rfl) _ rfl B rfl g k m (fun w0 h=>h)) c ?_;refine tk 3 c ?_;refine tk 4 c ?_;refine tk 5 c ?_;refine rA 6 fun K q=>?_;refine fM (by kernel_rfl) ?_;refine wp_store_mid 40 _ _ rfl L.sb (58+P*4) (dD g k m).toArray rfl rfl Au.out Jk (Ov _ _ _) ?_;refine q.out _ _ Ro.out (fun c=>?_);clear q K;generalize W0.drew.setCells L.sb (58+P*4) (dD g k m).toArray.toList=W1 at*;refine pt ?_;refine dn ?_;have V:=gH (o.out.1.bO.drew.grid P D);have Y:Hid (kC 90 #[ay (S.v.gs P) (L.l.ga P) (L.l.gc P),.slice tq d.length tc] W1.drew (AllEnd W1.drew (x,0))):=Py.out W1.drew (L.l.ga P) (L.l.gc P) w.heap.size tq tc d (o.out.1.bO.drew.gs P D) (o.out.2.later ((Below.refl _ _).drew)) j.out.2;have aa:Hid (∀ I z A,eH W1.drew x.n x.f z A I->PX w S L P x g z A I):=fun I z A r=>by
  have h4:=o.out.1.later ((Below.refl W1.heap.size W1).drew.trans r.2.2);refine⟨h4.bO.there _ _ (by omega),_,h4.trans (IX h4.bO P D x z A (.inr J.out) (MC (A9 J.out) r))⟩
 generalize S.v.gs P=G at V Y;generalize L.l.ga P=ga at V Y;generalize L.l.gc P=gc at V Y;have ac:=V;clear j o Au Ro uU Py Ep;go_wp2_with fail;refine bg (fun _=>True) trivial (fun c=>?_);refine tk 0 c ?_;refine tk 1 c ?_;refine tk 2 c ?_;refine tk 3 c ?_;refine tk 4 c ?_;refine tk 5 c ?_;refine tk 6 c ?_;refine tk 7 c ?_;refine tk 9 c ?_;refine tk 14 c ?_;refine tk 15 c ?_;refine tk 16 c ?_;refine rA 8 fun K q=>?_;refine fM (by kernel_rfl) ?_;refine wp_load_mid 33 _ rfl L.sb (1+P*9) rfl (bE G ga gc).toList _ ac.out underlying33 rfl Pt.nJ ?_;refine q.out _ _ trivial (fun c=>?_);clear q K;refine pt ?_;refine rA 10 fun K q=>?_;go_simp;go_at_call 90;refine Y.out.mono ?_;rintro e I ⟨z,A,rfl,r⟩;have H4:=gH (aa.out I z A r);have ab:=gH H4.out.there;clear r
 (try go_simp)
 refine q.out _ _ trivial (fun c=>?_);clear q K;refine pt ?_;refine tk 11 c ?_;refine tk 12 c ?_;refine tk 13 c ?_;refine tk 17 c ?_;refine rA 18 fun K q=>?_;refine fM (by kernel_rfl) ?_;refine wp_store_mid 33 _ _ rfl L.sb (1+P*9) (bE x z A) rfl rfl ab.out Pt.nJ (gone _ _ _) ?_;refine q.out _ _ trivial (fun c=>?_);clear q K;have Z:=H4.out.next;generalize I.setCells L.sb (1+P*9) (bE x z A).toList=W5 at*;refine pt ?_;refine dn ?_;go_wp2;go_end0;rw [wI.out];exact⟨rfl,Z⟩
variable (S:aD) (P:Nat)
theorem O9 {α:Type} (f:Nat->α) (i:Nat):upd f i (f i)=f:=by
 funext k;unfold upd;split
 ·rename_i e;rw [e]
 ·rfl
theorem U4 {α:Type} (f:Nat->α) (i:Nat) (x y:α):upd (upd f i x) i y=upd f i y:=by
 funext k;unfold upd;split <;>rfl
theorem ahd:jf S P []=S:=by
 unfold jf;have b:(iR (S.v.gs P) ((Ps.bR (S.ps P) []).map iY)).1=S.v.gs P:=rfl;have c:Ps.dB (S.ps P) []=S.ps P:=rfl;rw [b,c,O9,O9]
theorem ahb (a b:List UInt8):jf (jf S P a) P b=jf S P (a++b):=by
 unfold jf;simp only [dY,U4];rw [ahj,Ps.vR]
def UL (v:Value):Nat:=match v with
 | .string b=>b.size
 | _=>0
theorem ada (p:Int) (l:List UInt8) (D:l.length<=140737488355328) (w:World) (S:aD) (L:Lay) (h:aS w S L) (A:lV S.v):
  kC 42 #[.pointer (some ⟨L.sb,0,none⟩),.int .i64 p,.string (bs l)] w fun e z=>e=.returned (.int .i64 (jd S p l).2)∧∃ g,aY w S L (jd S p l).1 g z:=by
 have r:=gH h;have ht:=h.kJ;have U:=(gQ h.box).1;cases d:aR S.v.aj p
 ·have u:Hid (∀ w,aS w S L->kA 66 #[tval L.l.co L.l.its.length L.l.cap,.int .i64 p] w (.bool false)):=fun w h=>(by rw [<-d];exact Fw p w S L h);have s:Hid (jd S p l=(S,3)):=(by show jd S p l=_;unfold jd;rw [d];rfl);clear h d;go_enter func42,ntmps42;go_wp2_with (go_at_call 66;refine(u.out _ r.out).mono ?_;rintro e o ⟨rfl,c⟩;have f:=gH c;clear c);go_ret;rw [s.out];exact⟨rfl,L,(aY.refl r.out).later f.out⟩
 ·have u:Hid (∀ w,aS w S L->kA 66 #[tval L.l.co L.l.its.length L.l.cap,.int .i64 p] w (.bool true)):=fun w h=>(by rw [<-d];exact Fw p w S L h);obtain⟨E,p2⟩:=vU h.ok.t d;obtain⟨P,rfl⟩:=Int.eq_ofNat_of_zero_le E;have F:P < 6:=(by omega);have s:Hid (jd S (P:Int) l=(jf S P l,0)):=(by show jd S _ l=_;unfold jd;rw [d];rfl);have iF:Hid (∀ a:List UInt8,OkG ((jf S P a).v.gs P)):=fun a=>by
   show OkG (upd S.v.gs P _ P);rw [dY];exact(E9 (DR _ _ _) (A.here P F d).1).1
  have x:Hid (∀ o,Below w.heap.size w o->∃ g,aY w S L (jf S P []) g o):=fun o M=>⟨L,by rw [ahd];exact(aY.refl r.out).later M⟩;clear h d A E p2;go_enter func42,ntmps42;go_wp2_with (go_at_call 66;refine(u.out _ r.out).mono ?_;rintro e o ⟨rfl,c⟩;have f:=gH c;clear c);go_loopw [2] (fun t wr=>∃ a b:List UInt8,l=a++b∧t=.string (bs b)∧∃ g,aY w S L (jf S P a) g wr) (fun t _=>UL t)
  case atStart=>exact⟨[],l,rfl,rfl,x.out o f.out⟩
  case round=>
   obtain⟨a,b,j,rfl,q,B⟩:=hrel;have n:Hid (l=a++b∧aY w S L (jf S P a) q wr):=⟨j,B⟩;have N:b.length<=140737488355328:=(by rw [j] at D;simp at D;omega);have aa:(bs b).size=b.length:=qz b;clear j B;by_cases k:b=[]
   ·subst k;have Q:¬ (0:Int) < (([]:List UInt8).length:Int):=(by simp);have H:=gH (n.out.1.trans (List.append_nil a));go_wp2;go_ret;rw [s.out,H.out];exact⟨rfl,q,n.out.2⟩
   ·have c:0 < b.length:=List.length_pos_iff.2 k;have R:(0:Int) < (b.length:Int):=(by omega);obtain⟨m,V⟩:∃ m,m=min b.length 4096:=⟨_,rfl⟩;have X:min (b.length:Int) 4096=(m:Int):=(by omega);have Y:m<=b.length:=(by omega);have Z:0 < m:=(by omega);have y:Hid (∀ W,aS W (jf S P a) q->kC 72 #[.pointer (some ⟨L.sb,0,none⟩),.int .i64 P,.string (bs (b.take m))] W fun e z=>e=.returned (.tuple #[])∧∃ g,aY W (jf S P a) q (jf S P (a++b.take m)) g z):=fun W K=>by
     have:=wF P F (b.take m) (by simp;omega) W (jf S P a) q K (iF.out a);rw [ahb,n.out.2.sb] at this;exact this
    have O:(bs b).extract 0 m=bs (b.take m):=LU b m;have J:(bs b).extract m b.length=bs (b.drop m):=LQ b m;clear V k;go_wp2_with (go_at_call 72;refine(y.out _ n.out.2.bO).mono ?_;rintro e _ ⟨rfl,I,C⟩;have G:=gH (n.out.2.trans C);clear C);go_roundw
    case rel=>exact⟨a++b.take m,b.drop m,by rw [List.append_assoc,List.take_append_drop];exact n.out.1,rfl,I,G.out⟩
    case measure=>simp only [UL];show (bs (b.drop m)).size < (bs b).size;rw [qz,qz,List.length_drop];omega
open Go.Proofs.YtkcdcamophkdlaaGreatDoor.Pt (Vw mD)
variable {S T:aD}
structure Tm where
 p:Ps.PS
 g:Gr
def ajF (t:Tm) (l:List UInt8):Tm:=⟨Ps.dB t.p l,(iR t.g ((Ps.bR t.p l).map iY)).1⟩
def TmC (t:Tm) (c:Cl):Prop:=ajF t c.q=⟨Ps.ground,c.g⟩
def RY (S:aD) (t:Nat->Tm):Prop:=∀ i,i < 3->∀ c,S.cl i=some c->TmC (t i) c
theorem RY.same {t:Nat->Tm} (h:RY S t) (e:T.cl=S.cl):RY T t:=fun i d c b=>h i d c (by rw [<-e];exact b)
theorem aaH {i:Int} {c:Cl} (h:jm S i=some c):S.cl i.toNat=some c∧i.toNat < 3:=by
 unfold jm jo at h;split at h
 ·rename_i b;simp only [decide_eq_true_eq] at b;exact⟨h,by omega⟩
 ·cases h
structure ajD (t:Tm):Prop where
 p:Ps.GoodS t.p
 g:OkG t.g
def V5 (S:aD) (t:Nat->Tm):Prop:=∀ i,i < 3->(S.cl i).isSome=true->ajD (t i)
theorem V5.same {t:Nat->Tm} (h:V5 S t) (e:∀ i,(T.cl i).isSome=true->(S.cl i).isSome=true):V5 T t:=fun i c b=>h i c (e i b)
open Go.Proofs.YtkcdcamophkdlaaGreatDoor.Tl (aR gJ)
open Go.Proofs.YtkcdcamophkdlaaGreatDoor.Pt (Vw mD pQ Gb xO)
variable {S T:aD} {a:Ac} {wide high:Int}
def iN (S:aD) (n:Nat):aD:={S with acts:=n}
theorem agO (S:aD) (n:Nat) (p:Int) (r:Bool):iX (iN S n) p r=(iN (iX S p r).1 n,(iX S p r).2):=by
 unfold iX iN;dsimp only;split
 ·rfl
 ·split <;>rfl
theorem abQ (S:aD) (n:Nat) (p:Int):iH (iN S n) p=(iN (iH S p).1 n,(iH S p).2):=by
 unfold iH iN;dsimp only;split <;>rfl
theorem ade (S:aD) (n:Nat) (p:Int) (l:List UInt8):jd (iN S n) p l=(iN (jd S p l).1 n,(jd S p l).2):=by
 unfold jd iN;dsimp only;split <;>rfl
theorem ZX (S:aD) (n:Nat) (p:Int):jc (iN S n) p=(iN (jc S p).1 n,(jc S p).2):=by
 unfold jc iN;dsimp only;split <;>rfl
theorem aeX (S:aD) (n:Nat) (wide high:Int):iK (iN S n) wide high=(iN (iK S wide high).1 n,(iK S wide high).2):=by
 unfold iK iN;dsimp only;split <;>rfl
theorem Xc (S:aD) (n:Nat) (i wide high:Int):iw (iN S n) i wide high=(iN (iw S i wide high).1 n,(iw S i wide high).2):=by
 unfold iw iN;dsimp only;split
 ·split
  ·rfl
  ·split <;>rfl
 ·rfl
theorem Rs (S:aD) (n:Nat) (i:Int):jm (iN S n) i=jm S i:=rfl
theorem Y2 (S:aD) (n:Nat) (i:Int):jB (iN S n) i=(iN (jB S i).1 n,(jB S i).2):=by
 unfold jB;rw [Rs];split <;>rfl
theorem Zl (S:aD) (n:Nat) (i k:Int):jQ (iN S n) i k=(iN (jQ S i k).1 n,(jQ S i k).2):=by
 unfold jQ;rw [Rs];cases jm S i <;>rfl
theorem XV (S:aD) (n:Nat) (a:Ac):lC (iN S n) a=(iN (lC S a).1 n,(lC S a).2):=by
 unfold lC;split
 ·exact abQ S n _
 ·split
  ·exact ade S n _ _
  ·split
   ·exact ZX S n _
   ·split
    ·exact aeX S n _ _
    ·split
     ·exact Xc S n _ _ _
     ·split
      ·exact Y2 S n _
      ·split <;>rfl
theorem Wy (S:aD) (n:Nat) (a:Ac):gG (iN S n) a=(iN (gG S a).1 n,(gG S a).2):=by
 unfold gG;split
 ·exact agO S n _ _
 ·split
  ·exact Zl S n _ _
  ·rw [XV]
theorem Mg (h:S.acts≠300) (a:Ac):dW S a=(iN (gG S a).1 (S.acts+1),(gG S a).2):=by
 unfold dW;rw [if_neg h];exact Wy S (S.acts+1) a
def Like (S T:aD):Prop:=T=iN S T.acts
theorem Like.refl (S:aD):Like S S:=rfl
theorem Like.v (h:Like S T):T.v=S.v:=by
 have:=congrArg aD.v (show T=iN S T.acts from h);exact this
theorem Like.cl (h:Like S T):T.cl=S.cl:=by
 have:=congrArg aD.cl (show T=iN S T.acts from h);exact this
theorem abK {p:Int} (h:(iH S p).2≠0):(iH S p).1=S:=by
 unfold iH at h ⊢;split at h
 ·exact absurd rfl h
 ·rename_i e;rw [if_neg e]
theorem adb {p:Int} {l:List UInt8} (h:(jd S p l).2≠0):(jd S p l).1=S:=by
 unfold jd at h ⊢;split at h
 ·exact absurd rfl h
 ·rename_i e;rw [if_neg e]
theorem ZW {p:Int} (h:(jc S p).2≠0):(jc S p).1=S:=by
 unfold jc at h ⊢;split at h
 ·exact absurd rfl h
 ·rename_i e;rw [if_neg e]
theorem aeV (h:(iK S wide high).2≠0):(iK S wide high).1=S:=by
 unfold iK at h ⊢;split at h
 ·exact absurd rfl h
 ·rename_i e;rw [if_neg e]
theorem Xa {i:Int} (h:(iw S i wide high).2≠0):(iw S i wide high).1=S:=by
 unfold iw at h ⊢;split
 ·split
  ·rfl
  ·split
   ·rename_i b c d;rw [if_pos b,if_neg c,if_pos d] at h;exact absurd rfl h
   ·rfl
 ·rfl
theorem Y1 {i:Int} (h:(jB S i).2≠0):(jB S i).1=S:=by
 unfold jB at h ⊢;split at h
 ·exact absurd rfl h
 ·rename_i e;rw [if_neg e]
theorem XP (h:(lC S a).2≠0):(lC S a).1=S:=by
 unfold lC at h ⊢;split
 ·rename_i e;rw [if_pos e] at h;exact abK h
 rename_i b;rw [if_neg b] at h;split
 ·rename_i e;rw [if_pos e] at h;exact adb h
 rename_i c;rw [if_neg c] at h;split
 ·rename_i e;rw [if_pos e] at h;exact ZW h
 rename_i d;rw [if_neg d] at h;split
 ·rename_i e;rw [if_pos e] at h;exact aeV h
 rename_i f;rw [if_neg f] at h;split
 ·rename_i e;rw [if_pos e] at h;exact Xa h
 rename_i g;rw [if_neg g] at h;split
 ·rename_i e;rw [if_pos e] at h;exact Y1 h
 rename_i j;rw [if_neg j] at h;split
 ·rename_i e;rw [if_pos e] at h;exact absurd rfl h
 ·rfl
theorem LC (h:(gG S a).2.code≠0):(gG S a).1=S∧(gG S a).2.n=0∧(gG S a).2.out=[]:=by
 unfold gG at h ⊢;split
 ·rename_i e;rw [if_pos e] at h;unfold iX at h ⊢;split
  ·exact⟨rfl,rfl,rfl⟩
  ·rename_i d;rw [if_neg d] at h;split
   ·rename_i f;rw [if_pos f] at h;exact absurd rfl h
   ·exact⟨rfl,rfl,rfl⟩
 ·rename_i e;rw [if_neg e] at h;split
  ·rename_i b;rw [if_pos b] at h;unfold jQ at h ⊢;cases g:jm S a.p with
   | none=>exact⟨rfl,rfl,rfl⟩
   | some c=>rw [g] at h;exact absurd rfl h
  ·rename_i b;rw [if_neg b] at h;exact⟨XP h,rfl,rfl⟩
theorem TV (h:(dW S a).2.code≠0):Like S (dW S a).1∧(dW S a).2.n=0∧(dW S a).2.out=[]:=by
 by_cases b:S.acts=300
 ·unfold dW;rw [if_pos b];exact⟨rfl,rfl,rfl⟩
 ·rw [Mg b] at h ⊢;obtain⟨c,d,e⟩:=LC h;refine⟨?_,d,e⟩;rw [c]
  rfl
theorem CJ {i:Int} (h:jo i=true):0<=i∧i < 3:=by simpa [jo] using h
theorem Wu (h:a.kind=6∨a.kind=7∨a.kind=9):(gG S a).1.v=S.v∧∀ j:Nat,(j:Int)≠a.p->(gG S a).1.cl j=S.cl j:=by
 unfold gG;rw [if_neg (by omega)];split
 ·unfold jQ;cases b:jm S a.p with
  | none=>exact⟨rfl,fun _ _=>rfl⟩
  | some c=>
   refine⟨rfl,fun j d=>upd_ne _ _ ?_⟩;obtain⟨k,l⟩:=aaH b;have:0<=a.p:=by
    unfold jm at b;split at b
    ·rename_i e;exact(CJ e).1
    ·cases b
   omega
 ·rename_i g;have:a.kind=6∨a.kind=7:=(by omega);unfold lC;rw [if_neg (by omega),if_neg (by omega),if_neg (by omega),if_neg (by omega)];split
  ·unfold iw;split
   ·rename_i e;split
    ·exact⟨rfl,fun _ _=>rfl⟩
    ·split
     ·refine⟨rfl,fun j d=>upd_ne _ _ ?_⟩;have:=CJ e;omega
     ·exact⟨rfl,fun _ _=>rfl⟩
   ·exact⟨rfl,fun _ _=>rfl⟩
  ·rw [if_pos (by omega)];unfold jB;split
   ·rename_i e;refine⟨rfl,fun j d=>upd_ne _ _ ?_⟩;unfold jm at e;split at e
    ·rename_i f;have:=CJ f;omega
    ·cases e
   ·exact⟨rfl,fun _ _=>rfl⟩
theorem ac1 (h:a.kind=6∨a.kind=7∨a.kind=9):(dW S a).1.v=S.v∧∀ j:Nat,(j:Int)≠a.p->(dW S a).1.cl j=S.cl j:=by
 by_cases b:S.acts=300
 ·unfold dW;rw [if_pos b];exact⟨rfl,fun _ _=>rfl⟩
 ·rw [Mg b];exact Wu h
open Go.Proofs.YtkcdcamophkdlaaGreatDoor.Tl (aR dS dP)
variable {S:aD} {p:Int}
def gB (S:aD) (k:Nat):aD:=
 {S with
  v:={S.v with gs:=fun p=>if p < k then (if aR S.v.aj p then sJ S.v p else dO) else S.v.gs p}
  ps:=fun p=>if p < k then (if aR S.v.aj p then S.ps p else Ps.ground) else S.ps p}
theorem ZL (S:aD):gB S 0=S:=by unfold gB;simp
theorem QU (S:aD) (k:Nat):(gB S k).v.gs k=S.v.gs k:=by unfold gB;simp
theorem Mq (e:Tl.eY S.v.aj) (c:∀ p:Nat,p < 6->aR S.v.aj p=false->S.v.gs p=dO) (d:∀ p:Nat,p < 6->aR S.v.aj p=false->S.ps p=Ps.ground):gB S 6={S with v:=jR S.v}:=by
 unfold gB jR;simp only [aD.mk.injEq,Pt.Vw.mk.injEq,and_true,true_and];refine⟨?_,?_⟩
 ·funext q;by_cases b:q < 6
  ·rw [if_pos b];cases h:aR S.v.aj q
   ·rw [if_neg (by decide),if_neg (by decide),c q b h]
   ·rfl
  ·rw [if_neg b];cases h:aR S.v.aj q
   ·rfl
   ·have:=vU e h;omega
 ·funext q;by_cases b:q < 6
  ·rw [if_pos b];cases h:aR S.v.aj q
   ·rw [if_neg (by decide),d q b h]
   ·rfl
  ·rw [if_neg b]
theorem afA (h:dJ S) {right:Bool} (f:(dP S.v.aj p (fU S.v.aj) right).2=0):
  gB {S with v:={S.v with aj:=(dP S.v.aj p (fU S.v.aj) right).1,focus:=fU S.v.aj}} 6={S with v:=jR {S.v with aj:=(dP S.v.aj p (fU S.v.aj) right).1,focus:=fU S.v.aj}}:=by
 obtain⟨g,_,j⟩:=JV h.v.t f;have c:∀ q:Nat,aR (dP S.v.aj p (fU S.v.aj) right).1 q=false->aR S.v.aj q=false:=fun q b=>by
  cases e:aR S.v.aj q
  ·rfl
  ·rw [(j q).2 (.inr e)] at b;simp at b
 exact Mq (S:={S with v:={S.v with aj:=(dP S.v.aj p (fU S.v.aj) right).1,focus:=fU S.v.aj}}) g (fun q b d=>h.v.gone q b (c q d)) (fun q b d=>h.gone q b (c q d))
theorem afv (h:dJ S) (n m:Int):gB {S with v:={S.v with wide:=n,high:=m}} 6={S with v:=jR {S.v with wide:=n,high:=m}}:=
 Mq (S:={S with v:={S.v with wide:=n,high:=m}}) h.v.t h.v.gone h.gone
theorem ae4 (h:dJ S) (b:(dS S.v.aj p).2=0):(if aR (dS S.v.aj p).1 S.v.focus then S.v.focus else firstT (dS S.v.aj p).1)=if S.v.focus=p then firstT (dS S.v.aj p).1 else S.v.focus:=by
 obtain⟨_,_,c,d⟩:=FV h.v.t b;by_cases e:S.v.focus=p
 ·rw [if_pos e,e,c];rfl
 ·rw [if_neg e,d _ e,h.v.focus];rfl
theorem ae5 (h:dJ S) (j:(dS S.v.aj p).2=0) (f:Int) (n:f=if S.v.focus=p then firstT (dS S.v.aj p).1 else S.v.focus):
  gB {S with v:={S.v with aj:=(dS S.v.aj p).1,focus:=f}} 6=(iH S p).1:=by
 obtain⟨o,r,l,m⟩:=FV h.v.t j;obtain⟨_,_⟩:=vU h.v.t r;have d:∀ q:Nat,q≠p.toNat->(q:Int)≠p:=fun q k e=>k (by omega);have g:∀ q:Nat,q=p.toNat->(q:Int)=p:=fun q k=>by omega
 unfold iH;rw [if_pos j];unfold gB jR;simp only [aD.mk.injEq,Pt.Vw.mk.injEq,and_true,true_and];refine⟨⟨?_,n⟩,?_⟩
 ·funext q;by_cases c:q < 6
  ·rw [if_pos c];cases b:aR (dS S.v.aj p).1 q
   ·rw [if_neg (by decide),if_neg (by decide)];by_cases e:q=p.toNat
    ·rw [e,dY]
    ·rw [upd_ne _ _ e];rw [m _ (d q e)] at b;exact(h.v.gone q c b).symm
   ·rw [if_pos rfl,if_pos rfl];have e:q≠p.toNat:=fun e=>(by rw [g q e,l] at b;cases b);unfold sJ;simp only [upd_ne _ _ e]
    rfl
  ·rw [if_neg c];cases b:aR (dS S.v.aj p).1 q
   ·rw [if_neg (by decide),upd_ne _ _ (by omega)]
   ·have:=vU o b;omega
 ·funext q;by_cases c:q < 6
  ·rw [if_pos c];cases b:aR (dS S.v.aj p).1 q
   ·rw [if_neg (by decide)];by_cases e:q=p.toNat
    ·rw [e,dY]
    ·rw [upd_ne _ _ e];rw [m _ (d q e)] at b;exact(h.gone q c b).symm
   ·rw [if_pos rfl];have e:q≠p.toNat:=fun e=>(by rw [g q e,l] at b;cases b);rw [upd_ne _ _ e]
  ·rw [if_neg c,upd_ne _ _ (by omega)]
def nX (g:Gr) (es:List gM):Gr:=es.foldl (fun g e=>(qX g e).1) g
theorem LD:∀ (b:List gM) (g:Gr),OkG g->(∀ e∈b,dV e=0)->nX g b=(iR g b).1
 | [],_,_,_=>rfl
 | e::l,g,ok,h=>by
  have c:=h e (by simp)
  have d:qX g e=(nZ g e,0):=by unfold qX;rw [if_pos ((iT g).2 ok),if_pos c]
  show nX (qX g e).1 l=_
  rw [d]
  unfold iR
  rw [if_pos c]
  exact LD l _ (Og ok e c).1 (fun e f=>h e (by simp [f]))
theorem Wz (g:Gr) (b:OkG g) (s:Ps.PS) (l:List UInt8):nX g ((Ps.bR s l).map iY)=(iR g ((Ps.bR s l).map iY)).1:=LD _ g b (Ml l s)
def rU (S:aD) (a:Ac):Rp:=if a.kind=9 then err (dW S a).2.code else (dW S a).2
variable {S:aD} {a:Ac} {i:Nat}
def pq (S:aD) (i:Nat):List UInt8:=match S.cl i with
 | none=>[]
 | some c=>c.q
def pl (S:aD) (i:Nat):Bool:=match S.cl i with
 | none=>false
 | some c=>c.lost
def ph (S:aD) (i:Nat):Bool:=(S.cl i).isSome
theorem Wi (h:a.kind≠6∧a.kind≠7∧a.kind≠8∧a.kind≠9):(gG S a).1.cl=S.cl:=by
 obtain⟨g,j,k,l⟩:=h;unfold gG;by_cases b:a.kind=1
 ·rw [if_pos b];unfold iX;split
  ·rfl
  ·split <;>rfl
 ·rw [if_neg b,if_neg l];unfold lC;by_cases c:a.kind=2
  ·simp only [if_pos c];unfold iH;split <;>rfl
  ·simp only [if_neg c];by_cases d:a.kind=3
   ·simp only [if_pos d];unfold jd;split <;>rfl
   ·simp only [if_neg d];by_cases e:a.kind=4
    ·simp only [if_pos e];unfold jc;split <;>rfl
    ·simp only [if_neg e];by_cases f:a.kind=5
     ·simp only [if_pos f];unfold iK;split <;>rfl
     ·simp only [if_neg f,if_neg g,if_neg j,if_neg k]
theorem Aj (b:S.acts≠300):(dW S a).1.cl=(gG S a).1.cl∧(dW S a).2=(gG S a).2:=by
 rw [Mg b];exact⟨rfl,rfl⟩
theorem Z0 (d:a.kind=6) (h:a.p=i) (b:(dW S a).2.code=0):pq (dW S a).1 i=[]∧pl (dW S a).1 i=true∧ph (dW S a).1 i=true:=by
 by_cases c:S.acts=300
 ·unfold dW at b;rw [if_pos c] at b;cases b
 ·unfold pq pl ph;rw [(Aj c).1];rw [(Aj c).2] at b;unfold gG at b ⊢;rw [if_neg (by rw [d];decide),if_neg (by rw [d];decide)] at b ⊢;unfold lC at b ⊢;simp only [d] at b ⊢;simp only [show ((6:Int)=2)=False by decide,show ((6:Int)=3)=False by decide,show ((6:Int)=4)=False by decide,show ((6:Int)=5)=False by decide,if_false,if_true] at b ⊢;unfold iw at b ⊢;split at b
  ·rename_i e;rw [if_pos e];split at b
   ·cases b
   ·rename_i f;rw [if_neg f];split at b
    ·rename_i g;rw [if_pos g];simp only [h,Int.toNat_natCast,dY,Option.isSome_some,and_self]
    ·cases b
  ·cases b
theorem agS (_hi:i < 3) (l:a.kind≠8) (m:¬ (a.kind=9∧a.p=i)) (k:¬ (a.kind=6∧a.p=i∧(dW S a).2.code=0)) (c:ph (dW S a).1 i=true):pq (dW S a).1 i=pq S i:=by
 by_cases f:S.acts=300
 ·unfold dW;rw [if_pos f]
 ·by_cases b:(dW S a).2.code=0
  ·by_cases d:a.kind=6∨a.kind=7∨a.kind=9
   ·by_cases g:(i:Int)=a.p
    ·rcases d with n | h | o
     ·exact absurd ⟨n,g.symm,b⟩ k
     ·exfalso;unfold ph at c;rw [(Aj f).1] at c;rw [(Aj f).2] at b;unfold gG at b c;rw [if_neg (by rw [h];decide),if_neg (by rw [h];decide)] at b c;unfold lC at b c;simp only [h] at b c;simp only [show ((7:Int)=2)=False by decide,show ((7:Int)=3)=False by decide,show ((7:Int)=4)=False by decide,show ((7:Int)=5)=False by decide,show ((7:Int)=6)=False by decide,if_false,if_true] at b c;unfold jB at b c;split at b
      ·rename_i j;rw [if_pos j] at c;simp only [<-g,Int.toNat_natCast,dY,Option.isSome_none] at c;cases c
      ·cases b
     ·exact absurd ⟨o,g.symm⟩ m
    ·have:=(ac1 (S:=S) d).2 i g;unfold pq;rw [this]
   ·have e:=Wi (S:=S) (a:=a) ⟨fun e=>d (.inl e),fun e=>d (.inr (.inl e)),l,fun e=>d (.inr (.inr e))⟩;unfold pq;rw [(Aj f).1,e]
  ·have:=(TV b).1.cl;unfold pq;rw [this]
theorem Zm (f:a.kind=9) (b:(dW S a).2.code=0):∃ i:Nat,i < 3∧a.p=i∧ph S i=true∧(dW S a).2.n=(goes a.n (pq S i):Nat)∧(dW S a).2.out=(pq S i).take (goes a.n (pq S i))∧pq (dW S a).1 i=(pq S i).drop (goes a.n (pq S i)):=by
 by_cases d:S.acts=300
 ·unfold dW at b;rw [if_pos d] at b;cases b
 ·rw [(Aj d).2] at b ⊢;unfold pq ph;rw [(Aj d).1];have e:gG S a=jQ S a.p a.n:=by
   unfold gG;rw [if_neg (by rw [f];decide),if_pos f]
  rw [e] at b ⊢;unfold jQ at b ⊢;cases h:jm S a.p with
  | none=>rw [h] at b;cases b
  | some c=>
   unfold jm at h;split at h
   ·rename_i g;simp only [jo,decide_eq_true_eq] at g;refine⟨a.p.toNat,by omega,by omega,by rw [h];rfl,?_⟩;rw [h];simp only [dY];exact⟨trivial,trivial,trivial⟩
   ·cases h
theorem aeL (S:aD) (a:Ac):(rU S a).code=(dW S a).2.code:=by
 unfold rU;split <;>rfl
theorem aeM (h:¬ (a.kind=9∧(dW S a).2.code=0)):rU S a=(dW S a).2:=by
 unfold rU;split
 ·rename_i f;obtain⟨_,b,d⟩:=TV (S:=S) (a:=a) (fun e=>h ⟨f,e⟩);generalize (dW S a).2=r at*;obtain⟨c,n,o⟩:=r;simp only at b d;subst b d
  rfl
 ·rfl
end Go.Proofs.YtkcdcamophkdlaaGreatDoor.Sv
