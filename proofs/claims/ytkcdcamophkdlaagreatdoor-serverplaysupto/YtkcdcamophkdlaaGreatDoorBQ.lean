import Derived.Test.YtkcdcamophkdlaaGreatDoorBM
import Derived.Test.YtkcdcamophkdlaaGreatDoorBP
set_option maxHeartbeats 8000000
set_option maxRecDepth 100000
open Go.Proofs.Tryz
namespace Go.Proofs.YtkcdcamophkdlaaGreatDoor.Sv
open Go.RowKit
open Go.Proofs.YtkcdcamophkdlaaGreatDoor.Tl (ak aI dK bn tval aT aR dP dS)
variable {w W:World} {X:Nat->Prop} {S:aD} {L:Lay} {co:Option Addr} {aj:List (List Int)}
theorem qF {k p n m:Int} {b:List UInt8} (h:aQ X w L ⟨k,p,n,m,b⟩ (aC S) L W):W.cell? ⟨L.sb,0,none⟩=some (.slice L.l.co L.l.its.length L.l.cap)∧W.cell? ⟨w.heap.size,1,none⟩=some (.int .i64 p)∧W.cell? ⟨w.heap.size,2,none⟩=some (.int .i64 n):=
 ⟨h.via.ref.kJ,(gI h.act).1.2.1,(gI h.act).1.2.2.1⟩
theorem Jq {B:Nat} {n c:Nat} (f:w.heap[B]?=some (aT co n c)) (u:Value):∀ (b:Nat) (x:Array Value) (t:TypeId),t=38∨t=3->w.heap[b]?=some (.cells x t (0,0))->(w.setCell ⟨B,0,none⟩ u).heap[b]?=w.heap[b]?:=fun b x t g d=>by
 refine Below.heap_setCell _ _ _ _ (fun e=>?_)
 simp only at e
 subst e
 rw [f] at d
 simp only [Option.some.injEq,Obj.cells.injEq] at d
 rcases g with e | e
 ·exact absurd (d.2.1.trans e) (by decide)
 ·exact absurd (d.2.1.trans e) (by decide)
def PW (X:Nat->Prop) (w:World) (S:aD) (L:Lay) (a:Ac) (r1:List (List Int)) (r2:Int) (t7 t8:Value) (wx:World):Prop:=
 ∃ B co cap its,t7=.pointer (some ⟨B,0,none⟩)∧t8=.int .i64 r2∧wx.heap[B]?=some (aT co (List.length (α:=bn) its) cap)∧(r2=0->ak its=r1∧aI wx co its∧dK wx co its)∧aQ X w L a (aC S) L wx
theorem aeg {a:Ac} (h:aQ X w L a (aC S) L W) {cap:Nat} {its:List bn} (d:Tl.eY aj) (b:ak its=aj∧aI W co its∧dK W co its) (f:Int):
  aQ X w L a {aC S with v:={S.v with aj:=aj,focus:=f}} {L with l:={L.l with co:=co,cap:=cap,its:=its}} ((W.setCell ⟨L.sb,0,none⟩ (.slice co its.length cap)).setCell ⟨L.sb,57,none⟩ (.int .i64 f)):=by
 have c:=Uj h.via.ref aj co cap its d b.1.symm b.2.1 b.2.2;exact h.next (c.trans (OD c.ref f))
theorem acn (b:Tl.eY aj) {k:Nat} (h:aR aj (k:Int)=true):k < 6:=by have:=vU b h;omega
theorem aeD (X:Nat->Prop) (p n m:Int) (c:List UInt8) (w:World) (S:aD) (L:Lay) (h:bJ X w S L) (ok:dJ S) (hf:S.acts < 300):
  kC 10 #[.pointer (some ⟨L.sb,0,none⟩),aval ⟨1,p,n,m,c⟩] w (jP X w L (iX (aC S) p (decide (n=1))).1 (iX (aC S) p (decide (n=1))).2):=by
 have HI:Hid (aQ X w L ⟨1,p,n,m,c⟩ (aC S) L (((w.setCell ⟨L.sb,85,none⟩ (.int .i64 ((S.acts:Int)+1))).alloc (bN ⟨1,p,n,m,c⟩)).alloc (bA (err 0)))):=mZ h _;have ha:=h.acts;have ar:=h.lt;have ae:=h.frozen;have ag:¬ (S.acts:Int)=300:=by omega
 have aq:(S.acts:Int) < 300:=by omega
 have am:0<=(S.acts:Int):=by omega
 have kW:Hid (∀ (q:Int) W,aQ X w L ⟨1,p,n,m,c⟩ (aC S) L W->kA 23 #[tval L.l.co L.l.its.length L.l.cap,.int .i64 q] W (.bool (aR S.v.aj q))):=fun q W D=>Tl.pU L.l.its L.l.co L.l.cap q W D.via.ref.rd D.via.ref.few.1 D.via.ref.few.2.2 _ (by rw [<-D.via.ref.aj];rfl);have iF:Hid (dJ (aC S)):=Jw ok (by omega);have ad:Hid (Tl.eY S.v.aj):=ok.v.t;have Ri:((S.acts:Int)==300)=false:=by simpa using ag
 clear h hf ok ag;obtain⟨R,hR⟩:∃ R,R=iX (aC S) p (decide (n=1)):=⟨_,rfl⟩;have Z:Hid (R=iX (aC S) p (decide (n=1))):=hR;rw [<-hR];clear hR;generalize (S.acts:Int)=N at*;go_enter func10,ntmps10;go_wp2_with fail;clear ha ae;show Code.wp _ _ _ _ (((w.setCell ⟨L.sb,85,none⟩ (.int .i64 (N+1))).alloc (bN ⟨1,p,n,m,c⟩)).alloc (bA (err 0)));generalize ((w.setCell ⟨L.sb,85,none⟩ (.int .i64 (N+1))).alloc (bN ⟨1,p,n,m,c⟩)).alloc (bA (err 0))=W0 at*;go_loopw [6] (fun i wr=>∃ k:Nat,k<=6∧i=.int .i64 k∧(∀ j:Nat,j < k->aR S.v.aj j=true)∧aQ X w L ⟨1,p,n,m,c⟩ (aC S) L wr) (fun i _=>6 - (intOf i).toNat)
 case atStart=>exact⟨0,by omega,rfl,fun j hj=>by omega,HI.out⟩
 case round=>
  obtain⟨k,hk,rfl,Q,hi⟩:=hrel;have iP:Hid (aQ X w L ⟨1,p,n,m,c⟩ (aC S) L wr):=hi;have qO:Hid (∀ j:Nat,j < k->aR S.v.aj j=true):=Q;have s:=hi.via.ref.kJ;have xJ:L.sb < wr.heap.size:=hi.via.ref.lt;clear hi Q HI;cases U:aR S.v.aj (k:Int)
  ·have uW:Hid (kA 23 #[tval L.l.co L.l.its.length L.l.cap,.int .i64 k] wr (.bool false)):=(by rw [<-U];exact kW.out k wr iP.out);by_cases h6:k=6
   ·subst h6;have HU:Hid (R=(aC S,err 5)):=by
     show R=_;rw [Z.out];unfold iX;rw [if_pos (show fU (aC S).v.aj=6 from U2 qO.out)]
    clear U kW
    go_wp2_with (first
     | (go_at_call 23;refine uW.out.mono ?_;rintro e w3 ⟨rfl,x⟩;have V:Hid (aQ X w L ⟨1,p,n,m,c⟩ (aC S) L w3):=iP.out.later x;clear x)
     | (go_at_call 22;refine(jX 5 _).mono ?_;rintro e wn ⟨rfl,G⟩;have Y:Hid (aQ X w L ⟨1,p,n,m,c⟩ (aC S) L wn):=V.out.later G;obtain⟨⟨x0,x1,x2⟩,xf⟩:=three Y.out.rp;have al:=(gQ Y.out.rp).1;clear G))
    rw [HU.out];refine bodyPost_ret (v:=eF (err 5)) (by simp [results,results10,go_sem, *]) rfl ?_;exact⟨rfl,L,Y.out.reply _ _ _⟩
   ·have ze:k < 6:=(by omega);have e6:((k:Int)==6)=false:=(by simp;omega);have hu:fU (aC S).v.aj=k:=UZ ze qO.out U;have Ic:Hid (fU (aC S).v.aj=k):=hu;obtain⟨⟨J,I⟩,hr⟩:∃ r,r=dP S.v.aj p k (n==1):=⟨_,rfl⟩;have EC:Hid (∀ W,aQ X w L ⟨1,p,n,m,c⟩ (aC S) L W->kC 24 #[tval L.l.co L.l.its.length L.l.cap,.int .i64 p,.int .i64 k,.bool (n==1)] W (Tl.vE W (J,I))):=fun W D=>Tl.agC L.l.its L.l.co L.l.cap p k (n==1) W D.via.ref.rd D.via.ref.few.1 D.via.ref.few.2.1 _ (by rw [hr, <-D.via.ref.aj];rfl);have jM:Hid (dP (aC S).v.aj p (fU (aC S).v.aj) (decide (n=1))=(J,I)):=by
     show dP (aC S).v.aj p (fU (aC S).v.aj) (decide (n=1))=(J,I);rw [hu,hr];have:(n==1)=decide (n=1):=(by by_cases e:n=1 <;>simp [e]);rw [this]
     rfl
    clear U hr hu h6;go_wp2_with (go_at_call 23;refine uW.out.mono ?_;rintro e w3 ⟨rfl,x⟩;have f:Hid (aQ X w L ⟨1,p,n,m,c⟩ (aC S) L w3):=iP.out.later x;clear x);clear s xJ iP uW;generalize w3=W1 at*;obtain⟨s,A,C⟩:=qF f.out;have af:L.sb < W1.heap.size:=f.out.via.ref.lt;have Fv:=(gQ f.out.act).1;go_cut [7,8] from 49 to 64 (fun t7 t8 wx=>PW X w S L ⟨1,p,n,m,c⟩ J I t7 t8 wx)
    case first=>
     refine bg (fun w'=>w'.cell? ⟨L.sb,0,none⟩=some (.slice L.l.co L.l.its.length L.l.cap)∧w'.cell? ⟨w.heap.size,1,none⟩=some (.int .i64 p)∧w'.cell? ⟨w.heap.size,2,none⟩=some (.int .i64 n)) ⟨s,A,C⟩ (fun d=>?_);refine tk 0 d ?_;refine tk 1 d ?_;refine tk 2 d ?_;refine tk 3 d ?_;refine tk 4 d ?_;refine tk 5 d ?_;refine tk 6 d ?_;refine tk 7 d ?_;refine tk 8 d ?_;refine tk 9 d ?_;refine tk 10 d ?_;refine rB 11 15 (fun K u=>?_) (fun K u=>?_)
     ·go_simp;go_at_call 24;refine(EC.out _ (f.out.later ((Below.refl _ _).drew))).mono ?_;rintro e y ⟨P,c4,H,rfl,F,z,E⟩;have M:Hid (aQ X w L ⟨1,p,n,m,c⟩ (aC S) L y):=f.out.later (jq E);have g:Hid (I=0->ak H=J∧aI y P H∧dK y P H):=fun e=>⟨F,z.1,z.2 e⟩;clear E F z;obtain⟨s,A,C⟩:=qF M.out
      (try go_simp)
      refine u.out _ _ ⟨s,A,C⟩ (fun d=>?_);clear u K;refine pt ?_;refine tk 12 d ?_;refine tk 13 d ?_;refine tk 14 d ?_;have kg:Hid (∀ o:Obj,aQ X w L ⟨1,p,n,m,c⟩ (aC S) L (y.alloc o)):=fun o=>M.out.later (aM y o);refine rA 15 fun K u=>?_;go_simp;obtain⟨s,A,C⟩:=qF (kg.out (aT none 0 0));refine u.out _ _ ⟨s,A,C⟩ (fun d=>?_);clear u K;refine pt ?_;refine rA 16 fun K u=>?_;go_simp;obtain⟨s,A,C⟩:=qF (kg.out (aT P H.length c4));refine u.out _ _ ⟨s,A,C⟩ (fun d=>?_);clear u K;refine pt ?_;refine tk 17 d ?_;refine dn ?_;go_wp2_with fail;go_meet;exact⟨y.heap.size,P,c4,H,rfl,rfl,at_new _ _,fun e=>⟨(g.out e).1,(g.out e).2.1.below (aM _ _),dK.keep (g.out e).2.2 (fun b _ _ _ hx=>(aM y _).block b (gQ hx).1)⟩,kg.out _⟩
     ·go_simp;have ac:Hid (aQ X w L ⟨1,p,n,m,c⟩ (aC S) L (W1.alloc (aT none 0 0)).drew):=f.out.later ((aM W1 _).drew);obtain⟨s,A,C⟩:=qF ac.out;refine u.out _ _ ⟨s,A,C⟩ (fun d=>?_);clear u K;refine pt ?_;refine rA 11 fun K u=>?_;go_simp;go_at_call 24;refine(EC.out _ ac.out).mono ?_;rintro e y ⟨P,c4,H,rfl,F,z,E⟩;have ou:Below (W1.alloc (aT none 0 0)).heap.size (W1.alloc (aT none 0 0)) y:=jq E;have qo:Hid (Below W1.heap.size W1 y):=(aM W1 _).trans (ou.mono (by simp));have nT:Hid (y.heap[W1.heap.size]?=some (aT none 0 0)):=aG ou (at_new _ _) (by simp);have g:Hid (I=0->ak H=J∧aI y P H∧dK y P H):=fun e=>⟨F,z.1,z.2 e⟩;clear E ou F z;have M:Hid (aQ X w L ⟨1,p,n,m,c⟩ (aC S) L y):=f.out.later qo.out;obtain⟨s,A,C⟩:=qF M.out
      (try go_simp)
      refine u.out _ _ ⟨s,A,C⟩ (fun d=>?_);clear u K;refine pt ?_;refine tk 12 d ?_;refine tk 13 d ?_;refine tk 14 d ?_;have kg:Hid (aQ X w L ⟨1,p,n,m,c⟩ (aC S) L (y.setCell ⟨W1.heap.size,0,none⟩ (.slice P H.length c4))):=f.out.later (qo.out.setCell (p:=⟨W1.heap.size,0,none⟩) (Nat.le_refl _) _);have Gy:=cell_of_row y W1.heap.size 0 _ _ _ nT.out;have Gz:=frozen_of_row y W1.heap.size 0 _ _ nT.out;refine rA 16 fun K u=>?_;go_simp;obtain⟨s,A,C⟩:=qF kg.out;refine u.out _ _ ⟨s,A,C⟩ (fun d=>?_);clear u K;refine pt ?_;refine tk 17 d ?_;refine dn ?_;go_wp2_with fail;go_meet;exact⟨W1.heap.size,P,c4,H,rfl,rfl,bG nT.out _,fun e=>⟨(g.out e).1,aI.keep (g.out e).2.1 (g.out e).2.2 (Jq nT.out _),dK.keep (g.out e).2.2 (Jq nT.out _)⟩,kg.out⟩
    case rest=>
     obtain⟨B,co,cap,its,rfl,rfl,hB,hT,O⟩:=hcut;have Eb:Hid (aQ X w L ⟨1,p,n,m,c⟩ (aC S) L wc):=O;have Gy:=cell_of_row wc B 0 _ _ _ hB;have Gz:=frozen_of_row wc B 0 _ _ hB;have ao:=(gQ hB).1;clear s A C af Fv;have s:=O.via.ref.kJ;have an:=O.via.ref.sides.2.2;have ae:=O.via.ref.frozen;have Da:L.sb < wc.heap.size:=O.via.ref.lt;have D6:Hid (B≠L.sb):=fun e=>by
      have:=O.via.ref.box;rw [<-e,hB] at this;simp only [Option.some.injEq,Obj.cells.injEq] at this;exact absurd this.2.1 (by decide)
     by_cases he:I=0
     ·subst he;have GZ:Hid (Tl.eY J):=by
       have:=(JV ad.out (p:=p) (n:=fU (aC S).v.aj) (right:=decide (n=1)) (by have:=jM.out;rw [show S.v.aj=(aC S).v.aj from rfl,this])).1;rw [show S.v.aj=(aC S).v.aj from rfl,jM.out] at this;exact this
      have HU:Hid (R=(gB {aC S with v:={S.v with aj:=J,focus:=k}} 6,⟨0,k,[]⟩)):=by
       show R=_;have e1:=afA iF.out (p:=p) (right:=decide (n=1)) (by rw [jM.out]);rw [jM.out,Ic.out] at e1;rw [Z.out];unfold iX;rw [if_neg (by rw [Ic.out];omega),jM.out,if_pos rfl,Ic.out];exact Prod.ext e1.symm rfl
      have HJ:Hid (aQ X w L ⟨1,p,n,m,c⟩ {aC S with v:={S.v with aj:=J,focus:=k}} {L with l:={L.l with co:=co,cap:=cap,its:=its}} ((wc.setCell ⟨L.sb,0,none⟩ (.slice co its.length cap)).setCell ⟨L.sb,57,none⟩ (.int .i64 k))):=aeg O GZ.out (hT rfl) k;obtain⟨T,ab⟩:∃ T:aD,T={aC S with v:={S.v with aj:=J,focus:=k}}:=⟨_,rfl⟩;obtain⟨L1,aa⟩:∃ L1:Lay,L1={L with l:={L.l with co:=co,cap:=cap,its:=its}}:=⟨_,rfl⟩;rw [<-ab, <-aa] at HJ;rw [<-ab] at HU;have nA:Hid (L1.sb=L.sb):=(by have e9:=congrArg Lay.sb aa;exact e9);have ai:Hid (∀ W,aQ X w L ⟨1,p,n,m,c⟩ T L1 W->kC 12 #[.pointer (some ⟨L.sb,0,none⟩)] W fun e w'=>e=.returned (.tuple #[])∧∃ L',aQ X w L ⟨1,p,n,m,c⟩ (gB T 6) L' w'):=fun W D=>by
       have:=JJ _ W T L1 D.via.ref;rw [nA.out] at this;refine this.mono ?_;rintro e w' ⟨rfl,L',h'⟩;exact⟨rfl,L',D.next h'⟩
      clear hT O ab aa hB D6;go_wp2_with (go_at_call 12;refine(ai.out _ HJ.out).mono ?_;rintro e w5 ⟨rfl,L5,h5⟩;have H5:Hid (aQ X w L ⟨1,p,n,m,c⟩ (gB T 6) L5 w5):=h5;obtain⟨⟨r0,q1,q2⟩,rf⟩:=three h5.rp;have ap:=(gQ h5.rp).1;clear h5);rw [HU.out];refine bodyPost_ret (v:=eF ⟨0,k,[]⟩) (by simp [results,results10,go_sem, *]) rfl ?_;exact⟨rfl,L5,H5.out.reply _ _ _⟩
     ·have e2:(I !=0)=true:=(by simpa using he);have HU:Hid (R=(aC S,err I)):=by
       show R=_;rw [Z.out];unfold iX;rw [if_neg (by rw [Ic.out];omega),jM.out,if_neg he]
      clear hT O he hB D6;go_wp2_with (go_at_call 22;refine(jX I _).mono ?_;rintro e wn ⟨rfl,G⟩;have Y:Hid (aQ X w L ⟨1,p,n,m,c⟩ (aC S) L wn):=Eb.out.later G;obtain⟨⟨x0,x1,x2⟩,xf⟩:=three Y.out.rp;have al:=(gQ Y.out.rp).1;clear G);rw [HU.out];refine bodyPost_ret (v:=eF (err I)) (by simp [results,results10,go_sem, *]) rfl ?_;exact⟨rfl,L,Y.out.reply _ _ _⟩
  ·have ze:k < 6:=acn ad.out U;have uW:Hid (kA 23 #[tval L.l.co L.l.its.length L.l.cap,.int .i64 k] wr (.bool true)):=(by rw [<-U];exact kW.out k wr iP.out);have ah:Hid (∀ j:Nat,j < k+1->aR S.v.aj j=true):=fun j hj=>by
    rcases Nat.lt_or_ge j k with e | e
    ·exact qO.out j e
    ·obtain rfl:j=k:=(by omega);exact U
   clear U kW;go_wp2_with (go_at_call 23;refine uW.out.mono ?_;rintro e w3 ⟨rfl,x⟩;have V:Hid (aQ X w L ⟨1,p,n,m,c⟩ (aC S) L w3):=iP.out.later x;clear x);go_roundw
   case rel=>exact⟨k+1,by omega,by go_num,ah.out,V.out⟩
   case measure=>simp [intOf];omega
open Go.Proofs.YtkcdcamophkdlaaGreatDoor.Tl (ak aI dK bn tval aT aR dP dS ints)
variable {X:Nat->Prop} {w W:World} {L:Lay} {a:Ac} {aj:List (List Int)} {co:Option Addr} {cap:Nat} {its:List bn}
theorem aeh {S:aD} (h:aQ X w L a (aC S) L W) (c:Tl.eY aj) (b:ak its=aj∧aI W co its∧dK W co its):
  aQ X w L a {aC S with v:={S.v with aj:=aj}} {L with l:={L.l with co:=co,cap:=cap,its:=its}} (W.setCell ⟨L.sb,0,none⟩ (.slice co its.length cap)):=
 h.next (Uj h.via.ref aj co cap its c b.1.symm b.2.1 b.2.2)
structure pI (X:Nat->Prop) (w:World) (L:Lay) (a:Ac) (T:aD) (L1:Lay) (B:Nat) (co:Option Addr) (its:List bn) (cap:Nat) (W:World):Prop where
 rd:aQ X w L a T L1 W
 box:W.heap[B]?=some (aT co its.length cap)
 co:L1.l.co=co
 its:L1.l.its=its
theorem pI.later {T:aD} {b:Lay} {B:Nat} {W':World} (h:pI X w L a T b B co its cap W) (c:Below W.heap.size W W'):pI X w L a T b B co its cap W':=⟨h.rd.later c,aG c h.box (gQ h.box).1,h.co,h.its⟩
theorem ZT (b:Tl.eY aj):∃ r,aj.flatten=firstT aj::r:=by
 have d:=b.some;cases aj with
 | nil=>simp at d
 | cons c l=>
  have e:=b.kI c (by simp);cases c with
  | nil=>simp at e
  | cons x y=>exact⟨y++l.flatten,by simp [firstT]⟩
theorem aeu (X:Nat->Prop) (p n m:Int) (i:List UInt8) (w:World) (S:aD) (L:Lay) (h:bJ X w S L) (ok:dJ S) (hf:S.acts < 300):
  kC 10 #[.pointer (some ⟨L.sb,0,none⟩),aval ⟨2,p,n,m,i⟩] w (jP X w L (iH (aC S) p).1 (err (iH (aC S) p).2)):=by
 have HI:Hid (aQ X w L ⟨2,p,n,m,i⟩ (aC S) L (((w.setCell ⟨L.sb,85,none⟩ (.int .i64 ((S.acts:Int)+1))).alloc (bN ⟨2,p,n,m,i⟩)).alloc (bA (err 0)))):=mZ h _;have ha:=h.acts;have ay:=h.lt;have ab:=h.frozen;have am:¬ (S.acts:Int)=300:=by omega
 have ax:(S.acts:Int) < 300:=by omega
 have ar:0<=(S.acts:Int):=by omega
 have iF:Hid (dJ (aC S)):=Jw ok (by omega);obtain⟨⟨q,r2⟩,hr⟩:∃ r,r=dS S.v.aj p:=⟨_,rfl⟩;have jM:Hid (dS (aC S).v.aj p=(q,r2)):=hr.symm;have af:Hid (∀ W,aQ X w L ⟨2,p,n,m,i⟩ (aC S) L W->kC 25 #[tval L.l.co L.l.its.length L.l.cap,.int .i64 p] W (Tl.vE W (q,r2))):=fun W j=>Tl.abC L.l.its L.l.co L.l.cap p W j.via.ref.rd j.via.ref.few.1 j.via.ref.few.2.1 _ (by rw [hr, <-j.via.ref.aj];rfl);have Ri:((S.acts:Int)==300)=false:=by simpa using am
 clear h hf ok hr am;obtain⟨R,hR⟩:∃ R,R=iH (aC S) p:=⟨_,rfl⟩;have ag:Hid (R=iH (aC S) p):=hR;rw [<-hR];clear hR;generalize (S.acts:Int)=N at*;go_enter func10,ntmps10;go_wp2_with fail;clear ha ab;show Code.wp _ _ _ _ (((w.setCell ⟨L.sb,85,none⟩ (.int .i64 (N+1))).alloc (bN ⟨2,p,n,m,i⟩)).alloc (bA (err 0)));generalize ((w.setCell ⟨L.sb,85,none⟩ (.int .i64 (N+1))).alloc (bN ⟨2,p,n,m,i⟩)).alloc (bA (err 0))=W1 at*;have y:Hid (aQ X w L ⟨2,p,n,m,i⟩ (aC S) L W1):=HI.out;clear HI;obtain⟨A,H,_⟩:=qF y.out;have al:L.sb < W1.heap.size:=y.out.via.ref.lt;have Fv:=(gQ y.out.act).1;go_cut [9,10] from 85 to 96 (fun t9 aq wx=>PW X w S L ⟨2,p,n,m,i⟩ q r2 t9 aq wx)
 case first=>
  refine bg (fun G=>G.cell? ⟨L.sb,0,none⟩=some (.slice L.l.co L.l.its.length L.l.cap)∧G.cell? ⟨w.heap.size,1,none⟩=some (.int .i64 p)) ⟨A,H⟩ (fun d=>?_);refine tk 0 d ?_;refine tk 1 d ?_;refine tk 2 d ?_;refine tk 3 d ?_;refine tk 4 d ?_;refine tk 5 d ?_;refine tk 6 d ?_;refine rB 7 11 (fun K s=>?_) (fun K s=>?_)
  ·go_simp;go_at_call 25;refine(af.out _ (y.out.later ((Below.refl _ _).drew))).mono ?_;rintro e D ⟨mM,c4,kG,rfl,Y,E,U⟩;have aa:Hid (aQ X w L ⟨2,p,n,m,i⟩ (aC S) L D):=y.out.later (jq U);have z:Hid (r2=0->ak kG=q∧aI D mM kG∧dK D mM kG):=fun e=>⟨Y,E.1,E.2 e⟩;clear U Y E;obtain⟨A,H,_⟩:=qF aa.out
   (try go_simp)
   refine s.out _ _ ⟨A,H⟩ (fun d=>?_);clear s K;refine pt ?_;refine tk 8 d ?_;refine tk 9 d ?_;refine tk 10 d ?_;have kg:Hid (∀ o:Obj,aQ X w L ⟨2,p,n,m,i⟩ (aC S) L (D.alloc o)):=fun o=>aa.out.later (aM D o);refine rA 11 fun K s=>?_;go_simp;obtain⟨A,H,_⟩:=qF (kg.out (aT none 0 0));refine s.out _ _ ⟨A,H⟩ (fun d=>?_);clear s K;refine pt ?_;refine rA 12 fun K s=>?_;go_simp;obtain⟨A,H,_⟩:=qF (kg.out (aT mM kG.length c4));refine s.out _ _ ⟨A,H⟩ (fun d=>?_);clear s K;refine pt ?_;refine tk 13 d ?_;refine dn ?_;go_wp2_with fail;go_meet;exact⟨D.heap.size,mM,c4,kG,rfl,rfl,at_new _ _,fun e=>⟨(z.out e).1,(z.out e).2.1.below (aM _ _),dK.keep (z.out e).2.2 (fun b _ _ _ hx=>(aM D _).block b (gQ hx).1)⟩,kg.out _⟩
  ·go_simp;have ae:Hid (aQ X w L ⟨2,p,n,m,i⟩ (aC S) L (W1.alloc (aT none 0 0)).drew):=y.out.later ((aM W1 _).drew);obtain⟨A,H,_⟩:=qF ae.out;refine s.out _ _ ⟨A,H⟩ (fun d=>?_);clear s K;refine pt ?_;refine rA 7 fun K s=>?_;go_simp;go_at_call 25;refine(af.out _ ae.out).mono ?_;rintro e D ⟨mM,c4,kG,rfl,Y,E,U⟩;have ou:Below (W1.alloc (aT none 0 0)).heap.size (W1.alloc (aT none 0 0)) D:=jq U;have qo:Hid (Below W1.heap.size W1 D):=(aM W1 _).trans (ou.mono (by simp));have nT:Hid (D.heap[W1.heap.size]?=some (aT none 0 0)):=aG ou (at_new _ _) (by simp);have z:Hid (r2=0->ak kG=q∧aI D mM kG∧dK D mM kG):=fun e=>⟨Y,E.1,E.2 e⟩;clear U ou Y E;have aa:Hid (aQ X w L ⟨2,p,n,m,i⟩ (aC S) L D):=y.out.later qo.out;obtain⟨A,H,_⟩:=qF aa.out
   (try go_simp)
   refine s.out _ _ ⟨A,H⟩ (fun d=>?_);clear s K;refine pt ?_;refine tk 8 d ?_;refine tk 9 d ?_;refine tk 10 d ?_;have kg:Hid (aQ X w L ⟨2,p,n,m,i⟩ (aC S) L (D.setCell ⟨W1.heap.size,0,none⟩ (.slice mM kG.length c4))):=y.out.later (qo.out.setCell (p:=⟨W1.heap.size,0,none⟩) (Nat.le_refl _) _);have Gy:=cell_of_row D W1.heap.size 0 _ _ _ nT.out;have Gz:=frozen_of_row D W1.heap.size 0 _ _ nT.out;refine rA 12 fun K s=>?_;go_simp;obtain⟨A,H,_⟩:=qF kg.out;refine s.out _ _ ⟨A,H⟩ (fun d=>?_);clear s K;refine pt ?_;refine tk 13 d ?_;refine dn ?_;go_wp2_with fail;go_meet;exact⟨W1.heap.size,mM,c4,kG,rfl,rfl,bG nT.out _,fun e=>⟨(z.out e).1,aI.keep (z.out e).2.1 (z.out e).2.2 (Jq nT.out _),dK.keep (z.out e).2.2 (Jq nT.out _)⟩,kg.out⟩
 case rest=>
  obtain⟨B,co,cap,its,rfl,rfl,hB,hT,hc⟩:=hcut;have Eb:Hid (aQ X w L ⟨2,p,n,m,i⟩ (aC S) L wc):=hc;have Gy:=cell_of_row wc B 0 _ _ _ hB;have Gz:=frozen_of_row wc B 0 _ _ hB;have aw:=(gQ hB).1;clear A H al Fv;have A:=hc.via.ref.kJ;have ab:=hc.via.ref.frozen;have Da:L.sb < wc.heap.size:=hc.via.ref.lt;by_cases he:r2=0
  ·subst he;have D6:Hid (B≠L.sb):=fun e=>by
    have:=hc.via.ref.box;rw [<-e,hB] at this;simp only [Option.some.injEq,Obj.cells.injEq] at this;exact absurd this.2.1 (by decide)
   have KJ:=FV iF.out.v.t (p:=p) (by rw [jM.out]);rw [jM.out] at KJ;have GZ:Hid (Tl.eY q):=KJ.1;obtain⟨F,hF⟩:∃ F,F=S.v.focus:=⟨_,rfl⟩;obtain⟨F2,O⟩:∃ F2,F2=if aR q F then F else firstT q:=⟨_,rfl⟩;have HU:Hid (R=(gB {aC S with v:={S.v with aj:=q,focus:=F2}} 6,0)):=by
    show R=_;have e1:=ae4 iF.out (p:=p) (by rw [jM.out]);have e2:=ae5 iF.out (p:=p) (by rw [jM.out]) F2 (by rw [<-e1,jM.out,O,hF];rfl);rw [jM.out] at e2;rw [ag.out];refine Prod.ext e2.symm ?_;unfold iH;rw [jM.out,if_pos rfl]
   have jh:Hid (aQ X w L ⟨2,p,n,m,i⟩ {aC S with v:={S.v with aj:=q}} {L with l:={L.l with co:=co,cap:=cap,its:=its}} (wc.setCell ⟨L.sb,0,none⟩ (.slice co its.length cap))):=aeh hc GZ.out (hT rfl);have GQ:Hid ((wc.setCell ⟨L.sb,0,none⟩ (.slice co its.length cap)).heap[B]?=some (aT co its.length cap)):=by
    show (wc.setCell ⟨L.sb,0,none⟩ (.slice co its.length cap)).heap[B]?=_;rw [Below.heap_setCell _ _ _ _ (by simpa using D6.out)];exact hB
   have qP:Hid (ak its=q):=(hT rfl).1;obtain⟨T,Q⟩:∃ T:aD,T={aC S with v:={S.v with aj:=q}}:=⟨_,rfl⟩;obtain⟨u,P⟩:∃ u:Lay,u={L with l:={L.l with co:=co,cap:=cap,its:=its}}:=⟨_,rfl⟩;rw [<-Q, <-P] at jh;have nA:Hid (u.sb=L.sb):=(by have e9:=congrArg Lay.sb P;exact e9);have zV:Hid (T.v.focus=F):=(by have e9:=(congrArg (fun T:aD=>T.v.focus) Q).trans hF.symm;exact e9);have zM:Hid (pI X w L ⟨2,p,n,m,i⟩ T u B co its cap (wc.setCell ⟨L.sb,0,none⟩ (.slice co its.length cap))):=⟨jh.out,GQ.out,by have e9:=congrArg (fun M:Lay=>M.l.co) P;exact e9,by have e9:=congrArg (fun M:Lay=>M.l.its) P;exact e9⟩;have mH:Hid (∀ W,pI X w L ⟨2,p,n,m,i⟩ T u B co its cap W->W.cell? ⟨B,0,none⟩=some (.slice co its.length cap)∧W.cell? ⟨L.sb,57,none⟩=some (.int .i64 F)):=fun W j=>by
    have ah:=j.rd.via.ref.sides.2.2;rw [nA.out,zV.out] at ah;exact⟨cell_of_row W B 0 _ _ _ j.box,ah⟩
   have Bz:Hid (∀ W,pI X w L ⟨2,p,n,m,i⟩ T u B co its cap W->aI W co its∧its.length<=5864062014805∧(ak its).flatten.length<=17592186044416):=fun W j=>by
    have q1:=j.rd.via.ref.rd;have q2:=j.rd.via.ref.few;rw [j.co,j.its] at q1;rw [j.its] at q2;exact⟨q1,q2.1,q2.2.2⟩
   have GL:Hid (∀ W,pI X w L ⟨2,p,n,m,i⟩ T u B co its cap W->kA 23 #[tval co its.length cap,.int .i64 F] W (.bool (aR q F))):=fun W j=>Tl.pU its co cap F W (Bz.out W j).1 (Bz.out W j).2.1 (Bz.out W j).2.2 _ (by rw [qP.out]);obtain⟨ad,Z⟩:=ZT GZ.out;have Kr:Hid (∀ W,pI X w L ⟨2,p,n,m,i⟩ T u B co its cap W->kC 26 #[tval co its.length cap] W fun e G=>∃ g c,e=.returned (.slice (some ⟨g,0,none⟩) (firstT q::ad).length c)∧G.cell? ⟨g,0,none⟩=some (.int .i64 (firstT q))∧Below W.heap.size W G):=fun W j=>by
    refine(Tl.EP its co cap W (Bz.out W j).1 (Bz.out W j).2.1 (Bz.out W j).2.2 (firstT q::ad) (by rw [qP.out,Z])).mono ?_;rintro e G ⟨ao,c,rfl,ac,hb⟩;obtain⟨g,rfl,_,_⟩:=OI ac (by simp);exact⟨g,c,rfl,(JK ac (k:=0) rfl).1,hb⟩
   have Pz:Hid (∀ (f:Int) W,aQ X w L ⟨2,p,n,m,i⟩ {aC S with v:={S.v with aj:=q,focus:=f}} u W->kC 12 #[.pointer (some ⟨L.sb,0,none⟩)] W fun e G=>e=.returned (.tuple #[])∧∃ L',aQ X w L ⟨2,p,n,m,i⟩ (gB {aC S with v:={S.v with aj:=q,focus:=f}} 6) L' G):=fun f W j=>by
    have:=JJ _ W _ u j.via.ref;rw [nA.out] at this;refine this.mono ?_;rintro e G ⟨rfl,L',h'⟩;exact⟨rfl,L',j.next h'⟩
   have Vx:Hid (∀ (f:Int) W,aQ X w L ⟨2,p,n,m,i⟩ T u W->aQ X w L ⟨2,p,n,m,i⟩ {aC S with v:={S.v with aj:=q,focus:=f}} u (W.setCell ⟨L.sb,57,none⟩ (.int .i64 f))):=fun f W j=>by
    have:=j.next (OD j.via.ref f);rw [nA.out,Q] at this;exact this
   have VQ:Hid (∀ W,aQ X w L ⟨2,p,n,m,i⟩ T u W->aQ X w L ⟨2,p,n,m,i⟩ {aC S with v:={S.v with aj:=q,focus:=F}} u W):=fun W j=>by
    rw [Q] at j;rw [hF];exact j
   clear hT hc Q P hB D6 KJ hF Z jh GQ Eb;cases hh:aR q F
   ·have kW:Hid (∀ W,pI X w L ⟨2,p,n,m,i⟩ T u B co its cap W->kA 23 #[tval co its.length cap,.int .i64 F] W (.bool false)):=fun W j=>(by rw [<-hh];exact GL.out W j);have zL:Hid (F2=firstT q):=(by show F2=_;rw [O,hh];rfl);clear O hh GL;rw [zL.out] at HU;generalize firstT q=F3 at*;go_wp2_with fail;clear Gy Gz A ab;generalize wc.setCell ⟨L.sb,0,none⟩ (.slice co its.length cap)=W5 at*;have I:Hid (pI X w L ⟨2,p,n,m,i⟩ T u B co its cap W5):=zM.out;clear zM;obtain⟨b0,x⟩:=mH.out _ I.out;have Ng:L.sb < W5.heap.size:=(by have:=I.out.rd.via.ref.lt;rw [nA.out] at this;exact this);have MJ:=(gQ I.out.box).1;refine bg (fun G=>G.cell? ⟨B,0,none⟩=some (.slice co its.length cap)∧G.cell? ⟨L.sb,57,none⟩=some (.int .i64 F)) ⟨b0,x⟩ (fun d=>?_);refine tk 0 d ?_;refine tk 1 d ?_;refine tk 2 d ?_;refine tk 3 d ?_;refine tk 4 d ?_;refine tk 5 d ?_;refine rA 6 fun K s=>?_;go_simp;go_at_call 23;refine(kW.out _ (I.out.later ((Below.refl _ _).drew))).mono ?_;rintro e w6 ⟨rfl,V⟩;have wN:Hid (pI X w L ⟨2,p,n,m,i⟩ T u B co its cap w6):=I.out.later (jq V);clear V;obtain⟨b0,x⟩:=mH.out _ wN.out
    (try go_simp)
    refine s.out _ _ ⟨b0,x⟩ (fun d=>?_);clear s K;refine pt ?_;refine tk 7 d ?_;refine dn ?_;clear d;have au:=(gQ wN.out.box).1;have Ru:=wN.out.rd.via.ref.frozen;rw [nA.out] at Ru;have Nh:L.sb < w6.heap.size:=(by have:=wN.out.rd.via.ref.lt;rw [nA.out] at this;exact this);clear Ru Ng MJ
    go_wp2_with (first
     | (go_at_call 26;refine(Kr.out _ wN.out).mono ?_;rintro e w7 ⟨g7,c7,rfl,jE,CZ⟩;have GN:Hid (pI X w L ⟨2,p,n,m,i⟩ T u B co its cap w7):=wN.out.later CZ;have Rv:=GN.out.rd.via.ref.frozen;rw [nA.out] at Rv;have av:L.sb < w7.heap.size:=(by have:=GN.out.rd.via.ref.lt;rw [nA.out] at this;exact this);obtain⟨b7,ap⟩:=mH.out _ GN.out;have an:Hid (aQ X w L ⟨2,p,n,m,i⟩ {aC S with v:={S.v with aj:=q,focus:=F3}} u (w7.setCell ⟨L.sb,57,none⟩ (.int .i64 F3))):=Vx.out F3 w7 GN.out.rd;clear CZ b0 x)
     | (go_at_call 12;refine(Pz.out F3 _ an.out).mono ?_;rintro e w9 ⟨rfl,L9,h9⟩;have H9:Hid (aQ X w L ⟨2,p,n,m,i⟩ (gB {aC S with v:={S.v with aj:=q,focus:=F3}} 6) L9 w9):=h9;clear h9 jE Rv b7 ap)
     | (go_at_call 22;refine(jX 0 _).mono ?_;rintro e wn ⟨rfl,C⟩;have J:Hid (aQ X w L ⟨2,p,n,m,i⟩ (gB {aC S with v:={S.v with aj:=q,focus:=F3}} 6) L9 wn):=H9.out.later C;obtain⟨⟨x0,x1,x2⟩,xf⟩:=three J.out.rp;have ai:=(gQ J.out.rp).1;clear C))
    rw [HU.out];refine bodyPost_ret (v:=eF (err 0)) (by simp [results,results10,go_sem, *]) rfl ?_;exact⟨rfl,L9,J.out.reply _ _ _⟩
   ·have kW:Hid (∀ W,pI X w L ⟨2,p,n,m,i⟩ T u B co its cap W->kA 23 #[tval co its.length cap,.int .i64 F] W (.bool true)):=fun W j=>(by rw [<-hh];exact GL.out W j);have zL:Hid (F2=F):=(by show F2=_;rw [O,hh];rfl);clear O hh GL;rw [zL.out] at HU;go_wp2_with fail;clear Gy Gz A ab;generalize wc.setCell ⟨L.sb,0,none⟩ (.slice co its.length cap)=W5 at*;have I:Hid (pI X w L ⟨2,p,n,m,i⟩ T u B co its cap W5):=zM.out;clear zM;obtain⟨b0,x⟩:=mH.out _ I.out;have Ng:L.sb < W5.heap.size:=(by have:=I.out.rd.via.ref.lt;rw [nA.out] at this;exact this);have MJ:=(gQ I.out.box).1;refine bg (fun G=>G.cell? ⟨B,0,none⟩=some (.slice co its.length cap)∧G.cell? ⟨L.sb,57,none⟩=some (.int .i64 F)) ⟨b0,x⟩ (fun d=>?_);refine tk 0 d ?_;refine tk 1 d ?_;refine tk 2 d ?_;refine tk 3 d ?_;refine tk 4 d ?_;refine tk 5 d ?_;refine rA 6 fun K s=>?_;go_simp;go_at_call 23;refine(kW.out _ (I.out.later ((Below.refl _ _).drew))).mono ?_;rintro e w6 ⟨rfl,V⟩;have wN:Hid (pI X w L ⟨2,p,n,m,i⟩ T u B co its cap w6):=I.out.later (jq V);clear V;obtain⟨b0,x⟩:=mH.out _ wN.out
    (try go_simp)
    refine s.out _ _ ⟨b0,x⟩ (fun d=>?_);clear s K;refine pt ?_;refine tk 7 d ?_;refine dn ?_;clear d Ng MJ
    go_wp2_with (first
     | (go_at_call 12;refine(Pz.out F _ (VQ.out _ wN.out.rd)).mono ?_;rintro e w9 ⟨rfl,L9,h9⟩;have H9:Hid (aQ X w L ⟨2,p,n,m,i⟩ (gB {aC S with v:={S.v with aj:=q,focus:=F}} 6) L9 w9):=h9;clear h9 b0 x)
     | (go_at_call 22;refine(jX 0 _).mono ?_;rintro e wn ⟨rfl,C⟩;have J:Hid (aQ X w L ⟨2,p,n,m,i⟩ (gB {aC S with v:={S.v with aj:=q,focus:=F}} 6) L9 wn):=H9.out.later C;obtain⟨⟨x0,x1,x2⟩,xf⟩:=three J.out.rp;have ai:=(gQ J.out.rp).1;clear C))
    rw [HU.out];refine bodyPost_ret (v:=eF (err 0)) (by simp [results,results10,go_sem, *]) rfl ?_;exact⟨rfl,L9,J.out.reply _ _ _⟩
  ·have e2:(r2 !=0)=true:=(by simpa using he);have HU:Hid (R=(aC S,r2)):=by
    show R=_;rw [ag.out];unfold iH;rw [jM.out,if_neg he]
   clear hT hc he hB;go_wp2_with (go_at_call 22;refine(jX r2 _).mono ?_;rintro e wn ⟨rfl,C⟩;have J:Hid (aQ X w L ⟨2,p,n,m,i⟩ (aC S) L wn):=Eb.out.later C;obtain⟨⟨x0,x1,x2⟩,xf⟩:=three J.out.rp;have ai:=(gQ J.out.rp).1;clear C);rw [HU.out];refine bodyPost_ret (v:=eF (err r2)) (by simp [results,results10,go_sem, *]) rfl ?_;exact⟨rfl,L,J.out.reply _ _ _⟩
end Go.Proofs.YtkcdcamophkdlaaGreatDoor.Sv
