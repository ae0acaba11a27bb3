import Derived.Test.YtkcdcamophkdlaaGreatDoorBL
set_option maxHeartbeats 4000000
set_option maxRecDepth 100000
open Go.Proofs.Tryz
namespace Go.Proofs.YtkcdcamophkdlaaGreatDoor.Sv
open Go.RowKit
open Go.Proofs.YtkcdcamophkdlaaGreatDoor.Tl (ak aI dK bn tval aR)
variable {w W W':World} {X:Nat->Prop} {L L2:Lay} {a:Ac} {T U:aD}
def Xr (X:Nat->Prop) (n:Nat):Nat->Prop:=fun b=>X b∨b=n
structure aQ (X:Nat->Prop) (w:World) (L:Lay) (a:Ac) (T:aD) (L2:Lay) (w':World):Prop where
 via:gZ (Xr X (w.heap.size+1)) w L T L2 w'
 rp:w'.heap[w.heap.size+1]?=some (bA (err 0))
 act:w'.heap[w.heap.size]?=some (bN a)
 mine:X L.sb
 xl:∀ b,X b->b < w.heap.size
theorem mZ {S:aD} (h:bJ X w S L) (a:Ac):aQ X w L a (aC S) L (((w.setCell ⟨L.sb,85,none⟩ (.int .i64 ((S.acts:Int)+1))).alloc (bN a)).alloc (bA (err 0))):=by
 have d:gZ X w L (aC S) L (w.setCell ⟨L.sb,85,none⟩ (.int .i64 ((S.acts:Int)+1))):=adY h;have c:(w.setCell ⟨L.sb,85,none⟩ (.int .i64 ((S.acts:Int)+1))).heap.size=w.heap.size:=by simp
 generalize w.setCell ⟨L.sb,85,none⟩ (.int .i64 ((S.acts:Int)+1))=W at*;have f:Below W.heap.size W ((W.alloc (bN a)).alloc (bA (err 0))):=(aM _ _).alloc (by simp) _;have i:((W.alloc (bN a)).alloc (bA (err 0))).heap.size=w.heap.size+2:=by simp [c]
 refine⟨⟨d.ref.keep (M:=fun _=>False) (Kp.of_below _ f) (fun _ e=>e.elim) (.inl h.mine) (fun b g e=>?_) (fun b e=>?_),rfl,d.kp.trans (N:=fun _=>False) (Kp.of_below _ f) (fun _ e=>e.elim)⟩,?_,?_,h.mine,h.xl⟩
 ·rcases e with e | e
  ·exact e
  ·omega
 ·rw [i];rcases e with e | e
  ·have:=h.xl b e;omega
  ·omega
 ·have:=at_new (W.alloc (bN a)) (bA (err 0));rw [<-c];simpa using this
 ·rw [<-c];exact aF (at_new W _) _
theorem aQ.next {b:Lay} (h:aQ X w L a T L2 W) (k:gZ (Xr X (w.heap.size+1)) W L2 U b W'):aQ X w L a U b W':=by
 have c:L.sb < w.heap.size:=h.xl _ h.mine;have e:=h.via.sb;exact⟨h.via.trans k,k.kp.at h.rp (by omega),k.kp.at h.act (by omega),h.mine,h.xl⟩
theorem aQ.later (h:aQ X w L a T L2 W) (b:Below W.heap.size W W'):aQ X w L a T L2 W':=
 ⟨h.via.later b,aG b h.rp (gQ h.rp).1,aG b h.act (gQ h.act).1,h.mine,h.xl⟩
theorem aQ.like (h:aQ X w L a T L2 W) (f:lq U) (b:U.v=T.v) (c:U.ps=T.ps) (d:U.acts=T.acts) (e:∀ i,i < 3->iU U i=iU T i):aQ X w L a U L2 W:=⟨h.via.like f b c d e,h.rp,h.act,h.mine,h.xl⟩
theorem aQ.reply (h:aQ X w L a T L2 W) (u0 u1 u2:Value):gZ X w L T L2 (((W.setCell ⟨w.heap.size+1,0,none⟩ u0).setCell ⟨w.heap.size+1,1,none⟩ u1).setCell ⟨w.heap.size+1,2,none⟩ u2):=by
 have:L.sb < w.heap.size:=h.xl _ h.mine;have e:=h.via.sb;have d:Kp (fun b=>b=w.heap.size+1) W (((W.setCell ⟨w.heap.size+1,0,none⟩ u0).setCell ⟨w.heap.size+1,1,none⟩ u1).setCell ⟨w.heap.size+1,2,none⟩ u2):=
  ((jF W (w.heap.size+1) 0 u0).trans (jF _ (w.heap.size+1) 1 u1) (fun _ e=>.inl e)).trans (jF _ (w.heap.size+1) 2 u2) (fun _ e=>.inl e)
 have:=d.size;have:=h.via.kp.size;refine⟨h.via.ref.keep d (fun b c _=>⟨.inr c,by omega,by rw [c];exact⟨_,_,_,h.rp,by decide,by decide⟩⟩) (by rw [e];exact h.mine) (fun b _ c=>.inl c) (fun b c=>by have:=h.xl b c;omega),e,h.via.kp.trans d (fun b c=>.inr (by rw [c];omega))⟩
def jP (X:Nat->Prop) (w:World) (L:Lay) (T:aD) (r:Rp) (e:Ending) (w':World):Prop:=e=.returned (eF r)∧∃ L',gZ X w L T L' w'
theorem jX (e:Int) (w:World):kC 22 #[.int .i64 e] w fun r d=>r=.returned (eF (err e))∧Below w.heap.size w d:=by
 have c:Hid (∀ b:Obj,Below w.heap.size w (w.alloc b)):=fun b=>aM _ _;go_enter func22,ntmps22;go_wp2;exact bodyPost_ret (v:=eF (err e)) (by simp [results,results22,go_sem];exact⟨rfl,rfl,rfl⟩) rfl ⟨rfl,c.out _⟩
theorem gI {b:Nat} (h:w.heap[b]?=some (bN a)):
  (w.cell? ⟨b,0,none⟩=some (.int .i64 a.kind)∧w.cell? ⟨b,1,none⟩=some (.int .i64 a.p)∧w.cell? ⟨b,2,none⟩=some (.int .i64 a.n)∧w.cell? ⟨b,3,none⟩=some (.int .i64 a.m)∧w.cell? ⟨b,4,none⟩=some (.string (bs a.bytes)))∧(∀ j,w.frozen? ⟨b,j,none⟩=false):=
 ⟨⟨cell_of_row w b 0 _ _ _ h,cell_of_row w b 1 _ _ _ h,cell_of_row w b 2 _ _ _ h,cell_of_row w b 3 _ _ _ h,cell_of_row w b 4 _ _ _ h⟩,fun j=>frozen_of_row w b j _ _ h⟩
theorem aep (X:Nat->Prop) (a:Ac) (w:World) (S:aD) (L:Lay) (h:bJ X w S L) (e:S.acts=300):
  kC 10 #[.pointer (some ⟨L.sb,0,none⟩),aval a] w (jP X w L S (err 5)):=by
 have f:Hid (∀ W,Below w.heap.size w W->gZ X w L S L W):=fun W i=>(gZ.refl h).later i;have g:=h.acts;rw [e] at g;have:=h.lt;clear h e;go_enter func10,ntmps10;go_wp2_with (go_at_call 22;refine(jX 5 _).mono ?_;rintro _ j ⟨rfl,c⟩;have b:Hid (Below w.heap.size w j):=((aM w (bN a)).alloc (by simp) _).trans (c.mono (by simp;omega));have d:=aG c (bK w _ _) (by simp);obtain⟨⟨_,_,_⟩,_⟩:=three d;have:=(gQ d).1;clear d c);refine bodyPost_ret (v:=eF (err 5)) (by simp [results,results10,go_sem, *]) rfl ?_;exact⟨rfl,L,f.out _ (((b.out.setCell (by simp) _).setCell (by simp) _).setCell (by simp) _)⟩
theorem aeA (X:Nat->Prop) (b p n m:Int) (bytes:List UInt8) (w:World) (S:aD) (L:Lay) (h:bJ X w S L) (g:S.acts < 300) (i:(b==1)=false) (j:(b==2)=false) (k:(b==3)=false) (l:(b==4)=false) (o:(b==5)=false) (q:(b==6)=false) (r:(b==7)=false) (s:(b==8)=false) (t:(b==9)=false):
  kC 10 #[.pointer (some ⟨L.sb,0,none⟩),aval ⟨b,p,n,m,bytes⟩] w (jP X w L (aC S) (err 2)):=by
 have d:Hid (aQ X w L ⟨b,p,n,m,bytes⟩ (aC S) L (((w.setCell ⟨L.sb,85,none⟩ (.int .i64 ((S.acts:Int)+1))).alloc (bN ⟨b,p,n,m,bytes⟩)).alloc (bA (err 0)))):=mZ h _;have:=h.acts;have:=h.lt;have:=h.frozen;have:¬ (S.acts:Int)=300:=by omega
 have:(S.acts:Int) < 300:=by omega
 have:0<=(S.acts:Int):=by omega
 clear h g;obtain⟨T,f⟩:∃ T,T=aC S:=⟨_,rfl⟩;rw [<-f] at d ⊢;clear f;generalize (S.acts:Int)=N at*;go_enter func10,ntmps10;go_wp2_with (go_at_call 22;refine(jX 2 _).mono ?_;rintro _ _ ⟨rfl,e⟩;have c:=gH (d.out.later e);obtain⟨⟨_,_,_⟩,_⟩:=three c.out.rp;have:=(gQ c.out.rp).1;clear e);refine bodyPost_ret (v:=eF (err 2)) (by simp [results,results10,go_sem, *]) rfl ?_;exact⟨rfl,L,c.out.reply _ _ _⟩
theorem aeE (X:Nat->Prop) (p n m:Int) (bytes:List UInt8) (w:World) (S:aD) (L:Lay) (h:bJ X w S L) (f:S.acts < 300):
  kC 10 #[.pointer (some ⟨L.sb,0,none⟩),aval ⟨8,p,n,m,bytes⟩] w (jP X w L (aC S) (err 0)):=by
 have c:Hid (aQ X w L ⟨8,p,n,m,bytes⟩ (aC S) L (((w.setCell ⟨L.sb,85,none⟩ (.int .i64 ((S.acts:Int)+1))).alloc (bN ⟨8,p,n,m,bytes⟩)).alloc (bA (err 0)))):=mZ h _;have:=h.acts;have:=h.lt;have:=h.frozen;have:¬ (S.acts:Int)=300:=by omega
 have:(S.acts:Int) < 300:=by omega
 have:0<=(S.acts:Int):=by omega
 clear h f;obtain⟨T,e⟩:∃ T,T=aC S:=⟨_,rfl⟩;rw [<-e] at c ⊢;clear e;generalize (S.acts:Int)=N at*;go_enter func10,ntmps10;go_wp2_with (go_at_call 22;refine(jX 0 _).mono ?_;rintro _ _ ⟨rfl,d⟩;have b:=gH (c.out.later d);obtain⟨⟨_,_,_⟩,_⟩:=three b.out.rp;have:=(gQ b.out.rp).1;clear d);refine bodyPost_ret (v:=eF (err 0)) (by simp [results,results10,go_sem, *]) rfl ?_;exact⟨rfl,L,b.out.reply _ _ _⟩
variable (X:Nat->Prop) (p n m:Int) (bytes:List UInt8) (w:World) (S:aD) (L:Lay)
theorem qA {w:World} {b B j k:Nat} (h:B≠b) (u:Value):(w.setCell ⟨B,j,none⟩ u).cell? ⟨b,k,none⟩=w.cell? ⟨b,k,none⟩:=
 World.cell?_of_block (Below.heap_setCell _ _ _ _ (by simpa using fun e:b=B=>h e.symm))
theorem JR (b p n m:Int) (bytes:List UInt8) (w:World):kA 29 #[aval ⟨b,p,n,m,bytes⟩] w (.bool (iM n m)):=by
 have c:Hid (∀ o:Obj,Below w.heap.size w (w.alloc o)):=fun o=>aM _ _;by_cases d:1<=n
 ·by_cases e:n<=24
  ·by_cases f:1<=m
   ·go_enter func29,ntmps29;go_wp2;go_ret;exact⟨bD (by simp [iM,d,e,f]),c.out _⟩
   ·have:m < 1:=(by omega);go_enter func29,ntmps29;go_wp2;go_ret;exact⟨bD (by simp [iM];omega),c.out _⟩
  ·have:24 < n:=(by omega);go_enter func29,ntmps29;go_wp2;go_ret;exact⟨bD (by simp [iM];omega),c.out _⟩
 ·have:n < 1:=(by omega);go_enter func29,ntmps29;go_wp2;go_ret;exact⟨bD (by simp [iM];omega),c.out _⟩
theorem aeC (h:bJ X w S L) (A:dJ S) (H:S.acts < 300):
  kC 10 #[.pointer (some ⟨L.sb,0,none⟩),aval ⟨5,p,n,m,bytes⟩] w (jP X w L (iK (aC S) n m).1 (err (iK (aC S) n m).2)):=by
 have D:Hid (aQ X w L ⟨5,p,n,m,bytes⟩ (aC S) L (((w.setCell ⟨L.sb,85,none⟩ (.int .i64 ((S.acts:Int)+1))).alloc (bN ⟨5,p,n,m,bytes⟩)).alloc (bA (err 0)))):=mZ h _;have Y:=h.acts;have d:=h.lt;have j:=h.frozen;have aa:¬ (S.acts:Int)=300:=by omega
 have Z:(S.acts:Int) < 300:=by omega
 have I:0<=(S.acts:Int):=by omega
 have iF:Hid (dJ (aC S)):=Jw A (by omega);cases k:iM n m
 ·have C:Hid (∀ W,kA 29 #[aval ⟨5,p,n,m,bytes⟩] W (.bool false)):=fun W=>(by rw [<-k];exact JR 5 p n m bytes W);have r:Hid (iK (aC S) n m=(aC S,1)):=(by show iK (aC S) n m=_;unfold iK;rw [k];rfl);clear h H k A;rw [r.out];generalize (S.acts:Int)=N at*;go_enter func10,ntmps10
  go_wp2_with (first
   | (go_at_call 29;refine(C.out _).mono ?_;rintro e l ⟨rfl,f⟩;have c:Hid (aQ X w L ⟨5,p,n,m,bytes⟩ (aC S) L l):=D.out.later f;clear f)
   | (go_at_call 22;refine(jX 1 _).mono ?_;rintro e B ⟨rfl,g⟩;have i:Hid (aQ X w L ⟨5,p,n,m,bytes⟩ (aC S) L B):=c.out.later g;obtain⟨⟨r0,r1,r2⟩,rf⟩:=three i.out.rp;have z:=(gQ i.out.rp).1;clear g))
  refine bodyPost_ret (v:=eF (err 1)) (by simp [results,results10,go_sem, *]) rfl ?_;exact⟨rfl,L,i.out.reply _ _ _⟩
 ·have C:Hid (∀ W,kA 29 #[aval ⟨5,p,n,m,bytes⟩] W (.bool true)):=fun W=>(by rw [<-k];exact JR 5 p n m bytes W);have r:Hid (iK (aC S) n m=({aC S with v:=jR {S.v with wide:=n,high:=m}},0)):=(by show iK (aC S) n m=_;unfold iK;rw [k];rfl);have x:Hid (gB {aC S with v:={S.v with wide:=n,high:=m}} 6={aC S with v:=jR {S.v with wide:=n,high:=m}}):=afv iF.out n m;have M:Hid (∀ W,aQ X w L ⟨5,p,n,m,bytes⟩ (aC S) L W->aQ X w L ⟨5,p,n,m,bytes⟩ {aC S with v:={S.v with wide:=n,high:=m}} L ((W.setCell ⟨L.sb,55,none⟩ (.int .i64 n)).setCell ⟨L.sb,56,none⟩ (.int .i64 m))):=fun W G=>G.next (afz G.via.ref n m k);clear h H k A;rw [r.out, <-x.out];obtain⟨T,F⟩:∃ T:aD,T={aC S with v:={S.v with wide:=n,high:=m}}:=⟨_,rfl⟩;rw [<-F] at M x ⊢;clear F x r;generalize (S.acts:Int)=N at*;go_enter func10,ntmps10;go_wp2_with (go_at_call 29;refine(C.out _).mono ?_;rintro e l ⟨rfl,f⟩;have c:Hid (aQ X w L ⟨5,p,n,m,bytes⟩ (aC S) L l):=D.out.later f;clear f);clear Y j;obtain⟨⟨P,Q,s,t,R⟩,V⟩:=gI c.out.act;obtain⟨s1,s2,s3⟩:=c.out.via.ref.sides;have j:=c.out.via.ref.frozen;have J:L.sb < l.heap.size:=c.out.via.ref.lt;have fJ:=(gQ c.out.act).1;refine bg (fun O=>O.cell? ⟨w.heap.size,2,none⟩=some (.int .i64 n)∧O.cell? ⟨w.heap.size,3,none⟩=some (.int .i64 m)) ⟨s,t⟩ (fun b=>?_);refine tk 0 b ?_;refine tk 1 b ?_;refine tk 2 b ?_;refine tk 3 b ?_;refine tk 4 b ?_;refine tk 5 b ?_;refine tk 6 b ?_;refine tk 7 b ?_;refine tk 8 b ?_;refine rA 9 fun K q=>?_;go_simp;refine q.out _ _ ⟨(qA (Nat.ne_of_lt d) _).trans s,(qA (Nat.ne_of_lt d) _).trans t⟩ (fun b=>?_);clear q K;refine pt ?_;refine tk 10 b ?_;refine tk 11 b ?_;refine tk 12 b ?_;refine rA 13 fun K q=>?_;go_simp;refine q.out _ _ ⟨(qA (Nat.ne_of_lt d) _).trans ((qA (Nat.ne_of_lt d) _).trans s),(qA (Nat.ne_of_lt d) _).trans ((qA (Nat.ne_of_lt d) _).trans t)⟩ (fun b=>?_);clear q K;refine pt ?_;refine dn ?_;have o:Hid (aQ X w L ⟨5,p,n,m,bytes⟩ T L ((l.setCell ⟨L.sb,55,none⟩ (.int .i64 n)).setCell ⟨L.sb,56,none⟩ (.int .i64 m)).drew):=(M.out _ c.out).later ((Below.refl _ _).drew);clear c P Q s t R V s1 s2 s3 j b;generalize ((l.setCell ⟨L.sb,55,none⟩ (.int .i64 n)).setCell ⟨L.sb,56,none⟩ (.int .i64 m)).drew=W1 at*
  go_wp2_with (first
   | (go_at_call 12;refine(JJ _ _ T L o.out.via.ref).mono ?_;rintro e w4 ⟨rfl,y,E⟩;have u:Hid (aQ X w L ⟨5,p,n,m,bytes⟩ (gB T 6) y w4):=o.out.next E;clear E)
   | (go_at_call 22;refine(jX 0 _).mono ?_;rintro e B ⟨rfl,g⟩;have i:Hid (aQ X w L ⟨5,p,n,m,bytes⟩ (gB T 6) y B):=u.out.later g;obtain⟨⟨r0,r1,r2⟩,rf⟩:=three i.out.rp;have z:=(gQ i.out.rp).1;clear g))
  refine bodyPost_ret (v:=eF (err 0)) (by simp [results,results10,go_sem, *]) rfl ?_;exact⟨rfl,y,i.out.reply _ _ _⟩
theorem aey (h:bJ X w S L) (C:S.acts < 300) (s:aR S.v.aj p=false):
  kC 10 #[.pointer (some ⟨L.sb,0,none⟩),aval ⟨3,p,n,m,bytes⟩] w (jP X w L (aC S) (err 3)):=by
 have d:Hid (aQ X w L ⟨3,p,n,m,bytes⟩ (aC S) L (((w.setCell ⟨L.sb,85,none⟩ (.int .i64 ((S.acts:Int)+1))).alloc (bN ⟨3,p,n,m,bytes⟩)).alloc (bA (err 0)))):=mZ h _;have B:=h.acts;have:=h.lt;have q:=h.frozen;have:¬ (S.acts:Int)=300:=by omega
 have:(S.acts:Int) < 300:=by omega
 have:0<=(S.acts:Int):=by omega
 have D:Hid (∀ W,aQ X w L ⟨3,p,n,m,bytes⟩ (aC S) L W->kA 23 #[tval L.l.co L.l.its.length L.l.cap,.int .i64 p] W (.bool false)):=fun W i=>by rw [<-s];exact Tl.pU L.l.its L.l.co L.l.cap p W i.via.ref.rd i.via.ref.few.1 i.via.ref.few.2.2 _ (by rw [<-i.via.ref.aj];rfl)
 clear h C s;generalize (S.acts:Int)=N at*;go_enter func10,ntmps10;go_wp2_with fail;clear B q;show Code.wp _ _ _ _ (((w.setCell ⟨L.sb,85,none⟩ (.int .i64 (N+1))).alloc (bN ⟨3,p,n,m,bytes⟩)).alloc (bA (err 0)));generalize ((w.setCell ⟨L.sb,85,none⟩ (.int .i64 (N+1))).alloc (bN ⟨3,p,n,m,bytes⟩)).alloc (bA (err 0))=W0 at*;have o:=d.out.via.ref.kJ;obtain⟨⟨u,k,x,y,z⟩,A⟩:=gI d.out.act;have:L.sb < W0.heap.size:=d.out.via.ref.lt;have:=(gQ d.out.act).1;refine bg (fun t=>t.cell? ⟨L.sb,0,none⟩=some (.slice L.l.co L.l.its.length L.l.cap)∧t.cell? ⟨w.heap.size,1,none⟩=some (.int .i64 p)) ⟨o,k⟩ (fun b=>?_);refine tk 0 b ?_;refine tk 1 b ?_;refine tk 2 b ?_;refine tk 3 b ?_;refine tk 4 b ?_;refine tk 5 b ?_;refine tk 6 b ?_;refine rA 7 fun K r=>?_;go_simp;go_at_call 23;refine(D.out _ (d.out.later ((Below.refl _ _).drew))).mono ?_;rintro e _ ⟨rfl,f⟩;have c:=gH (d.out.later (jq f));clear f;have o:=c.out.via.ref.kJ;obtain⟨⟨u,k,x,y,z⟩,A⟩:=gI c.out.act
 (try go_simp)
 refine r.out _ _ ⟨o,k⟩ (fun b=>?_);clear r K;refine pt ?_;refine tk 8 b ?_;refine dn ?_;clear b;go_wp2_with (go_at_call 22;refine(jX 3 _).mono ?_;rintro e _ ⟨rfl,g⟩;have j:=gH (c.out.later g);obtain⟨⟨_,_,_⟩,_⟩:=three j.out.rp;have:=(gQ j.out.rp).1;clear g);refine bodyPost_ret (v:=eF (err 3)) (by simp [results,results10,go_sem, *]) rfl ?_;exact⟨rfl,L,j.out.reply _ _ _⟩
theorem aez (h:bJ X w S L) (C:S.acts < 300) (s:aR S.v.aj p=false):
  kC 10 #[.pointer (some ⟨L.sb,0,none⟩),aval ⟨4,p,n,m,bytes⟩] w (jP X w L (aC S) (err 3)):=by
 have d:Hid (aQ X w L ⟨4,p,n,m,bytes⟩ (aC S) L (((w.setCell ⟨L.sb,85,none⟩ (.int .i64 ((S.acts:Int)+1))).alloc (bN ⟨4,p,n,m,bytes⟩)).alloc (bA (err 0)))):=mZ h _;have B:=h.acts;have:=h.lt;have q:=h.frozen;have:¬ (S.acts:Int)=300:=by omega
 have:(S.acts:Int) < 300:=by omega
 have:0<=(S.acts:Int):=by omega
 have D:Hid (∀ W,aQ X w L ⟨4,p,n,m,bytes⟩ (aC S) L W->kA 23 #[tval L.l.co L.l.its.length L.l.cap,.int .i64 p] W (.bool false)):=fun W i=>by rw [<-s];exact Tl.pU L.l.its L.l.co L.l.cap p W i.via.ref.rd i.via.ref.few.1 i.via.ref.few.2.2 _ (by rw [<-i.via.ref.aj];rfl)
 clear h C s;generalize (S.acts:Int)=N at*;go_enter func10,ntmps10;go_wp2_with fail;clear B q;show Code.wp _ _ _ _ (((w.setCell ⟨L.sb,85,none⟩ (.int .i64 (N+1))).alloc (bN ⟨4,p,n,m,bytes⟩)).alloc (bA (err 0)));generalize ((w.setCell ⟨L.sb,85,none⟩ (.int .i64 (N+1))).alloc (bN ⟨4,p,n,m,bytes⟩)).alloc (bA (err 0))=W0 at*;have o:=d.out.via.ref.kJ;obtain⟨⟨u,k,x,y,z⟩,A⟩:=gI d.out.act;have:L.sb < W0.heap.size:=d.out.via.ref.lt;have:=(gQ d.out.act).1;refine bg (fun t=>t.cell? ⟨L.sb,0,none⟩=some (.slice L.l.co L.l.its.length L.l.cap)∧t.cell? ⟨w.heap.size,1,none⟩=some (.int .i64 p)) ⟨o,k⟩ (fun b=>?_);refine tk 0 b ?_;refine tk 1 b ?_;refine tk 2 b ?_;refine tk 3 b ?_;refine tk 4 b ?_;refine tk 5 b ?_;refine tk 6 b ?_;refine rA 7 fun K r=>?_;go_simp;go_at_call 23;refine(D.out _ (d.out.later ((Below.refl _ _).drew))).mono ?_;rintro e _ ⟨rfl,f⟩;have c:=gH (d.out.later (jq f));clear f;have o:=c.out.via.ref.kJ;obtain⟨⟨u,k,x,y,z⟩,A⟩:=gI c.out.act
 (try go_simp)
 refine r.out _ _ ⟨o,k⟩ (fun b=>?_);clear r K;refine pt ?_;refine tk 8 b ?_;refine dn ?_;clear b;go_wp2_with (go_at_call 22;refine(jX 3 _).mono ?_;rintro e _ ⟨rfl,g⟩;have j:=gH (c.out.later g);obtain⟨⟨_,_,_⟩,_⟩:=three j.out.rp;have:=(gQ j.out.rp).1;clear g);refine bodyPost_ret (v:=eF (err 3)) (by simp [results,results10,go_sem, *]) rfl ?_;exact⟨rfl,L,j.out.reply _ _ _⟩
theorem aeo (h:bJ X w S L) (J:S.acts < 300) (x:aR S.v.aj p=true):
  kC 10 #[.pointer (some ⟨L.sb,0,none⟩),aval ⟨4,p,n,m,bytes⟩] w (jP X w L {aC S with v:={S.v with focus:=p}} (err 0)):=by
 have f:Hid (aQ X w L ⟨4,p,n,m,bytes⟩ (aC S) L (((w.setCell ⟨L.sb,85,none⟩ (.int .i64 ((S.acts:Int)+1))).alloc (bN ⟨4,p,n,m,bytes⟩)).alloc (bA (err 0)))):=mZ h _;have I:=h.acts;have P:=h.lt;have i:=h.frozen;have Q:¬ (S.acts:Int)=300:=by omega
 have O:(S.acts:Int) < 300:=by omega
 have y:0<=(S.acts:Int):=by omega
 have V:Hid (∀ W,aQ X w L ⟨4,p,n,m,bytes⟩ (aC S) L W->kA 23 #[tval L.l.co L.l.its.length L.l.cap,.int .i64 p] W (.bool true)):=fun W d=>by rw [<-x];exact Tl.pU L.l.its L.l.co L.l.cap p W d.via.ref.rd d.via.ref.few.1 d.via.ref.few.2.2 _ (by rw [<-d.via.ref.aj];rfl)
 have s:Hid (∀ W,aQ X w L ⟨4,p,n,m,bytes⟩ (aC S) L W->aQ X w L ⟨4,p,n,m,bytes⟩ {aC S with v:={S.v with focus:=p}} L (W.setCell ⟨L.sb,57,none⟩ (.int .i64 p))):=fun W d=>d.next (OD d.via.ref p);clear h J x;obtain⟨T,u⟩:∃ T:aD,T={aC S with v:={S.v with focus:=p}}:=⟨_,rfl⟩;rw [<-u] at s ⊢;clear u;generalize (S.acts:Int)=N at*;go_enter func10,ntmps10;go_wp2_with fail;clear I i;show Code.wp _ _ _ _ (((w.setCell ⟨L.sb,85,none⟩ (.int .i64 (N+1))).alloc (bN ⟨4,p,n,m,bytes⟩)).alloc (bA (err 0)));generalize ((w.setCell ⟨L.sb,85,none⟩ (.int .i64 (N+1))).alloc (bN ⟨4,p,n,m,bytes⟩)).alloc (bA (err 0))=W0 at*;have r:=f.out.via.ref.kJ;obtain⟨⟨D,q,E,F,G⟩,H⟩:=gI f.out.act;have z:L.sb < W0.heap.size:=f.out.via.ref.lt;have Y:=(gQ f.out.act).1;refine bg (fun B=>B.cell? ⟨L.sb,0,none⟩=some (.slice L.l.co L.l.its.length L.l.cap)∧B.cell? ⟨w.heap.size,1,none⟩=some (.int .i64 p)) ⟨r,q⟩ (fun b=>?_);refine tk 0 b ?_;refine tk 1 b ?_;refine tk 2 b ?_;refine tk 3 b ?_;refine tk 4 b ?_;refine tk 5 b ?_;refine tk 6 b ?_;refine rA 7 fun K t=>?_;go_simp;go_at_call 23;refine(V.out _ (f.out.later ((Below.refl _ _).drew))).mono ?_;rintro e C ⟨rfl,g⟩;have c:=gH (f.out.later (jq g));clear g;have r:=c.out.via.ref.kJ;obtain⟨⟨D,q,E,F,G⟩,H⟩:=gI c.out.act
 (try go_simp)
 refine t.out _ _ ⟨r,q⟩ (fun b=>?_);clear t K;refine pt ?_;refine tk 8 b ?_;refine dn ?_;clear b;have A:L.sb < C.heap.size:=c.out.via.ref.lt;have i:=c.out.via.ref.frozen;have R:=c.out.via.ref.sides.2.2;have k:Hid (aQ X w L ⟨4,p,n,m,bytes⟩ T L (C.setCell ⟨L.sb,57,none⟩ (.int .i64 p))):=s.out _ c.out;go_wp2_with (go_at_call 22;refine(jX 0 _).mono ?_;rintro e wn ⟨rfl,j⟩;have o:=gH (k.out.later j);obtain⟨⟨Z,r1,r2⟩,rf⟩:=three o.out.rp;have M:=(gQ o.out.rp).1;clear j);refine bodyPost_ret (v:=eF (err 0)) (by simp [results,results10,go_sem, *]) rfl ?_;exact⟨rfl,L,o.out.reply _ _ _⟩
end Go.Proofs.YtkcdcamophkdlaaGreatDoor.Sv
