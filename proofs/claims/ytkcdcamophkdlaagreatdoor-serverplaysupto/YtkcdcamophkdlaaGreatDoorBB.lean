import Derived.Test.YtkcdcamophkdlaaGreatDoorAS
set_option maxHeartbeats 4000000
set_option maxRecDepth 100000
open Go.Proofs.Tryz
namespace Go.Proofs.YtkcdcamophkdlaaGreatDoor
open Go.RowKit
variable (pb b cap:Nat) (oo:Option Addr) (oc:Nat) (p:bU) (c:aH)
theorem abb (g:Gr) (t:Option Addr) (cap:Nat) (c:aH) (E:0<=g.aA∧g.aA<=8) (z:0<=c.aA∧c.aA<=8) (D:oH g c=false) (w:World):
  kA 167 #[ay g t cap,cval c] w (.string (bs (uM g c))):=by
 obtain⟨e,d,n,f,j,i,s,u,m,a⟩:=g;obtain⟨r,o,q,C⟩:=c;simp only at E z;unfold uM;by_cases v:o=0
 ·subst v;by_cases x:0 < s
  ·have:¬ (0:Int)=s:=(by omega);cases u <;>cases C
   ·have R:eD ⟨e,d,n,f,j,i,s,false,m,a⟩ ⟨r,0,q,false⟩=[[]]:=(by simp [eD,jS,x]);rw [R];exact aco e d n f j i m a r q s t cap x w
   ·have R:eD ⟨e,d,n,f,j,i,s,false,m,a⟩ ⟨r,0,q,true⟩=[[],[49]]:=(by simp [eD,jS,x]);rw [R];exact acs e d n f j i m a r q s t cap x w
   ·have R:eD ⟨e,d,n,f,j,i,s,true,m,a⟩ ⟨r,0,q,false⟩=[[]]:=(by simp [eD,jS]);rw [R];exact SH e d n f j i m a r q s t cap w
   ·have R:eD ⟨e,d,n,f,j,i,s,true,m,a⟩ ⟨r,0,q,true⟩=[[],[49]]:=(by simp [eD,jS,x]);rw [R];exact acz e d n f j i m a r q s t cap x w
  ·obtain rfl:s=0:=(by omega);cases u <;>cases C
   ·simp [oH] at D
   ·have R:eD ⟨e,d,n,f,j,i,0,false,m,a⟩ ⟨r,0,q,true⟩=[[49]]:=(by simp [eD,jS]);rw [R];exact acw e d n f j i m a r q t cap w
   ·have R:eD ⟨e,d,n,f,j,i,0,true,m,a⟩ ⟨r,0,q,false⟩=[[]]:=(by simp [eD,jS]);rw [R];exact SH e d n f j i m a r q 0 t cap w
   ·simp [oH] at D
 ·have A:1<=o:=(by omega);by_cases x:0 < s
  ·by_cases B:o=s
   ·subst B;cases u <;>cases C
    ·simp [oH] at D
    ·have R:eD ⟨e,d,n,f,j,i,o,false,m,a⟩ ⟨r,o,q,true⟩=[[49]]:=(by simp [eD,jS,v]);rw [R];exact acv e d n f j i m a r q o t cap x w
    ·have R:eD ⟨e,d,n,f,j,i,o,true,m,a⟩ ⟨r,o,q,false⟩=[[],Ps.dec (29+o).toNat]:=(by simp [eD,jS,v]);rw [R];exact Oa e d n f j i m a r q o o t cap A z.2 w
    ·simp [oH] at D
   ·cases u <;>cases C
    ·have R:eD ⟨e,d,n,f,j,i,s,false,m,a⟩ ⟨r,o,q,false⟩=[Ps.dec (29+o).toNat]:=(by simp [eD,jS,v,B]);rw [R];exact acp e d n f j i m a r q s o t cap A z.2 x B w
    ·have R:eD ⟨e,d,n,f,j,i,s,false,m,a⟩ ⟨r,o,q,true⟩=[[49],Ps.dec (29+o).toNat]:=(by simp [eD,jS,v,B]);rw [R];exact acu e d n f j i m a r q s o t cap A z.2 x B w
    ·have R:eD ⟨e,d,n,f,j,i,s,true,m,a⟩ ⟨r,o,q,false⟩=[[],Ps.dec (29+o).toNat]:=(by simp [eD,jS,v]);rw [R];exact Oa e d n f j i m a r q s o t cap A z.2 w
    ·have R:eD ⟨e,d,n,f,j,i,s,true,m,a⟩ ⟨r,o,q,true⟩=[Ps.dec (29+o).toNat]:=(by simp [eD,jS,v,B]);rw [R];exact acA e d n f j i m a r q s o t cap A z.2 x B w
  ·obtain rfl:s=0:=(by omega);cases u <;>cases C
   ·have R:eD ⟨e,d,n,f,j,i,0,false,m,a⟩ ⟨r,o,q,false⟩=[Ps.dec (29+o).toNat]:=(by simp [eD,jS,v]);rw [R];exact acr e d n f j i m a r q o t cap A z.2 w
   ·have R:eD ⟨e,d,n,f,j,i,0,false,m,a⟩ ⟨r,o,q,true⟩=[[49],Ps.dec (29+o).toNat]:=(by simp [eD,jS,v]);rw [R];exact acy e d n f j i m a r q o t cap A z.2 w
   ·have R:eD ⟨e,d,n,f,j,i,0,true,m,a⟩ ⟨r,o,q,false⟩=[[],Ps.dec (29+o).toNat]:=(by simp [eD,jS,v]);rw [R];exact Oa e d n f j i m a r q 0 o t cap A z.2 w
   ·have R:eD ⟨e,d,n,f,j,i,0,true,m,a⟩ ⟨r,o,q,true⟩=[Ps.dec (29+o).toNat]:=(by simp [eD,jS,v]);rw [R];exact acB e d n f j i m a r q o t cap A z.2 w
@[reducible] def bf (c:aH):Obj:=.cells (yR c) 65
theorem abf (a:oH p.g c=true) (w:World) (h:eO w pb b cap oo oc p):
  kC 161 #[.pointer (some ⟨pb,0,none⟩),cval c] w fun e f=>e=.returned (.tuple #[])∧aW w pb b cap oo (oz p c) f:=by
 have d:Hid (∀ n,aW w pb b cap oo (oz p c) ((w.alloc (bf c)).drewN n)):=fun n=>by
  unfold oz;rw [if_pos a];exact h.stay (below_drewN (aM w _) n)
 simp only [oH,Bool.and_eq_true,decide_eq_true_eq,beq_iff_eq] at a;have:(p.g.aA==c.aA)=true:=by simpa using a.1
 have:(p.g.bold==c.bold)=true:=by simpa using a.2
 obtain⟨⟨_,_,_,_,_,_,_,_,_,_⟩,_⟩:=ten h.box;have:=h.lt;clear h a;go_enter func161,ntmps161;go_wp2_with fail;go_quiet (fail);go_wp2;exact bodyPost_ret (v:=.tuple #[]) (by simp [results,results161,go_sem]) rfl ⟨rfl,d.out _⟩
theorem abd (J:OkG p.g) (c:aH) (hc:0<=c.aA∧c.aA<=8) (D:oH p.g c=false) (hl:p.out.length<=1000000) (w:World) (h:eO w pb b cap oo oc p):
  kC 161 #[.pointer (some ⟨pb,0,none⟩),cval c] w fun e d=>e=.returned (.tuple #[])∧aW w pb b cap oo (oz p c) d:=by
 obtain⟨T,_,Q⟩:∃ T:ByteArray,T.size<=4∧Hid (T=bs (uM p.g c)):=⟨_,by
  obtain⟨_,_,k⟩:=RX ⟨J.i1,J.i2⟩ c hc D
  rw [qz]
  exact k.short,rfl⟩
 have HN:Hid (∀ w,kA 167 #[ay p.g (some ⟨b,0,none⟩) cap,cval c] w (.string T)):=fun w=>by rw [Q.out];exact abb p.g _ _ c ⟨J.i1,J.i2⟩ hc D w
 have vB:Hid (∀ a,Below w.heap.size w a->kC 109 #[.pointer (some ⟨pb,0,none⟩),.string (⟨#[27,91]⟩++T++⟨#[109]⟩)] a fun e d=>e=.returned (.tuple #[])∧aW w pb b cap oo ⟨p.out++27::91::(uM p.g c++[109]),p.g⟩ d∧∀ k,w.heap.size<=k->k < a.heap.size->d.heap[k]?=a.heap[k]?):=fun a i=>Vm h i _ (by simp only [ByteArray.size_append];show p.out.length+(2+T.size+1)<=_;omega) _ (by rw [Q.out];simp);have HE:Hid (∀ K,aW w pb b cap oo ⟨p.out++27::91::(uM p.g c++[109]),p.g⟩ K->aW w pb b cap oo (oz p c) ((K.setCell ⟨pb,6,none⟩ (.int .i64 c.aA)).setCell ⟨pb,7,none⟩ (.bool c.bold))):=fun K h5=>by
  unfold oz;rw [if_neg (by rw [D];simp)];exact h5.set2 6 7 _ _ rfl rfl (fun _ _=>rfl)
 have e1:¬ 9223372036854775807 < 2+T.size:=by omega
 have e2:¬ 9223372036854775807 < 2+T.size+1:=by omega
 have Z:Hid (∀ a,Below w.heap.size w a->a.heap[pb]?=some (je p.out.length oo oc p.g b cap)):=fun a i=>aG i h.box h.lt;obtain⟨⟨m,o,q,r,s,t,u,v,x,z⟩,A⟩:=ten h.box;have ab:=h.lt;clear h Q J hl;have R:Hid (∀ nq a,Below ((w.alloc (bf c)).drewN nq).heap.size ((w.alloc (bf c)).drewN nq) a->Below w.heap.size w a∧w.heap.size < a.heap.size∧a.heap[w.heap.size]?=some (bf c)):=fun nq a i=>by
  have j:Below (w.alloc (bf c)).heap.size (w.alloc (bf c)) a:=⟨i.os,i.tape,i.output,i.size,i.block⟩;have:=j.size;simp at this;exact⟨vO j,by omega,aG j (at_new w _) (by simp)⟩
 have U:(p.g.aA==c.aA)=true∧(p.g.bold==c.bold)=false∨(p.g.aA==c.aA)=false:=by
  by_cases S:p.g.aA=c.aA
  ·exact .inl ⟨by simpa using S,by simpa [oH,S] using D⟩
  ·exact .inr (by simpa using S)
 clear D;rcases U with ⟨f1,f2⟩ | f1
 all_goals (
  go_enter func161,ntmps161
  go_wp2_with fail
  go_quiet (fail)
  go_wp2_with fail
  obtain⟨E,V,F⟩:=R.out nq _ (Below.refl _ _)
  have eU:=gH (R.out nq)
  clear R m o q r s t u v x z A
  obtain⟨⟨m,o,q,r,s,t,u,v,x,z⟩,A⟩:=ten (Z.out _ E)
  obtain⟨⟨L,M,N,O⟩,P⟩:=four F
  generalize (w.alloc (bf c)).drewN nq=W at*
  clear E V F
  go_region_held3 (fun d=>d.cell? ⟨pb,1,none⟩=some (.int .i64 p.g.wide)∧d.cell? ⟨pb,2,none⟩=some (.int .i64 p.g.high)∧d.cell? ⟨pb,3,none⟩=some (.slice (some ⟨b,0,none⟩) p.g.n cap)∧d.cell? ⟨pb,4,none⟩=some (.int .i64 p.g.row)∧d.cell? ⟨pb,5,none⟩=some (.int .i64 p.g.col)∧d.cell? ⟨pb,6,none⟩=some (.int .i64 p.g.aA)∧d.cell? ⟨pb,7,none⟩=some (.bool p.g.bold)∧d.cell? ⟨pb,8,none⟩=some (.int .i64 p.g.top)∧d.cell? ⟨pb,9,none⟩=some (.int .i64 p.g.bottom)∧d.cell? ⟨w.heap.size,0,none⟩=some (.int .i64 c.ch)∧d.cell? ⟨w.heap.size,1,none⟩=some (.int .i64 c.aA)∧d.cell? ⟨w.heap.size,2,none⟩=some (.int .i64 c.aJ)∧d.cell? ⟨w.heap.size,3,none⟩=some (.bool c.bold)) (first | go_keep | (simp [*]))
   (first
   | (go_at_call 167;refine(HN.out _).mono ?_;rintro e a ⟨rfl,B⟩;obtain⟨X,k2,Y⟩:=eU.out a (UY B);have f:Hid (Below w.heap.size w a∧w.heap.size < a.heap.size∧a.heap[w.heap.size]?=some (bf c)):=⟨X,k2,Y⟩;clear B k2 m o q r s t u v x z A L M N O P;obtain⟨⟨m,o,q,r,s,t,u,v,x,z⟩,A⟩:=ten (Z.out a X);obtain⟨⟨L,M,N,O⟩,P⟩:=four Y;clear X Y)
   | (go_at_call 109;refine(vB.out _ f.out.1).mono ?_;rintro e K ⟨rfl,C,G⟩;have I:=(G _ (Nat.le_refl _) f.out.2.1).trans f.out.2.2;clear G;have uj:=gH C;clear m o q r s t u v x z A L M N O P;obtain⟨_,_,lG,_⟩:=C;obtain⟨⟨m,o,q,r,s,t,u,v,x,z⟩,A⟩:=ten lG.box;obtain⟨⟨L,M,N,O⟩,P⟩:=four I;clear lG I))
  have D8:=gH (HE.out K uj.out)
  clear HE uj vB HN eU Z f
  have ac:w.heap.size≠pb:=by omega
  have aa:pb≠w.heap.size:=by omega
  go_wp2_with fail
  go_region
  go_end0
  exact⟨rfl,D8.out.drew⟩)
theorem abe (i:OkG p.g) (c:aH) (d:0<=c.aA∧c.aA<=8) (f:p.out.length<=1000000) (w:World) (h:eO w pb b cap oo oc p):
  kC 161 #[.pointer (some ⟨pb,0,none⟩),cval c] w fun e j=>e=.returned (.tuple #[])∧aW w pb b cap oo (oz p c) j:=by
 cases a:oH p.g c
 ·exact abd pb b cap oo oc p i c d a f w h
 ·exact abf pb b cap oo oc p c a w h
theorem EW (g:Gr) (i:OkG g) (b d cap:Nat) (r:Nat) (A:(r:Int) < g.high) (C:g.n<=cap) (w:World):
  kC 133 #[ay g (some ⟨b,d,none⟩) cap,.int .i64 r] w fun e B=>e=.returned (.slice (some ⟨b,d+r*g.wide.toNat*4,none⟩) g.wide.toNat (cap - r*g.wide.toNat))∧B=w.alloc (aB g (some ⟨b,d,none⟩) cap):=by
 obtain⟨_,_,_⟩:=i.nums;have D:=i.w1;have E:=i.w2;have:=i.h2;have x:=p8 (r:=(r:Int)) (w:=g.wide) (h:=g.high) (by omega) A (by omega);have m:((r:Int)+1)*g.wide=(r:Int)*g.wide+g.wide:=by rw [Int.add_mul];omega
 have f:((r:Int)*g.wide).toNat=r*g.wide.toNat:=by
  obtain⟨n,z⟩:=Int.eq_ofNat_of_zero_le (a:=g.wide) (by omega);rw [z, <-Int.natCast_mul]
  rfl
 obtain⟨p,j⟩:∃ p,p=(r:Int)*g.wide:=⟨_,rfl⟩;obtain⟨q,s⟩:∃ q,q=((r:Int)+1)*g.wide:=⟨_,rfl⟩;have:0<=p:=by omega
 have v:q=p+g.wide:=by omega
 have:q<=g.n:=by omega
 have:(r:Int)*g.wide=p:=j.symm;have:((r:Int)+1)*g.wide=q:=s.symm;have t:Hid (r*g.wide.toNat=p.toNat):=by show r*g.wide.toNat=p.toNat;rw [j,f]
 have o:(q.toNat - p.toNat:Nat)=g.wide.toNat:=by omega
 have:p < q:=by omega
 have u:=gH o;clear j s m f x o v;go_enter func133,ntmps133;go_wp2;go_ret;refine⟨?_,rfl⟩;rw [t.out, <-u.out]
 rfl
variable {w:World} {pb b cap:Nat} {oo:Option Addr} {l:List UInt8} {y:Gr}
theorem Kept.JN {d:World} {o1:Option Addr} (h:Kept w d pb b oo o1) (j:Nat) (u:Value):Kept w (d.setCell ⟨b,j,none⟩ u) pb b oo o1:=
 ⟨h.os,h.tape,h.output,by have:=h.size;simpa using this,fun k g e a f=>(Below.heap_setCell _ _ _ _ a).trans (h.block k g e a f),h.fresh⟩
theorem aW.alloc {w':World} {q:bU} (h:aW w pb b cap oo q w') (o:Obj):aW w pb b cap oo q (w'.alloc o):=by
 obtain⟨d,e,a,k⟩:=h;exact⟨d,e,a.later (aM _ _),k.trans (Kept.below pb b d (aM _ _))⟩
theorem eO.put {oc:Nat} (h:eO w pb b cap oo oc ⟨l,y⟩) (i o0 o1 o2 o3:Nat) (c:aH) (j:i < y.n) (a:o0=i*4) (d:o1=i*4+1) (e:o2=i*4+2) (g:o3=i*4+3):
  eO ((((w.setCell ⟨b,o0,none⟩ (.int .i64 c.ch)).setCell ⟨b,o1,none⟩ (.int .i64 c.aA)).setCell ⟨b,o2,none⟩ (.int .i64 c.aJ)).setCell ⟨b,o3,none⟩ (.bool c.bold)) pb b cap oo oc ⟨l,{y with f:=gV y.f i c}⟩:=
 ⟨cO (cO (cO (cO h.box h.n1) h.n1) h.n1) h.n1,uQ (uQ (uQ (uQ h.own h.n3 _) h.n3 _) h.n3 _) h.n3 _,h.bM.put i o0 o1 o2 o3 c j a d e g⟩
theorem aW.put {d:World} (h:aW w pb b cap oo ⟨l,y⟩ d) (i o0 o1 o2 o3:Nat) (c:aH) (q:i < y.n) (g:o0=i*4) (j:o1=i*4+1) (m:o2=i*4+2) (o:o3=i*4+3):
  aW w pb b cap oo ⟨l,{y with f:=gV y.f i c}⟩ ((((d.setCell ⟨b,o0,none⟩ (.int .i64 c.ch)).setCell ⟨b,o1,none⟩ (.int .i64 c.aA)).setCell ⟨b,o2,none⟩ (.int .i64 c.aJ)).setCell ⟨b,o3,none⟩ (.bool c.bold)):=by
 obtain⟨r,e,a,k⟩:=h;exact⟨r,e,a.put i o0 o1 o2 o3 c q g j m o,(((k.JN _ _).JN _ _).JN _ _).JN _ _⟩
theorem aW.set1 {d:World} {g x:Gr} (h:aW w pb b cap oo ⟨l,g⟩ d) (i:Nat) (u:Value) (o:x.n=g.n) (j:x.f=g.f) (q:∀ oo oc,(dD l.length oo oc g b cap).setIfInBounds i u=dD l.length oo oc x b cap):aW w pb b cap oo ⟨l,x⟩ (d.setCell ⟨pb,i,none⟩ u):=by
 obtain⟨r,e,a,m⟩:=h;refine⟨r,e,⟨?_,uQ a.own a.n2 _,?_⟩,m.set i u⟩
 ·rw [bG a.box _,q]
 ·show av _ b x.n x.f;rw [o,j];exact a.bM.set a.n1 _
theorem Zo:∀ n:Nat,n < 127->(Utf8.encode (n:Int)).data.toList=[UInt8.ofNat n]∧(Utf8.encode (n:Int)).size=1:=by decide+kernel
theorem QG (c:aH) (a:0<=c.ch) (d:c.ch<=126):(Utf8.encode c.ch).data.toList=[sH c]∧(Utf8.encode c.ch).size=1:=by
 have:=Zo c.ch.toNat (by omega);rw [Int.toNat_of_nonneg a] at this;exact this
theorem adF (pb b cap:Nat) (oo:Option Addr) (oc:Nat) (p:bU) (S:OkG p.g) (o:p.g.n<=cap) (c:aH) (X:0<=c.aA∧c.aA<=8) (i:0<=c.ch∧c.ch<=126) (pV:p.g.col < p.g.wide) (hl:p.out.length<=100000) (w:World) (h:eO w pb b cap oo oc p):
  kC 156 #[.pointer (some ⟨pb,0,none⟩),cval c] w fun e a=>e=.returned (.tuple #[])∧aW w pb b cap oo (zx p c) a:=by
 obtain⟨q,Q⟩:∃ q,q=oz p c:=⟨_,rfl⟩;obtain⟨⟨⟨_,m1,m2,m3⟩⟩,M⟩:=P5 S c X;rw [<-Q] at m1 M;have ai:q.out.length<=100007:=by rw [m1,List.length_append];omega
 have HQ:Hid (zx p c=⟨q.out++[sH c],zG q.g c⟩):=by rw [Q];rfl
 obtain⟨y,B⟩:∃ y,y=q.g:=⟨_,rfl⟩;have r:OkG y:=by rw [B,M];exact acS S c X
 have Z:y.n<=cap:=by rw [B,M];exact o
 have am:y.col < y.wide:=by rw [B,M];exact pV
 rw [<-B] at HQ;have HI:Hid (∀ d,Below w.heap.size w d->kC 161 #[.pointer (some ⟨pb,0,none⟩),cval c] d fun e a=>e=.returned (.tuple #[])∧aW w pb b cap oo ⟨q.out,y⟩ a∧∀ k,w.heap.size<=k->k < d.heap.size->a.heap[k]?=d.heap[k]?):=fun d hb=>by
  rw [B,Q];exact(abe pb b cap oo oc p S c X (by omega) d (h.later hb)).mono fun e a O=>⟨O.1,LJ h hb O.2⟩
 obtain⟨E,_,C⟩:∃ E:ByteArray,E.size=1∧Hid (E=Utf8.encode c.ch∧E.data.toList=[sH c]):=⟨_,(QG c i.1 i.2).2,rfl,(QG c i.1 i.2).1⟩;have af:=h.lt;have aa:=h.blt;have ag:=h.n1;have HW:Hid (∀ d,aW w pb b cap oo ⟨q.out,y⟩ d->d.heap[w.heap.size]?=some (bf c)->kC 109 #[.pointer (some ⟨pb,0,none⟩),.string (Utf8.encode c.ch)] d fun e a=>e=.returned (.tuple #[])∧aW w pb b cap oo ⟨q.out++[sH c],y⟩ a∧a.heap[w.heap.size]?=some (bf c)):=fun d O Y=>by
  obtain⟨o1,N,a1,k1⟩:=O;obtain⟨e1,e2⟩:=C.out;rw [<-e1, <-e2];refine(J6 pb b cap o1 N ⟨q.out,y⟩ E d a1 (by show q.out.length+E.size<=_;omega)).mono fun e a s=>⟨s.1,aW.trans k1 s.2,?_⟩;obtain⟨o2,T,_,k2⟩:=s.2;refine(k2.block _ (gQ Y).1 (by omega) (by omega) (fun e=>?_)).trans Y;rcases k1.fresh with z | ⟨j,z,hz⟩
  ·rw [z] at e;have:=h.xR e;omega
  ·obtain⟨_,D⟩:=F9 a1.own e;exact wm D Y O7 rfl
 clear h B Q M m1 m2 m3 C S o pV hl;obtain⟨k1,k2⟩:=i;obtain⟨q1,q2,q3,q4,_⟩:=r.nums;have d:=r.w1;have w2:=r.w2;have r1:=r.r1;have r2:=r.r2;have ac:=r.c1;obtain⟨R,V⟩:∃ R:Nat,(R:Int)=y.row:=⟨y.row.toNat,by omega⟩;obtain⟨P,U⟩:∃ P,P=R*y.wide.toNat:=⟨_,rfl⟩;obtain⟨W,hW⟩:∃ W,W=y.wide.toNat:=⟨_,rfl⟩;have I6:(P:Int)=y.row*y.wide:=by
  rw [U, <-V];have:((R*y.wide.toNat:Nat):Int)=(R:Int)*(y.wide.toNat:Int):=(by simp);rw [this,Int.toNat_of_nonneg (by omega)]
 have HC:Hid (∀ w,kC 133 #[ay y (some ⟨b,0,none⟩) cap,.int .i64 y.row] w fun e a=>e=.returned (.slice (some ⟨b,P*4,none⟩) W (cap - P))∧a=w.alloc (aB y (some ⟨b,0,none⟩) cap)):=fun w=>by
  have:=EW y r b 0 cap R (by omega) Z w;rw [V,Nat.zero_add, <-U, <-hW] at this;exact this
 obtain⟨I,hI⟩:∃ I,I=P+y.col.toNat:=⟨_,rfl⟩;have uX:Hid (I < y.n∧I*4=P*4+y.col.toNat*4∧I=(y.row*y.wide+y.col).toNat):=⟨by omega,by omega,by omega⟩;have ad:y.col < (W:Int):=by omega
 clear r U hW I6 hI q1 q2 q3 q4 r2 V;go_enter func156,ntmps156
 go_wp2_with (first
  | (go_at_call 161;refine(HI.out _ (aM _ _)).mono ?_;rintro e _ ⟨rfl,G,L⟩;have v:=(L w.heap.size (Nat.le_refl _) (by simp)).trans (at_new w _);clear L;have nS:=gH G;have Ig:=gH v;obtain⟨o1,q1,K,_⟩:=G;obtain⟨⟨c0,N,T,c3,c4,c5,c6,c7,c8,c9⟩,cf⟩:=ten K.box;obtain⟨⟨z0,z1,z2,z3⟩,zf⟩:=four v;clear K v)
  | (go_at_call 109;refine(HW.out _ nS.out Ig.out).mono ?_;rintro e v2 ⟨rfl,J,A⟩;clear nS Ig c0 N T c3 c4 c5 c6 c7 c8 c9 cf z0 z1 z2 z3 zf;have KR:=gH J;obtain⟨o2,q2,t,_⟩:=J;obtain⟨⟨c0,N,T,c3,c4,c5,c6,c7,c8,c9⟩,cf⟩:=ten t.box;obtain⟨⟨z0,z1,z2,z3⟩,zf⟩:=four A;have m:=t.bM;have aj:=(gQ A).1;clear t A))
 obtain⟨t0,t1,t2,t3⟩:=m.cells I uX.out.1;rw [uX.out.2.1] at t0 t1 t2 t3;have ae:∀ j,v2.frozen? ⟨b,j,none⟩=false:=m.free;have ak:=m.lt;have al:pb < v2.heap.size:=by omega
 clear m;obtain⟨_,F⟩:∃ k,k=y.f I:=⟨_,rfl⟩;rw [<-F] at t0 t1 t2 t3;clear F HI HW;have ah:∀ (a:World) (j:Nat) (u:Value) (k:Nat),(a.setCell ⟨b,j,none⟩ u).cell? ⟨w.heap.size,k,none⟩=a.cell? ⟨w.heap.size,k,none⟩:=fun a j u k=>World.cell?_setCell_other _ _ _ _ (by intro e;simp only [Addr.mk.injEq] at e;omega);have ab:∀ (a:World) (j:Nat) (u:Value) (k:Nat),(a.setCell ⟨b,j,none⟩ u).cell? ⟨pb,k,none⟩=a.cell? ⟨pb,k,none⟩:=fun a j u k=>World.cell?_setCell_other _ _ _ _ (by intro e;simp only [Addr.mk.injEq] at e;omega);go_region_held3 (fun a=>a.cell? ⟨pb,1,none⟩=some (.int .i64 y.wide)∧a.cell? ⟨pb,2,none⟩=some (.int .i64 y.high)∧a.cell? ⟨pb,3,none⟩=some (.slice (some ⟨b,0,none⟩) y.n cap)∧a.cell? ⟨pb,4,none⟩=some (.int .i64 y.row)∧a.cell? ⟨pb,5,none⟩=some (.int .i64 y.col)∧a.cell? ⟨pb,6,none⟩=some (.int .i64 y.aA)∧a.cell? ⟨pb,7,none⟩=some (.bool y.bold)∧a.cell? ⟨pb,8,none⟩=some (.int .i64 y.top)∧a.cell? ⟨pb,9,none⟩=some (.int .i64 y.bottom)∧a.cell? ⟨w.heap.size,0,none⟩=some (.int .i64 c.ch)∧a.cell? ⟨w.heap.size,1,none⟩=some (.int .i64 c.aA)∧a.cell? ⟨w.heap.size,2,none⟩=some (.int .i64 c.aJ)∧a.cell? ⟨w.heap.size,3,none⟩=some (.bool c.bold)) (first | go_keep | (simp [*,World.cell?_alloc_past]))
  ((go_at_call 133;go_fit (HC.out _);rintro e _ ⟨rfl,rfl⟩))
 go_wp2;go_end0;refine⟨rfl,?_⟩;rw [HQ.out];obtain⟨i1,_,i3⟩:=uX.out;have hp:=KR.out.put I (P*4+y.col.toNat*4) (P*4+y.col.toNat*4+1) (P*4+y.col.toNat*4+2) (P*4+y.col.toNat*4+3) c i1 (by omega) (by omega) (by omega) (by omega);have hs:=hp.set1 (x:=zG y c) 5 (.int .i64 (y.col+1)) rfl (by unfold zG;rw [<-i3]) (fun _ _=>rfl);exact(hs.alloc _).drew
variable (h H want W:Nat->aH) (n k:Nat)
theorem ag1:jK h want n (k+1)=if tH (h k) (want k) then (min (jK h want n k).1 (k:Int),(k:Int)) else jK h want n k:=rfl
theorem R9:mV h want (k+1)=if FU (h k) (want k) then mV h want k+1 else mV h want k:=rfl
theorem R8 (h want:Nat->aH):∀ k:Nat,0<=mV h want k∧mV h want k<=k
 | 0=>⟨Int.le_refl _,Int.le_refl _⟩
 | k+1=>by
  have:=R8 h want k
  rw [R9]
  split <;>omega
theorem ag2 (Y:n<=24) (v:Option Addr) (O:Nat) (z:Option Addr) (P:Nat) (w:World) (L:aL w v n H) (I:aL w z n W):
  kA 158 #[.slice v n O,.slice z n P] w (.tuple #[.int .i64 (jK H W n n).1,.int .i64 (jK H W n n).2]):=by
 have J:Hid (∀ e,Below w.heap.size w e->aL e v n H):=fun e m=>L.below m;have K:Hid (∀ e,Below w.heap.size w e->aL e z n W):=fun e m=>I.below m;clear L I;go_enter func158,ntmps158;go_wp2;go_loopw [6,7,14] (fun a l i wr=>∃ k:Nat,k<=n∧i=.int .i64 k∧a=.int .i64 (jK H W n k).1∧l=.int .i64 (jK H W n k).2∧Below w.heap.size w wr) (fun _ _ i _=>n - (intOf i).toNat)
 case atStart=>exact⟨0,Nat.zero_le _,rfl,rfl,rfl,Below.refl _ _⟩
 case round=>
  obtain⟨k,_,rfl,rfl,rfl,m⟩:=hrel;have g:=gH m;obtain⟨a,A⟩:∃ a,a=(jK H W n k).1:=⟨_,rfl⟩;obtain⟨l,B⟩:∃ l,l=(jK H W n k).2:=⟨_,rfl⟩;rw [<-A, <-B];have f:Hid (a=(jK H W n k).1∧l=(jK H W n k).2):=⟨A,B⟩;clear A B m;by_cases t:k < n
  ·obtain⟨_,_,rfl,r⟩:=(J.out wr g.out).resolve_left (by omega);obtain⟨_,_,rfl,s⟩:=(K.out wr g.out).resolve_left (by omega);obtain⟨N,U,V,X⟩:=r k t;obtain⟨M,R,S,T⟩:=s k t;have C:=World.block_lt_of_cell? _ _ N;have Q:=World.block_lt_of_cell? _ _ M;simp only at C Q;have:(k:Int) < (n:Int):=(by omega);have:(0:Int)<=(k:Int):=(by omega);obtain⟨y,G⟩:∃ y,y=H k:=⟨_,rfl⟩;obtain⟨x,F⟩:∃ x,x=W k:=⟨_,rfl⟩;rw [<-G] at N U V X;rw [<-F] at M R S T;have j:Hid (jK H W n (k+1)=if tH y x then (min a (k:Int),(k:Int)) else (a,l)):=by
    show jK H W n (k+1)=_;rw [ag1, <-G, <-F, <-f.out.1];split
    ·rfl
    ·rw [f.out.1,f.out.2]
   have u:Hid (∀ o:Obj,Below w.heap.size w (wr.alloc o)):=fun o=>g.out.trans ((aM wr o).mono g.out.size);obtain⟨p,D⟩:∃ p,p=dL x aX:=⟨_,rfl⟩;obtain⟨q,E⟩:∃ q,q=dL y x:=⟨_,rfl⟩;have:∀ w,(binOp .eql 65 (.agg #[.int .i64 x.ch,.int .i64 x.aA,.int .i64 x.aJ,.bool x.bold]) (.agg #[.int .i64 0,.int .i64 0,.int .i64 0,.bool false])).run prog w=.ok (.bool p) w:=fun w=>(by rw [D];exact xB x aX w);have:∀ w,(binOp .neq 65 (.agg #[.int .i64 y.ch,.int .i64 y.aA,.int .i64 y.aJ,.bool y.bold]) (.agg #[.int .i64 x.ch,.int .i64 x.aA,.int .i64 x.aJ,.bool x.bold])).run prog w=.ok (.bool !q) w:=fun w=>(by rw [E];exact NV y x w);have d:Hid (tH y x=(p && !q)):=(by show tH y x=_;rw [D,E];rfl);clear r s G F D E f g J K;cases p
   ·go_wp2_with fail;go_quiet (fail);go_wp2;go_roundw
    case rel=>exact⟨k+1,by omega,by go_num,by rw [j.out,d.out];rfl,by rw [j.out,d.out];rfl,below_drewN (u.out _) _⟩
    case measure=>simp [intOf];omega
   ·cases q
    ·go_wp2_with fail;go_quiet (fail);go_wp2;go_roundw
     case rel=>exact⟨k+1,by omega,by go_num,by rw [j.out,d.out];rfl,by rw [j.out,d.out];rfl,below_drewN (u.out _) _⟩
     case measure=>simp [intOf];omega
    ·go_wp2_with fail;go_quiet (fail);go_wp2;go_roundw
     case rel=>exact⟨k+1,by omega,by go_num,by rw [j.out,d.out];rfl,by rw [j.out,d.out];rfl,below_drewN (u.out _) _⟩
     case measure=>simp [intOf];omega
  ·obtain rfl:k=n:=(by omega);go_wp2;go_ret2;exact⟨by rw [f.out.1,f.out.2];rfl,g.out⟩
theorem Sb (Y:n<=24) (z:Option Addr) (O:Nat) (A:Option Addr) (P:Nat) (w:World) (L:aL w z n H) (I:aL w A n W):
  kA 159 #[.slice z n O,.slice A n P] w (.int .i64 (mV H W n)):=by
 have J:Hid (∀ e,Below w.heap.size w e->aL e z n H):=fun e g=>L.below g;have K:Hid (∀ e,Below w.heap.size w e->aL e A n W):=fun e g=>I.below g;clear L I;go_enter func159,ntmps159;go_wp2;go_loopw [5,10] (fun a i wr=>∃ k:Nat,k<=n∧i=.int .i64 k∧a=.int .i64 (mV H W k)∧Below w.heap.size w wr) (fun _ i _=>n - (intOf i).toNat)
 case atStart=>exact⟨0,Nat.zero_le _,rfl,rfl,Below.refl _ _⟩
 case round=>
  obtain⟨k,_,rfl,rfl,g⟩:=hrel;have f:=gH g;have j:=R8 H W k;obtain⟨a,B⟩:∃ a,a=mV H W k:=⟨_,rfl⟩;rw [<-B] at j ⊢;have t:=gH B;clear B g;obtain⟨_,_⟩:=j;by_cases s:k < n
  ·obtain⟨_,_,rfl,m⟩:=(J.out wr f.out).resolve_left (by omega);obtain⟨_,_,rfl,r⟩:=(K.out wr f.out).resolve_left (by omega);obtain⟨N,U,V,X⟩:=m k s;obtain⟨M,R,S,T⟩:=r k s;have C:=World.block_lt_of_cell? _ _ N;have Q:=World.block_lt_of_cell? _ _ M;simp only at C Q;have:(k:Int) < (n:Int):=(by omega);have:(0:Int)<=(k:Int):=(by omega);obtain⟨y,G⟩:∃ y,y=H k:=⟨_,rfl⟩;obtain⟨x,F⟩:∃ x,x=W k:=⟨_,rfl⟩;rw [<-G] at N U V X;rw [<-F] at M R S T;have v:Hid (mV H W (k+1)=if FU y x then a+1 else a):=by
    show mV H W (k+1)=_;rw [R9, <-G, <-F, <-t.out]
   have u:Hid (∀ o:Obj,Below w.heap.size w (wr.alloc o)):=fun o=>f.out.trans ((aM wr o).mono f.out.size);obtain⟨p,D⟩:∃ p,p=dL x aX:=⟨_,rfl⟩;obtain⟨q,E⟩:∃ q,q=dL y x:=⟨_,rfl⟩;have:∀ w,(binOp .neq 65 (.agg #[.int .i64 x.ch,.int .i64 x.aA,.int .i64 x.aJ,.bool x.bold]) (.agg #[.int .i64 0,.int .i64 0,.int .i64 0,.bool false])).run prog w=.ok (.bool !p) w:=fun w=>(by rw [D];exact NV x aX w);have:∀ w,(binOp .eql 65 (.agg #[.int .i64 y.ch,.int .i64 y.aA,.int .i64 y.aJ,.bool y.bold]) (.agg #[.int .i64 x.ch,.int .i64 x.aA,.int .i64 x.aJ,.bool x.bold])).run prog w=.ok (.bool q) w:=fun w=>(by rw [E];exact xB y x w);have d:Hid (FU y x=(!p && q)):=(by show FU y x=_;rw [D,E];rfl);clear m r G F D E t f J K;cases p
   ·cases q
    ·go_wp2_with fail;go_quiet (fail);go_wp2;go_roundw
     case rel=>exact⟨k+1,by omega,by go_num,by rw [v.out,d.out];rfl,below_drewN (u.out _) _⟩
     case measure=>simp [intOf];omega
    ·go_wp2_with fail;go_quiet (fail);go_wp2;go_roundw
     case rel=>exact⟨k+1,by omega,by go_num,by rw [v.out,d.out];rfl,below_drewN (u.out _) _⟩
     case measure=>simp [intOf];omega
   ·go_wp2_with fail;go_quiet (fail);go_wp2;go_roundw
    case rel=>exact⟨k+1,by omega,by go_num,by rw [v.out,d.out];rfl,below_drewN (u.out _) _⟩
    case measure=>simp [intOf];omega
  ·obtain rfl:k=n:=(by omega);go_wp2;go_ret;exact⟨by rw [t.out];rfl,f.out⟩
end Go.Proofs.YtkcdcamophkdlaaGreatDoor
