import Derived.Test.YtkcdcamophkdlaaGreatDoorAH
set_option maxRecDepth 100000
open Go.Proofs.Tryz
namespace Go.Proofs.YtkcdcamophkdlaaGreatDoor
variable {p:bU} {g:Gr}
theorem Gh (r:Nat) (w:Int) (h:0<=w):((r:Int)*w).toNat=r*w.toNat:=by
 obtain⟨_,rfl⟩:=Int.eq_ofNat_of_zero_le h;rw [<-Int.natCast_mul]
 rfl
theorem O6 (h f:Nat->aH) (n:Nat):∀ k,((jK h f n k).2= -1∧(jK h f n k).1=n∧∀ j,j < k->tH (h j) (f j)=false)∨
  (∃ A L:Nat,(jK h f n k).1=A∧(jK h f n k).2=L∧A<=L∧L < k∧∀ j,j < k->tH (h j) (f j)=true->A<=j∧j<=L)
 | 0=>.inl ⟨rfl,rfl,fun j m=>by omega⟩
 | k+1=>by
  have r:=O6 h f n k
  unfold jK
  cases o:tH (h k) (f k)
  ·rw [if_neg (by simp)]
   rcases r with ⟨a,b,c⟩ | ⟨A,L,a,b,c,d,e⟩
   ·refine .inl ⟨a,b,fun j m=>?_⟩
    by_cases q:j=k
    ·rw [q];exact o
    ·exact c j (by omega)
   ·refine .inr ⟨A,L,a,b,c,by omega,fun j m i=>?_⟩
    by_cases q:j=k
    ·rw [q,o] at i;simp at i
    ·exact e j (by omega) i
  ·rw [if_pos rfl]
   rcases r with ⟨a,b,c⟩ | ⟨A,L,a,b,c,d,e⟩
   ·refine .inr ⟨min n k,k,?_,rfl,by omega,by omega,fun j m i=>?_⟩
    ·show min (jK h f n k).1 (k:Int)=_
     rw [b]
     omega
    ·by_cases q:j=k
     ·omega
     ·rw [c j (by omega)] at i;simp at i
   ·refine .inr ⟨A,k,?_,rfl,by omega,by omega,fun j m i=>?_⟩
    ·show min (jK h f n k).1 (k:Int)=_
     rw [a]
     omega
    ·by_cases q:j=k
     ·omega
     ·have:=e j (by omega) i
      omega
theorem afY (i:0<=g.wide) (r:Nat) (c:Nat) (a:g.row=r) (j:g.col=c) (h:g.col < g.wide):Sends g [27,91,75] (xw g (r*g.wide.toNat+c) (r*g.wide.toNat+g.wide.toNat)):=by
 refine Gq (Ps.ahL 75 (by decide) (by decide)) rfl ?_;show jH g 75 [0]=_;rw [E8];have e:lY g.f (g.row*g.wide).toNat g.wide.toNat (aZ g).toNat (fE [0] 0)=gT g.f ((g.row*g.wide).toNat+(aZ g).toNat) ((g.row*g.wide).toNat+g.wide.toNat):=rfl;have d:(aZ g).toNat=c:=by unfold aZ;omega
 rw [e,a,Gh r g.wide i,d];unfold xw;rw [a]
theorem afX (i:0<=g.wide) (r:Nat) (c:Nat) (a:g.row=r) (j:g.col=c) (h:g.col < g.wide):Sends g [27,91,49,75] (xw g (r*g.wide.toNat) (r*g.wide.toNat+(c+1))):=by
 refine Gq (Ps.ahK [1] 75 (by simp) (by simp) (by simp) (by decide) (by decide)) rfl ?_;show jH g 75 [1]=_;rw [E8];have e:lY g.f (g.row*g.wide).toNat g.wide.toNat (aZ g).toNat (fE [1] 0)=gT g.f (g.row*g.wide).toNat ((g.row*g.wide).toNat+(aZ g).toNat+1):=rfl;have d:(aZ g).toNat=c:=by unfold aZ;omega
 rw [e,a,Gh r g.wide i,d,Nat.add_assoc];unfold xw;rw [a]
theorem O5 {h c:aH} (d:tH h c=false) (a:dL c aX=true):h=aX:=by
 simp only [tH,a,Bool.true_and,Bool.not_eq_false'] at d;rw [yS] at d a;rw [d,a]
structure Erased (p q:bU) (r:Nat) (want:Nat->aH):Prop where
 adds:Adds p q 12
 still:q=p∨q.g.row=r
 empty:∀ j,j < p.g.wide.toNat->dL (want j) aX=true->q.g.f (r*p.g.wide.toNat+j)=aX
 other:∀ i,i < r*p.g.wide.toNat∨r*p.g.wide.toNat+p.g.wide.toNat<=i->q.g.f i=p.g.f i
theorem erased (v:OkG p.g) (r:Nat) (x:(r:Int) < p.g.high) (h:Nat->aH):Erased p (eraseP p r h) r h:=by
 have w1:=v.w1;unfold eraseP CO;rcases O6 (iL p.g.f (r*p.g.wide.toNat)) h p.g.wide.toNat p.g.wide.toNat with ⟨a,b,c⟩ | ⟨A,L,a,b,c,d,e⟩
 ·rw [a,if_pos (by omega)];exact⟨(Adds.refl p).mono (by omega),.inl rfl,fun j o m=>O5 (c j o) m,fun _ _=>rfl⟩
 ·rw [a,b,if_neg (by omega)];have y:((A:Int)).toNat=A:=(by omega);have:((L:Int)).toNat=L:=(by omega);have u:((L:Int)+1).toNat=L+1:=(by omega);rw [y,u];split
  ·have k:=Iw (p:=p) v r A (by omega) x (by omega) (by omega);have s:=afY (g:=(dh p r A).g) (by show 0<=p.g.wide;omega) r A rfl rfl (by show (A:Int) < p.g.wide;omega);refine⟨(k.trans (b:=3) ⟨[27,91,75],rfl,by simp,s⟩).mono (by omega),.inr rfl,fun j o m=>?_,fun i z=>?_⟩
   ·show gT p.g.f (r*p.g.wide.toNat+A) (r*p.g.wide.toNat+p.g.wide.toNat) (r*p.g.wide.toNat+j)=aX;unfold gT;split
    ·rfl
    ·cases q:tH (iL p.g.f (r*p.g.wide.toNat) j) (h j)
     ·exact O5 q m
     ·have:=e j o q;omega
   ·show gT p.g.f (r*p.g.wide.toNat+A) (r*p.g.wide.toNat+p.g.wide.toNat) i=p.g.f i;unfold gT;rw [if_neg (by omega)]
  ·have k:=Iw (p:=p) v r L (by omega) x (by omega) (by omega);have s:=afX (g:=(dh p r L).g) (by show 0<=p.g.wide;omega) r L rfl rfl (by show (L:Int) < p.g.wide;omega);refine⟨(k.trans (b:=4) ⟨[27,91,49,75],rfl,by simp,s⟩).mono (by omega),.inr rfl,fun j o m=>?_,fun i z=>?_⟩
   ·show gT p.g.f (r*p.g.wide.toNat) (r*p.g.wide.toNat+(L+1)) (r*p.g.wide.toNat+j)=aX;unfold gT;split
    ·rfl
    ·cases q:tH (iL p.g.f (r*p.g.wide.toNat) j) (h j)
     ·exact O5 q m
     ·have:=e j o q;omega
   ·show gT p.g.f (r*p.g.wide.toNat) (r*p.g.wide.toNat+(L+1)) i=p.g.f i;unfold gT;rw [if_neg (by omega)]
@[reducible] def LH (g:Gr) (r k:Nat):Bool:=decide (g.row=r∧g.col=k)
structure Lp (p q:bU) (r:Nat) (want:Nat->aH) (k:Nat) (aJ:Bool):Prop where
 adds:Adds p q (12+8*k+(if LH q.g r k then 8 else 0)+if aJ then 36 else 0)
 done:∀ j,j < k->q.g.f (r*p.g.wide.toNat+j)=want j
 empty:∀ j,j < p.g.wide.toNat->dL (want j) aX=true->q.g.f (r*p.g.wide.toNat+j)=aX
 other:∀ i,i < r*p.g.wide.toNat∨r*p.g.wide.toNat+p.g.wide.toNat<=i->q.g.f i=p.g.f i
 Ot:aJ=true->∀ j,k<=j->j < p.g.wide.toNat->0 < (want j).aJ->q.g.f (r*p.g.wide.toNat+j)=want j
theorem row_step {q:bU} (V:OkG p.g) (r:Nat) (hr:(r:Int) < p.g.high) (d:Nat->aH) (T:∀ j,j < p.g.wide.toNat->bS (d j)=true) (k:Nat) (I:k < p.g.wide.toNat) (D:Bool) (h:Lp p q r d k D):∃ K,Lp p (cellP q r d k) r d (k+1) K:=by
 obtain⟨Q,E,_,_⟩:=h.adds.ok V;have w1:=V.w1;unfold cellP;rw [E];by_cases o:dL (q.g.f (r*p.g.wide.toNat+k)) (d k)=true
 ·rw [if_pos o];rw [yS] at o;refine⟨D,⟨h.adds.mono (by split <;>split <;>omega),fun j s=>?_,h.empty,h.other,fun B j s=>h.Ot B j (by omega)⟩⟩;by_cases e:j=k
  ·rw [e];exact o
  ·exact h.done j (by omega)
 ·rw [if_neg o];have G:q.g.f (r*p.g.wide.toNat+k)≠d k:=fun e=>o ((yS _ _).2 e);have H:OkG (dh q r k).g:=Oi Q r k (by omega) (by omega) (by omega) (by omega);have N:(dh q r k).g.wide=p.g.wide:=E;have R:∀ (x:bU) (m:Nat),Adds (dh q r k) x m->∀ b,12+8*k+(8+m)+(if D then 36 else 0)<=b->Adds p x b:=by
   intro x m U b h1;by_cases J:q.g.row=r∧q.g.col=k
   ·have a:=WE (p:=q) Q r k (by omega) (by omega) (by omega) (by omega) J.1 J.2;have z:=h.adds;rw [if_pos (decide_eq_true J)] at z;exact((z.trans a).trans U).mono (by omega)
   ·have a:=Iw (p:=q) Q r k (by omega) (by omega) (by omega) (by omega);have z:=h.adds;rw [if_neg (by rw [decide_eq_true_eq];exact J)] at z;exact((z.trans a).trans U).mono (by omega)
  by_cases B:0 < (d k).aJ
  ·rw [if_pos B];have O:D=false:=by
    cases Z:D
    ·rfl
    ·exact absurd (h.Ot Z k (Nat.le_refl _) I B) G
   subst O;have X:rowAt (dh q r k).g=r*p.g.wide.toNat:=by
    show ((r:Int)*q.g.wide).toNat=_;rw [E,Gh r p.g.wide (by omega)]
   have pV:(dh q r k).g.col.toNat=k:=(by show ((k:Int)).toNat=k;omega);have Y:leftD (dh q r k).g=p.g.wide.toNat - k:=by
    show q.g.wide.toNat - ((k:Int)).toNat=_;rw [E];omega
   have a:=WC (p:=dh q r k) H (by show (k:Int) < q.g.wide;omega) d (by rw [N];exact T);have u:(uF (dh q r k) d).g.f=nC q.g.f d (r*p.g.wide.toNat) k (p.g.wide.toNat - k):=by
    show nC q.g.f d (rowAt (dh q r k).g) (dh q r k).g.col.toNat (leftD (dh q r k).g)=_;rw [X,pV,Y]
   have C:∀ j,j < p.g.wide.toNat->(uF (dh q r k) d).g.f (r*p.g.wide.toNat+j)=if k<=j∧mh (q.g.f (r*p.g.wide.toNat+j)) (d j)=true then d j else q.g.f (r*p.g.wide.toNat+j):=fun j s=>by
    rw [u];unfold nC;have:r*p.g.wide.toNat+j - r*p.g.wide.toNat=j:=(by omega);rw [this];by_cases z:k<=j∧mh (q.g.f (r*p.g.wide.toNat+j)) (d j)=true
    ·rw [if_pos z,if_pos ⟨by omega,by omega,z.2⟩]
    ·rw [if_neg z,if_neg (fun y=>z ⟨by omega,y.2.2⟩)]
   have W:∀ j,k<=j->j < p.g.wide.toNat->0 < (d j).aJ->(uF (dh q r k) d).g.f (r*p.g.wide.toNat+j)=d j:=fun j s v A=>by
    rw [C j v];by_cases z:mh (q.g.f (r*p.g.wide.toNat+j)) (d j)=true
    ·rw [if_pos ⟨s,z⟩]
    ·rw [if_neg (fun y=>z y.2)];simp only [mh,Bool.and_eq_true,decide_eq_true_eq,Bool.not_eq_true',not_and,Bool.not_eq_false] at z;exact(yS _ _).1 (z A)
   refine⟨true,⟨R _ 28 a _ (by simp;omega),fun j s=>?_,fun j s o=>?_,fun i M=>?_,fun _ j s=>W j (by omega)⟩⟩
   ·by_cases e:j=k
    ·rw [e];exact W k (Nat.le_refl _) I B
    ·rw [C j (by omega),if_neg (by omega)];exact h.done j (by omega)
   ·rw [C j s,if_neg]
    ·exact h.empty j s o
    ·intro y;rw [yS] at o;have:=y.2;rw [o] at this;simp [mh,aX] at this
   ·rw [u];unfold nC;rw [if_neg (by omega)];exact h.other i M
  ·rw [if_neg B];have S:dL (d k) aX=false:=by
    cases z:dL (d k) aX
    ·rfl
    ·have:=h.empty k I z;rw [yS] at z;exact absurd (this.trans z.symm) G
   obtain⟨l1,l2,l3⟩:=Rf (T k I) B S;obtain⟨a,e⟩:=WG (p:=dh q r k) H (d k) l3 l1 l2 (by show (k:Int) < q.g.wide;omega);have F:((r:Int)*q.g.wide+(k:Int)).toNat=r*p.g.wide.toNat+k:=by
    have:=Gh r p.g.wide (by omega);have h0:0<=(r:Int)*p.g.wide:=Int.mul_nonneg (by omega) (by omega);rw [E];omega
   have u:(zx (dh q r k) (d k)).g.f=gV q.g.f (r*p.g.wide.toNat+k) (d k):=by
    rw [e];show gV q.g.f ((r:Int)*q.g.wide+(k:Int)).toNat (d k)=_;rw [F]
   have L:LH (zx (dh q r k) (d k)).g r (k+1)=true:=by
    rw [e];exact decide_eq_true ⟨rfl,by show (k:Int)+1=((k+1:Nat):Int);omega⟩
   refine⟨D,⟨R _ 8 a _ (by rw [if_pos L];omega),fun j s=>?_,fun j s o=>?_,fun i M=>?_,fun P j s v A=>?_⟩⟩
   ·rw [u];unfold gV;by_cases z:j=k
    ·rw [if_pos (by omega),z]
    ·rw [if_neg (by omega)];exact h.done j (by omega)
   ·rw [u];unfold gV;rw [if_neg]
    ·exact h.empty j s o
    ·intro z;have:j=k:=(by omega);rw [this,S] at o;simp at o
   ·rw [u];unfold gV;rw [if_neg (by omega)];exact h.other i M
   ·rw [u];unfold gV;rw [if_neg (by omega)];exact h.Ot P j (by omega) v A
theorem OH {p:bU} (i:OkG p.g) (r:Nat) (f:(r:Int) < p.g.high) (a:Nat->aH) (m:∀ j,j < p.g.wide.toNat->bS (a j)=true):∀ k,k<=p.g.wide.toNat->∃ d,Lp p (CG (eraseP p r a) r a k) r a k d
 | 0,_=>by
  have h:=erased i r f a
  exact⟨false,⟨h.adds.mono (by omega),fun j o=>by omega,h.empty,h.other,fun e=>by simp at e⟩⟩
 | k+1,hk=>by
  obtain⟨d,h⟩:=OH i r f a m k (by omega)
  exact row_step i r f a m k (by omega) d h
structure V4 (p q:bU) (r:Nat) (want:Nat->aH):Prop where
 adds:Adds p q 248
 done:∀ j,j < p.g.wide.toNat->q.g.f (r*p.g.wide.toNat+j)=want j
 other:∀ i,i < r*p.g.wide.toNat∨r*p.g.wide.toNat+p.g.wide.toNat<=i->q.g.f i=p.g.f i
theorem aff (d:OkG p.g) (r:Nat) (e:(r:Int) < p.g.high) (a:Nat->aH) (f:∀ j,j < p.g.wide.toNat->bS (a j)=true):V4 p (rowP p r a) r a:=by
 obtain⟨_,h⟩:=OH d r e a f p.g.wide.toNat (Nat.le_refl _);have:=d.w2;exact⟨h.adds.mono (by split <;>split <;>omega),h.done,h.other⟩
theorem OJ {p:bU} (v:OkG p.g) (t:Gr) (m:OkG t) (s:t.wide=p.g.wide) (B:t.high=p.g.high):∀ k:Nat,(k:Int)<=p.g.high->Adds p (wo p t k) (248*k)∧∀ i,i < k*p.g.wide.toNat->(wo p t k).g.f i=t.f i
 | 0,_=>⟨Adds.refl p,fun i y=>by omega⟩
 | k+1,hk=>by
  obtain⟨a,b⟩:=OJ v t m s B k (by omega)
  obtain⟨D,o,_,_⟩:=a.ok v
  have w1:=v.w1
  have d:∀ j,j < (wo p t k).g.wide.toNat->bS (iL t.f (k*t.wide.toNat) j)=true:=fun j C=>by
   unfold iL
   refine m.cells _ ?_
   have x:(k+1)*t.wide.toNat<=t.high.toNat*t.wide.toNat:=Nat.mul_le_mul_right _ (by omega)
   have A:t.n=t.wide.toNat*t.high.toNat:=by
    have:=m.size;have E:=m.w1;have F:=m.h1;obtain⟨w,u⟩:=Int.eq_ofNat_of_zero_le (a:=t.wide) (by omega);obtain⟨h,r⟩:=Int.eq_ofNat_of_zero_le (a:=t.high) (by omega);rw [u,r] at this ⊢;have q:(t.n:Int)=((w*h:Nat):Int):=(by rw [this];simp);exact Int.ofNat.inj q
   rw [A,Nat.mul_comm t.wide.toNat];rw [o] at C;rw [Nat.succ_mul] at x;rw [s] at x ⊢;omega
  have c:=aff (p:=wo p t k) D k (by omega) (iL t.f (k*t.wide.toNat)) d;refine⟨(a.trans c.adds).mono (by omega),fun i y=>?_⟩;rw [Nat.succ_mul] at y;by_cases z:i < k*p.g.wide.toNat
  ·have:=c.other i (.inl (by rw [o];exact z));exact this.trans (b i z)
  ·have:=c.done (i - k*p.g.wide.toNat) (by rw [o];omega);rw [o] at this;have e:k*p.g.wide.toNat+(i - k*p.g.wide.toNat)=i:=(by omega);rw [e] at this;refine this.trans ?_;unfold iL;rw [s,e]
structure Shown (p q:bU) (t:Gr):Prop where
 adds:Adds p q 2488
 cells:∀ i,i < t.n->q.g.f i=t.f i
 row:q.g.row=t.row
 col:q.g.col=t.col
theorem wE (f:OkG g):g.n=g.high.toNat*g.wide.toNat:=by
 have h:=f.nums.1;have:=f.w1;have:=f.h1;obtain⟨w,e⟩:=Int.eq_ofNat_of_zero_le (a:=g.wide) (by omega);obtain⟨i,d⟩:=Int.eq_ofNat_of_zero_le (a:=g.high) (by omega);rw [e,d] at h ⊢;have q:(g.n:Int)=((i*w:Nat):Int):=by rw [h];simp
 exact Int.ofNat.inj q
theorem shown (j:OkG p.g) (t:Gr) (d:OkG t) (h:t.wide=p.g.wide) (q:t.high=p.g.high) (x:t.col < t.wide):Shown p (zD p t) t:=by
 have u:=d.h1;have v:=d.h2;have s:=d.r1;have y:=d.r2;have o:=d.c1;obtain⟨a,b⟩:=OJ j t d h q t.high.toNat (by omega);obtain⟨r,_,_,_⟩:=a.ok j;have m:=Iw (p:=wo p t t.high.toNat) r t.row t.col s (by omega) o (by omega);refine⟨(a.trans m).mono (by omega),fun i e=>?_,rfl,rfl⟩;show (wo p t t.high.toNat).g.f i=t.f i;refine b i ?_;rw [wE d,h] at e;exact e
theorem UU (x t:Gr):Bp x t=true↔OkG x∧OkG t∧t.col < t.wide∧x.wide=t.wide∧x.high=t.high:=by
 unfold Bp Dz;simp only [Bool.and_eq_true,decide_eq_true_eq,iT];constructor
 ·rintro⟨⟨⟨a,b,c⟩,d⟩,e⟩;exact⟨a,b,c,d,e⟩
 ·rintro⟨a,b,c,d,e⟩;exact⟨⟨⟨a,b,c⟩,d⟩,e⟩
structure Draws (x t:Gr) (p:bU):Prop where
 sends:Sends x p.out p.g
 short:p.out.length<=2490
 cells:∀ i,i < t.n->p.g.f i=t.f i
 row:p.g.row=t.row
 col:p.g.col=t.col
 ok:OkG p.g
 wide:p.g.wide=t.wide
 high:p.g.high=t.high
 n:p.g.n=t.n
theorem UW {x t:Gr} (e:OkG x) (f:OkG t) (q:t.col < t.wide) (d:x.wide=t.wide) (a:x.high=t.high):Draws x t (wG x t):=by
 have s:=shown (p:=⟨[],x⟩) e t f d.symm a.symm q;obtain⟨m,r,_,u⟩:=s.adds.more;obtain⟨v,i,j,o⟩:=s.adds.ok (p:=⟨[],x⟩) e;have h:(wG x t).out=m:=r;refine⟨?_,by rw [h];omega,s.cells,s.row,s.col,v,i.trans d,j.trans a,o.trans ?_⟩
 ·rw [h];exact u
 ·show x.n=t.n;rw [wE e,wE f,d,a]
theorem P7 {x t:Gr} (d:OkG t) (q:t.col < t.wide) (v:x.wide=t.wide) (u:x.high=t.high):Draws x t (yP t):=by
 obtain⟨f,h,A⟩:=Dm d;have a:=sQ t.wide t.high;have s:=shown (p:=⟨[27,99],newG t.wide t.high⟩) a t d f.symm h.symm q;obtain⟨m,y,_,z⟩:=s.adds.more;obtain⟨B,i,j,o⟩:=s.adds.ok (p:=⟨[27,99],newG t.wide t.high⟩) a;have e:(yP t).out=[27,99]++m:=y;refine⟨?_,by rw [e];simp;omega,s.cells,s.row,s.col,B,i.trans f,j.trans h,o.trans A⟩;rw [e];have r:=af3 x;rw [v,u] at r;exact r.append z
open Go.RowKit
variable {w w' w1 w2:World} {b pb cap oc k:Nat} {oo o1:Option Addr} {p:bU} {t:TypeId} {c:Array Value}
def oV (l:List UInt8):List Value:=l.map fun b=>Value.int .u8 b.toNat
theorem Qg (l m:List UInt8):oV (l++m)=oV l++oV m:=List.map_append
theorem Xv (s:ByteArray):Lib.strCells s=oV s.data.toList:=rfl
def fQ (ao:Option Addr):Option Nat:=ao.map (·.block)
theorem F8 (a:Option Addr) (n c:Nat):Value.ownBlock (.slice a n c)=fQ a:=by cases a <;>rfl
@[reducible] def dD (n:Nat) (oo:Option Addr) (oc:Nat) (g:Gr) (b cap:Nat):Array Value:=
 #[.slice oo n oc,.int .i64 g.wide,.int .i64 g.high,.slice (some ⟨b,0,none⟩) g.n cap,.int .i64 g.row,.int .i64 g.col,.int .i64 g.aA,.bool g.bold,.int .i64 g.top,.int .i64 g.bottom]
@[reducible] def je (n:Nat) (oo:Option Addr) (oc:Nat) (g:Gr) (b cap:Nat):Obj:=.cells (dD n oo oc g b cap) 149
structure eO (w:World) (pb b cap:Nat) (oo:Option Addr) (oc:Nat) (p:bU):Prop where
 box:w.heap[pb]?=some (je p.out.length oo oc p.g b cap)
 own:w.ownsRow 0 5 1 (.slice oo p.out.length oc) p.out.length (oV p.out)
 bM:av w b p.g.n p.g.f
theorem eO.lt (h:eO w pb b cap oo oc p):pb < w.heap.size:=(gQ h.box).1
theorem eO.blt (h:eO w pb b cap oo oc p):b < w.heap.size:=h.bM.lt
theorem eO.xR (h:eO w pb b cap oo oc p) (a:fQ oo=some k):k < w.heap.size:=
 (h.own.lt k (by rw [F8];exact a)).2
theorem wm {a:Nat} {d:Array Value} {u:TypeId} {x y:Nat×Nat} (f:w.heap[a]?=some (.cells c t x)) (e:w.heap[b]?=some (.cells d u y)) (h:t≠u):a≠b:=by
 rintro rfl;rw [f] at e;simp only [Option.some.injEq,Obj.cells.injEq] at e;exact h e.2.1
theorem ag6:(149:TypeId)≠65:=by decide
theorem O7:(5:TypeId)≠65:=by decide
theorem ag3:(5:TypeId)≠149:=by decide
theorem eO.n1 (h:eO w pb b cap oo oc p):pb≠b:=by
 obtain⟨_,a,_⟩:=h.bM;exact wm h.box a ag6
theorem F9 {n base:Nat} {i:List Value} (h:w.ownsRow base 5 1 (.slice oo n oc) n i) (d:fQ oo=some k):∃ a,w.heap[k]?=some (.cells a 5 (0,0)):=by
 rcases h.2 with ⟨e,_⟩ | ⟨g,c,a,e,_,f,_⟩
 ·simp only [Value.slice.injEq] at e;rw [e.1] at d;simp [fQ] at d
 ·simp only [Value.slice.injEq] at e;rw [e.1] at d;simp only [fQ,Option.map_some,Option.some.injEq] at d;subst d;exact⟨a,f⟩
theorem eO.n2 (h:eO w pb b cap oo oc p):fQ oo≠some pb:=fun e=>by
 obtain⟨_,a⟩:=F9 h.own e
 exact wm a h.box ag3 rfl
theorem eO.n3 (h:eO w pb b cap oo oc p):fQ oo≠some b:=fun e=>by
 obtain⟨_,d⟩:=F9 h.own e
 obtain⟨_,a,_⟩:=h.bM
 exact wm d a O7 rfl
structure Kept (w w':World) (pb b:Nat) (oo iI:Option Addr):Prop where
 os:w'.os=w.os
 tape:w'.tape=w.tape
 output:w'.output=w.output
 size:w.heap.size<=w'.heap.size
 block:∀ k,k < w.heap.size->k≠pb->k≠b->fQ oo≠some k->w'.heap[k]?=w.heap[k]?
 fresh:fQ iI=fQ oo∨∃ k,fQ iI=some k∧w.heap.size<=k
theorem Kept.refl (w:World) (pb b:Nat) (oo:Option Addr):Kept w w pb b oo oo:=⟨rfl,rfl,rfl,Nat.le_refl _,fun _ _ _ _ _=>rfl,.inl rfl⟩
theorem Kept.trans {q:World} {o2 o3:Option Addr} (h:Kept w1 w2 pb b o1 o2) (k:Kept w2 q pb b o2 o3):Kept w1 q pb b o1 o3:=by
 refine⟨k.os.trans h.os,k.tape.trans h.tape,k.output.trans h.output,Nat.le_trans h.size k.size,fun i m a d f=>?_,?_⟩
 ·refine(k.block i (Nat.lt_of_lt_of_le m h.size) a d ?_).trans (h.block i m a d f);rcases h.fresh with e | ⟨j,e,o⟩
  ·rw [e];exact f
  ·rw [e];simp;omega
 ·rcases k.fresh with e | ⟨j,e,o⟩
  ·rw [e];exact h.fresh
  ·exact .inr ⟨j,e,Nat.le_trans h.size o⟩
theorem Kept.below (pb b:Nat) (oo:Option Addr) (h:Below w.heap.size w w'):Kept w w' pb b oo oo:=⟨h.os,h.tape,h.output,h.size,fun k a _ _ _=>h.block k a,.inl rfl⟩
theorem Kept.toBelow {B:Nat} {d:Option Addr} (h:Kept w w' pb b oo d) (f:B<=pb) (i:B<=b) (a:∀ k,fQ oo=some k->B<=k) (j:B<=w.heap.size):Below B w w':=
 ⟨h.os,h.tape,h.output,h.size,fun k m=>h.block k (by omega) (by omega) (by omega) (fun e=>by have:=a k e;omega)⟩
theorem eO.later (h:eO w pb b cap oo oc p) (a:Below w.heap.size w w'):eO w' pb b cap oo oc p:=
 ⟨aG a h.box h.lt,h.own.kept (Below.nO a none) (by cases d:Value.ownBlock (.slice oo p.out.length oc) <;>simp),h.bM.below a h.blt⟩
def aW (w:World) (pb b cap:Nat) (oo:Option Addr) (q:bU) (w':World):Prop:=∃ iI oD,eO w' pb b cap iI oD q∧Kept w w' pb b oo iI
theorem eO.stay (h:eO w pb b cap oo oc p) (a:Below w.heap.size w w'):aW w pb b cap oo p w':=⟨oo,oc,h.later a,Kept.below pb b oo a⟩
theorem aW.trans {q:bU} (h:Kept w w1 pb b oo o1) (k:aW w1 pb b cap o1 q w2):aW w pb b cap oo q w2:=by
 obtain⟨e,d,a,c⟩:=k;exact⟨e,d,a,h.trans c⟩
theorem info5:(prog.info? 5).map (fun i=>(i.zero,i.size,i.bytes))=some (some (.int .u8 0),1,1):=by kernel_rfl
theorem SN {α:Type} {a b:α} (h:(Result.ok a w1:Result α)=.ok b w2):a=b∧w1=w2:=by
 simpa using h
theorem afD (w:World) (B:TypeId) (oo:Option Addr) (n oc:Nat) (x:List Value) (a:w.ownsRow 0 5 1 (.slice oo n oc) n x) (s:ByteArray) (Q:n+s.size<=1048576):
  ∃ D I w',(Builtin.append_ #[106,9] B #[.slice oo n oc,.string s]).run prog w=.ok (.slice D (n+s.size) I) w'∧w'.ownsRow 0 5 1 (.slice D (n+s.size) I) (n+s.size) (x++Lib.strCells s)∧
   w.grownBy w' (fQ oo)∧(fQ D=fQ oo∨∃ k,fQ D=some k∧w.heap.size<=k):=by
 obtain⟨i,C,r,e,v⟩:=info_parts info5;have H:n+s.size<=maxLen:=by unfold maxLen;omega
 rcases a.2 with ⟨z,O⟩ | ⟨g,cap,f,z,_,F,L,_,J,G⟩
 ·simp only [Value.slice.injEq] at z;obtain⟨rfl,rfl,rfl⟩:=z;have M:x=[]:=List.length_eq_zero_iff.1 (by rw [a.1]);subst M;obtain⟨N,w',o,h,y,_⟩:=Lib.run_append_own_string (P:=prog) w w.heap.size 106 9 B 5 i underlying106 underlying9 C r e v (.slice none 0 0) 0 [] (World.ownsRow_nil _ _ _ _) s H (by omega) (Nat.le_refl _);rcases h.2 with ⟨rfl,K⟩ | ⟨g,cap,f,rfl,E,F,A⟩
  ·rw [K] at h ⊢;exact⟨none,0,w',o,⟨h.1,.inl ⟨rfl,rfl⟩⟩,y,.inl rfl⟩
  ·exact⟨some ⟨g,0,none⟩,cap,w',o,⟨h.1,.inr ⟨g,cap,f,rfl,Nat.zero_le _,F,A⟩⟩,y,.inr ⟨g,rfl,E⟩⟩
 ·simp only [Value.slice.injEq] at z;obtain⟨rfl,_,rfl⟩:=z;obtain⟨N,w',o,h,y,_⟩:=Lib.run_append_own_string (P:=prog) w 0 106 9 B 5 i underlying106 underlying9 C r e v (.slice (some ⟨g,0,none⟩) n oc) n x a s H (by omega) (Nat.zero_le _);by_cases q:n+s.size<=oc
  ·have d:=Lib.run_append_room_string (P:=prog) w 106 9 B 5 i underlying106 underlying9 C e g n oc f F s q (by omega);rw [o] at d;obtain⟨rfl,_⟩:=SN d;exact⟨_,_,w',o,h,y,.inl rfl⟩
  ·have m:∀ j u,x[j]?=some u->w.cell? ((⟨g,0,none⟩:Addr).add j)=some u:=a.cells (g:=g) rfl;have d:=Lib.run_append_grow_string (P:=prog) w 106 9 B 5 i (.int .u8 0) underlying106 underlying9 C r ⟨g,0,none⟩ n oc x (by rw [e];simpa using a.1) m s (by omega) (by omega) (by rw [v];exact growslice_fits (by omega) (by omega));rw [o] at d;obtain⟨rfl,_⟩:=SN d;exact⟨_,_,w',o,h,y,.inr ⟨_,rfl,Nat.le_refl _⟩⟩
theorem ahQ {i:Array Oper} {d:List Oper} {o:Oper} {a:Act} {Q:Exit->Act->World->Prop} (m:o.guard=none) (r x:Operand) (z:o.op=.call {callee:=.builtin .append,args:=#[r,x],argTypes:=#[106,9]}) (oo:Option Addr) (n oc:Nat) (q:List Value) (B:a.eval r=.slice oo n oc) (f:w.ownsRow 0 5 1 (.slice oo n oc) n q) (s:ByteArray) (C:a.eval x=.string s) (y:n+s.size<=1048576) (h:∀ e j w',Hid (w'.ownsRow 0 5 1 (.slice e (n+s.size) j) (n+s.size) (q++Lib.strCells s)∧w.grownBy w' (fQ oo)∧(fQ e=fQ oo∨∃ k,fQ e=some k∧w.heap.size<=k))->wpList prog i Q d (a.put o.dst (.slice e (n+s.size) j)) w'):wpList prog i Q (o::d) a w:=by
 refine wpList_plain m fun K v=>?_;obtain⟨e,j,w',A,u⟩:=afD w o.type oo n oc q f s y;unfold Oper.wp execOp;simp only [z,resolve,invoke,builtin,Sem.run_bind,Sem.run_pure,Result.andThen_ok,List.map_toArray,List.map_cons,List.map_nil,B,C,A];exact v _ _ (h e j w' u)
theorem ten {a d e f i m o q r s:Value} (h:w.heap[b]?=some (.cells #[a,d,e,f,i,m,o,q,r,s] t (0,0))):
  (w.cell? ⟨b,0,none⟩=some a∧w.cell? ⟨b,1,none⟩=some d∧w.cell? ⟨b,2,none⟩=some e∧w.cell? ⟨b,3,none⟩=some f∧w.cell? ⟨b,4,none⟩=some i∧w.cell? ⟨b,5,none⟩=some m∧w.cell? ⟨b,6,none⟩=some o∧w.cell? ⟨b,7,none⟩=some q∧w.cell? ⟨b,8,none⟩=some r∧w.cell? ⟨b,9,none⟩=some s)∧
  (∀ j,w.frozen? ⟨b,j,none⟩=false):=
 ⟨⟨cell_of_row w b 0 _ t _ h,cell_of_row w b 1 _ t _ h,cell_of_row w b 2 _ t _ h,cell_of_row w b 3 _ t _ h,cell_of_row w b 4 _ t _ h,cell_of_row w b 5 _ t _ h,cell_of_row w b 6 _ t _ h,cell_of_row w b 7 _ t _ h,cell_of_row w b 8 _ t _ h,cell_of_row w b 9 _ t _ h⟩,fun j=>frozen_of_row w b j _ t h⟩
theorem bG {j:Nat} (h:w.heap[b]?=some (.cells c t (0,0))) (u:Value):(w.setCell ⟨b,j,none⟩ u).heap[b]?=some (.cells (c.setIfInBounds j u) t (0,0)):=
 heap_setCell_same w b j _ t u h
variable (l:List UInt8) (n:Int)
@[reducible] def bs (l:List UInt8):ByteArray:=⟨l.toArray⟩
theorem Xo (m:List UInt8):bs l++bs m=bs (l++m):=by
 apply ByteArray.ext;simp
theorem qz:(bs l).size=l.length:=by simp [ByteArray.size]
theorem Xp:(bs l).data.toList=l:=by simp
theorem aeZ {a b:ByteArray} (h:a=b):Ending.returned (.string a)=.returned (.string b):=by rw [h]
theorem YW:∀ i,i < 100->Lib.decDigits i=Ps.dec i:=by decide+kernel
theorem R6 (a:0<=n) (d:n < 100) (w:World):kD 157 #[.int .i64 n] w (.string (bs (Ps.dec n.toNat))):=by
 have h:=Tryz.strconv_Itoa_small n.toNat (by omega) w;rw [Int.toNat_of_nonneg a,YW _ (by omega)] at h;exact h
theorem R7 (a:0<=n) (d:n < 100):∃ T:ByteArray,T.size<=2∧Hid (T=bs (Ps.dec n.toNat))∧Hid (∀ w,kD 157 #[.int .i64 n] w (.string T)):=
 ⟨_,by
  rw [qz]
  unfold Ps.dec
  split
  ·simp
  ·rw [if_pos (by omega)];simp,rfl,fun w=>R6 n a d w⟩
end Go.Proofs.YtkcdcamophkdlaaGreatDoor
