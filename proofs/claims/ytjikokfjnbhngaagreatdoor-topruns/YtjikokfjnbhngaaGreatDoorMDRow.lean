/- Several texts in one, each as it was: DRow, DTurn, DPen, DFun. -/
import Derived.Test.YtjikokfjnbhngaaGreatDoorMDMach
import Derived.Test.YtjikokfjnbhngaaGreatDoorMGDraw
import Derived.Lib.AppendStr
import Derived.Test.YtjikokfjnbhngaaGreatDoorDShelf
import Derived.Lib.MinMax

/- A row, and all of them: what the pen makes of a screen, and by how many bytes. -/
namespace Go.Proofs.YtjikokfjnbhngaaGreatDoor
theorem row_nat (r:Nat) (w:Int) (h:0≤w):((r:Int)*w).toNat=r*w.toNat:=by
 obtain⟨n,rfl⟩:=Int.eq_ofNat_of_zero_le h
 rw [←Int.natCast_mul]
 rfl
theorem sur_spec (h want:Nat→Cel) (n:Nat):∀ k,((surD h want n k).2= -1∧(surD h want n k).1=n∧∀ j,j < k→surB (h j) (want j)=false)∨
  (∃ A L:Nat,(surD h want n k).1=A∧(surD h want n k).2=L∧A≤L∧L < k∧∀ j,j < k→surB (h j) (want j)=true→A≤j∧j≤L)
 | 0=>.inl ⟨rfl,rfl,fun j hj=>by omega⟩
 | k+1=>by
  have ih:=sur_spec h want n k
  unfold surD
  cases hs:surB (h k) (want k)
  ·rw [if_neg (by simp)]
   rcases ih with ⟨a,b,c⟩ | ⟨A,L,a,b,c,d,e⟩
   ·refine .inl ⟨a,b,fun j hj=>?_⟩
    by_cases q:j=k
    ·rw [q];exact hs
    ·exact c j (by omega)
   ·refine .inr ⟨A,L,a,b,c,by omega,fun j hj hb=>?_⟩
    by_cases q:j=k
    ·rw [q,hs] at hb;simp at hb
    ·exact e j (by omega) hb
  ·rw [if_pos rfl]
   rcases ih with ⟨a,b,c⟩ | ⟨A,L,a,b,c,d,e⟩
   ·refine .inr ⟨min n k,k,?_,rfl,by omega,by omega,fun j hj hb=>?_⟩
    ·show min (surD h want n k).1 (k:Int)=_
     rw [b]
     omega
    ·by_cases q:j=k
     ·omega
     ·rw [c j (by omega)] at hb;simp at hb
   ·refine .inr ⟨A,k,?_,rfl,by omega,by omega,fun j hj hb=>?_⟩
    ·show min (surD h want n k).1 (k:Int)=_
     rw [a]
     omega
    ·by_cases q:j=k
     ·omega
     ·have:=e j (by omega) hb
      omega
theorem ok_clearG {g:Gr} (ok:OkG g) (a b:Nat):OkG (clearG g a b):=
 ⟨ok.w1,ok.w2,ok.h1,ok.h2,ok.size,goodC_clr (n:=g.n) ok.cells,ok.r1,ok.r2,ok.c1,ok.c2,ok.i1,ok.i2,ok.t1,ok.t2,ok.t3⟩
theorem sends_eraseRight {g:Gr} (hw:0≤g.wide) (r:Nat) (c:Nat) (hr:g.row=r) (hc:g.col=c) (hcw:g.col < g.wide):Sends g [27,91,75] (clearG g (r*g.wide.toNat+c) (r*g.wide.toNat+g.wide.toNat)):=by
 refine sends_one (Ps.word_csi0 75 (by decide) (by decide)) rfl ?_
 show csiG g 75 [0]=_
 rw [csi75]
 have e:eraseF g.f (g.row*g.wide).toNat g.wide.toNat (hereC g).toNat (numP [0] 0)=clrF g.f ((g.row*g.wide).toNat+(hereC g).toNat) ((g.row*g.wide).toNat+g.wide.toNat):=rfl
 have h1:(hereC g).toNat=c:=by unfold hereC;omega
 rw [e,hr,row_nat r g.wide hw,h1]
 unfold clearG
 rw [hr]
theorem sends_eraseLeft {g:Gr} (hw:0≤g.wide) (r:Nat) (c:Nat) (hr:g.row=r) (hc:g.col=c) (hcw:g.col < g.wide):Sends g [27,91,49,75] (clearG g (r*g.wide.toNat) (r*g.wide.toNat+(c+1))):=by
 refine sends_one (Ps.word_csi [1] 75 (by simp) (by simp) (by simp) (by decide) (by decide)) rfl ?_
 show csiG g 75 [1]=_
 rw [csi75]
 have e:eraseF g.f (g.row*g.wide).toNat g.wide.toNat (hereC g).toNat (numP [1] 0)=clrF g.f (g.row*g.wide).toNat ((g.row*g.wide).toNat+(hereC g).toNat+1):=rfl
 have h1:(hereC g).toNat=c:=by unfold hereC;omega
 rw [e,hr,row_nat r g.wide hw,h1,Nat.add_assoc]
 unfold clearG
 rw [hr]
theorem sur_no {h c:Cel} (hs:surB h c=false) (hc:celB c noCel=true):h=noCel:=by
 simp only [surB,hc,Bool.true_and,Bool.not_eq_false'] at hs
 rw [celB_iff] at hs hc
 rw [hs,hc]
structure Erased (p q:Pen) (r:Nat) (want:Nat→Cel):Prop where
 adds:Adds p q 12
 still:q=p∨q.g.row=r
 empty:∀ j,j < p.g.wide.toNat→celB (want j) noCel=true→q.g.f (r*p.g.wide.toNat+j)=noCel
 other:∀ i,i < r*p.g.wide.toNat∨r*p.g.wide.toNat+p.g.wide.toNat≤i→q.g.f i=p.g.f i
theorem erased {p:Pen} (ok:OkG p.g) (r:Nat) (hr:(r:Int) < p.g.high) (want:Nat→Cel):Erased p (eraseP p r want) r want:=by
 have w1:=ok.w1
 unfold eraseP eraseAtP
 rcases sur_spec (shF p.g.f (r*p.g.wide.toNat)) want p.g.wide.toNat p.g.wide.toNat with ⟨a,b,c⟩ | ⟨A,L,a,b,c,d,e⟩
 ·rw [a,if_pos (by omega)]
  exact⟨(Adds.refl p).mono (by omega),.inl rfl,fun j hj hc=>sur_no (c j hj) hc,fun _ _=>rfl⟩
 ·rw [a,b,if_neg (by omega)]
  have hA:((A:Int)).toNat=A:=by omega
  have hL:((L:Int)).toNat=L:=by omega
  have hL1:((L:Int)+1).toNat=L+1:=by omega
  rw [hA,hL1]
  split
  ·have k:=adds_move (p:=p) ok r A (by omega) hr (by omega) (by omega)
   have s:=sends_eraseRight (g:=(moveP p r A).g) (by show 0≤p.g.wide;omega) r A rfl rfl (by show (A:Int) < p.g.wide;omega)
   refine⟨(k.trans (b:=3) ⟨[27,91,75],rfl,by simp,s⟩).mono (by omega),.inr rfl,fun j hj hc=>?_,fun i hi=>?_⟩
   ·show clrF p.g.f (r*p.g.wide.toNat+A) (r*p.g.wide.toNat+p.g.wide.toNat) (r*p.g.wide.toNat+j)=noCel
    unfold clrF
    split
    ·rfl
    ·cases hs:surB (shF p.g.f (r*p.g.wide.toNat) j) (want j)
     ·exact sur_no hs hc
     ·have:=e j hj hs
      omega
   ·show clrF p.g.f (r*p.g.wide.toNat+A) (r*p.g.wide.toNat+p.g.wide.toNat) i=p.g.f i
    unfold clrF
    rw [if_neg (by omega)]
  ·have k:=adds_move (p:=p) ok r L (by omega) hr (by omega) (by omega)
   have s:=sends_eraseLeft (g:=(moveP p r L).g) (by show 0≤p.g.wide;omega) r L rfl rfl (by show (L:Int) < p.g.wide;omega)
   refine⟨(k.trans (b:=4) ⟨[27,91,49,75],rfl,by simp,s⟩).mono (by omega),.inr rfl,fun j hj hc=>?_,fun i hi=>?_⟩
   ·show clrF p.g.f (r*p.g.wide.toNat) (r*p.g.wide.toNat+(L+1)) (r*p.g.wide.toNat+j)=noCel
    unfold clrF
    split
    ·rfl
    ·cases hs:surB (shF p.g.f (r*p.g.wide.toNat) j) (want j)
     ·exact sur_no hs hc
     ·have:=e j hj hs
      omega
   ·show clrF p.g.f (r*p.g.wide.toNat) (r*p.g.wide.toNat+(L+1)) i=p.g.f i
    unfold clrF
    rw [if_neg (by omega)]
@[reducible] def atB (g:Gr) (r k:Nat):Bool:=decide (g.row=r∧g.col=k)
structure RowInv (p q:Pen) (r:Nat) (want:Nat→Cel) (k:Nat) (pic:Bool):Prop where
 adds:Adds p q (12+8*k+(if atB q.g r k then 8 else 0)+if pic then 36 else 0)
 done:∀ j,j < k→q.g.f (r*p.g.wide.toNat+j)=want j
 empty:∀ j,j < p.g.wide.toNat→celB (want j) noCel=true→q.g.f (r*p.g.wide.toNat+j)=noCel
 other:∀ i,i < r*p.g.wide.toNat∨r*p.g.wide.toNat+p.g.wide.toNat≤i→q.g.f i=p.g.f i
 pics:pic=true→∀ j,k≤j→j < p.g.wide.toNat→0 < (want j).pic→q.g.f (r*p.g.wide.toNat+j)=want j
theorem move_f (p:Pen) (r c:Int):(moveP p r c).g.f=p.g.f:=rfl
theorem row_step {p q:Pen} (ok:OkG p.g) (r:Nat) (hr:(r:Int) < p.g.high) (want:Nat→Cel) (hw:∀ j,j < p.g.wide.toNat→goodC (want j)=true) (k:Nat) (hk:k < p.g.wide.toNat) (pic:Bool)
  (h:RowInv p q r want k pic):∃ pic',RowInv p (cellP q r want k) r want (k+1) pic':=by
 obtain⟨okq,e1,e2,e3⟩:=h.adds.ok ok
 have w1:=ok.w1
 unfold cellP
 rw [e1]
 by_cases hc:celB (q.g.f (r*p.g.wide.toNat+k)) (want k)=true
 ·rw [if_pos hc]
  rw [celB_iff] at hc
  refine⟨pic,⟨h.adds.mono (by split <;>split <;>omega),fun j hj=>?_,h.empty,h.other,fun hp j hj=>h.pics hp j (by omega)⟩⟩
  by_cases e:j=k
  ·rw [e];exact hc
  ·exact h.done j (by omega)
 ·rw [if_neg hc]
  have hne:q.g.f (r*p.g.wide.toNat+k)≠want k:=fun e=>hc ((celB_iff _ _).2 e)
  have okm:OkG (moveP q r k).g:=ok_toG okq r k (by omega) (by omega) (by omega) (by omega)
  have hmw:(moveP q r k).g.wide=p.g.wide:=e1
  have hmove:∀ (x:Pen) (m:Nat),Adds (moveP q r k) x m→∀ b,12+8*k+(8+m)+(if pic then 36 else 0)≤b→Adds p x b:=by
   intro x m hx b h1
   by_cases hs:q.g.row=r∧q.g.col=k
   ·have a:=adds_move0 (p:=q) okq r k (by omega) (by omega) (by omega) (by omega) hs.1 hs.2
    have z:=h.adds
    rw [if_pos (decide_eq_true hs)] at z
    exact((z.trans a).trans hx).mono (by omega)
   ·have a:=adds_move (p:=q) okq r k (by omega) (by omega) (by omega) (by omega)
    have z:=h.adds
    rw [if_neg (by rw [decide_eq_true_eq];exact hs)] at z
    exact((z.trans a).trans hx).mono (by omega)
  by_cases hp:0 < (want k).pic
  ·rw [if_pos hp]
   have hpf:pic=false:=by
    cases hq:pic
    ·rfl
    ·exact absurd (h.pics hq k (Nat.le_refl _) hk hp) hne
   subst hpf
   have hb:rowAt (moveP q r k).g=r*p.g.wide.toNat:=by
    show ((r:Int)*q.g.wide).toNat=_
    rw [e1,row_nat r p.g.wide (by omega)]
   have hcol:(moveP q r k).g.col.toNat=k:=by show ((k:Int)).toNat=k;omega
   have hl:leftD (moveP q r k).g=p.g.wide.toNat - k:=by
    show q.g.wide.toNat - ((k:Int)).toNat=_
    rw [e1]
    omega
   have a:=adds_colour (p:=moveP q r k) okm (by show (k:Int) < q.g.wide;omega) want (by rw [hmw];exact hw)
   have hf:(colourP (moveP q r k) want).g.f=colF q.g.f want (r*p.g.wide.toNat) k (p.g.wide.toNat - k):=by
    show colF q.g.f want (rowAt (moveP q r k).g) (moveP q r k).g.col.toNat (leftD (moveP q r k).g)=_
    rw [hb,hcol,hl]
   have key:∀ j,j < p.g.wide.toNat→(colourP (moveP q r k) want).g.f (r*p.g.wide.toNat+j)=if k≤j∧lackB (q.g.f (r*p.g.wide.toNat+j)) (want j)=true then want j else q.g.f (r*p.g.wide.toNat+j):=fun j hj=>by
    rw [hf]
    unfold colF
    have:r*p.g.wide.toNat+j - r*p.g.wide.toNat=j:=by omega
    rw [this]
    by_cases z:k≤j∧lackB (q.g.f (r*p.g.wide.toNat+j)) (want j)=true
    ·rw [if_pos z,if_pos ⟨by omega,by omega,z.2⟩]
    ·rw [if_neg z,if_neg (fun y=>z ⟨by omega,y.2.2⟩)]
   have pk:∀ j,k≤j→j < p.g.wide.toNat→0 < (want j).pic→(colourP (moveP q r k) want).g.f (r*p.g.wide.toNat+j)=want j:=fun j hj hj2 hj3=>by
    rw [key j hj2]
    by_cases z:lackB (q.g.f (r*p.g.wide.toNat+j)) (want j)=true
    ·rw [if_pos ⟨hj,z⟩]
    ·rw [if_neg (fun y=>z y.2)]
     simp only [lackB,Bool.and_eq_true,decide_eq_true_eq,Bool.not_eq_true',not_and,Bool.not_eq_false] at z
     exact(celB_iff _ _).1 (z hj3)
   refine⟨true,⟨hmove _ 28 a _ (by simp;omega),fun j hj=>?_,fun j hj hc=>?_,fun i hi=>?_,fun _ j hj=>pk j (by omega)⟩⟩
   ·by_cases e:j=k
    ·rw [e];exact pk k (Nat.le_refl _) hk hp
    ·rw [key j (by omega),if_neg (by omega)]
     exact h.done j (by omega)
   ·rw [key j hj,if_neg]
    ·exact h.empty j hj hc
    ·intro y
     rw [celB_iff] at hc
     have:=y.2
     rw [hc] at this
     simp [lackB,noCel] at this
   ·rw [hf]
    unfold colF
    rw [if_neg (by omega)]
    exact h.other i hi
  ·rw [if_neg hp]
   have hn:celB (want k) noCel=false:=by
    cases z:celB (want k) noCel
    ·rfl
    ·have:=h.empty k hk z
     rw [celB_iff] at z
     exact absurd (this.trans z.symm) hne
   obtain⟨l1,l2,l3⟩:=good_letter (hw k hk) hp hn
   obtain⟨a,e⟩:=adds_print (p:=moveP q r k) okm (want k) l3 l1 l2 (by show (k:Int) < q.g.wide;omega)
   have hidx:((r:Int)*q.g.wide+(k:Int)).toNat=r*p.g.wide.toNat+k:=by
    have:=row_nat r p.g.wide (by omega)
    have h0:0≤(r:Int)*p.g.wide:=Int.mul_nonneg (by omega) (by omega)
    rw [e1]
    omega
   have hf:(printP (moveP q r k) (want k)).g.f=putF q.g.f (r*p.g.wide.toNat+k) (want k):=by
    rw [e]
    show putF q.g.f ((r:Int)*q.g.wide+(k:Int)).toNat (want k)=_
    rw [hidx]
   have hat:atB (printP (moveP q r k) (want k)).g r (k+1)=true:=by
    rw [e]
    exact decide_eq_true ⟨rfl,by show (k:Int)+1=((k+1:Nat):Int);omega⟩
   refine⟨pic,⟨hmove _ 8 a _ (by rw [if_pos hat];omega),fun j hj=>?_,fun j hj hc=>?_,fun i hi=>?_,fun hpp j hj hj2 hj3=>?_⟩⟩
   ·rw [hf]
    unfold putF
    by_cases z:j=k
    ·rw [if_pos (by omega),z]
    ·rw [if_neg (by omega)]
     exact h.done j (by omega)
   ·rw [hf]
    unfold putF
    rw [if_neg]
    ·exact h.empty j hj hc
    ·intro z
     have:j=k:=by omega
     rw [this,hn] at hc
     simp at hc
   ·rw [hf]
    unfold putF
    rw [if_neg (by omega)]
    exact h.other i hi
   ·rw [hf]
    unfold putF
    rw [if_neg (by omega)]
    exact h.pics hpp j (by omega) hj2 hj3
theorem row_cells {p:Pen} (ok:OkG p.g) (r:Nat) (hr:(r:Int) < p.g.high) (want:Nat→Cel) (hw:∀ j,j < p.g.wide.toNat→goodC (want j)=true):∀ k,k≤p.g.wide.toNat→∃ pic,RowInv p (cellsP (eraseP p r want) r want k) r want k pic
 | 0,_=>by
  have h:=erased ok r hr want
  exact⟨false,⟨h.adds.mono (by omega),fun j hj=>by omega,h.empty,h.other,fun e=>by simp at e⟩⟩
 | k+1,hk=>by
  obtain⟨pic,h⟩:=row_cells ok r hr want hw k (by omega)
  exact row_step ok r hr want hw k (by omega) pic h
structure RowEnd (p q:Pen) (r:Nat) (want:Nat→Cel):Prop where
 adds:Adds p q 248
 done:∀ j,j < p.g.wide.toNat→q.g.f (r*p.g.wide.toNat+j)=want j
 other:∀ i,i < r*p.g.wide.toNat∨r*p.g.wide.toNat+p.g.wide.toNat≤i→q.g.f i=p.g.f i
theorem row_end {p:Pen} (ok:OkG p.g) (r:Nat) (hr:(r:Int) < p.g.high) (want:Nat→Cel) (hw:∀ j,j < p.g.wide.toNat→goodC (want j)=true):RowEnd p (rowP p r want) r want:=by
 obtain⟨pic,h⟩:=row_cells ok r hr want hw p.g.wide.toNat (Nat.le_refl _)
 have:=ok.w2
 exact⟨h.adds.mono (by split <;>split <;>omega),h.done,h.other⟩
theorem rows_end {p:Pen} (ok:OkG p.g) (t:Gr) (okt:OkG t) (hw:t.wide=p.g.wide) (hh:t.high=p.g.high):∀ k:Nat,(k:Int)≤p.g.high→Adds p (rowsP p t k) (248*k)∧∀ i,i < k*p.g.wide.toNat→(rowsP p t k).g.f i=t.f i
 | 0,_=>⟨Adds.refl p,fun i hi=>by omega⟩
 | k+1,hk=>by
  obtain⟨a,b⟩:=rows_end ok t okt hw hh k (by omega)
  obtain⟨okq,e1,e2,e3⟩:=a.ok ok
  have w1:=ok.w1
  have hcell:∀ j,j < (rowsP p t k).g.wide.toNat→goodC (shF t.f (k*t.wide.toNat) j)=true:=fun j hj=>by
   unfold shF
   refine okt.cells _ ?_
   have h1:(k+1)*t.wide.toNat≤t.high.toNat*t.wide.toNat:=Nat.mul_le_mul_right _ (by omega)
   have h2:t.n=t.wide.toNat*t.high.toNat:=by
    have:=okt.size
    have h3:=okt.w1
    have h4:=okt.h1
    obtain⟨w,hw'⟩:=Int.eq_ofNat_of_zero_le (a:=t.wide) (by omega)
    obtain⟨h,hh'⟩:=Int.eq_ofNat_of_zero_le (a:=t.high) (by omega)
    rw [hw',hh'] at this ⊢
    have q:(t.n:Int)=((w*h:Nat):Int):=by rw [this];simp
    exact Int.ofNat.inj q
   rw [h2,Nat.mul_comm t.wide.toNat]
   rw [e1] at hj
   rw [Nat.succ_mul] at h1
   rw [hw] at h1 ⊢
   omega
  have c:=row_end (p:=rowsP p t k) okq k (by omega) (shF t.f (k*t.wide.toNat)) hcell
  refine⟨(a.trans c.adds).mono (by omega),fun i hi=>?_⟩
  rw [Nat.succ_mul] at hi
  by_cases z:i < k*p.g.wide.toNat
  ·have:=c.other i (.inl (by rw [e1];exact z))
   exact this.trans (b i z)
  ·have:=c.done (i - k*p.g.wide.toNat) (by rw [e1];omega)
   rw [e1] at this
   have e:k*p.g.wide.toNat+(i - k*p.g.wide.toNat)=i:=by omega
   rw [e] at this
   refine this.trans ?_
   unfold shF
   rw [hw,e]
structure Shown (p q:Pen) (t:Gr):Prop where
 adds:Adds p q 2488
 cells:∀ i,i < t.n→q.g.f i=t.f i
 row:q.g.row=t.row
 col:q.g.col=t.col
theorem size_nat {g:Gr} (ok:OkG g):g.n=g.high.toNat*g.wide.toNat:=by
 have h:=ok.nums.1
 have h3:=ok.w1
 have h4:=ok.h1
 obtain⟨w,hw'⟩:=Int.eq_ofNat_of_zero_le (a:=g.wide) (by omega)
 obtain⟨h',hh'⟩:=Int.eq_ofNat_of_zero_le (a:=g.high) (by omega)
 rw [hw',hh'] at h ⊢
 have q:(g.n:Int)=((h'*w:Nat):Int):=by rw [h];simp
 exact Int.ofNat.inj q
theorem shown {p:Pen} (ok:OkG p.g) (t:Gr) (okt:OkG t) (hw:t.wide=p.g.wide) (hh:t.high=p.g.high) (hc:t.col < t.wide):Shown p (showP p t) t:=by
 have h1:=okt.h1
 have h2:=okt.h2
 have r1:=okt.r1
 have r2:=okt.r2
 have c1:=okt.c1
 obtain⟨a,b⟩:=rows_end ok t okt hw hh t.high.toNat (by omega)
 obtain⟨okq,e1,e2,e3⟩:=a.ok ok
 have m:=adds_move (p:=rowsP p t t.high.toNat) okq t.row t.col r1 (by omega) c1 (by omega)
 refine⟨(a.trans m).mono (by omega),fun i hi=>?_,rfl,rfl⟩
 show (rowsP p t t.high.toNat).g.f i=t.f i
 refine b i ?_
 rw [size_nat okt,hw] at hi
 exact hi
end Go.Proofs.YtjikokfjnbhngaaGreatDoor

/- Turn and Anew of the plain machine: the bytes make of the one screen the other; a screen that is shown needs none. -/
namespace Go.Proofs.YtjikokfjnbhngaaGreatDoor
theorem turnB_iff (x t:Gr):turnB x t=true↔OkG x∧OkG t∧t.col < t.wide∧x.wide=t.wide∧x.high=t.high:=by
 unfold turnB showsB
 simp only [Bool.and_eq_true,decide_eq_true_eq,goodG_iff]
 constructor
 ·rintro⟨⟨⟨a,b,c⟩,d⟩,e⟩;exact⟨a,b,c,d,e⟩
 ·rintro⟨a,b,c,d,e⟩;exact⟨⟨⟨a,b,c⟩,d⟩,e⟩
structure Draws (x t:Gr) (p:Pen):Prop where
 sends:Sends x p.out p.g
 short:p.out.length≤2490
 cells:∀ i,i < t.n→p.g.f i=t.f i
 row:p.g.row=t.row
 col:p.g.col=t.col
 ok:OkG p.g
 wide:p.g.wide=t.wide
 high:p.g.high=t.high
 n:p.g.n=t.n
theorem turn_draws {x t:Gr} (okx:OkG x) (okt:OkG t) (hc:t.col < t.wide) (hw:x.wide=t.wide) (hh:x.high=t.high):Draws x t (turnP x t):=by
 have s:=shown (p:=⟨[],x⟩) okx t okt hw.symm hh.symm hc
 obtain⟨m,m1,m2,m3⟩:=s.adds.more
 obtain⟨ok,e1,e2,e3⟩:=s.adds.ok (p:=⟨[],x⟩) okx
 have hm:(turnP x t).out=m:=m1
 refine⟨?_,by rw [hm];omega,s.cells,s.row,s.col,ok,e1.trans hw,e2.trans hh,e3.trans ?_⟩
 ·rw [hm];exact m3
 ·show x.n=t.n
  rw [size_nat okx,size_nat okt,hw,hh]
theorem anew_draws {x t:Gr} (okt:OkG t) (hc:t.col < t.wide) (hw:x.wide=t.wide) (hh:x.high=t.high):Draws x t (anewP t):=by
 obtain⟨n1,n2,n3⟩:=new_sides okt
 have okn:=ok_new t.wide t.high
 have s:=shown (p:=⟨[27,99],newG t.wide t.high⟩) okn t okt n1.symm n2.symm hc
 obtain⟨m,m1,m2,m3⟩:=s.adds.more
 obtain⟨ok,e1,e2,e3⟩:=s.adds.ok (p:=⟨[27,99],newG t.wide t.high⟩) okn
 have hm:(anewP t).out=[27,99]++m:=m1
 refine⟨?_,by rw [hm];simp;omega,s.cells,s.row,s.col,ok,e1.trans n1,e2.trans n2,e3.trans n3⟩
 rw [hm]
 have r:=sends_reset x
 rw [hw,hh] at r
 exact r.append m3
theorem celB_self (c:Cel):celB c c=true:=(celB_iff c c).2 rfl
theorem sur_same (h:Nat→Cel) (n:Nat):∀ k,surD h h n k=((n:Int), -1)
 | 0=>rfl
 | k+1=>by
  unfold surD
  rw [if_neg (by simp [surB,celB_self])]
  exact sur_same h n k
theorem erase_same (p:Pen) (r:Nat):eraseP p r (shF p.g.f (r*p.g.wide.toNat))=p:=by
 unfold eraseP eraseAtP
 rw [sur_same,if_pos (by show (-1:Int) < 0;decide)]
theorem cells_same (p:Pen) (r:Nat):∀ k,cellsP p r (shF p.g.f (r*p.g.wide.toNat)) k=p
 | 0=>rfl
 | k+1=>by
  unfold cellsP
  rw [cells_same p r k]
  unfold cellP
  exact if_pos (celB_self _)
theorem rows_same (p:Pen):∀ k,rowsP p p.g k=p
 | 0=>rfl
 | k+1=>by
  unfold rowsP
  rw [rows_same p k]
  unfold rowP
  rw [erase_same,cells_same]
theorem turn_same {g:Gr} (ok:OkG g) (hc:g.col < g.wide):turnP g g=⟨[],g⟩:=by
 unfold turnP showP
 rw [rows_same ⟨[],g⟩]
 have:=(len_moveD ok g.row g.col ok.r1 ok.r2 ok.c1 hc).2 rfl rfl
 unfold moveP
 rw [this]
 rfl
end Go.Proofs.YtjikokfjnbhngaaGreatDoor

/- A pen in memory: its box, the bytes that it has written, its screen's list; what a call of one of its own leaves as it was. -/
namespace Go.Proofs.YtjikokfjnbhngaaGreatDoor
open Go.RowKit
def bytesV (l:List UInt8):List Value:=l.map fun b=>Value.int .u8 b.toNat
theorem bytesV_append (l m:List UInt8):bytesV (l++m)=bytesV l++bytesV m:=List.map_append
theorem bytesV_str (s:ByteArray):Lib.strCells s=bytesV s.data.toList:=rfl
def blkD (ao:Option Addr):Option Nat:=ao.map (·.block)
theorem ownBlock_D (ao:Option Addr) (n c:Nat):Value.ownBlock (.slice ao n c)=blkD ao:=by cases ao <;>rfl
@[reducible] def pcells (n:Nat) (oo:Option Addr) (oc:Nat) (g:Gr) (b cap:Nat):Array Value:=
 #[.slice oo n oc,.int .i64 g.wide,.int .i64 g.high,.slice (some ⟨b,0,none⟩) g.n cap,.int .i64 g.row,.int .i64 g.col,.int .i64 g.ink,.bool g.bold,.int .i64 g.top,.int .i64 g.bottom]
@[reducible] def pbox (n:Nat) (oo:Option Addr) (oc:Nat) (g:Gr) (b cap:Nat):Obj:=.cells (pcells n oo oc g b cap) 167
structure PenIn (w:World) (pb b cap:Nat) (oo:Option Addr) (oc:Nat) (p:Pen):Prop where
 box:w.heap[pb]?=some (pbox p.out.length oo oc p.g b cap)
 own:w.ownsRow 0 5 1 (.slice oo p.out.length oc) p.out.length (bytesV p.out)
 scr:Scr w b p.g.n p.g.f
theorem PenIn.lt {w:World} {pb b cap:Nat} {oo:Option Addr} {oc:Nat} {p:Pen} (h:PenIn w pb b cap oo oc p):pb < w.heap.size:=(Array.getElem?_eq_some_iff.1 h.box).1
theorem PenIn.blt {w:World} {pb b cap:Nat} {oo:Option Addr} {oc:Nat} {p:Pen} (h:PenIn w pb b cap oo oc p):b < w.heap.size:=h.scr.lt
theorem PenIn.olt {w:World} {pb b cap:Nat} {oo:Option Addr} {oc:Nat} {p:Pen} (h:PenIn w pb b cap oo oc p) {k:Nat} (hk:blkD oo=some k):k < w.heap.size:=
 (h.own.lt k (by rw [ownBlock_D];exact hk)).2
theorem ne_tag {w:World} {a b:Nat} {c d:Array Value} {t u:TypeId} {x y:Nat×Nat} (ha:w.heap[a]?=some (.cells c t x)) (hb:w.heap[b]?=some (.cells d u y)) (h:t≠u):a≠b:=by
 rintro rfl
 rw [ha] at hb
 simp only [Option.some.injEq,Obj.cells.injEq] at hb
 exact h hb.2.1
theorem tagPC:(167:TypeId)≠66:=by decide
theorem tagBC:(5:TypeId)≠66:=by decide
theorem tagBP:(5:TypeId)≠167:=by decide
theorem PenIn.n1 {w:World} {pb b cap:Nat} {oo:Option Addr} {oc:Nat} {p:Pen} (h:PenIn w pb b cap oo oc p):pb≠b:=by
 obtain⟨cur,hc,_⟩:=h.scr
 exact ne_tag h.box hc tagPC
theorem own_tag {w:World} {oo:Option Addr} {n oc base:Nat} {xs:List Value} (h:w.ownsRow base 5 1 (.slice oo n oc) n xs) {k:Nat} (hk:blkD oo=some k):∃ cur,w.heap[k]?=some (.cells cur 5 (0,0)):=by
 rcases h.2 with ⟨hv,_⟩ | ⟨g,c,cur,hv,_,hg,_⟩
 ·simp only [Value.slice.injEq] at hv
  rw [hv.1] at hk
  simp [blkD] at hk
 ·simp only [Value.slice.injEq] at hv
  rw [hv.1] at hk
  simp only [blkD,Option.map_some,Option.some.injEq] at hk
  subst hk
  exact⟨cur,hg⟩
theorem PenIn.n2 {w:World} {pb b cap:Nat} {oo:Option Addr} {oc:Nat} {p:Pen} (h:PenIn w pb b cap oo oc p):blkD oo≠some pb:=fun e=>by
 obtain⟨cur,hc⟩:=own_tag h.own e
 exact ne_tag hc h.box tagBP rfl
theorem PenIn.n3 {w:World} {pb b cap:Nat} {oo:Option Addr} {oc:Nat} {p:Pen} (h:PenIn w pb b cap oo oc p):blkD oo≠some b:=fun e=>by
 obtain⟨cur,hc⟩:=own_tag h.own e
 obtain⟨cur2,hc2,_⟩:=h.scr
 exact ne_tag hc hc2 tagBC rfl
structure Kept (w w':World) (pb b:Nat) (oo oo':Option Addr):Prop where
 os:w'.os=w.os
 tape:w'.tape=w.tape
 output:w'.output=w.output
 size:w.heap.size≤w'.heap.size
 block:∀ k,k < w.heap.size→k≠pb→k≠b→blkD oo≠some k→w'.heap[k]?=w.heap[k]?
 fresh:blkD oo'=blkD oo∨∃ k,blkD oo'=some k∧w.heap.size≤k
theorem Kept.refl (w:World) (pb b:Nat) (oo:Option Addr):Kept w w pb b oo oo:=⟨rfl,rfl,rfl,Nat.le_refl _,fun _ _ _ _ _=>rfl,.inl rfl⟩
theorem Kept.trans {w1 w2 w3:World} {pb b:Nat} {o1 o2 o3:Option Addr} (h:Kept w1 w2 pb b o1 o2) (k:Kept w2 w3 pb b o2 o3):Kept w1 w3 pb b o1 o3:=by
 refine⟨k.os.trans h.os,k.tape.trans h.tape,k.output.trans h.output,Nat.le_trans h.size k.size,fun i hi h1 h2 h3=>?_,?_⟩
 ·refine(k.block i (Nat.lt_of_lt_of_le hi h.size) h1 h2 ?_).trans (h.block i hi h1 h2 h3)
  rcases h.fresh with e | ⟨j,e,hj⟩
  ·rw [e];exact h3
  ·rw [e];simp;omega
 ·rcases k.fresh with e | ⟨j,e,hj⟩
  ·rw [e];exact h.fresh
  ·exact .inr ⟨j,e,Nat.le_trans h.size hj⟩
theorem Kept.below {w w':World} (pb b:Nat) (oo:Option Addr) (h:Below w.heap.size w w'):Kept w w' pb b oo oo:=⟨h.os,h.tape,h.output,h.size,fun k hk _ _ _=>h.block k hk,.inl rfl⟩
theorem Kept.toBelow {w w':World} {pb b B:Nat} {oo oo':Option Addr} (h:Kept w w' pb b oo oo') (h1:B≤pb) (h2:B≤b) (h3:∀ k,blkD oo=some k→B≤k) (hB:B≤w.heap.size):Below B w w':=
 ⟨h.os,h.tape,h.output,h.size,fun k hk=>h.block k (by omega) (by omega) (by omega) (fun e=>by have:=h3 k e;omega)⟩
theorem PenIn.later {w w':World} {pb b cap:Nat} {oo:Option Addr} {oc:Nat} {p:Pen} (h:PenIn w pb b cap oo oc p) (hb:Below w.heap.size w w'):PenIn w' pb b cap oo oc p:=
 ⟨below_block hb h.box h.lt,h.own.kept (Below.toGrown hb none) (by cases hv:Value.ownBlock (.slice oo p.out.length oc) <;>simp),h.scr.below hb h.blt⟩
def PenTo (w:World) (pb b cap:Nat) (oo:Option Addr) (q:Pen) (w':World):Prop:=∃ oo' oc',PenIn w' pb b cap oo' oc' q∧Kept w w' pb b oo oo'
theorem PenIn.stay {w w':World} {pb b cap:Nat} {oo:Option Addr} {oc:Nat} {p:Pen} (h:PenIn w pb b cap oo oc p) (hb:Below w.heap.size w w'):PenTo w pb b cap oo p w':=⟨oo,oc,h.later hb,Kept.below pb b oo hb⟩
theorem PenTo.trans {w w1 w2:World} {pb b cap:Nat} {oo o1:Option Addr} {q:Pen} (h:Kept w w1 pb b oo o1) (k:PenTo w1 pb b cap o1 q w2):PenTo w pb b cap oo q w2:=by
 obtain⟨o2,c2,a,c⟩:=k
 exact⟨o2,c2,a,h.trans c⟩
theorem info5:(Tryz.prog.info? 5).map (fun i=>(i.zero,i.size,i.bytes))=some (some (.int .u8 0),1,1):=by kernel_rfl
theorem ok_inj {α:Type} {a b:α} {w1 w2:World} (h:(Result.ok a w1:Result α)=.ok b w2):a=b∧w1=w2:=by
 simpa using h
theorem run_append_str (w:World) (ty:TypeId) (oo:Option Addr) (n oc:Nat) (xs:List Value) (hown:w.ownsRow 0 5 1 (.slice oo n oc) n xs) (s:ByteArray) (hb:n+s.size≤1048576):
  ∃ oo' oc' w',(Builtin.append_ #[165,9] ty #[.slice oo n oc,.string s]).run Tryz.prog w=.ok (.slice oo' (n+s.size) oc') w'∧w'.ownsRow 0 5 1 (.slice oo' (n+s.size) oc') (n+s.size) (xs++Lib.strCells s)∧
   w.grownBy w' (blkD oo)∧(blkD oo'=blkD oo∨∃ k,blkD oo'=some k∧w.heap.size≤k):=by
 obtain⟨i,hi,hz0,hz1,hz2⟩:=info_parts info5
 have hm:n+s.size≤maxLen:=by unfold maxLen;omega
 rcases hown.2 with ⟨hv,h0⟩ | ⟨g,cap,cur,hv,_,hg,hnc,_,hcs,htake⟩
 ·simp only [Value.slice.injEq] at hv
  obtain⟨rfl,rfl,rfl⟩:=hv
  have hx:xs=[]:=List.length_eq_zero_iff.1 (by rw [hown.1])
  subst hx
  obtain⟨v',w',hr,h2,h3,_⟩:=Lib.run_append_own_string (P:=Tryz.prog) w w.heap.size 165 9 ty 5 i Tryz.underlying165 Tryz.underlying9 hi hz0 hz1 hz2 (.slice none 0 0) 0 [] (World.ownsRow_nil _ _ _ _) s hm (by omega) (Nat.le_refl _)
  rcases h2.2 with ⟨rfl,hn⟩ | ⟨g,cap,cur,rfl,hbg,hg,rest⟩
  ·rw [hn] at h2 ⊢
   exact⟨none,0,w',hr,⟨h2.1,.inl ⟨rfl,rfl⟩⟩,h3,.inl rfl⟩
  ·exact⟨some ⟨g,0,none⟩,cap,w',hr,⟨h2.1,.inr ⟨g,cap,cur,rfl,Nat.zero_le _,hg,rest⟩⟩,h3,.inr ⟨g,rfl,hbg⟩⟩
 ·simp only [Value.slice.injEq] at hv
  obtain⟨rfl,_,rfl⟩:=hv
  obtain⟨v',w',hr,h2,h3,_⟩:=Lib.run_append_own_string (P:=Tryz.prog) w 0 165 9 ty 5 i Tryz.underlying165 Tryz.underlying9 hi hz0 hz1 hz2 (.slice (some ⟨g,0,none⟩) n oc) n xs hown s hm (by omega) (Nat.zero_le _)
  by_cases hroom:n+s.size≤oc
  ·have hr2:=Lib.run_append_room_string (P:=Tryz.prog) w 165 9 ty 5 i Tryz.underlying165 Tryz.underlying9 hi hz1 g n oc cur hg s hroom (by omega)
   rw [hr] at hr2
   obtain⟨rfl,_⟩:=ok_inj hr2
   exact⟨_,_,w',hr,h2,h3,.inl rfl⟩
  ·have holds:∀ j u,xs[j]?=some u→w.cell? ((⟨g,0,none⟩:Addr).add j)=some u:=hown.cells (g:=g) rfl
   have hr2:=Lib.run_append_grow_string (P:=Tryz.prog) w 165 9 ty 5 i (.int .u8 0) Tryz.underlying165 Tryz.underlying9 hi hz0 ⟨g,0,none⟩ n oc xs (by rw [hz1];simpa using hown.1) holds s (by omega) (by omega) (by rw [hz2];exact growslice_fits (by omega) (by omega))
   rw [hr] at hr2
   obtain⟨rfl,_⟩:=ok_inj hr2
   exact⟨_,_,w',hr,h2,h3,.inr ⟨_,rfl,Nat.le_refl _⟩⟩
theorem wpList_append_str {w:World} {ops:Array Oper} {rest:List Oper} {o:Oper} {a:Act} {Q:Exit→Act→World→Prop} (hgd:o.guard=none) (sl x:Operand)
  (ho:o.op=.call {callee:=.builtin .append,args:=#[sl,x],argTypes:=#[165,9]})
  (oo:Option Addr) (n oc:Nat) (xs:List Value) (hs:a.eval sl=.slice oo n oc) (hown:w.ownsRow 0 5 1 (.slice oo n oc) n xs) (s:ByteArray) (hx:a.eval x=.string s) (hb:n+s.size≤1048576)
  (h:∀ oo' oc' w',Hid (w'.ownsRow 0 5 1 (.slice oo' (n+s.size) oc') (n+s.size) (xs++Lib.strCells s)∧w.grownBy w' (blkD oo)∧(blkD oo'=blkD oo∨∃ k,blkD oo'=some k∧w.heap.size≤k))→wpList Tryz.prog ops Q rest (a.put o.dst (.slice oo' (n+s.size) oc')) w'):wpList Tryz.prog ops Q (o::rest) a w:=by
 refine wpList_plain hgd fun K hK=>?_
 obtain⟨oo',oc',w',hr,h2⟩:=run_append_str w o.type oo n oc xs hown s hb
 unfold Oper.wp execOp
 simp only [ho,resolve,invoke,builtin,Sem.run_bind,Sem.run_pure,Result.andThen_ok,List.map_toArray,List.map_cons,List.map_nil,hs,hx,hr]
 exact hK _ _ (h oo' oc' w' h2)
theorem ten {w:World} {b:Nat} {c0 c1 c2 c3 c4 c5 c6 c7 c8 c9:Value} {t:TypeId} (h:w.heap[b]?=some (.cells #[c0,c1,c2,c3,c4,c5,c6,c7,c8,c9] t (0,0))):
  (w.cell? ⟨b,0,none⟩=some c0∧w.cell? ⟨b,1,none⟩=some c1∧w.cell? ⟨b,2,none⟩=some c2∧w.cell? ⟨b,3,none⟩=some c3∧w.cell? ⟨b,4,none⟩=some c4∧w.cell? ⟨b,5,none⟩=some c5∧w.cell? ⟨b,6,none⟩=some c6∧w.cell? ⟨b,7,none⟩=some c7∧w.cell? ⟨b,8,none⟩=some c8∧w.cell? ⟨b,9,none⟩=some c9)∧
  (∀ j,w.frozen? ⟨b,j,none⟩=false):=
 ⟨⟨cell_of_row w b 0 _ t _ h,cell_of_row w b 1 _ t _ h,cell_of_row w b 2 _ t _ h,cell_of_row w b 3 _ t _ h,cell_of_row w b 4 _ t _ h,cell_of_row w b 5 _ t _ h,cell_of_row w b 6 _ t _ h,cell_of_row w b 7 _ t _ h,cell_of_row w b 8 _ t _ h,cell_of_row w b 9 _ t _ h⟩,fun j=>frozen_of_row w b j _ t h⟩
theorem set_cells {w:World} {b j:Nat} {c:Array Value} {t:TypeId} (h:w.heap[b]?=some (.cells c t (0,0))) (u:Value):(w.setCell ⟨b,j,none⟩ u).heap[b]?=some (.cells (c.setIfInBounds j u) t (0,0)):=
 heap_setCell_same w b j _ t u h
end Go.Proofs.YtjikokfjnbhngaaGreatDoor

/- Texts of numbers. -/
namespace Go.Proofs.YtjikokfjnbhngaaGreatDoor
open Go.RowKit
set_option maxRecDepth 100000
@[reducible] def bs (l:List UInt8):ByteArray:=⟨l.toArray⟩
theorem bs_append (l m:List UInt8):bs l++bs m=bs (l++m):=by
 apply ByteArray.ext
 simp
theorem bs_size (l:List UInt8):(bs l).size=l.length:=by simp [ByteArray.size]
theorem bs_list (l:List UInt8):(bs l).data.toList=l:=by simp
theorem ret_str {a b:ByteArray} (h:a=b):Ending.returned (.string a)=.returned (.string b):=by rw [h]
theorem dec_same:∀ i,i < 100→Lib.decDigits i=Ps.dec i:=by decide+kernel
theorem itoa_any (n:Int) (h1:0≤n) (h2:n < 100) (w:World):Calls Tryz.prog 144 #[.int .i64 n] w fun e w'=>e=.returned (.string (bs (Ps.dec n.toNat)))∧w'=w:=by
 have h:=Tryz.strconv_Itoa_small n.toNat (by omega) w
 rw [Int.toNat_of_nonneg h1,dec_same _ (by omega)] at h
 exact h
theorem itoa_letter (n:Int) (h1:0≤n) (h2:n < 100):∃ T:ByteArray,T.size≤2∧Hid (T=bs (Ps.dec n.toNat))∧Hid (∀ w,Calls Tryz.prog 144 #[.int .i64 n] w fun e w'=>e=.returned (.string T)∧w'=w):=
 ⟨_,by
  rw [bs_size]
  unfold Ps.dec
  split
  ·simp
  ·rw [if_pos (by omega)];simp,rfl,fun w=>itoa_any n h1 h2 w⟩
end Go.Proofs.YtjikokfjnbhngaaGreatDoor
