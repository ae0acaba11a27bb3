import Derived.Test.YtkcdcamophkdlaaGreatDoorAG
import Derived.Shelf.Strings.OnBuilder
import Derived.Shelf.Strings.Trim
import Derived.Shelf.Strconv.Itoa3
open Go.Proofs.Tryz
namespace Go.Proofs.YtkcdcamophkdlaaGreatDoor
structure bU where
 out:List UInt8
 g:Gr
def FT (row col:Int):List UInt8:=27::91::(Ps.dec (row+1).toNat++59::(Ps.dec (col+1).toNat++[72]))
def oC (g:Gr) (row col:Int):List UInt8:=if g.row=row∧g.col=col then [] else FT row col
def Bo (g:Gr) (row col:Int):Gr:={g with row:=row,col:=col}
def dh (p:bU) (row col:Int):bU:=⟨p.out++oC p.g row col,Bo p.g row col⟩
def jS (g:Gr) (c:aH):Bool:=(g.bold && !c.bold) || (decide (0 < g.aA) && decide (c.aA=0))
def eD (g:Gr) (c:aH):List (List UInt8):=
 (if jS g c then [[]] else [])++(if c.bold=(if jS g c then false else g.bold) then [] else [[49]])++(if c.aA=(if jS g c then 0 else g.aA) then [] else [Ps.dec (29+c.aA).toNat])
def uM (g:Gr) (c:aH):List UInt8:=Lib.join (eD g c) [59]
def oH (g:Gr) (c:aH):Bool:=decide (g.aA=c.aA) && (g.bold==c.bold)
def nP (g:Gr) (c:aH):Gr:={g with aA:=c.aA,bold:=c.bold}
def oz (p:bU) (c:aH):bU:=if oH p.g c then p else ⟨p.out++27::91::(uM p.g c++[109]),nP p.g c⟩
def zG (g:Gr) (c:aH):Gr:={g with f:=gV g.f (g.row*g.wide+g.col).toNat c,col:=g.col+1}
def sH (c:aH):UInt8:=UInt8.ofNat c.ch.toNat
def zx (p:bU) (c:aH):bU:=⟨(oz p c).out++[sH c],zG (oz p c).g c⟩
def mh (h c:aH):Bool:=decide (0 < c.aJ) && !dL h c
def nK (f want:Nat->aH) (b:Nat) (j:Nat):UInt8:=if mh (f (b+j)) (want j) then UInt8.ofNat (96+(want j).aJ).toNat else 32
def nL (f want:Nat->aH) (b c n:Nat):List UInt8:=(List.range n).map fun j=>nK f want b (c+j)
def nC (f want:Nat->aH) (b c n:Nat):Nat->aH:=fun i=>if b+c<=i∧i < b+c+n∧mh (f i) (want (i - b))=true then want (i - b) else f i
def rowAt (g:Gr):Nat:=(g.row*g.wide).toNat
def leftD (g:Gr):Nat:=g.wide.toNat - g.col.toNat
def EZ (g:Gr) (want:Nat->aH):List UInt8:=27::80::(Lib.trimRightB (nL g.f want (rowAt g) g.col.toNat (leftD g)) 32++[27,92])
def IC (g:Gr) (want:Nat->aH):Gr:={g with f:=nC g.f want (rowAt g) g.col.toNat (leftD g)}
def uF (p:bU) (want:Nat->aH):bU:=⟨p.out++EZ p.g want,IC p.g want⟩
def tH (h c:aH):Bool:=dL c aX && !dL h c
def jK (have_ want:Nat->aH) (n:Nat):Nat->Int×Int
 | 0=>((n:Int), -1)
 | k+1=>if tH (have_ k) (want k) then (min (jK have_ want n k).1 (k:Int),(k:Int)) else jK have_ want n k
def FU (h c:aH):Bool:=!dL c aX && dL h c
def mV (have_ want:Nat->aH):Nat->Int
 | 0=>0
 | k+1=>if FU (have_ k) (want k) then mV have_ want k+1 else mV have_ want k
def iL (f:Nat->aH) (a:Nat):Nat->aH:=fun i=>f (a+i)
def xw (g:Gr) (a b:Nat):Gr:={g with f:=gT g.f a b}
def CO (p:bU) (row:Nat) (want:Nat->aH) (b w:Nat) (first last:Int):bU:=
 if last < 0 then p
 else if mV (iL p.g.f (b+first.toNat)) (iL want first.toNat) (w - first.toNat)<=mV (iL p.g.f b) want (last+1).toNat then
  ⟨(dh p row first).out++[27,91,75],xw (dh p row first).g (b+first.toNat) (b+w)⟩
 else ⟨(dh p row last).out++[27,91,49,75],xw (dh p row last).g b (b+(last+1).toNat)⟩
def eraseP (p:bU) (row:Nat) (want:Nat->aH):bU:=
 CO p row want (row*p.g.wide.toNat) p.g.wide.toNat (jK (iL p.g.f (row*p.g.wide.toNat)) want p.g.wide.toNat p.g.wide.toNat).1 (jK (iL p.g.f (row*p.g.wide.toNat)) want p.g.wide.toNat p.g.wide.toNat).2
def cellP (p:bU) (row:Nat) (want:Nat->aH) (j:Nat):bU:=
 if dL (p.g.f (row*p.g.wide.toNat+j)) (want j) then p
 else if 0 < (want j).aJ then uF (dh p row j) want
 else zx (dh p row j) (want j)
def CG (p:bU) (row:Nat) (want:Nat->aH):Nat->bU
 | 0=>p
 | k+1=>cellP (CG p row want k) row want k
def rowP (p:bU) (row:Nat) (want:Nat->aH):bU:=CG (eraseP p row want) row want p.g.wide.toNat
def wo (p:bU) (t:Gr):Nat->bU
 | 0=>p
 | k+1=>rowP (wo p t k) k (iL t.f (k*t.wide.toNat))
def zD (p:bU) (t:Gr):bU:=dh (wo p t t.high.toNat) t.row t.col
def Dz (g:Gr):Bool:=kE g && decide (g.col < g.wide)
def Bp (x t:Gr):Bool:=kE x && Dz t && decide (x.wide=t.wide) && decide (x.high=t.high)
def wG (x t:Gr):bU:=zD ⟨[],x⟩ t
def yP (t:Gr):bU:=zD ⟨[27,99],newG t.wide t.high⟩ t
variable (n:Nat) {g:Gr}
def Num (t:List UInt8) (v:Int):Prop:=∀ ps:List Int,Ps.dB (Ps.jV (ps++[0])) t=Ps.jV (ps++[v])∧Ps.bR (Ps.jV (ps++[0])) t=[]
theorem N8:Num [] 0:=fun _=>⟨rfl,rfl⟩
theorem Ju (h:n < 1000):Num (Ps.dec n) n:=fun d=>Ps.O4 d n h
theorem abA (d x:List UInt8) (r:List (List UInt8)):Lib.joinTail d (x::r)=d++x++Lib.joinTail d r:=by
 simp [Lib.joinTail]
theorem QM:∀ (l:List (List UInt8×Int)) (d:List Int),(∀ x∈l,Num x.1 x.2)->d.length+l.length<=4->Ps.dB (Ps.jV d) (Lib.joinTail [59] (l.map (·.1)))=Ps.jV (d++l.map (·.2))∧Ps.bR (Ps.jV d) (Lib.joinTail [59] (l.map (·.1)))=[]
 | [],d,_,_=>by simp [Lib.joinTail,Ps.dB,Ps.bR]
 | x::r,d,h,hl=>by
  have e:=h x (by simp) d
  have k:=Ps.UJ d (by simp at hl;omega)
  have m:=QM r (d++[x.2]) (fun y s=>h y (by simp [s])) (by simp at hl ⊢;omega)
  have o:Ps.dA 59=59:=rfl
  rw [List.map_cons,abA,List.append_assoc,List.singleton_append]
  constructor
  ·rw [Ps.lF,o,k,Ps.vR,e.1,m.1]
   simp
  ·rw [Ps.lD,o,k,Ps.xC,e.1,e.2,m.2]
   rfl
theorem Ve (x:List UInt8×Int) (l:List (List UInt8×Int)) (c:UInt8) (t:Num x.1 x.2) (h:∀ y∈l,Num y.1 y.2) (u:l.length<=3) (r:64<=c.toNat) (s:c.toNat<=126):
  Ps.Word (27::91::(Lib.join (x.1::l.map (·.1)) [59]++[c])) [⟨3,Ps.dA c,x.2::l.map (·.2),⟨#[]⟩⟩]:=by
 have k:Ps.bF Ps.ground (Ps.dA 27)=(⟨1,[],⟨#[]⟩,false⟩,Ps.bC):=rfl;have m:Ps.bF ⟨1,[],⟨#[]⟩,false⟩ (Ps.dA 91)=(Ps.jV ([]++[0]),Ps.bC):=rfl;have d:=t [];have e:=QM l ([]++[x.2]) h (by simp;omega);have o:=Ps.O1 ([]++[x.2]++l.map (·.2)) c r s;rw [Lib.join_cons];refine⟨?_,?_⟩
 ·rw [Ps.lF,k,Ps.lF,m,Ps.vR,Ps.vR,d.1,e.1,Ps.lF,o]
  rfl
 ·rw [Ps.lD,k,Ps.lD,m,Ps.xC,Ps.xC,Ps.vR,d.1,d.2,e.1,e.2,Ps.lD,o]
  rfl
theorem Si (h:n < 100):(Ps.dec n).length<=2:=by
 unfold Ps.dec;split
 ·simp
 ·simp
theorem Gq {x:Gr} {l:List UInt8} {k b:Int} {e:List Int} {d:ByteArray} (h:Ps.Word l [⟨k,b,e,d⟩]) (m:dV ⟨k,b,e,d⟩=0) (o:nZ g ⟨k,b,e,d⟩=x):Sends g l x:=
 ⟨_,h,by rw [<-o];exact Me g _ m⟩
theorem YL (n:Int) (r:List Int) (d:1<=n) (e:n < 999):q8 (n::r)=n:=by
 have:fE (n::r) 0=n:=by
  show max 0 (min n 999)=_;omega
 unfold q8;rw [this];omega
theorem af0 (e:OkG g) (r c:Int) (t:0<=r) (u:r < g.high) (v:0<=c) (w:c < g.wide):Sends g (FT r c) (Bo g r c):=by
 have z:=e.w2;have x:=e.h2;have o:Num (Ps.dec (r+1).toNat) (r+1):=by
  have:=Ju (r+1).toNat (by omega);rwa [Int.toNat_of_nonneg (by omega)] at this
 have s:Num (Ps.dec (c+1).toNat) (c+1):=by
  have:=Ju (c+1).toNat (by omega);rwa [Int.toNat_of_nonneg (by omega)] at this
 unfold FT;have m:Ps.dec (r+1).toNat++59::(Ps.dec (c+1).toNat++[72])=Lib.join (Ps.dec (r+1).toNat::[(Ps.dec (c+1).toNat,c+1)].map (·.1)) [59]++[72]:=by
  rw [Lib.join_cons];simp [Lib.joinTail]
 rw [m];refine Gq (Ve (Ps.dec (r+1).toNat,r+1) [(Ps.dec (c+1).toNat,c+1)] 72 o (fun y d=>?_) (by simp) (by decide) (by decide)) rfl ?_
 ·simp only [List.mem_singleton] at d;subst d;exact s
 ·show jH g 72 [r+1,c+1]=_;rw [Qz,YL (r+1) _ (by omega) (by omega)];have k:max 1 (min (fE [r+1,c+1] 1) g.wide) - 1=c:=by
   have:fE [r+1,c+1] 1=c+1:=by
    show max 0 (min (c+1) 999)=_;omega
   rw [this];omega
  have h:min (r+1) g.high - 1=r:=(by omega);rw [h,k]
  rfl
theorem Oi (d:OkG g) (r c:Int) (e:0<=r) (h:r < g.high) (k:0<=c) (m:c<=g.wide):OkG (Bo g r c):=
 ⟨d.w1,d.w2,d.h1,d.h2,d.size,d.cells,e,h,k,m,d.i1,d.i2,d.t1,d.t2,d.t3⟩
theorem Uo (o:OkG g) (r c:Int) (d:0<=r) (e:r < g.high) (k:0<=c) (m:c < g.wide):Sends g (oC g r c) (Bo g r c):=by
 unfold oC;split
 ·rename_i h;have:Bo g r c=g:=(by rw [<-h.1, <-h.2];rfl);rw [this];exact Uq g
 ·exact af0 o r c d e k m
theorem abW (r c:Int) (d:0<=r) (e:r < 10) (h:0<=c) (k:c < 24):(FT r c).length<=8:=by
 have:=Si (r+1).toNat (by omega);have:=Si (c+1).toNat (by omega);unfold FT;simp;omega
theorem FW (d:OkG g) (r c:Int) (k:0<=r) (o:r < g.high) (m:0<=c) (s:c < g.wide):
  (oC g r c).length<=8∧(r=g.row->c=g.col->oC g r c=[]):=by
 have:=d.w2;have:=d.h2;have a:=abW r c k (by omega) m (by omega);refine⟨?_,?_⟩
 ·unfold oC;split
  ·simp
  ·exact a
 ·intro e h;unfold oC;rw [if_pos ⟨e.symm,h.symm⟩]
variable (i:Int) {p q:bU} {g:Gr} {a b:Nat}
theorem RQ (g:Gr):o9 g 0={g with aA:=0,bold:=false}:=rfl
theorem RS (g:Gr):o9 g 1={g with bold:=true}:=rfl
theorem NH (g:Gr) (i:Int) (d:1<=i) (e:i<=8):o9 g (29+i)={g with aA:=i}:=by
 unfold o9;rw [if_neg (by omega),if_neg (by omega),if_neg (by omega),if_pos (by omega)];have:29+i - 29=i:=by omega
 rw [this]
theorem N7 (d:1<=i) (e:i<=8):Num (Ps.dec (29+i).toNat) (29+i):=by
 have:=Ju (29+i).toNat (by omega);rwa [Int.toNat_of_nonneg (by omega)] at this
theorem N9:Num [49] 1:=Ju 1 (by omega)
theorem Jr (d:1<=i) (e:i<=8):(Ps.dec (29+i).toNat).length=2:=by
 unfold Ps.dec;rw [if_neg (by omega),if_pos (by omega)]
 rfl
structure VU (g:Gr) (c:aH) (x:List UInt8×Int) (l:List (List UInt8×Int)):Prop where
 texts:eD g c=x.1::l.map (·.1)
 first:Num x.1 x.2
 rest:∀ y∈l,Num y.1 y.2
 few:l.length<=2
 makes:fH g (x.2::l.map (·.2))=nP g c
 short:(Lib.join (eD g c) [59]).length<=4
theorem RX (B:0<=g.aA∧g.aA<=8) (c:aH) (A:0<=c.aA∧c.aA<=8) (y:oH g c=false):∃ x l,VU g c x l:=by
 by_cases t:jS g c=true
 ·-- all goes first
  by_cases d:c.bold=false
  ·by_cases m:c.aA=0
   ·have e:eD g c=[[]]:=(by simp [eD,t,d,m]);refine⟨([],0),[],⟨by rw [e];rfl,N8,by simp,by simp,?_,by rw [e];simp [Lib.join_one]⟩⟩;simp [fH,RQ,nP,d,m]
   ·have e:eD g c=[[],Ps.dec (29+c.aA).toNat]:=(by simp [eD,t,d,m]);have k:=N7 c.aA (by omega) (by omega);refine⟨([],0),[(Ps.dec (29+c.aA).toNat,29+c.aA)],⟨by rw [e];rfl,N8,by simpa using k,by simp,?_,?_⟩⟩
    ·simp [fH,RQ,NH _ c.aA (by omega) (by omega),nP,d]
    ·rw [e,Lib.join_cons];have:=Jr c.aA (by omega) (by omega);simp [Lib.joinTail,this]
  ·have r:c.bold=true:=(by simpa using d);by_cases m:c.aA=0
   ·have e:eD g c=[[],[49]]:=(by simp [eD,t,r,m]);refine⟨([],0),[([49],1)],⟨by rw [e];rfl,N8,by simpa using N9,by simp,?_,by rw [e,Lib.join_cons];simp [Lib.joinTail]⟩⟩;simp [fH,RQ,RS,nP,r,m]
   ·-- not at once
    exfalso;simp [jS,r,m] at t
 ·have o:jS g c=false:=(by simpa using t);have w:g.bold=true->c.bold=true:=by
   intro h;simp only [jS,h,Bool.true_and,Bool.or_eq_false_iff,Bool.not_eq_false'] at o;exact o.1
  have z:0 < g.aA->c.aA≠0:=by
   intro h v;simp [jS,h,v] at o
  by_cases d:c.bold=g.bold
  ·have m:c.aA≠g.aA:=by
    intro e;simp [oH,e,d] at y
   have e:eD g c=[Ps.dec (29+c.aA).toNat]:=(by simp [eD,o,d,m]);have k:=N7 c.aA (by omega) (by omega);refine⟨(Ps.dec (29+c.aA).toNat,29+c.aA),[],⟨by rw [e];rfl,k,by simp,by simp,?_,?_⟩⟩
   ·simp [fH,NH _ c.aA (by omega) (by omega),nP,d]
   ·rw [e,Lib.join_one];have:=Jr c.aA (by omega) (by omega);omega
  ·have s:c.bold=true:=by
    cases h:c.bold
    ·cases u:g.bold
     ·rw [h,u] at d;exact absurd rfl d
     ·exact absurd (w u) (by simp [h])
    ·rfl
   by_cases m:c.aA=g.aA
   ·have e:eD g c=[[49]]:=(by simp [eD,o,d,m]);refine⟨([49],1),[],⟨by rw [e];rfl,N9,by simp,by simp,?_,by rw [e];simp [Lib.join_one]⟩⟩;simp [fH,RS,nP,s,m]
   ·have e:eD g c=[[49],Ps.dec (29+c.aA).toNat]:=(by simp [eD,o,d,m]);have k:=N7 c.aA (by omega) (by omega);refine⟨([49],1),[(Ps.dec (29+c.aA).toNat,29+c.aA)],⟨by rw [e];rfl,N9,by simpa using k,by simp,?_,?_⟩⟩
    ·simp [fH,RS,NH _ c.aA (by omega) (by omega),nP,s]
    ·rw [e,Lib.join_cons];have:=Jr c.aA (by omega) (by omega);simp [Lib.joinTail,this]
theorem afZ (e:0<=g.aA∧g.aA<=8) (c:aH) (d:0<=c.aA∧c.aA<=8) (k:oH g c=false):Sends g (27::91::(uM g c++[109])) (nP g c)∧(27::91::(uM g c++[109])).length<=7:=by
 obtain⟨x,l,h⟩:=RX e c d k;refine⟨?_,?_⟩
 ·unfold uM;rw [h.texts];refine Gq (Ve x l 109 h.first h.rest (by have:=h.few;omega) (by decide) (by decide)) rfl ?_;show jH g 109 (x.2::l.map (·.2))=_;rw [Qy,h.makes]
 ·have:=h.short;unfold uM;simp;omega
theorem acS (d:OkG g) (c:aH) (e:0<=c.aA∧c.aA<=8):OkG (nP g c):=
 ⟨d.w1,d.w2,d.h1,d.h2,d.size,d.cells,d.r1,d.r2,d.c1,d.c2,e.1,e.2,d.t1,d.t2,d.t3⟩
structure Adds (p q:bU) (k:Nat):Prop where
 more:∃ m,q.out=p.out++m∧m.length<=k∧Sends p.g m q.g
theorem Adds.refl (p:bU):Adds p p 0:=⟨[],by simp,by simp,Uq _⟩
theorem Adds.trans {r:bU} (h:Adds p q a) (k:Adds q r b):Adds p r (a+b):=by
 obtain⟨m,d,_,e⟩:=h.more;obtain⟨n,o,_,s⟩:=k.more;exact⟨m++n,by rw [o,d,List.append_assoc],by simp;omega,e.append s⟩
theorem Adds.mono (h:Adds p q a) (k:a<=b):Adds p q b:=by
 obtain⟨m,d,_,e⟩:=h.more;exact⟨m,d,by omega,e⟩
theorem Adds.ok (h:Adds p q a) (e:OkG p.g):OkG q.g∧q.g.wide=p.g.wide∧q.g.high=p.g.high∧q.g.n=p.g.n:=by
 obtain⟨_,_,_,d⟩:=h.more;exact d.ok e
theorem Iw (m:OkG p.g) (r c:Int) (d:0<=r) (e:r < p.g.high) (h:0<=c) (k:c < p.g.wide):Adds p (dh p r c) 8:=
 ⟨_,rfl,(FW m r c d e h k).1,Uo m r c d e h k⟩
theorem WE (m:OkG p.g) (r c:Int) (d:0<=r) (e:r < p.g.high) (h:0<=c) (k:c < p.g.wide) (s:p.g.row=r) (o:p.g.col=c):Adds p (dh p r c) 0:=
 ⟨_,rfl,by rw [(FW m r c d e h k).2 s.symm o.symm];simp,Uo m r c d e h k⟩
theorem P5 (h:OkG p.g) (c:aH) (k:0<=c.aA∧c.aA<=8):Adds p (oz p c) 7∧(oz p c).g=nP p.g c:=by
 unfold oz;by_cases d:oH p.g c=true
 ·rw [if_pos d];refine⟨(Adds.refl p).mono (by omega),?_⟩;simp only [oH,Bool.and_eq_true,decide_eq_true_eq,beq_iff_eq] at d;unfold nP;rw [<-d.1, <-d.2]
 ·have e:oH p.g c=false:=(by simpa using d);rw [if_neg d];obtain⟨a,b⟩:=afZ ⟨h.i1,h.i2⟩ c k e;exact⟨⟨_,rfl,b,a⟩,rfl⟩
theorem WG (r:OkG p.g) (c:aH) (k:0<=c.aA∧c.aA<=8) (o:c.aJ=0) (h:jJ c.ch=true) (t:p.g.col < p.g.wide):Adds p (zx p c) 8∧(zx p c).g=zG (nP p.g c) c:=by
 obtain⟨a,e⟩:=P5 r c k;simp only [jJ,decide_eq_true_eq] at h;have m:(sH c).toNat=c.ch.toNat:=by unfold sH;simp;omega
 have s:=af2 (g:=nP p.g c) (sH c) (by omega) (by omega) (by simp only [nP];omega);have d:zG (oz p c).g c=zG (nP p.g c) c:=by rw [e]
 refine⟨a.trans (b:=1) ⟨[sH c],rfl,by simp,?_⟩,d⟩;show Sends (oz p c).g [sH c] (zG (oz p c).g c);rw [e];have:(⟨((sH c).toNat:Int),(nP p.g c).aA,0,(nP p.g c).bold⟩:aH)=c:=by
  rw [m,Int.toNat_of_nonneg (by omega), <-o]
  rfl
 rw [this] at s;exact s
variable (l:List UInt8) {f want:Nat->aH} {b c n j:Nat}
theorem Rh {c:aH} (h:bS c=true) (d:0 < c.aJ):c=⟨0,0,c.aJ,false⟩∧c.aJ<=8:=by
 unfold bS at h;simp only [Bool.or_eq_true,Bool.and_eq_true,decide_eq_true_eq,yS] at h;rcases h with (h | h) | h
 ·rw [h] at d;exact absurd d (by decide)
 ·exact⟨h.1,h.2.2⟩
 ·omega
theorem Rf {c:aH} (h:bS c=true) (e:¬ 0 < c.aJ) (d:dL c aX=false):c.aJ=0∧jJ c.ch=true∧0<=c.aA∧c.aA<=8:=by
 unfold bS at h;rw [d] at h;simp only [Bool.false_or,Bool.or_eq_true,Bool.and_eq_true,decide_eq_true_eq,rJ] at h;rcases h with h | h
 ·omega
 ·exact⟨h.1.1,h.1.2,h.2.1,h.2.2⟩
theorem Tz (f want:Nat->aH) (b c n:Nat):nL f want b c (n+1)=nL f want b c n++[nK f want b (c+n)]:=by
 unfold nL;rw [List.range_succ,List.map_append]
 rfl
theorem Tx (f want:Nat->aH) (b c n:Nat):(nL f want b c n).length=n:=by simp [nL]
theorem Tw (m:bS (want j)=true) (h:mh (f (b+j)) (want j)=true):(nK f want b j).toNat=96+(want j).aJ.toNat∧1<=(want j).aJ∧(want j).aJ<=8∧want j=⟨0,0,(want j).aJ,false⟩:=by
 unfold nK;rw [if_pos h];simp only [mh,Bool.and_eq_true,decide_eq_true_eq] at h;obtain⟨e,k⟩:=Rh m h.1;refine⟨?_,by omega,k,e⟩;have d:=h.1;generalize (want j).aJ=q at k d;simp;omega
theorem Tv (h:mh (f (b+j)) (want j)=false):nK f want b j=32:=by
 unfold nK;rw [if_neg (by rw [h];simp)]
theorem Qu (f want:Nat->aH) (b c:Nat):nC f want b c 0=f:=by
 funext i;unfold nC;rw [if_neg (by omega)]
theorem Qs (h:mh (f (b+(c+n))) (want (c+n))=false):nC f want b c (n+1)=nC f want b c n:=by
 funext i;unfold nC;by_cases e:i=b+(c+n)
 ·subst e;have:b+(c+n) - b=c+n:=(by omega);rw [this,if_neg (by rw [h];simp),if_neg (by rw [h];simp)]
 ·by_cases k:b+c<=i∧i < b+c+n∧mh (f i) (want (i - b))=true
  ·rw [if_pos k,if_pos ⟨k.1,by omega,k.2.2⟩]
  ·rw [if_neg k,if_neg (fun q=>k ⟨q.1,by omega,q.2.2⟩)]
theorem Qt (h:mh (f (b+(c+n))) (want (c+n))=true):nC f want b c (n+1)=gV (nC f want b c n) (b+(c+n)) (want (c+n)):=by
 funext i;unfold gV nC;by_cases e:i=b+(c+n)
 ·subst e;have:b+(c+n) - b=c+n:=(by omega);rw [this,if_pos ⟨by omega,by omega,h⟩,if_pos rfl]
 ·rw [if_neg e];by_cases k:b+c<=i∧i < b+c+n∧mh (f i) (want (i - b))=true
  ·rw [if_pos k,if_pos ⟨k.1,by omega,k.2.2⟩]
  ·rw [if_neg k,if_neg (fun q=>k ⟨q.1,by omega,q.2.2⟩)]
theorem ady {g:Gr} (k:OkG g) (w:g.col < g.wide) (want:Nat->aH) (u:∀ j,j < g.wide.toNat->bS (want j)=true):∀ n,n<=leftD g->
  (nL g.f want (rowAt g) g.col.toNat n).foldl (iV g) (g.f,g.row,aZ g)=(nC g.f want (rowAt g) g.col.toNat n,g.row,g.col+n):=by
 have t:aZ g=g.col:=by unfold aZ;omega
 have:=k.c1;obtain⟨_,_,_,_,_⟩:=k.nums;intro n;induction n with
 | zero=>
  intro _;rw [Qu,t];simp [nL]
 | succ n ih=>
  intro v;have:leftD g=g.wide.toNat - g.col.toNat:=rfl;rw [Tz,List.foldl_append,ih (by omega)];show iV g (nC g.f want (rowAt g) g.col.toNat n,g.row,g.col+n) (nK g.f want (rowAt g) (g.col.toNat+n))=_;have d:g.col+((n+1:Nat):Int)=g.col+(n:Int)+1:=(by omega);cases h:mh (g.f (rowAt g+(g.col.toNat+n))) (want (g.col.toNat+n))
  ·rw [Tv h,Qs h,d]
   rfl
  ·obtain⟨m,_,_,o⟩:=Tw (u _ (by omega)) h;rw [Qt h,d];unfold iV;rw [if_neg (fun e=>by rw [e] at m;have:(45:UInt8).toNat=45:=rfl;omega)];simp only;have r:((nK g.f want (rowAt g) (g.col.toNat+n)).toNat:Int) - 96=(want (g.col.toNat+n)).aJ:=(by omega);have s:(g.row*g.wide+(g.col+(n:Int))).toNat=rowAt g+(g.col.toNat+n):=(by unfold rowAt;omega);rw [if_pos ⟨by omega,by omega,k.r2,by omega⟩,r,s, <-o]
theorem adA (g:Gr) (s:(Nat->aH)×Int×Int) (m:Nat):((List.replicate m (32:UInt8)).foldl (iV g) s).1=s.1:=by
 induction m generalizing s with
 | zero=>rfl
 | succ m ih=>
  rw [List.replicate_succ,List.foldl_cons,ih]
  rfl
theorem ag7 (c:UInt8):l.takeWhile (·==c)=List.replicate (l.takeWhile (·==c)).length c:=by
 rw [List.eq_replicate_iff];refine⟨rfl,fun b d=>?_⟩;have:=List.all_takeWhile (l:=l) (p:=(·==c));rw [List.all_eq_true] at this;simpa using this b d
theorem UR (c:UInt8):∃ m,l=Lib.trimRightB l c++List.replicate m c:=by
 refine⟨(l.reverse.takeWhile (·==c)).length,?_⟩;have h:=List.takeWhile_append_dropWhile (p:=(·==c)) (l:=l.reverse);have d:=congrArg List.reverse h;rw [List.reverse_append,List.reverse_reverse,ag7,List.reverse_replicate] at d;unfold Lib.trimRightB;simpa using d.symm
theorem adq (k:∀ j,j < c+n->bS (want j)=true):∀ x∈nL f want b c n,32<=x.toNat∧x.toNat<=126:=by
 intro x d;unfold nL at d;rw [List.mem_map] at d;obtain⟨j,h,rfl⟩:=d;rw [List.mem_range] at h;cases e:mh (f (b+(c+j))) (want (c+j))
 ·rw [Tv e];decide
 ·obtain⟨_,_,_,_⟩:=Tw (k _ (by omega)) e;omega
theorem WC {p:bU} (h:OkG p.g) (y:p.g.col < p.g.wide) (want:Nat->aH) (r:∀ j,j < p.g.wide.toNat->bS (want j)=true):Adds p (uF p want) 28:=by
 have u:=h.c1;have w:=h.w2;have A:leftD p.g=p.g.wide.toNat - p.g.col.toNat:=rfl;have k:=ady h y want r (leftD p.g) (Nat.le_refl _);have o:∀ x∈nL p.g.f want (rowAt p.g) p.g.col.toNat (leftD p.g),32<=x.toNat∧x.toNat<=126:=adq (fun j z=>r j (by omega));have m:=Tx p.g.f want (rowAt p.g) p.g.col.toNat (leftD p.g);obtain⟨_,d⟩:=UR (nL p.g.f want (rowAt p.g) p.g.col.toNat (leftD p.g)) 32;have e:EZ p.g want=27::80::(Lib.trimRightB (nL p.g.f want (rowAt p.g) p.g.col.toNat (leftD p.g)) 32++[27,92]):=rfl;have v:IC p.g want={p.g with f:=nC p.g.f want (rowAt p.g) p.g.col.toNat (leftD p.g)}:=rfl;generalize Lib.trimRightB (nL p.g.f want (rowAt p.g) p.g.col.toNat (leftD p.g)) 32=t at d e;generalize nL p.g.f want (rowAt p.g) p.g.col.toNat (leftD p.g)=l at d k o m;have B:t.length<=24:=by
  have:=congrArg List.length d;rw [List.length_append,m] at this;omega
 refine⟨EZ p.g want,rfl,by rw [e];simp;omega,?_⟩;show Sends p.g (EZ p.g want) (IC p.g want);rw [e,v];refine Gq (Ps.ahN t (fun c s=>o c (by rw [d];simp [s])) (by omega)) rfl ?_;show {p.g with f:=(eZ p.g t).1}=_;have:(eZ p.g t).1=(l.foldl (iV p.g) (p.g.f,p.g.row,aZ p.g)).1:=by
  rw [d,List.foldl_append,adA]
  rfl
 rw [this,k]
end Go.Proofs.YtkcdcamophkdlaaGreatDoor
namespace Go.Proofs
open Go.Shelf
def Tryz.Sg : Go.Shelf.Ren := ⟨fun | 156 => 172 | 165 => 180 | 166 => 181 | 169 => 182 | 240 => 193 | 241 => 194 | 276 => 198 | 277 => 199 | n => n, fun | 31 => 192 | 9 => 9 | 3 => 3 | 4 => 4 | 0 => 0 | 20 => 20 | 72 => 203 | 76 => 207 | 70 => 201 | 37 => 106 | 75 => 206 | 127 => 219 | 164 => 225 | 5 => 5 | 80 => 209 | n => n, fun | n => n⟩
theorem Tryz.Sd: Go.Proofs.Lays.n156 Tryz.prog Tryz.Sg := {
  mixed := by kernel_rfl
  f156 := Tryz.func172.trans (congrArg some (by kernel_rfl))
  f165 := Tryz.func180.trans (congrArg some (by kernel_rfl))
  f166 := Tryz.func181.trans (congrArg some (by kernel_rfl))
  f169 := Tryz.func182.trans (congrArg some (by kernel_rfl))
  f240 := Tryz.func193.trans (congrArg some (by kernel_rfl))
  f241 := Tryz.func194.trans (congrArg some (by kernel_rfl))
  f276 := Tryz.func198.trans (congrArg some (by kernel_rfl))
  f277 := Tryz.func199.trans (congrArg some (by kernel_rfl))
  t0 := Tryz.underlying0
  a0 := Tryz.isAgg0
  z0 := Tryz.sizeOf0
  v0 := Tryz.zeroValue0
  t3 := Tryz.underlying3
  a3 := Tryz.isAgg3
  z3 := Tryz.sizeOf3
  v3 := Tryz.zeroValue3
  t4 := Tryz.underlying4
  a4 := Tryz.isAgg4
  z4 := Tryz.sizeOf4
  v4 := Tryz.zeroValue4
  t9 := Tryz.underlying9
  a9 := Tryz.isAgg9
  z9 := Tryz.sizeOf9
  v9 := Tryz.zeroValue9
  t20 := Tryz.underlying20
  a20 := Tryz.isAgg20
  z20 := Tryz.sizeOf20
  v20 := Tryz.zeroValue20
  t31 := Tryz.underlying192
  a31 := Tryz.isAgg192
  z31 := Tryz.sizeOf192
  v31 := Tryz.zeroValue192
  t37 := Tryz.underlying106
  a37 := Tryz.isAgg106
  z37 := Tryz.sizeOf106
  v37 := Tryz.zeroValue106
  t70 := Tryz.underlying201
  a70 := Tryz.isAgg201
  z70 := Tryz.sizeOf201
  v70 := Tryz.zeroValue201
  t72 := Tryz.underlying203
  a72 := Tryz.isAgg203
  z72 := Tryz.sizeOf203
  v72 := Tryz.zeroValue203
  t75 := Tryz.underlying206
  a75 := Tryz.isAgg206
  z75 := Tryz.sizeOf206
  v75 := Tryz.zeroValue206
  t76 := Tryz.underlying207
  a76 := Tryz.isAgg207
  z76 := Tryz.sizeOf207
  v76 := Tryz.zeroValue207
  t127 := Tryz.underlying219
  a127 := Tryz.isAgg219
  z127 := Tryz.sizeOf219
  v127 := Tryz.zeroValue219
  t164 := Tryz.underlying225
  a164 := Tryz.isAgg225
  z164 := Tryz.sizeOf225
  v164 := Tryz.zeroValue225 }
theorem Tryz.Pq: Builder.Extra Tryz.prog Tryz.Sg := {
  sizeBuilder := by kernel_rfl
  liesBuilder := by kernel_rfl
  t5 := Tryz.underlying5
  a5 := Tryz.isAgg5
  z5 := Tryz.sizeOf5
  v5 := Tryz.zeroValue5
  infoByte := by kernel_rfl
  cellsByte := by kernel_rfl
  sizeByte := by kernel_rfl
  neB5 := by decide }
open Go.RowKit in
/-- No element: the empty string; the world is as it was. (Whatever the slice's address and capacity: a nil slice too.) (LAID: no walk: one application.) -/
theorem Tryz.strings_Join_none (a:Option Addr) (c:Nat) (sep:ByteArray) (w:World):
    Calls Tryz.prog 172 #[.slice a 0 c, .string sep] w fun e w' => e = .returned (.string ⟨#[]⟩) ∧ w' = w := Any.strings_Join_none Tryz.Sd Tryz.Pq a c sep w
open Go.RowKit in
/-- strings.Join: "Join concatenates the elements of its first argument to create a single string. The separator string sep is placed between elements in the resulting string.": HOWEVER MANY ELEMENTS. Below the heap's end the world is as it was. (LAID: no walk: one application.) -/
theorem Tryz.strings_Join (bk o c:Nat) (xs:List ByteArray) (sep:ByteArray) (w:World) (hcells:∀ (j : Nat) x, xs[j]? = some x → w.cell? ⟨bk, o + j, none⟩ = some (.string x)) (hbk:bk < w.heap.size) (hN:xs.length ≤ 140737488355328) (hcap:xs.length ≤ c) (hlen:(Lib.join (xs.map (·.data.toList)) sep.data.toList).length ≤ 140737488355328):
    Calls Tryz.prog 172 #[.slice (some ⟨bk, o, none⟩) xs.length c, .string sep] w fun e w' => e = .returned (.string ⟨(Lib.join (xs.map (·.data.toList)) sep.data.toList).toArray⟩) ∧ Below w.heap.size w w' := Any.strings_Join Tryz.Sd Tryz.Pq bk o c xs sep w hcells hbk hN hcap hlen
def Tryz.abT : Go.Shelf.Ren := ⟨fun | 162 => 160 | 232 => 163 | 227 => 164 | 234 => 165 | 236 => 166 | 228 => 169 | 271 => 170 | 151 => 171 | 120 => 177 | 197 => 178 | 152 => 179 | 260 => 188 | 137 => 189 | 119 => 190 | 224 => 191 | 225 => 192 | 217 => 197 | 266 => 200 | n => n, fun | 9 => 9 | 4 => 4 | 3 => 3 | 5 => 5 | 117 => 182 | 116 => 181 | 0 => 0 | 124 => 185 | 21 => 21 | 105 => 189 | 46 => 214 | 119 => 221 | 139 => 224 | 138 => 223 | n => n, fun | 3 => 1 | 4 => 2 | n => n⟩
theorem Tryz.abS: Go.Proofs.Lays.n162 Tryz.prog Tryz.abT := {
  mixed := by kernel_rfl
  f119 := Tryz.func190.trans (congrArg some (by kernel_rfl))
  f120 := Tryz.func177.trans (congrArg some (by kernel_rfl))
  f137 := Tryz.func189.trans (congrArg some (by kernel_rfl))
  f151 := Tryz.func171.trans (congrArg some (by kernel_rfl))
  f152 := Tryz.func179.trans (congrArg some (by kernel_rfl))
  f162 := Tryz.func160.trans (congrArg some (by kernel_rfl))
  f197 := Tryz.func178.trans (congrArg some (by kernel_rfl))
  f217 := Tryz.func197.trans (congrArg some (by kernel_rfl))
  f224 := Tryz.func191.trans (congrArg some (by kernel_rfl))
  f225 := Tryz.func192.trans (congrArg some (by kernel_rfl))
  f227 := Tryz.func164.trans (congrArg some (by kernel_rfl))
  f228 := Tryz.func169.trans (congrArg some (by kernel_rfl))
  f232 := Tryz.func163.trans (congrArg some (by kernel_rfl))
  f234 := Tryz.func165.trans (congrArg some (by kernel_rfl))
  f236 := Tryz.func166.trans (congrArg some (by kernel_rfl))
  f260 := Tryz.func188.trans (congrArg some (by kernel_rfl))
  f266 := Tryz.func200.trans (congrArg some (by kernel_rfl))
  f271 := Tryz.func170.trans (congrArg some (by kernel_rfl))
  t0 := Tryz.underlying0
  a0 := Tryz.isAgg0
  z0 := Tryz.sizeOf0
  v0 := Tryz.zeroValue0
  t3 := Tryz.underlying3
  a3 := Tryz.isAgg3
  z3 := Tryz.sizeOf3
  v3 := Tryz.zeroValue3
  t4 := Tryz.underlying4
  a4 := Tryz.isAgg4
  z4 := Tryz.sizeOf4
  v4 := Tryz.zeroValue4
  t5 := Tryz.underlying5
  a5 := Tryz.isAgg5
  z5 := Tryz.sizeOf5
  v5 := Tryz.zeroValue5
  t9 := Tryz.underlying9
  a9 := Tryz.isAgg9
  z9 := Tryz.sizeOf9
  v9 := Tryz.zeroValue9
  t21 := Tryz.underlying21
  a21 := Tryz.isAgg21
  z21 := Tryz.sizeOf21
  v21 := Tryz.zeroValue21
  t46 := Tryz.underlying214
  a46 := Tryz.isAgg214
  z46 := Tryz.sizeOf214
  v46 := Tryz.zeroValue214
  t105 := Tryz.underlying189
  a105 := Tryz.isAgg189
  z105 := Tryz.sizeOf189
  v105 := Tryz.zeroValue189
  t116 := Tryz.underlying181
  a116 := Tryz.isAgg181
  z116 := Tryz.sizeOf181
  t117 := Tryz.underlying182
  a117 := Tryz.isAgg182
  z117 := Tryz.sizeOf182
  v117 := Tryz.zeroValue182
  t119 := Tryz.underlying221
  a119 := Tryz.isAgg221
  z119 := Tryz.sizeOf221
  t124 := Tryz.underlying185
  a124 := Tryz.isAgg185
  z124 := Tryz.sizeOf185
  v124 := Tryz.zeroValue185
  t138 := Tryz.underlying223
  a138 := Tryz.isAgg223
  z138 := Tryz.sizeOf223
  v138 := Tryz.zeroValue223
  t139 := Tryz.underlying224
  a139 := Tryz.isAgg224
  z139 := Tryz.sizeOf224
  v139 := Tryz.zeroValue224
  g3 := by kernel_rfl
  g4 := by kernel_rfl }
open Go.RowKit in
/-- strings.TrimRight: "TrimRight returns a slice of the string s, with all trailing Unicode code points contained in cutset removed.": AT A cutset OF ONE ASCII BYTE. The world is as it was. (LAID: no walk: one application.) -/
theorem Tryz.strings_TrimRight_one (s:ByteArray) (c:UInt8) (hc:c.toNat < 128) (w:World) (hs:s.size ≤ 9223372036854775807):
    Calls Tryz.prog 160 #[.string s, .string ⟨#[c]⟩] w fun e w' => e = .returned (.string ⟨(Lib.trimRightB s.data.toList c).toArray⟩) ∧ w' = w := Any.strings_TrimRight_one Tryz.abS s c hc w hs
def Tryz.abV : Go.Shelf.Ren := ⟨fun | 171 => 157 | 243 => 162 | 246 => 168 | 283 => 173 | 284 => 174 | 285 => 175 | 286 => 176 | 129 => 184 | 317 => 183 | 318 => 185 | 319 => 186 | 320 => 187 | 337 => 195 | 338 => 196 | n => n, fun | 3 => 3 | 9 => 9 | 2 => 2 | 4 => 4 | 171 => 194 | 0 => 0 | 53 => 195 | 37 => 106 | 5 => 5 | 173 => 198 | 212 => 211 | 51 => 212 | 20 => 20 | 213 => 213 | 46 => 214 | 232 => 228 | 233 => 229 | n => n, fun | 17 => 0 | 18 => 4 | 19 => 5 | n => n⟩
theorem Tryz.abU: Go.Proofs.Lays.n171 Tryz.prog Tryz.abV := {
  mixed := by kernel_rfl
  f129 := Tryz.func184.trans (congrArg some (by kernel_rfl))
  f171 := Tryz.func157.trans (congrArg some (by kernel_rfl))
  f243 := Tryz.func162.trans (congrArg some (by kernel_rfl))
  f246 := Tryz.func168.trans (congrArg some (by kernel_rfl))
  f283 := Tryz.func173.trans (congrArg some (by kernel_rfl))
  f284 := Tryz.func174.trans (congrArg some (by kernel_rfl))
  f285 := Tryz.func175.trans (congrArg some (by kernel_rfl))
  f286 := Tryz.func176.trans (congrArg some (by kernel_rfl))
  f317 := Tryz.func183.trans (congrArg some (by kernel_rfl))
  f318 := Tryz.func185.trans (congrArg some (by kernel_rfl))
  f319 := Tryz.func186.trans (congrArg some (by kernel_rfl))
  f320 := Tryz.func187.trans (congrArg some (by kernel_rfl))
  f337 := Tryz.func195.trans (congrArg some (by kernel_rfl))
  f338 := Tryz.func196.trans (congrArg some (by kernel_rfl))
  t0 := Tryz.underlying0
  a0 := Tryz.isAgg0
  z0 := Tryz.sizeOf0
  v0 := Tryz.zeroValue0
  t2 := Tryz.underlying2
  a2 := Tryz.isAgg2
  z2 := Tryz.sizeOf2
  v2 := Tryz.zeroValue2
  t3 := Tryz.underlying3
  a3 := Tryz.isAgg3
  z3 := Tryz.sizeOf3
  v3 := Tryz.zeroValue3
  t4 := Tryz.underlying4
  a4 := Tryz.isAgg4
  z4 := Tryz.sizeOf4
  v4 := Tryz.zeroValue4
  t5 := Tryz.underlying5
  a5 := Tryz.isAgg5
  z5 := Tryz.sizeOf5
  v5 := Tryz.zeroValue5
  t9 := Tryz.underlying9
  a9 := Tryz.isAgg9
  z9 := Tryz.sizeOf9
  v9 := Tryz.zeroValue9
  t20 := Tryz.underlying20
  a20 := Tryz.isAgg20
  z20 := Tryz.sizeOf20
  v20 := Tryz.zeroValue20
  t37 := Tryz.underlying106
  a37 := Tryz.isAgg106
  z37 := Tryz.sizeOf106
  v37 := Tryz.zeroValue106
  t46 := Tryz.underlying214
  a46 := Tryz.isAgg214
  z46 := Tryz.sizeOf214
  v46 := Tryz.zeroValue214
  t51 := Tryz.underlying212
  a51 := Tryz.isAgg212
  z51 := Tryz.sizeOf212
  v51 := Tryz.zeroValue212
  t53 := Tryz.underlying195
  a53 := Tryz.isAgg195
  z53 := Tryz.sizeOf195
  v53 := Tryz.zeroValue195
  t171 := Tryz.underlying194
  a171 := Tryz.isAgg194
  z171 := Tryz.sizeOf194
  v171 := Tryz.zeroValue194
  t173 := Tryz.underlying198
  a173 := Tryz.isAgg198
  z173 := Tryz.sizeOf198
  v173 := Tryz.zeroValue198
  t212 := Tryz.underlying211
  a212 := Tryz.isAgg211
  z212 := Tryz.sizeOf211
  v212 := Tryz.zeroValue211
  t213 := Tryz.underlying213
  a213 := Tryz.isAgg213
  z213 := Tryz.sizeOf213
  t232 := Tryz.underlying228
  a232 := Tryz.isAgg228
  z232 := Tryz.sizeOf228
  v232 := Tryz.zeroValue228
  t233 := Tryz.underlying229
  a233 := Tryz.isAgg229
  z233 := Tryz.sizeOf229
  v233 := Tryz.zeroValue229
  g17 := by kernel_rfl
  g18 := by kernel_rfl
  g19 := by kernel_rfl }
open Go.RowKit Go.Sort Go.Lib in
/-- THE ROAD WITHOUT THE TABLE: 0 <= i < 100: NO PREMISE ON THE WORLD, AND THE WORLD IS AS IT WAS: a row that keeps its argument in that range need list no table ('laid = []'). (LAID: no walk: one application.) -/
theorem Tryz.strconv_Itoa_small (i:Nat) (hi:i < 100) (w:World):
    Calls Tryz.prog 157 #[.int .i64 i] w fun e w' => e = .returned (.string ⟨(Lib.decDigits i).toArray⟩) ∧ w' = w := Any.strconv_Itoa_small Tryz.abU i hi w
end Go.Proofs
