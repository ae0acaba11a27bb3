import Derived.Test.YtkcdcamophkdlaaGreatDoorAA
import Derived.Test.YtkcdcamophkdlaaGreatDoorRows
import Derived.WalkSpells
import Derived.WalkLawsBesides
import Derived.Laws.CopyOwn
import Derived.BigQuiet
set_option maxHeartbeats 1000000
open Go.Proofs.Tryz
namespace Go.Proofs.YtkcdcamophkdlaaGreatDoor
variable {n a b k:Nat} {w r h:Int}
structure aH where
 ch:Int
 aA:Int
 aJ:Int
 bold:Bool
def aX:aH:=⟨0,0,0,false⟩
def dL (c d:aH):Bool:=decide (c.ch=d.ch) && decide (c.aA=d.aA) && decide (c.aJ=d.aJ) && (c.bold==d.bold)
theorem yS (c d:aH):dL c d=true↔c=d:=by
 obtain⟨_,_,_,_⟩:=c;obtain⟨_,_,_,_⟩:=d;simp [dL,and_assoc]
structure Gr where
 wide:Int
 high:Int
 n:Nat
 f:Nat->aH
 row:Int
 col:Int
 aA:Int
 bold:Bool
 top:Int
 bottom:Int
structure gM where
 kind:Int
 b:Int
 ps:List Int
 pl:ByteArray
def jJ (b:Int):Bool:=decide (32<=b∧b<=126)
def rJ (b:Int):Bool:=decide (0<=b∧b<=8)
def bS (c:aH):Bool:=dL c aX || (dL c ⟨0,0,c.aJ,false⟩ && decide (1<=c.aJ∧c.aJ<=8)) || (decide (c.aJ=0) && jJ c.ch && rJ c.aA)
def wD (g:Gr):Bool:=decide (1<=g.wide∧g.wide<=24∧1<=g.high∧g.high<=10)
def qK (f:Nat->aH) (k:Nat):Bool:=(List.range k).all fun i=>bS (f i)
def sG (g:Gr):Bool:=decide ((g.n:Int)=g.wide*g.high) && qK g.f g.n
def Ai (g:Gr):Bool:=decide (0<=g.row∧g.row < g.high∧0<=g.col∧g.col<=g.wide) && rJ g.aA
def kE (g:Gr):Bool:=wD g && sG g && Ai g && decide (0<=g.top∧g.top < g.bottom∧g.bottom<=g.high)
structure OkG (g:Gr):Prop where
 w1:1<=g.wide
 w2:g.wide<=24
 h1:1<=g.high
 h2:g.high<=10
 size:(g.n:Int)=g.wide*g.high
 cells:∀ i,i < g.n->bS (g.f i)=true
 r1:0<=g.row
 r2:g.row < g.high
 c1:0<=g.col
 c2:g.col<=g.wide
 i1:0<=g.aA
 i2:g.aA<=8
 t1:0<=g.top
 t2:g.top < g.bottom
 t3:g.bottom<=g.high
theorem JZ (f:Nat->aH) (k:Nat):qK f k=true↔∀ i,i < k->bS (f i)=true:=by
 simp [qK,List.all_eq_true]
theorem U3 (f:Nat->aH) (k:Nat):qK f (k+1)=(qK f k && bS (f k)):=by
 unfold qK;rw [List.range_succ,List.all_append];simp
theorem iT (g:Gr):kE g=true↔OkG g:=by
 constructor
 ·intro h;simp only [kE,wD,sG,Ai,rJ,Bool.and_eq_true,decide_eq_true_eq,JZ] at h;obtain⟨⟨⟨⟨e,i,j,l⟩,q,s⟩,⟨u,v,x,y⟩,z,A⟩,c1,c2,c3⟩:=h;exact⟨e,i,j,l,q,s,u,v,x,y,z,A,c1,c2,c3⟩
 ·intro h;simp only [kE,wD,sG,Ai,rJ,Bool.and_eq_true,decide_eq_true_eq,JZ];exact⟨⟨⟨⟨h.w1,h.w2,h.h1,h.h2⟩,h.size,h.cells⟩,⟨h.r1,h.r2,h.c1,h.c2⟩,h.i1,h.i2⟩,h.t1,h.t2,h.t3⟩
def kK (f:Nat->aH) (a b k:Nat):Nat->aH:=fun i=>if a<=i∧i < b then (if i+k < b then f (i+k) else aX) else f i
def mO (f:Nat->aH) (a b k:Nat):Nat->aH:=fun i=>if a<=i∧i < b then (if a+k<=i then f (i - k) else aX) else f i
def gT (f:Nat->aH) (a b:Nat):Nat->aH:=fun i=>if a<=i∧i < b then aX else f i
def gV (f:Nat->aH) (a:Nat) (c:aH):Nat->aH:=fun i=>if i=a then c else f i
def aZ (g:Gr):Int:=min g.col (g.wide - 1)
def newG (wide high:Int):Gr:=⟨max 1 (min wide 24),max 1 (min high 10),(max 1 (min wide 24)*max 1 (min high 10)).toNat,fun _=>aX,0,0,0,false,0,max 1 (min high 10)⟩
def iB (g:Gr):Gr:=
 if g.row=g.bottom - 1 then {g with f:=kK g.f (g.top*g.wide).toNat (g.bottom*g.wide).toNat g.wide.toNat}
 else {g with row:=min (g.row+1) (g.high - 1)}
def lX (g:Gr):Gr:=if g.col=g.wide then iB {g with col:=0} else g
def xW (g:Gr) (b:Int):Gr:={g with f:=gV g.f (g.row*g.wide+g.col).toNat ⟨b,g.aA,0,g.bold⟩,col:=g.col+1}
def Dt (g:Gr) (b:Int):Gr:=xW (lX g) b
def uG (g:Gr) (b:Int):Gr:=
 if b=8 then {g with col:=max (aZ g - 1) 0}
 else if b=9 then {g with col:=min ((g.col / 8+1)*8) (g.wide - 1)}
 else if b=10 then iB g
 else if b=13 then {g with col:=0}
 else g
def fE (ps:List Int) (i:Nat):Int:=max 0 (min (ps.getD i 0) 999)
def lY (f:Nat->aH) (a m p:Nat) (which:Int):Nat->aH:=
 if which=0 then gT f (a+p) (a+m) else if which=1 then gT f a (a+p+1) else if which=2 then gT f a (a+m) else f
def mY (g:Gr) (n:Int) (move:(Nat->aH)->Nat->Nat->Nat->(Nat->aH)):Gr:=
 if g.row < g.top∨g.bottom<=g.row then g
 else {g with f:=move g.f (g.row*g.wide).toNat (g.bottom*g.wide).toNat (min n (g.bottom - g.row)*g.wide).toNat,col:=0}
def o9 (g:Gr) (n:Int):Gr:=
 if n=0 then {g with aA:=0,bold:=false}
 else if n=1 then {g with bold:=true}
 else if n=22 then {g with bold:=false}
 else if 30<=n∧n<=37 then {g with aA:=n - 29}
 else if n=39 then {g with aA:=0}
 else g
def fH (g:Gr) (ps:List Int):Gr:=ps.foldl o9 g
def oU (g:Gr) (bottom:Int):Int:=if bottom=0∨g.high < bottom then g.high else bottom
def nM (g:Gr) (n bottom:Int):Gr:=
 if n<=oU g bottom then {g with top:=n - 1,bottom:=oU g bottom,row:=0,col:=0} else g
def jH (g:Gr) (b:Int) (ps:List Int):Gr:=
 let n:=max (fE ps 0) 1
 if b=65 then {g with row:=max (g.row - n) 0}
 else if b=66 then {g with row:=min (g.row+n) (g.high - 1)}
 else if b=67 then {g with col:=min (g.col+n) (g.wide - 1)}
 else if b=68 then {g with col:=max (aZ g - n) 0}
 else if b=72 then {g with row:=min n g.high - 1,col:=max 1 (min (fE ps 1) g.wide) - 1}
 else if b=74 then {g with f:=lY g.f 0 g.n (g.row*g.wide+aZ g).toNat (fE ps 0)}
 else if b=75 then {g with f:=lY g.f (g.row*g.wide).toNat g.wide.toNat (aZ g).toNat (fE ps 0)}
 else if b=76 then mY g n mO
 else if b=77 then mY g n kK
 else if b=109 then fH g ps
 else if b=114 then nM g n (fE ps 1)
 else g
def iV (g:Gr) (s:(Nat->aH)×Int×Int) (c:UInt8):(Nat->aH)×Int×Int:=
 if c=45 then (s.1,s.2.1+1,aZ g)
 else (if 97<=c.toNat∧c.toNat<=104∧(s.2.1 < g.high∧s.2.2 < g.wide) then gV s.1 (s.2.1*g.wide+s.2.2).toNat ⟨0,0,(c.toNat:Int) - 96,false⟩ else s.1,s.2.1,s.2.2+1)
def eZ (g:Gr) (l:List UInt8):(Nat->aH)×Int×Int:=l.foldl (iV g) (g.f,g.row,aZ g)
def TA (g:Gr) (pl:ByteArray):Gr:={g with f:=(eZ g pl.data.toList).1}
def dV (e:gM):Int:=if e.kind=1 then (if jJ e.b then 0 else 6) else if 2<=e.kind∧e.kind<=5 then 0 else 2
def nZ (g:Gr) (e:gM):Gr:=
 if e.kind=1 then Dt g e.b
 else if e.kind=2 then uG g e.b
 else if e.kind=3 then jH g e.b e.ps
 else if e.kind=4 then TA g e.pl
 else newG g.wide g.high
def iR:Gr->List gM->Gr×Int
 | g,[]=>(g,0)
 | g,e::l=>if dV e=0 then iR (nZ g e) l else (g,dV e)
def qX (g:Gr) (e:gM):Gr×Int:=if kE g then (if dV e=0 then (nZ g e,0) else (g,dV e)) else (g,1)
theorem CS:bS aX=true:=by decide
theorem aag (k:Int) (e:1<=k) (i:k<=8):bS ⟨0,0,k,false⟩=true:=by simp [bS,dL,e,i]
theorem CQ (b i:Int) (o:Bool) (l:jJ b=true) (e:0<=i) (j:i<=8):bS ⟨b,i,0,o⟩=true:=by simp [bS,l,rJ,e,j]
theorem Rb {f:Nat->aH} (h:∀ i,i < n->bS (f i)=true) (j:b<=n):∀ i,i < n->bS (kK f a b k i)=true:=by
 intro i e;unfold kK;split
 ·split
  ·exact h _ (by omega)
  ·exact CS
 ·exact h i e
theorem aaf {f:Nat->aH} (h:∀ i,i < n->bS (f i)=true):∀ i,i < n->bS (mO f a b k i)=true:=by
 intro i e;unfold mO;split
 ·split
  ·exact h _ (by omega)
  ·exact CS
 ·exact h i e
theorem MF {f:Nat->aH} (h:∀ i,i < n->bS (f i)=true):∀ i,i < n->bS (gT f a b i)=true:=by
 intro i e;unfold gT;split
 ·exact CS
 ·exact h i e
theorem Ra {f:Nat->aH} {c:aH} (h:∀ i,i < n->bS (f i)=true) (e:bS c=true):∀ i,i < n->bS (gV f a c i)=true:=by
 intro i j;unfold gV;split
 ·exact e
 ·exact h i j
theorem p8 (j:0<=r) (l:r < h) (e:0<=w):0<=r*w∧r*w+w<=h*w:=by
 refine⟨Int.mul_nonneg j e,?_⟩;have i:(r+1)*w<=h*w:=Int.mul_le_mul_of_nonneg_right (by omega) e;rw [Int.add_mul] at i;omega
theorem rR (e:r<=h) (i:0<=w):r*w<=h*w:=Int.mul_le_mul_of_nonneg_right e i
theorem OkG.nums {g:Gr} (h:OkG g):(g.n:Int)=g.high*g.wide∧g.high*g.wide<=240∧0<=g.row*g.wide∧g.row*g.wide+g.wide<=g.high*g.wide∧0<=g.top*g.wide∧g.top*g.wide+g.wide<=g.bottom*g.wide∧g.bottom*g.wide<=g.high*g.wide:=by
 have e:0<=g.wide:=by have:=h.w1;omega
 have i:=p8 h.r1 h.r2 e;have j:=p8 h.t1 h.t2 e;have l:=rR h.t3 e;have:g.high*g.wide<=10*g.wide:=rR h.h2 e;have:=h.w2;refine⟨by rw [h.size,Int.mul_comm],by omega,i.1,i.2,j.1,j.2,l⟩
theorem SX {g:Gr} (h:OkG g):OkG (iB g)∧(iB g).wide=g.wide∧(iB g).high=g.high∧(iB g).n=g.n:=by
 obtain⟨_,_,_,_,_,_,_⟩:=h.nums;have:=h.r2;have:=h.r1;have:=h.h1;unfold iB;split
 ·exact⟨⟨h.w1,h.w2,h.h1,h.h2,h.size,Rb (n:=g.n) h.cells (by omega),h.r1,h.r2,h.c1,h.c2,h.i1,h.i2,h.t1,h.t2,h.t3⟩,rfl,rfl,rfl⟩
 ·exact⟨⟨h.w1,h.w2,h.h1,h.h2,h.size,h.cells,by simp only;omega,by simp only;omega,h.c1,h.c2,h.i1,h.i2,h.t1,h.t2,h.t3⟩,rfl,rfl,rfl⟩
theorem Od {g:Gr} (h:OkG g):OkG (lX g)∧(lX g).col < (lX g).wide∧(lX g).wide=g.wide∧(lX g).high=g.high∧(lX g).n=g.n:=by
 have:=h.w1;have:=h.c1;have:=h.c2;unfold lX;split
 ·have j:OkG {g with col:=0}:=⟨h.w1,h.w2,h.h1,h.h2,h.size,h.cells,h.r1,h.r2,by simp,by simp only;omega,h.i1,h.i2,h.t1,h.t2,h.t3⟩;obtain⟨l,i,q,s⟩:=SX j;refine⟨l,?_,i,q,s⟩;have e:(iB {g with col:=0}).col=0:=(by unfold iB;split <;>rfl);rw [e,i];simp only;omega
 ·exact⟨h,by omega,rfl,rfl,rfl⟩
theorem SQ {g:Gr} (h:OkG g) (b:Int) (l:jJ b=true):OkG (Dt g b)∧(Dt g b).wide=g.wide∧(Dt g b).high=g.high∧(Dt g b).n=g.n:=by
 obtain⟨k,_,e,i,j⟩:=Od h;have:=k.c1;refine⟨⟨k.w1,k.w2,k.h1,k.h2,k.size,Ra k.cells (CQ _ _ _ l k.i1 k.i2),k.r1,k.r2,?_,?_,k.i1,k.i2,k.t1,k.t2,k.t3⟩,e,i,j⟩
 ·show 0<=(lX g).col+1;omega
 ·show (lX g).col+1<=(lX g).wide;omega
theorem SK {g:Gr} (h:OkG g) (b:Int):OkG (uG g b)∧(uG g b).wide=g.wide∧(uG g b).high=g.high∧(uG g b).n=g.n:=by
 have:=h.w1;have:=h.c1;have:=h.c2;unfold uG aZ;split
 ·exact⟨⟨h.w1,h.w2,h.h1,h.h2,h.size,h.cells,h.r1,h.r2,by simp only;omega,by simp only;omega,h.i1,h.i2,h.t1,h.t2,h.t3⟩,rfl,rfl,rfl⟩
 ·split
  ·exact⟨⟨h.w1,h.w2,h.h1,h.h2,h.size,h.cells,h.r1,h.r2,by simp only;omega,by simp only;omega,h.i1,h.i2,h.t1,h.t2,h.t3⟩,rfl,rfl,rfl⟩
  ·split
   ·exact SX h
   ·split
    ·exact⟨⟨h.w1,h.w2,h.h1,h.h2,h.size,h.cells,h.r1,h.r2,by simp only;omega,by simp only;omega,h.i1,h.i2,h.t1,h.t2,h.t3⟩,rfl,rfl,rfl⟩
    ·exact⟨h,rfl,rfl,rfl⟩
theorem Q9 {f:Nat->aH} {m p:Nat} (h:∀ i,i < n->bS (f i)=true):∀ i,i < n->bS (lY f a m p w i)=true:=by
 unfold lY;split
 ·exact MF h
 ·split
  ·exact MF h
  ·split
   ·exact MF h
   ·exact h
theorem SS {g:Gr} (h:OkG g) (n:Int) (e:(Nat->aH)->Nat->Nat->Nat->(Nat->aH)) (i:e=kK∨e=mO):OkG (mY g n e)∧(mY g n e).wide=g.wide∧(mY g n e).high=g.high∧(mY g n e).n=g.n:=by
 obtain⟨_,_,_,_,_,_,_⟩:=h.nums;have:=h.w1;unfold mY;split
 ·exact⟨h,rfl,rfl,rfl⟩
 ·refine⟨⟨h.w1,h.w2,h.h1,h.h2,h.size,?_,h.r1,h.r2,by simp,by simp only;omega,h.i1,h.i2,h.t1,h.t2,h.t3⟩,rfl,rfl,rfl⟩;rcases i with rfl | rfl
  ·exact Rb (n:=g.n) h.cells (by omega)
  ·exact aaf h.cells
theorem acK {g:Gr} (h:OkG g) (n:Int):OkG (o9 g n)∧(o9 g n).wide=g.wide∧(o9 g n).high=g.high∧(o9 g n).n=g.n∧(o9 g n).f=g.f:=by
 have a:∀ (k:Int) (o:Bool),0<=k->k<=8->OkG {g with aA:=k,bold:=o}:=fun k o e i=>⟨h.w1,h.w2,h.h1,h.h2,h.size,h.cells,h.r1,h.r2,h.c1,h.c2,e,i,h.t1,h.t2,h.t3⟩;unfold o9;split
 ·exact⟨a 0 false (by omega) (by omega),rfl,rfl,rfl,rfl⟩
 ·split
  ·exact⟨a g.aA true h.i1 h.i2,rfl,rfl,rfl,rfl⟩
  ·split
   ·exact⟨a g.aA false h.i1 h.i2,rfl,rfl,rfl,rfl⟩
   ·split
    ·exact⟨a (n - 29) g.bold (by omega) (by omega),rfl,rfl,rfl,rfl⟩
    ·split
     ·exact⟨a 0 g.bold (by omega) (by omega),rfl,rfl,rfl,rfl⟩
     ·exact⟨h,rfl,rfl,rfl,rfl⟩
theorem Oh {g:Gr} (h:OkG g) (e:List Int):OkG (fH g e)∧(fH g e).wide=g.wide∧(fH g e).high=g.high∧(fH g e).n=g.n∧(fH g e).f=g.f:=by
 unfold fH;induction e generalizing g with
 | nil=>exact⟨h,rfl,rfl,rfl,rfl⟩
 | cons x r ih=>
  obtain⟨k,s,u,v,y⟩:=acK h x;obtain⟨z,i,j,l,q⟩:=ih k;exact⟨z,i.trans s,j.trans u,l.trans v,q.trans y⟩
theorem acO {g:Gr} (h:OkG g) (n b:Int) (i:1<=n):OkG (nM g n b)∧(nM g n b).wide=g.wide∧(nM g n b).high=g.high∧(nM g n b).n=g.n:=by
 have e:oU g b<=g.high:=by unfold oU;split <;>omega
 have:=h.h1;have:=h.w1;unfold nM;split
 ·exact⟨⟨h.w1,h.w2,h.h1,h.h2,h.size,h.cells,by simp,by simp only;omega,by simp,by simp only;omega,h.i1,h.i2,by simp only;omega,by simp only;omega,e⟩,rfl,rfl,rfl⟩
 ·exact⟨h,rfl,rfl,rfl⟩
def q8 (ps:List Int):Int:=max (fE ps 0) 1
theorem Yw (g:Gr) (e:List Int):jH g 65 e={g with row:=max (g.row - q8 e) 0}:=rfl
theorem Yx (g:Gr) (e:List Int):jH g 66 e={g with row:=min (g.row+q8 e) (g.high - 1)}:=rfl
theorem Yy (g:Gr) (e:List Int):jH g 67 e={g with col:=min (g.col+q8 e) (g.wide - 1)}:=rfl
theorem Yz (g:Gr) (e:List Int):jH g 68 e={g with col:=max (aZ g - q8 e) 0}:=rfl
theorem Qz (g:Gr) (e:List Int):jH g 72 e={g with row:=min (q8 e) g.high - 1,col:=max 1 (min (fE e 1) g.wide) - 1}:=rfl
theorem Mc (g:Gr) (e:List Int):jH g 74 e={g with f:=lY g.f 0 g.n (g.row*g.wide+aZ g).toNat (fE e 0)}:=rfl
theorem E8 (g:Gr) (e:List Int):jH g 75 e={g with f:=lY g.f (g.row*g.wide).toNat g.wide.toNat (aZ g).toNat (fE e 0)}:=rfl
theorem YA (g:Gr) (e:List Int):jH g 76 e=mY g (q8 e) mO:=rfl
theorem YB (g:Gr) (e:List Int):jH g 77 e=mY g (q8 e) kK:=rfl
theorem Qy (g:Gr) (e:List Int):jH g 109 e=fH g e:=rfl
theorem Yv (g:Gr) (e:List Int):jH g 114 e=nM g (q8 e) (fE e 1):=rfl
theorem Md (g:Gr) (b:Int) (A:List Int) (j:b≠65) (l:b≠66) (q:b≠67) (s:b≠68) (u:b≠72) (v:b≠74) (x:b≠75) (y:b≠76) (z:b≠77) (e:b≠109) (i:b≠114):jH g b A=g:=by
 unfold jH;rw [if_neg j,if_neg l,if_neg q,if_neg s,if_neg u,if_neg v,if_neg x,if_neg y,if_neg z,if_neg e,if_neg i]
theorem SI {g:Gr} (h:OkG g) (b:Int) (e:List Int):OkG (jH g b e)∧(jH g b e).wide=g.wide∧(jH g b e).high=g.high∧(jH g b e).n=g.n:=by
 have q:1<=q8 e:=by unfold q8;omega
 obtain⟨m,i⟩:∃ m,m=q8 e:=⟨_,rfl⟩;have:=h.w1;have:=h.h1;have:=h.c1;have:=h.c2;have:=h.r1;have:=h.r2;rw [<-i] at q;by_cases s:b=65
 ·subst s;rw [Yw, <-i];exact⟨⟨h.w1,h.w2,h.h1,h.h2,h.size,h.cells,by simp only;omega,by simp only;omega,h.c1,h.c2,h.i1,h.i2,h.t1,h.t2,h.t3⟩,rfl,rfl,rfl⟩
 by_cases u:b=66
 ·subst u;rw [Yx, <-i];exact⟨⟨h.w1,h.w2,h.h1,h.h2,h.size,h.cells,by simp only;omega,by simp only;omega,h.c1,h.c2,h.i1,h.i2,h.t1,h.t2,h.t3⟩,rfl,rfl,rfl⟩
 by_cases v:b=67
 ·subst v;rw [Yy, <-i];exact⟨⟨h.w1,h.w2,h.h1,h.h2,h.size,h.cells,h.r1,h.r2,by simp only;omega,by simp only;omega,h.i1,h.i2,h.t1,h.t2,h.t3⟩,rfl,rfl,rfl⟩
 by_cases x:b=68
 ·subst x;rw [Yz, <-i];unfold aZ;exact⟨⟨h.w1,h.w2,h.h1,h.h2,h.size,h.cells,h.r1,h.r2,by simp only;omega,by simp only;omega,h.i1,h.i2,h.t1,h.t2,h.t3⟩,rfl,rfl,rfl⟩
 by_cases y:b=72
 ·subst y;rw [Qz, <-i];exact⟨⟨h.w1,h.w2,h.h1,h.h2,h.size,h.cells,by simp only;omega,by simp only;omega,by simp only;omega,by simp only;omega,h.i1,h.i2,h.t1,h.t2,h.t3⟩,rfl,rfl,rfl⟩
 by_cases z:b=74
 ·subst z;rw [Mc];exact⟨⟨h.w1,h.w2,h.h1,h.h2,h.size,Q9 (n:=g.n) h.cells,h.r1,h.r2,h.c1,h.c2,h.i1,h.i2,h.t1,h.t2,h.t3⟩,rfl,rfl,rfl⟩
 by_cases A:b=75
 ·subst A;rw [E8];exact⟨⟨h.w1,h.w2,h.h1,h.h2,h.size,Q9 (n:=g.n) h.cells,h.r1,h.r2,h.c1,h.c2,h.i1,h.i2,h.t1,h.t2,h.t3⟩,rfl,rfl,rfl⟩
 by_cases C:b=76
 ·subst C;rw [YA];exact SS h _ _ (.inr rfl)
 by_cases D:b=77
 ·subst D;rw [YB];exact SS h _ _ (.inl rfl)
 by_cases j:b=109
 ·subst j;rw [Qy];obtain⟨k,E,F,G,_⟩:=Oh h e;exact⟨k,E,F,G⟩
 by_cases l:b=114
 ·subst l;rw [Yv];exact acO h _ _ (by rw [<-i];exact q)
 rw [Md g b e s u v x y z A C D j l];exact⟨h,rfl,rfl,rfl⟩
theorem adz {g:Gr} (h:∀ i,i < g.n->bS (g.f i)=true) (l:List UInt8):∀ i,i < g.n->bS ((eZ g l).1 i)=true:=by
 suffices H:∀ (l:List UInt8) (s:(Nat->aH)×Int×Int),(∀ i,i < g.n->bS (s.1 i)=true)->∀ i,i < g.n->bS ((l.foldl (iV g) s).1 i)=true from H l _ h
 intro l;induction l with
 | nil=>intro s e;exact e
 | cons c r ih=>
  intro s e;refine ih _ ?_;unfold iV;split
  ·exact e
  ·simp only;split
   ·exact Ra e (aag _ (by omega) (by omega))
   ·exact e
theorem sQ (wide high:Int):OkG (newG wide high):=by
 have h:0<=max 1 (min wide 24)*max 1 (min high 10):=Int.mul_nonneg (by omega) (by omega);refine⟨?_,?_,?_,?_,Int.toNat_of_nonneg h,fun _ _=>CS,?_,?_,?_,?_,?_,?_,?_,?_,?_⟩ <;>simp only [newG] <;>omega
theorem Dm {g:Gr} (h:OkG g):(newG g.wide g.high).wide=g.wide∧(newG g.wide g.high).high=g.high∧(newG g.wide g.high).n=g.n:=by
 have:=h.w1;have:=h.w2;have:=h.h1;have:=h.h2;have e:max 1 (min g.wide 24)=g.wide:=by omega
 have i:max 1 (min g.high 10)=g.high:=by omega
 refine⟨e,i,?_⟩;show (max 1 (min g.wide 24)*max 1 (min g.high 10)).toNat=g.n;rw [e,i, <-h.size];exact Int.toNat_natCast _
theorem Og {g:Gr} (h:OkG g) (e:gM) (i:dV e=0):OkG (nZ g e)∧(nZ g e).wide=g.wide∧(nZ g e).high=g.high∧(nZ g e).n=g.n:=by
 unfold nZ;split
 ·next hk=>
  refine SQ h _ ?_;simp only [dV,hk,if_true] at i;cases j:jJ e.b
  ·simp [j] at i
  ·rfl
 ·split
  ·exact SK h _
  ·split
   ·exact SI h _ _
   ·split
    ·exact⟨⟨h.w1,h.w2,h.h1,h.h2,h.size,adz h.cells _,h.r1,h.r2,h.c1,h.c2,h.i1,h.i2,h.t1,h.t2,h.t3⟩,rfl,rfl,rfl⟩
    ·exact⟨sQ _ _,Dm h⟩
open Go.RowKit
variable (b:Int) (w:World) (o1 o2 o3:Obj) {c0 c1 c2 c3:Value} {t:TypeId} {o:Obj}
@[reducible] def bE (g:Gr) (ao:Option Addr) (cap:Nat):Array Value:=#[.int .i64 g.wide,.int .i64 g.high,.slice ao g.n cap,.int .i64 g.row,.int .i64 g.col,.int .i64 g.aA,.bool g.bold,.int .i64 g.top,.int .i64 g.bottom]
@[reducible] def ay (g:Gr) (ao:Option Addr) (cap:Nat):Value:=.agg (bE g ao cap)
@[reducible] def aB (g:Gr) (ao:Option Addr) (cap:Nat):Obj:=.cells (bE g ao cap) 33
@[reducible] def yR (c:aH):Array Value:=#[.int .i64 c.ch,.int .i64 c.aA,.int .i64 c.aJ,.bool c.bold]
@[reducible] def cval (c:aH):Value:=.agg (yR c)
def pO (c:aH) (j:Nat):Option Value:=(yR c)[j]?
theorem nine {w:World} {b:Nat} {e i l q s:Value} (h:w.heap[b]?=some (.cells #[c0,c1,c2,c3,e,i,l,q,s] t (0,0))):
  (w.cell? ⟨b,0,none⟩=some c0∧w.cell? ⟨b,1,none⟩=some c1∧w.cell? ⟨b,2,none⟩=some c2∧w.cell? ⟨b,3,none⟩=some c3∧w.cell? ⟨b,4,none⟩=some e∧w.cell? ⟨b,5,none⟩=some i∧w.cell? ⟨b,6,none⟩=some l∧w.cell? ⟨b,7,none⟩=some q∧w.cell? ⟨b,8,none⟩=some s)∧
  (∀ j,w.frozen? ⟨b,j,none⟩=false):=
 ⟨⟨cell_of_row w b 0 _ t _ h,cell_of_row w b 1 _ t _ h,cell_of_row w b 2 _ t _ h,cell_of_row w b 3 _ t _ h,cell_of_row w b 4 _ t _ h,cell_of_row w b 5 _ t _ h,cell_of_row w b 6 _ t _ h,cell_of_row w b 7 _ t _ h,cell_of_row w b 8 _ t _ h⟩,fun j=>frozen_of_row w b j _ t h⟩
theorem four {w:World} {b:Nat} (h:w.heap[b]?=some (.cells #[c0,c1,c2,c3] t (0,0))):
  (w.cell? ⟨b,0,none⟩=some c0∧w.cell? ⟨b,1,none⟩=some c1∧w.cell? ⟨b,2,none⟩=some c2∧w.cell? ⟨b,3,none⟩=some c3)∧(∀ j,w.frozen? ⟨b,j,none⟩=false):=
 ⟨⟨cell_of_row w b 0 _ t _ h,cell_of_row w b 1 _ t _ h,cell_of_row w b 2 _ t _ h,cell_of_row w b 3 _ t _ h⟩,fun j=>frozen_of_row w b j _ t h⟩
theorem at_new (o:Obj):(w.alloc o).heap[w.heap.size]?=some o:=heap_alloc_new w o
theorem aF {w:World} {b:Nat} {x:Obj} (h:w.heap[b]?=some x) (o:Obj):(w.alloc o).heap[b]?=some x:=by
 rw [Below.heap_alloc w o b (gQ h).1];exact h
theorem bK:((w.alloc o1).alloc o2).heap[w.heap.size+1]?=some o2:=by
 have:=at_new (w.alloc o1) o2;simpa using this
theorem kM:(((w.alloc o1).alloc o2).alloc o3).heap[w.heap.size+1+1]?=some o3:=by
 have:=at_new ((w.alloc o1).alloc o2) o3;simpa using this
theorem bD {a b:Bool} (h:a=b):Ending.returned (.bool a)=.returned (.bool b):=by rw [h]
theorem uR {a b:Int} (h:a=b):Ending.returned (.int .i64 a)=.returned (.int .i64 b):=by rw [h]
theorem aM (o:Obj):Below w.heap.size w (w.alloc o):=(Below.refl _ _).alloc (Nat.le_refl _) _
theorem aG {w w':World} {B b:Nat} (i:Below B w w') (h:w.heap[b]?=some o) (e:b < B):w'.heap[b]?=some o:=by
 rw [i.block b e];exact h
theorem vO {w e:World} (i:Below (w.alloc o).heap.size (w.alloc o) e):Below w.heap.size w e:=
 ((Below.refl _ _).alloc (Nat.le_refl _) _).trans (i.mono (by simp))
theorem TK:kD 127 #[.int .i64 b] w (.bool (jJ b)):=by
 by_cases e:32<=b
 ·go_enter func127,ntmps127;go_wp2;go_ret;exact⟨bD (by simp [jJ,e]),rfl⟩
 ·have:b < 32:=(by omega);go_enter func127,ntmps127;go_wp2;go_ret;exact⟨bD (by simp [jJ];omega),rfl⟩
theorem RU:kD 116 #[.int .i64 b] w (.bool (rJ b)):=by
 by_cases e:0<=b
 ·go_enter func116,ntmps116;go_wp2;go_ret;exact⟨bD (by simp [rJ,e]),rfl⟩
 ·have:b < 0:=(by omega);go_enter func116,ntmps116;go_wp2;go_ret;exact⟨bD (by simp [rJ];omega),rfl⟩
theorem yj (n a b:Int) (w:World):kD 80 #[.int .i64 n,.int .i64 a,.int .i64 b] w (.int .i64 (max a (min n b))):=by
 go_enter func80,ntmps80;go_wp2
 all_goals (go_ret;exact⟨uR (by omega),rfl⟩)
theorem WY:(((w.alloc o1).alloc o2).alloc o3).heap[w.heap.size+2]?=some o3:=kM w o1 o2 o3
variable (h:Nat->aH) (m:Nat) {w w' a:World} {b n B:Nat} {f:Nat->aH} {row:Option Nat} {p:Addr}
theorem info_parts {P:Program} {e:TypeId} {z:Value} {q j:Nat} (h:(P.info? e).map (fun i=>(i.zero,i.size,i.bytes))=some (some z,q,j)):∃ i,P.info? e=some i∧i.zero=some z∧i.size=q∧i.bytes=j:=by
 cases l:P.info? e with
 | none=>simp [l] at h
 | some i=>simp only [l,Option.map_some,Option.some.injEq,Prod.mk.injEq] at h;exact⟨i,rfl,h.1,h.2.1,h.2.2⟩
def av (w:World) (b n:Nat) (f:Nat->aH):Prop:=
 ∃ cur:Array Value,w.heap[b]?=some (.cells cur 65 (0,0))∧n*4<=cur.size∧∀ i,i < n->∀ j,j < 4->cur[i*4+j]?=pO (f i) j
theorem av.lt (h:av w b n f):b < w.heap.size:=by
 obtain⟨_,e,_⟩:=h;exact(gQ e).1
theorem av.move (h:av w b n f) (j:w'.heap[b]?=w.heap[b]?):av w' b n f:=by
 obtain⟨e,i,r⟩:=h;exact⟨e,by rw [j];exact i,r⟩
theorem av.alloc (h:av w b n f) (o:Obj):av (w.alloc o) b n f:=h.move (Below.heap_alloc w o b h.lt)
theorem av.drew (h:av w b n f):av w.drew b n f:=h
theorem av.grown (h:av w b n f) (i:w.grownBy w' row) (e:some b≠row):av w' b n f:=h.move (i.block b h.lt e)
theorem av.below (h:av w b n f) (i:Below B w w') (e:b < B):av w' b n f:=h.move (i.block b e)
theorem av.set (h:av w b n f) (i:p.block≠b) (u:Value):av (w.setCell p u) b n f:=h.move (Below.heap_setCell _ _ _ _ (fun e=>i e.symm))
theorem av.cells (h:av w b n f) (i:Nat) (q:i < n):
  w.cell? ⟨b,i*4,none⟩=some (.int .i64 (f i).ch)∧w.cell? ⟨b,i*4+1,none⟩=some (.int .i64 (f i).aA)∧w.cell? ⟨b,i*4+2,none⟩=some (.int .i64 (f i).aJ)∧w.cell? ⟨b,i*4+3,none⟩=some (.bool (f i).bold):=by
 obtain⟨_,l,_,u⟩:=h;have e:∀ j,j < 4->w.cell? ⟨b,i*4+j,none⟩=pO (f i) j:=fun j s=>by
  rw [<-u i q j s];simp [World.cell?,l]
 exact⟨by have:=e 0 (by omega);simpa [pO] using this,by have:=e 1 (by omega);simpa [pO] using this,by have:=e 2 (by omega);simpa [pO] using this,by have:=e 3 (by omega);simpa [pO] using this⟩
theorem av.free (h:av w b n f) (j:Nat):w.frozen? ⟨b,j,none⟩=false:=by
 obtain⟨_,e,_⟩:=h;simp [World.frozen?,e]
theorem av.congr {l:Nat->aH} (h:av w b n f) (u:∀ i,i < n->f i=l i):av w b n l:=by
 obtain⟨e,s,y,x⟩:=h;exact⟨e,s,y,fun i q j v=>by rw [x i q j v,u i q]⟩
def dX (h:Nat->aH) (m:Nat):List Value:=(List.range m).flatMap fun i=>(yR (h i)).toList
theorem Al:dX h (m+1)=dX h m++(yR (h m)).toList:=by
 unfold dX;rw [List.range_succ,List.flatMap_append];simp
theorem mQ:(dX h m).length=m*4:=by
 induction m with
 | zero=>rfl
 | succ m ih=>rw [Al,List.length_append,ih];simp;omega
theorem CP (i j:Nat) (l:i < m) (q:j < 4):(dX h m)[i*4+j]?=pO (h i) j:=by
 induction m with
 | zero=>omega
 | succ m ih=>
  rw [Al];by_cases e:i < m
  ·rw [List.getElem?_append_left (by rw [mQ];omega)];exact ih e
  ·obtain rfl:i=m:=(by omega);rw [List.getElem?_append_right (by rw [mQ];omega),mQ];have:i*4+j - i*4=j:=(by omega);rw [this];simp [pO]
theorem Ak:∀ v∈dX h m,v.oneCell'=true:=by
 intro v e;unfold dX at e;rw [List.mem_flatMap] at e;obtain⟨_,_,e⟩:=e;simp at e;rcases e with rfl | rfl | rfl | rfl <;>rfl
def rP (f:Nat->aH) (d m:Nat) (h:Nat->aH):Nat->aH:=fun i=>if d<=i∧i < d+m then h (i - d) else f i
theorem av.lay {e:Array Value} (v:w.heap[b]?=some (.cells e 65 (0,0))) (A:n*4<=e.size) (u:∀ i,i < n->∀ j,j < 4->e[i*4+j]?=pO (f i) j) (d m:Nat) (h:Nat->aH) (z:d+m<=n):av (w.setRow b (e.toList.take (d*4)++(dX h m++e.toList.drop (d*4+(dX h m).length))).toArray) b n (rP f d m h):=by
 refine⟨_,setRow_heap w b _ _ _ _ v,?_,?_⟩
 ·simp [mQ];omega
 ·intro i s j q;have l:(e.toList.take (d*4)).length=d*4:=(by simp;omega);simp only [List.getElem?_toArray];unfold rP;by_cases x:i < d
  ·rw [List.getElem?_append_left (by rw [l];omega),List.getElem?_take_of_lt (by omega),if_neg (by omega)];simpa using u i s j q
  ·rw [List.getElem?_append_right (by rw [l];omega),l];by_cases y:i < d+m
   ·rw [List.getElem?_append_left (by rw [mQ];omega),if_pos (by omega)];have:i*4+j - d*4=(i - d)*4+j:=(by omega);rw [this];exact CP h m _ j (by omega) q
   ·rw [List.getElem?_append_right (by rw [mQ];omega),mQ,List.getElem?_drop,if_neg (by omega)];have:d*4+m*4+(i*4+j - d*4 - m*4)=i*4+j:=(by omega);rw [this];simpa using u i s j q
theorem yX (w:World) (b:Nat) (cs:Array Value):w.grownBy (w.setRow b cs) (some b):=
 ⟨rfl,rfl,rfl,by simp,fun k _ i=>setRow_other w b k cs (fun e=>i (by rw [e]))⟩
theorem eP (w:World) (row:Option Nat):w.grownBy w row:=⟨rfl,rfl,rfl,Nat.le_refl _,fun _ _ _=>rfl⟩
theorem jD {b c:World} (h:a.grownBy b row) (k:b.grownBy c row):a.grownBy c row:=
 ⟨k.os.trans h.os,k.tape.trans h.tape,k.output.trans h.output,Nat.le_trans h.size k.size,fun i j e=>(k.block i (Nat.lt_of_lt_of_le j h.size) e).trans (h.block i j e)⟩
theorem bB (h:a.grownBy w row) (o:Obj):a.grownBy (w.alloc o) row:=jD h (World.grownBy_alloc w o row)
theorem om (h:a.grownBy w row):a.grownBy w.drew row:=⟨h.os,h.tape,h.output,h.size,h.block⟩
theorem oq (h:a.grownBy w row) (hp:a.heap.size <= p.block ∨ some p.block = row) (u:Value): a.grownBy (w.setCell p u) row :=
  ⟨h.os, h.tape, h.output, by have := h.size; simpa [World.setCell] using this, fun k hk hne => (Below.heap_setCell _ _ _ _ (fun e => by rcases hp with hp | hp; · omega
                                                                                                                                         · exact hne (by rw [e]; exact hp))).trans (h.block k hk hne)⟩
theorem Below.nO (h:Below w.heap.size w w') (row:Option Nat):w.grownBy w' row:=
 ⟨h.os,h.tape,h.output,h.size,fun k e _=>h.block k e⟩
theorem bH (i:w.grownBy w' row) {o:Obj} (h:w.heap[b]?=some o) (e:some b≠row):w'.heap[b]?=some o:=by
 rw [i.block b (gQ h).1 e];exact h
theorem rD (e:w.grownBy w' (some b)) (i:B<=w.heap.size) (j:B<=b):Below B w w':=
 ⟨e.os,e.tape,e.output,e.size,fun k l=>e.block k (by omega) (by simp;omega)⟩
theorem info49:(prog.info? 65).map (fun i=>(i.zero,i.size,i.bytes))=some (some (.agg #[.int .i64 0,.int .i64 0,.int .i64 0,.bool false]),4,32):=by kernel_rfl
theorem Gm (w:World) (S:TypeId) (b n:Nat) (f:Nat->aH) (J:av w b n f) (d l s:Nat) (G I:Option Addr) (q A m:Nat) (h:Nat->aH) (M:m=Nat.min q l) (O:d+m<=n) (u:0 < m->G=some ⟨b,d*4,none⟩∧∃ C,I=some C∧∀ i,i < m->∀ j,j < 4->w.cell? (C.add (i*4+j))=pO (h i) j):
  ∃ w',(Builtin.copy_ #[31,31] S #[.slice G l s,.slice I q A]).run prog w=.ok (goInt m) w'∧av w' b n (rP f d m h)∧w.grownBy w' (some b):=by
 obtain⟨_,L,_,H,_⟩:=info_parts info49;by_cases N:0 < m
 ·obtain⟨rfl,C,rfl,y⟩:=u N;obtain⟨F,K,R,Q⟩:=J
  have D:=run_loadCells_list (P:=prog) w C (dX h m) (fun j v E=>by
   have T:j < m*4:=by have:=(gL E).1;rwa [mQ] at this
   have e:j=(j / 4)*4+j % 4:=by omega
   rw [e] at E ⊢
   rw [CP h m _ _ (by omega) (by omega)] at E
   rw [y _ (by omega) _ (by omega)]
   exact E)
  have z:=run_storeCells_at prog b (d*4) 65 (dX h m) 0 F w K (by rw [mQ];omega) (Ak h m);rw [mQ] at D;refine⟨_,?_,av.lay K R Q d m h O,yX _ _ _⟩;simp only [Nat.add_zero] at z;simp [Builtin.copy_,run_underlying underlying31,Builtin.lenOf,Builtin.firstCells,sizeOf,typeInfo,L,H, <-M,D,z,List.append_assoc]
 ·obtain rfl:m=0:=(by omega);refine⟨w,?_,J.congr (fun i _=>by unfold rP;rw [if_neg (by omega)]),eP _ _⟩;have D:∀ (x:Addr),(loadCells x 0).run prog w=.ok #[] w:=fun x=>(by simpa using run_loadCells_list (P:=prog) w x [] (by simp));cases G <;>cases I <;>simp [Builtin.copy_,run_underlying underlying31,Builtin.lenOf,Builtin.firstCells,sizeOf,typeInfo,L, <-M,storeCells,D]
theorem Vr:(Builtin.zeroCells #[.int .i64 0,.int .i64 0,.int .i64 0,.bool false] m).toList=dX (fun _=>aX) m:=by
 refine List.ext_getElem? fun k=>?_;by_cases l:k < m*4
 ·have e:k=(k / 4)*4+k % 4:=(by omega);have i:=CP (fun _=>aX) m (k / 4) (k % 4) (by omega) (by omega);rw [<-e] at i;rw [i];have j:k % 4=0∨k % 4=1∨k % 4=2∨k % 4=3:=(by omega);simp only [Builtin.zeroCells,Array.toList_map,Array.toList_range,List.getElem?_map];rw [List.getElem?_range (by simpa using l)];rcases j with h | h | h | h <;>simp [h,pO,aX]
 ·rw [List.getElem?_eq_none (by rw [Array.length_toList,size_zeroCells];simp;omega),List.getElem?_eq_none (by rw [mQ];omega)]
theorem wB (w:World) (F:TypeId) (b n:Nat) (f:Nat->aH) (v:av w b n f) (d m c:Nat) (s:Option Addr) (z:d+m<=n) (j:0 < m->s=some ⟨b,d*4,none⟩):
  ∃ w',(Builtin.clear_ #[31] F #[.slice s m c]).run prog w=.ok (.tuple #[]) w'∧av w' b n (gT f d (d+m))∧w.grownBy w' (some b):=by
 obtain⟨_,A,u,_,_⟩:=info_parts info49;by_cases y:0 < m
 ·obtain rfl:=j y;obtain⟨q,x,D,C⟩:=v;have l:=run_storeCells_at prog b (d*4) 65 (dX (fun _=>aX) m) 0 q w x (by rw [mQ];omega) (Ak _ m);simp only [Nat.add_zero] at l;have e:rP f d m (fun _=>aX)=gT f d (d+m):=rfl;refine⟨_,?_,e ▸ av.lay x D C d m (fun _=>aX) z,yX _ _ _⟩;obtain⟨k,rfl⟩:∃ k,m=k+1:=⟨m - 1,by omega⟩;have E:(zeroValue 65).run prog w=.ok (.agg #[.int .i64 0,.int .i64 0,.int .i64 0,.bool false]) w:=(by simp [zeroValue,typeInfo,A,u]);simp [Builtin.clear_,run_underlying underlying31,E,Value.cells,Vr,l,List.append_assoc]
 ·obtain rfl:m=0:=(by omega);refine⟨w,?_,v.congr (fun i _=>by unfold gT;rw [if_neg (by omega)]),eP _ _⟩;cases s <;>simp [Builtin.clear_,run_underlying underlying31]
@[reducible] def aV:Obj:=.cells #[.int .i64 0,.int .i64 0,.slice none 0 0,.int .i64 0,.int .i64 0,.int .i64 0,.bool false,.int .i64 0,.int .i64 0] 33
theorem av.at (h:av w b n f) (i j e:Nat) (q:i < n) (s:j < 4) (u:e=i*4+j):w.cell? ⟨b,e,none⟩=pO (f i) j:=by
 obtain⟨_,l,_,v⟩:=h;rw [u, <-v i q j s];simp [World.cell?,l]
theorem mJ (b o j:Nat):(⟨b,o,none⟩:Addr).add j=⟨b,o+j,none⟩:=by unfold Addr.add;split <;>simp_all
variable (c:aH) (ch:Int) (g:Gr) (d:aH) (aA:Int) (ao:Option Addr) (cap:Nat) (bold:Bool) (w:World) {n:Nat} {f:Nat->aH}
def aL (w:World) (ao:Option Addr) (n:Nat) (f:Nat->aH):Prop:=
 n=0∨∃ b off,ao=some ⟨b,off,none⟩∧∀ i,i < n->w.cell? ⟨b,off+i*4,none⟩=some (.int .i64 (f i).ch)∧w.cell? ⟨b,off+i*4+1,none⟩=some (.int .i64 (f i).aA)∧w.cell? ⟨b,off+i*4+2,none⟩=some (.int .i64 (f i).aJ)∧w.cell? ⟨b,off+i*4+3,none⟩=some (.bool (f i).bold)
theorem aL.below {w w':World} {ao:Option Addr} (h:aL w ao n f) (l:Below w.heap.size w w'):aL w' ao n f:=by
 rcases h with h | ⟨b,j,x,y⟩
 ·exact .inl h
 ·refine .inr ⟨b,j,x,fun i z=>?_⟩;obtain⟨q,s,u,v⟩:=y i z;have e:=World.block_lt_of_cell? _ _ q;simp only at e;exact⟨(l.cell (p:=⟨b,j+i*4,none⟩) e).trans q,(l.cell (p:=⟨b,j+i*4+1,none⟩) e).trans s,(l.cell (p:=⟨b,j+i*4+2,none⟩) e).trans u,(l.cell (p:=⟨b,j+i*4+3,none⟩) e).trans v⟩
theorem av.rd {w:World} {b:Nat} (h:av w b n f):aL w (some ⟨b,0,none⟩) n f:=by
 refine .inr ⟨b,0,rfl,fun i e=>?_⟩;simp only [Nat.zero_add];exact h.cells i e
theorem xB:(binOp .eql 65 (cval c) (cval d)).run prog w=.ok (.bool (dL c d)) w:=by
 obtain⟨q,s,u,v⟩:=c;obtain⟨x,y,z,A⟩:=d;by_cases e:q=x
 ·by_cases i:s=y
  ·by_cases j:u=z
   ·by_cases l:v=A
    ·subst e i j l;simp [go_sem,dL]
    ·subst e i j;simp [go_sem,dL,l]
   ·subst e i;simp [go_sem,dL,j]
  ·subst e;simp [go_sem,dL,i]
 ·simp [go_sem,dL,e]
theorem NV:(binOp .neq 65 (cval c) (cval d)).run prog w=.ok (.bool (!dL c d)) w:=by
 obtain⟨q,s,u,v⟩:=c;obtain⟨x,y,z,A⟩:=d;by_cases e:q=x
 ·by_cases i:s=y
  ·by_cases j:u=z
   ·by_cases l:v=A
    ·subst e i j l;simp [go_sem,dL]
    ·subst e i j;simp [go_sem,dL,l]
   ·subst e i;simp [go_sem,dL,j]
  ·subst e;simp [go_sem,dL,i]
 ·simp [go_sem,dL,e]
def iy (g:Gr) (r c:Int):aH:=if g.wide<=24∧g.high<=10∧0<=r∧r < g.high∧0<=c∧c < g.wide∧r*g.wide+c < g.n then g.f (r*g.wide+c).toNat else aX
theorem aaj:kA 115 #[cval ⟨ch,aA,0,bold⟩] w (.bool (bS ⟨ch,aA,0,bold⟩)):=by
 obtain⟨s,i⟩:∃ s,s=dL ⟨ch,aA,0,bold⟩ aX:=⟨_,rfl⟩;have:∀ w,(binOp .eql 65 (.agg #[.int .i64 ch,.int .i64 aA,.int .i64 0,.bool bold]) (.agg #[.int .i64 0,.int .i64 0,.int .i64 0,.bool false])).run prog w=.ok (.bool s) w:=fun w=>by rw [i];exact xB ⟨ch,aA,0,bold⟩ aX w
 obtain⟨u,j⟩:∃ q,q=jJ ch:=⟨_,rfl⟩;obtain⟨y,l⟩:∃ q,q=rJ aA:=⟨_,rfl⟩;have A:Hid (∀ w,kD 127 #[.int .i64 ch] w (.bool u)):=fun w=>by rw [j];exact TK ch w
 have z:Hid (∀ w,kD 116 #[.int .i64 aA] w (.bool y)):=fun w=>by rw [l];exact RU aA w
 have v:Hid (bS ⟨ch,aA,0,bold⟩=(s || (u && y))):=by
  show bS ⟨ch,aA,0,bold⟩=_;rw [i,j,l];simp [bS]
 clear i j l;obtain⟨G,x⟩:∃ G,G=bS ⟨ch,aA,0,bold⟩:=⟨_,rfl⟩;rw [<-x] at v ⊢;clear x;cases s <;>cases u
 all_goals (
  go_enter func115,ntmps115
  go_wp2_with (first
   | (go_at_call 127;refine(A.out _).mono ?_;rintro e C ⟨rfl,rfl⟩)
   | (go_at_call 116;refine(z.out _).mono ?_;rintro e C ⟨rfl,rfl⟩)))
 all_goals (go_ret;refine⟨bD ?_,aM _ _⟩;rw [v.out];simp)
theorem aai (e:Int) (bold:Bool) (l:e≠0) (w:World):kA 115 #[cval ⟨ch,aA,e,bold⟩] w (.bool (bS ⟨ch,aA,e,bold⟩)):=by
 obtain⟨j,i⟩:∃ j,j=dL ⟨ch,aA,e,bold⟩ ⟨0,0,e,false⟩:=⟨_,rfl⟩;have v:∀ w,(binOp .eql 65 (.agg #[.int .i64 ch,.int .i64 aA,.int .i64 e,.bool bold]) (.agg #[.int .i64 0,.int .i64 0,.int .i64 e,.bool false])).run prog w=.ok (.bool j) w:=fun w=>by rw [i];exact xB ⟨ch,aA,e,bold⟩ ⟨0,0,e,false⟩ w
 have x:∀ w,(binOp .eql 65 (.agg #[.int .i64 ch,.int .i64 aA,.int .i64 e,.bool bold]) (.agg #[.int .i64 0,.int .i64 0,.int .i64 0,.bool false])).run prog w=.ok (.bool false) w:=fun w=>by
  have:=xB ⟨ch,aA,e,bold⟩ aX w;rw [show dL ⟨ch,aA,e,bold⟩ aX=false by simp [dL,aX,l]] at this;exact this
 have q:Hid (bS ⟨ch,aA,e,bold⟩=(j && decide (1<=e∧e<=8))):=by
  show bS ⟨ch,aA,e,bold⟩=_;rw [i];simp [bS,dL,aX,l]
 have u:(e==0)=false:=by simp [l]
 clear i l;obtain⟨G,s⟩:∃ G,G=bS ⟨ch,aA,e,bold⟩:=⟨_,rfl⟩;rw [<-s] at q ⊢;clear s;cases j
 ·go_enter func115,ntmps115;go_wp2;go_ret;exact⟨bD (by rw [q.out];rfl),aM _ _⟩
 ·go_enter func115,ntmps115;go_wp2
  all_goals (go_ret;refine⟨bD ?_,aM _ _⟩;rw [q.out];first | (simp;done) | (simp;omega))
theorem aah:kA 115 #[cval c] w (.bool (bS c)):=by
 obtain⟨ch,aA,e,bold⟩:=c;by_cases h:e=0
 ·subst h;exact aaj ch aA bold w
 ·exact aai ch aA e bold h w
theorem CU:kC 96 #[ay g ao cap] w fun e w'=>e=.returned (.bool (wD g))∧w'=w.alloc (aB g ao cap):=by
 go_enter func96,ntmps96;go_wp2
 all_goals (go_ret;refine⟨bD ?_,rfl⟩;rw [Bool.eq_iff_iff];simp only [wD,decide_eq_true_eq,Bool.false_eq_true,false_iff];omega)
theorem aal:kC 98 #[ay g ao cap] w fun e w'=>e=.returned (.bool (Ai g))∧w'=w.alloc (aB g ao cap):=by
 go_enter func98,ntmps98;go_wp2_with (go_at_call 116;refine(RU _ _).mono ?_;rintro e _ ⟨rfl,rfl⟩)
 all_goals (go_ret;refine⟨bD ?_,rfl⟩;rw [Bool.eq_iff_iff];simp only [Ai,rJ,decide_eq_true_eq,Bool.and_eq_true,Bool.false_eq_true,false_iff];omega)
end Go.Proofs.YtkcdcamophkdlaaGreatDoor
