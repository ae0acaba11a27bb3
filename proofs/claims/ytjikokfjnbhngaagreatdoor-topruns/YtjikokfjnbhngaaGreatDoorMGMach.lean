/- Several texts in one, each as it was: GMach, GBase, GMem, GGood. -/
import Derived.WalkKit
import Derived.Test.YtjikokfjnbhngaaGreatDoorRows
import Derived.WalkSpells
import Derived.WalkLawsBesides
import Derived.Laws.CopyOwn
import Derived.Deep.QuietTactic
import Derived.BigQuiet

/- The plain machine of chapter 2: a screen as numbers and a function from places to cells, and what one event makes of it; nothing of the program is in it. -/
namespace Go.Proofs.YtjikokfjnbhngaaGreatDoor
structure Cel where
 ch:Int
 ink:Int
 pic:Int
 bold:Bool
def noCel:Cel:=⟨0,0,0,false⟩
def celB (c d:Cel):Bool:=decide (c.ch=d.ch) && decide (c.ink=d.ink) && decide (c.pic=d.pic) && (c.bold==d.bold)
theorem celB_iff (c d:Cel):celB c d=true↔c=d:=by
 obtain⟨a1,a2,a3,a4⟩:=c
 obtain⟨b1,b2,b3,b4⟩:=d
 simp [celB,and_assoc]
structure Gr where
 wide:Int
 high:Int
 n:Nat
 f:Nat→Cel
 row:Int
 col:Int
 ink:Int
 bold:Bool
 top:Int
 bottom:Int
structure Evt where
 kind:Int
 b:Int
 ps:List Int
 pl:ByteArray
def plainN (b:Int):Bool:=decide (32≤b∧b≤126)
def inkN (b:Int):Bool:=decide (0≤b∧b≤8)
def goodC (c:Cel):Bool:=celB c noCel || (celB c ⟨0,0,c.pic,false⟩ && decide (1≤c.pic∧c.pic≤8)) || (decide (c.pic=0) && plainN c.ch && inkN c.ink)
def sidesB (g:Gr):Bool:=decide (1≤g.wide∧g.wide≤24∧1≤g.high∧g.high≤10)
def upToB (f:Nat→Cel) (k:Nat):Bool:=(List.range k).all fun i=>goodC (f i)
def cellsB (g:Gr):Bool:=decide ((g.n:Int)=g.wide*g.high) && upToB g.f g.n
def cursorB (g:Gr):Bool:=decide (0≤g.row∧g.row < g.high∧0≤g.col∧g.col≤g.wide) && inkN g.ink
def goodG (g:Gr):Bool:=sidesB g && cellsB g && cursorB g && decide (0≤g.top∧g.top < g.bottom∧g.bottom≤g.high)
structure OkG (g:Gr):Prop where
 w1:1≤g.wide
 w2:g.wide≤24
 h1:1≤g.high
 h2:g.high≤10
 size:(g.n:Int)=g.wide*g.high
 cells:∀ i,i < g.n→goodC (g.f i)=true
 r1:0≤g.row
 r2:g.row < g.high
 c1:0≤g.col
 c2:g.col≤g.wide
 i1:0≤g.ink
 i2:g.ink≤8
 t1:0≤g.top
 t2:g.top < g.bottom
 t3:g.bottom≤g.high
theorem upToB_iff (f:Nat→Cel) (k:Nat):upToB f k=true↔∀ i,i < k→goodC (f i)=true:=by
 simp [upToB,List.all_eq_true]
theorem upToB_succ (f:Nat→Cel) (k:Nat):upToB f (k+1)=(upToB f k && goodC (f k)):=by
 unfold upToB
 rw [List.range_succ,List.all_append]
 simp
theorem goodG_iff (g:Gr):goodG g=true↔OkG g:=by
 constructor
 ·intro h
  simp only [goodG,sidesB,cellsB,cursorB,inkN,Bool.and_eq_true,decide_eq_true_eq,upToB_iff] at h
  obtain⟨⟨⟨⟨a1,a2,a3,a4⟩,a5,a6⟩,⟨b1,b2,b3,b4⟩,b5,b6⟩,c1,c2,c3⟩:=h
  exact⟨a1,a2,a3,a4,a5,a6,b1,b2,b3,b4,b5,b6,c1,c2,c3⟩
 ·intro h
  simp only [goodG,sidesB,cellsB,cursorB,inkN,Bool.and_eq_true,decide_eq_true_eq,upToB_iff]
  exact⟨⟨⟨⟨h.w1,h.w2,h.h1,h.h2⟩,h.size,h.cells⟩,⟨h.r1,h.r2,h.c1,h.c2⟩,h.i1,h.i2⟩,h.t1,h.t2,h.t3⟩
def upF (f:Nat→Cel) (a b k:Nat):Nat→Cel:=fun i=>if a≤i∧i < b then (if i+k < b then f (i+k) else noCel) else f i
def downF (f:Nat→Cel) (a b k:Nat):Nat→Cel:=fun i=>if a≤i∧i < b then (if a+k≤i then f (i - k) else noCel) else f i
def clrF (f:Nat→Cel) (a b:Nat):Nat→Cel:=fun i=>if a≤i∧i < b then noCel else f i
def putF (f:Nat→Cel) (a:Nat) (c:Cel):Nat→Cel:=fun i=>if i=a then c else f i
def hereC (g:Gr):Int:=min g.col (g.wide - 1)
def newG (wide high:Int):Gr:=⟨max 1 (min wide 24),max 1 (min high 10),(max 1 (min wide 24)*max 1 (min high 10)).toNat,fun _=>noCel,0,0,0,false,0,max 1 (min high 10)⟩
def rowOnG (g:Gr):Gr:=
 if g.row=g.bottom - 1 then {g with f:=upF g.f (g.top*g.wide).toNat (g.bottom*g.wide).toNat g.wide.toNat}
 else {g with row:=min (g.row+1) (g.high - 1)}
def backG (g:Gr):Gr:=if g.col=g.wide then rowOnG {g with col:=0} else g
def putG (g:Gr) (b:Int):Gr:={g with f:=putF g.f (g.row*g.wide+g.col).toNat ⟨b,g.ink,0,g.bold⟩,col:=g.col+1}
def printedG (g:Gr) (b:Int):Gr:=putG (backG g) b
def ctlG (g:Gr) (b:Int):Gr:=
 if b=8 then {g with col:=max (hereC g - 1) 0}
 else if b=9 then {g with col:=min ((g.col / 8+1)*8) (g.wide - 1)}
 else if b=10 then rowOnG g
 else if b=13 then {g with col:=0}
 else g
def numP (ps:List Int) (i:Nat):Int:=max 0 (min (ps.getD i 0) 999)
def eraseF (f:Nat→Cel) (a m p:Nat) (which:Int):Nat→Cel:=
 if which=0 then clrF f (a+p) (a+m) else if which=1 then clrF f a (a+p+1) else if which=2 then clrF f a (a+m) else f
def pushG (g:Gr) (n:Int) (move:(Nat→Cel)→Nat→Nat→Nat→(Nat→Cel)):Gr:=
 if g.row < g.top∨g.bottom≤g.row then g
 else {g with f:=move g.f (g.row*g.wide).toNat (g.bottom*g.wide).toNat (min n (g.bottom - g.row)*g.wide).toNat,col:=0}
def ink1 (g:Gr) (n:Int):Gr:=
 if n=0 then {g with ink:=0,bold:=false}
 else if n=1 then {g with bold:=true}
 else if n=22 then {g with bold:=false}
 else if 30≤n∧n≤37 then {g with ink:=n - 29}
 else if n=39 then {g with ink:=0}
 else g
def inkG (g:Gr) (ps:List Int):Gr:=ps.foldl ink1 g
def botN (g:Gr) (bottom:Int):Int:=if bottom=0∨g.high < bottom then g.high else bottom
def scrollG (g:Gr) (n bottom:Int):Gr:=
 if n≤botN g bottom then {g with top:=n - 1,bottom:=botN g bottom,row:=0,col:=0} else g
def csiG (g:Gr) (b:Int) (ps:List Int):Gr:=
 let n:=max (numP ps 0) 1
 if b=65 then {g with row:=max (g.row - n) 0}
 else if b=66 then {g with row:=min (g.row+n) (g.high - 1)}
 else if b=67 then {g with col:=min (g.col+n) (g.wide - 1)}
 else if b=68 then {g with col:=max (hereC g - n) 0}
 else if b=72 then {g with row:=min n g.high - 1,col:=max 1 (min (numP ps 1) g.wide) - 1}
 else if b=74 then {g with f:=eraseF g.f 0 g.n (g.row*g.wide+hereC g).toNat (numP ps 0)}
 else if b=75 then {g with f:=eraseF g.f (g.row*g.wide).toNat g.wide.toNat (hereC g).toNat (numP ps 0)}
 else if b=76 then pushG g n downF
 else if b=77 then pushG g n upF
 else if b=109 then inkG g ps
 else if b=114 then scrollG g n (numP ps 1)
 else g
def pic1 (g:Gr) (s:(Nat→Cel)×Int×Int) (c:UInt8):(Nat→Cel)×Int×Int:=
 if c=45 then (s.1,s.2.1+1,hereC g)
 else (if 97≤c.toNat∧c.toNat≤104∧(s.2.1 < g.high∧s.2.2 < g.wide) then putF s.1 (s.2.1*g.wide+s.2.2).toNat ⟨0,0,(c.toNat:Int) - 96,false⟩ else s.1,s.2.1,s.2.2+1)
def picS (g:Gr) (l:List UInt8):(Nat→Cel)×Int×Int:=l.foldl (pic1 g) (g.f,g.row,hereC g)
def picG (g:Gr) (pl:ByteArray):Gr:={g with f:=(picS g pl.data.toList).1}
def checkE (e:Evt):Int:=if e.kind=1 then (if plainN e.b then 0 else 6) else if 2≤e.kind∧e.kind≤5 then 0 else 2
def doneG (g:Gr) (e:Evt):Gr:=
 if e.kind=1 then printedG g e.b
 else if e.kind=2 then ctlG g e.b
 else if e.kind=3 then csiG g e.b e.ps
 else if e.kind=4 then picG g e.pl
 else newG g.wide g.high
def allG:Gr→List Evt→Gr×Int
 | g,[]=>(g,0)
 | g,e::l=>if checkE e=0 then allG (doneG g e) l else (g,checkE e)
def actG (g:Gr) (e:Evt):Gr×Int:=if goodG g then (if checkE e=0 then (doneG g e,0) else (g,checkE e)) else (g,1)
theorem goodC_no:goodC noCel=true:=by decide
theorem goodC_pic (k:Int) (h1:1≤k) (h2:k≤8):goodC ⟨0,0,k,false⟩=true:=by simp [goodC,celB,h1,h2]
theorem goodC_ch (b i:Int) (o:Bool) (hb:plainN b=true) (h1:0≤i) (h2:i≤8):goodC ⟨b,i,0,o⟩=true:=by simp [goodC,hb,inkN,h1,h2]
theorem goodC_up {f:Nat→Cel} {n a b k:Nat} (h:∀ i,i < n→goodC (f i)=true) (hb:b≤n):∀ i,i < n→goodC (upF f a b k i)=true:=by
 intro i hi
 unfold upF
 split
 ·split
  ·exact h _ (by omega)
  ·exact goodC_no
 ·exact h i hi
theorem goodC_down {f:Nat→Cel} {n a b k:Nat} (h:∀ i,i < n→goodC (f i)=true):∀ i,i < n→goodC (downF f a b k i)=true:=by
 intro i hi
 unfold downF
 split
 ·split
  ·exact h _ (by omega)
  ·exact goodC_no
 ·exact h i hi
theorem goodC_clr {f:Nat→Cel} {n a b:Nat} (h:∀ i,i < n→goodC (f i)=true):∀ i,i < n→goodC (clrF f a b i)=true:=by
 intro i hi
 unfold clrF
 split
 ·exact goodC_no
 ·exact h i hi
theorem goodC_put {f:Nat→Cel} {n a:Nat} {c:Cel} (h:∀ i,i < n→goodC (f i)=true) (hc:goodC c=true):∀ i,i < n→goodC (putF f a c i)=true:=by
 intro i hi
 unfold putF
 split
 ·exact hc
 ·exact h i hi
theorem mul_bound {r w h:Int} (hr:0≤r) (hr2:r < h) (hw:0≤w):0≤r*w∧r*w+w≤h*w:=by
 refine⟨Int.mul_nonneg hr hw,?_⟩
 have h1:(r+1)*w≤h*w:=Int.mul_le_mul_of_nonneg_right (by omega) hw
 rw [Int.add_mul] at h1
 omega
theorem mul_mono {r h w:Int} (hr:r≤h) (hw:0≤w):r*w≤h*w:=Int.mul_le_mul_of_nonneg_right hr hw
theorem OkG.nums {g:Gr} (h:OkG g):(g.n:Int)=g.high*g.wide∧g.high*g.wide≤240∧0≤g.row*g.wide∧g.row*g.wide+g.wide≤g.high*g.wide∧0≤g.top*g.wide∧g.top*g.wide+g.wide≤g.bottom*g.wide∧g.bottom*g.wide≤g.high*g.wide:=by
 have hw:0≤g.wide:=by have:=h.w1;omega
 have h1:=mul_bound h.r1 h.r2 hw
 have h2:=mul_bound h.t1 h.t2 hw
 have h3:=mul_mono h.t3 hw
 have h4:g.high*g.wide≤10*g.wide:=mul_mono h.h2 hw
 have:=h.w2
 refine⟨by rw [h.size,Int.mul_comm],by omega,h1.1,h1.2,h2.1,h2.2,h3⟩
theorem ok_rowOn {g:Gr} (h:OkG g):OkG (rowOnG g)∧(rowOnG g).wide=g.wide∧(rowOnG g).high=g.high∧(rowOnG g).n=g.n:=by
 obtain⟨q1,q2,q3,q4,q5,q6,q7⟩:=h.nums
 have:=h.r2
 have:=h.r1
 have:=h.h1
 unfold rowOnG
 split
 ·exact⟨⟨h.w1,h.w2,h.h1,h.h2,h.size,goodC_up (n:=g.n) h.cells (by omega),h.r1,h.r2,h.c1,h.c2,h.i1,h.i2,h.t1,h.t2,h.t3⟩,rfl,rfl,rfl⟩
 ·exact⟨⟨h.w1,h.w2,h.h1,h.h2,h.size,h.cells,by simp only;omega,by simp only;omega,h.c1,h.c2,h.i1,h.i2,h.t1,h.t2,h.t3⟩,rfl,rfl,rfl⟩
theorem ok_back {g:Gr} (h:OkG g):OkG (backG g)∧(backG g).col < (backG g).wide∧(backG g).wide=g.wide∧(backG g).high=g.high∧(backG g).n=g.n:=by
 have:=h.w1
 have:=h.c1
 have:=h.c2
 unfold backG
 split
 ·have hz:OkG {g with col:=0}:=⟨h.w1,h.w2,h.h1,h.h2,h.size,h.cells,h.r1,h.r2,by simp,by simp only;omega,h.i1,h.i2,h.t1,h.t2,h.t3⟩
  obtain⟨k1,k2,k3,k4⟩:=ok_rowOn hz
  refine⟨k1,?_,k2,k3,k4⟩
  have e:(rowOnG {g with col:=0}).col=0:=by unfold rowOnG;split <;>rfl
  rw [e,k2]
  simp only
  omega
 ·exact⟨h,by omega,rfl,rfl,rfl⟩
theorem ok_printed {g:Gr} (h:OkG g) (b:Int) (hb:plainN b=true):OkG (printedG g b)∧(printedG g b).wide=g.wide∧(printedG g b).high=g.high∧(printedG g b).n=g.n:=by
 obtain⟨k,hc,e1,e2,e3⟩:=ok_back h
 have:=k.c1
 refine⟨⟨k.w1,k.w2,k.h1,k.h2,k.size,goodC_put k.cells (goodC_ch _ _ _ hb k.i1 k.i2),k.r1,k.r2,?_,?_,k.i1,k.i2,k.t1,k.t2,k.t3⟩,e1,e2,e3⟩
 ·show 0≤(backG g).col+1;omega
 ·show (backG g).col+1≤(backG g).wide;omega
theorem ok_ctl {g:Gr} (h:OkG g) (b:Int):OkG (ctlG g b)∧(ctlG g b).wide=g.wide∧(ctlG g b).high=g.high∧(ctlG g b).n=g.n:=by
 have:=h.w1
 have:=h.c1
 have:=h.c2
 unfold ctlG hereC
 split
 ·exact⟨⟨h.w1,h.w2,h.h1,h.h2,h.size,h.cells,h.r1,h.r2,by simp only;omega,by simp only;omega,h.i1,h.i2,h.t1,h.t2,h.t3⟩,rfl,rfl,rfl⟩
 ·split
  ·exact⟨⟨h.w1,h.w2,h.h1,h.h2,h.size,h.cells,h.r1,h.r2,by simp only;omega,by simp only;omega,h.i1,h.i2,h.t1,h.t2,h.t3⟩,rfl,rfl,rfl⟩
  ·split
   ·exact ok_rowOn h
   ·split
    ·exact⟨⟨h.w1,h.w2,h.h1,h.h2,h.size,h.cells,h.r1,h.r2,by simp only;omega,by simp only;omega,h.i1,h.i2,h.t1,h.t2,h.t3⟩,rfl,rfl,rfl⟩
    ·exact⟨h,rfl,rfl,rfl⟩
theorem goodC_erase {f:Nat→Cel} {n a m p:Nat} {w:Int} (h:∀ i,i < n→goodC (f i)=true):∀ i,i < n→goodC (eraseF f a m p w i)=true:=by
 unfold eraseF
 split
 ·exact goodC_clr h
 ·split
  ·exact goodC_clr h
  ·split
   ·exact goodC_clr h
   ·exact h
theorem ok_push {g:Gr} (h:OkG g) (n:Int) (move:(Nat→Cel)→Nat→Nat→Nat→(Nat→Cel)) (hm:move=upF∨move=downF):OkG (pushG g n move)∧(pushG g n move).wide=g.wide∧(pushG g n move).high=g.high∧(pushG g n move).n=g.n:=by
 obtain⟨q1,q2,q3,q4,q5,q6,q7⟩:=h.nums
 have:=h.w1
 unfold pushG
 split
 ·exact⟨h,rfl,rfl,rfl⟩
 ·refine⟨⟨h.w1,h.w2,h.h1,h.h2,h.size,?_,h.r1,h.r2,by simp,by simp only;omega,h.i1,h.i2,h.t1,h.t2,h.t3⟩,rfl,rfl,rfl⟩
  rcases hm with rfl | rfl
  ·exact goodC_up (n:=g.n) h.cells (by omega)
  ·exact goodC_down h.cells
theorem ok_ink1 {g:Gr} (h:OkG g) (n:Int):OkG (ink1 g n)∧(ink1 g n).wide=g.wide∧(ink1 g n).high=g.high∧(ink1 g n).n=g.n∧(ink1 g n).f=g.f:=by
 have a:∀ (k:Int) (o:Bool),0≤k→k≤8→OkG {g with ink:=k,bold:=o}:=fun k o h1 h2=>⟨h.w1,h.w2,h.h1,h.h2,h.size,h.cells,h.r1,h.r2,h.c1,h.c2,h1,h2,h.t1,h.t2,h.t3⟩
 unfold ink1
 split
 ·exact⟨a 0 false (by omega) (by omega),rfl,rfl,rfl,rfl⟩
 ·split
  ·exact⟨a g.ink true h.i1 h.i2,rfl,rfl,rfl,rfl⟩
  ·split
   ·exact⟨a g.ink false h.i1 h.i2,rfl,rfl,rfl,rfl⟩
   ·split
    ·exact⟨a (n - 29) g.bold (by omega) (by omega),rfl,rfl,rfl,rfl⟩
    ·split
     ·exact⟨a 0 g.bold (by omega) (by omega),rfl,rfl,rfl,rfl⟩
     ·exact⟨h,rfl,rfl,rfl,rfl⟩
theorem ok_ink {g:Gr} (h:OkG g) (ps:List Int):OkG (inkG g ps)∧(inkG g ps).wide=g.wide∧(inkG g ps).high=g.high∧(inkG g ps).n=g.n∧(inkG g ps).f=g.f:=by
 unfold inkG
 induction ps generalizing g with
 | nil=>exact⟨h,rfl,rfl,rfl,rfl⟩
 | cons x r ih=>
  obtain⟨k,e1,e2,e3,e4⟩:=ok_ink1 h x
  obtain⟨k',d1,d2,d3,d4⟩:=ih k
  exact⟨k',d1.trans e1,d2.trans e2,d3.trans e3,d4.trans e4⟩
theorem ok_scroll {g:Gr} (h:OkG g) (n b:Int) (hn:1≤n):OkG (scrollG g n b)∧(scrollG g n b).wide=g.wide∧(scrollG g n b).high=g.high∧(scrollG g n b).n=g.n:=by
 have hbot:botN g b≤g.high:=by unfold botN;split <;>omega
 have:=h.h1
 have:=h.w1
 unfold scrollG
 split
 ·exact⟨⟨h.w1,h.w2,h.h1,h.h2,h.size,h.cells,by simp,by simp only;omega,by simp,by simp only;omega,h.i1,h.i2,by simp only;omega,by simp only;omega,hbot⟩,rfl,rfl,rfl⟩
 ·exact⟨h,rfl,rfl,rfl⟩
def csiN (ps:List Int):Int:=max (numP ps 0) 1
theorem csi65 (g:Gr) (ps:List Int):csiG g 65 ps={g with row:=max (g.row - csiN ps) 0}:=rfl
theorem csi66 (g:Gr) (ps:List Int):csiG g 66 ps={g with row:=min (g.row+csiN ps) (g.high - 1)}:=rfl
theorem csi67 (g:Gr) (ps:List Int):csiG g 67 ps={g with col:=min (g.col+csiN ps) (g.wide - 1)}:=rfl
theorem csi68 (g:Gr) (ps:List Int):csiG g 68 ps={g with col:=max (hereC g - csiN ps) 0}:=rfl
theorem csi72 (g:Gr) (ps:List Int):csiG g 72 ps={g with row:=min (csiN ps) g.high - 1,col:=max 1 (min (numP ps 1) g.wide) - 1}:=rfl
theorem csi74 (g:Gr) (ps:List Int):csiG g 74 ps={g with f:=eraseF g.f 0 g.n (g.row*g.wide+hereC g).toNat (numP ps 0)}:=rfl
theorem csi75 (g:Gr) (ps:List Int):csiG g 75 ps={g with f:=eraseF g.f (g.row*g.wide).toNat g.wide.toNat (hereC g).toNat (numP ps 0)}:=rfl
theorem csi76 (g:Gr) (ps:List Int):csiG g 76 ps=pushG g (csiN ps) downF:=rfl
theorem csi77 (g:Gr) (ps:List Int):csiG g 77 ps=pushG g (csiN ps) upF:=rfl
theorem csi109 (g:Gr) (ps:List Int):csiG g 109 ps=inkG g ps:=rfl
theorem csi114 (g:Gr) (ps:List Int):csiG g 114 ps=scrollG g (csiN ps) (numP ps 1):=rfl
theorem csiNo (g:Gr) (b:Int) (ps:List Int) (h1:b≠65) (h2:b≠66) (h3:b≠67) (h4:b≠68) (h5:b≠72) (h6:b≠74) (h7:b≠75) (h8:b≠76) (h9:b≠77) (h10:b≠109) (h11:b≠114):csiG g b ps=g:=by
 unfold csiG
 rw [if_neg h1,if_neg h2,if_neg h3,if_neg h4,if_neg h5,if_neg h6,if_neg h7,if_neg h8,if_neg h9,if_neg h10,if_neg h11]
def Alike (g x:Gr):Prop:=x.wide=g.wide∧x.high=g.high∧x.n=g.n
theorem ok_csi {g:Gr} (h:OkG g) (b:Int) (ps:List Int):OkG (csiG g b ps)∧(csiG g b ps).wide=g.wide∧(csiG g b ps).high=g.high∧(csiG g b ps).n=g.n:=by
 have hn1:1≤csiN ps:=by unfold csiN;omega
 obtain⟨m,hm⟩:∃ m,m=csiN ps:=⟨_,rfl⟩
 have hw1:=h.w1
 have:=h.h1
 have:=h.c1
 have:=h.c2
 have:=h.r1
 have:=h.r2
 rw [←hm] at hn1
 by_cases h1:b=65
 ·subst h1;rw [csi65, ←hm];exact⟨⟨h.w1,h.w2,h.h1,h.h2,h.size,h.cells,by simp only;omega,by simp only;omega,h.c1,h.c2,h.i1,h.i2,h.t1,h.t2,h.t3⟩,rfl,rfl,rfl⟩
 by_cases h2:b=66
 ·subst h2;rw [csi66, ←hm];exact⟨⟨h.w1,h.w2,h.h1,h.h2,h.size,h.cells,by simp only;omega,by simp only;omega,h.c1,h.c2,h.i1,h.i2,h.t1,h.t2,h.t3⟩,rfl,rfl,rfl⟩
 by_cases h3:b=67
 ·subst h3;rw [csi67, ←hm];exact⟨⟨h.w1,h.w2,h.h1,h.h2,h.size,h.cells,h.r1,h.r2,by simp only;omega,by simp only;omega,h.i1,h.i2,h.t1,h.t2,h.t3⟩,rfl,rfl,rfl⟩
 by_cases h4:b=68
 ·subst h4;rw [csi68, ←hm];unfold hereC;exact⟨⟨h.w1,h.w2,h.h1,h.h2,h.size,h.cells,h.r1,h.r2,by simp only;omega,by simp only;omega,h.i1,h.i2,h.t1,h.t2,h.t3⟩,rfl,rfl,rfl⟩
 by_cases h5:b=72
 ·subst h5;rw [csi72, ←hm];exact⟨⟨h.w1,h.w2,h.h1,h.h2,h.size,h.cells,by simp only;omega,by simp only;omega,by simp only;omega,by simp only;omega,h.i1,h.i2,h.t1,h.t2,h.t3⟩,rfl,rfl,rfl⟩
 by_cases h6:b=74
 ·subst h6;rw [csi74];exact⟨⟨h.w1,h.w2,h.h1,h.h2,h.size,goodC_erase (n:=g.n) h.cells,h.r1,h.r2,h.c1,h.c2,h.i1,h.i2,h.t1,h.t2,h.t3⟩,rfl,rfl,rfl⟩
 by_cases h7:b=75
 ·subst h7;rw [csi75];exact⟨⟨h.w1,h.w2,h.h1,h.h2,h.size,goodC_erase (n:=g.n) h.cells,h.r1,h.r2,h.c1,h.c2,h.i1,h.i2,h.t1,h.t2,h.t3⟩,rfl,rfl,rfl⟩
 by_cases h8:b=76
 ·subst h8;rw [csi76];exact ok_push h _ _ (.inr rfl)
 by_cases h9:b=77
 ·subst h9;rw [csi77];exact ok_push h _ _ (.inl rfl)
 by_cases h10:b=109
 ·subst h10;rw [csi109]
  obtain⟨k,e1,e2,e3,_⟩:=ok_ink h ps
  exact⟨k,e1,e2,e3⟩
 by_cases h11:b=114
 ·subst h11;rw [csi114];exact ok_scroll h _ _ (by rw [←hm];exact hn1)
 rw [csiNo g b ps h1 h2 h3 h4 h5 h6 h7 h8 h9 h10 h11]
 exact⟨h,rfl,rfl,rfl⟩
theorem pic_good {g:Gr} (h:∀ i,i < g.n→goodC (g.f i)=true) (l:List UInt8):∀ i,i < g.n→goodC ((picS g l).1 i)=true:=by
 suffices H:∀ (l:List UInt8) (s:(Nat→Cel)×Int×Int),(∀ i,i < g.n→goodC (s.1 i)=true)→∀ i,i < g.n→goodC ((l.foldl (pic1 g) s).1 i)=true from H l _ h
 intro l
 induction l with
 | nil=>intro s hs;exact hs
 | cons c r ih=>
  intro s hs
  refine ih _ ?_
  unfold pic1
  split
  ·exact hs
  ·simp only
   split
   ·exact goodC_put hs (goodC_pic _ (by omega) (by omega))
   ·exact hs
theorem ok_new (wide high:Int):OkG (newG wide high):=by
 have h:0≤max 1 (min wide 24)*max 1 (min high 10):=Int.mul_nonneg (by omega) (by omega)
 refine⟨?_,?_,?_,?_,Int.toNat_of_nonneg h,fun _ _=>goodC_no,?_,?_,?_,?_,?_,?_,?_,?_,?_⟩ <;>simp only [newG] <;>omega
theorem new_sides {g:Gr} (h:OkG g):(newG g.wide g.high).wide=g.wide∧(newG g.wide g.high).high=g.high∧(newG g.wide g.high).n=g.n:=by
 have:=h.w1
 have:=h.w2
 have:=h.h1
 have:=h.h2
 have e1:max 1 (min g.wide 24)=g.wide:=by omega
 have e2:max 1 (min g.high 10)=g.high:=by omega
 refine⟨e1,e2,?_⟩
 show (max 1 (min g.wide 24)*max 1 (min g.high 10)).toNat=g.n
 rw [e1,e2, ←h.size]
 exact Int.toNat_natCast _
theorem ok_done {g:Gr} (h:OkG g) (e:Evt) (he:checkE e=0):OkG (doneG g e)∧(doneG g e).wide=g.wide∧(doneG g e).high=g.high∧(doneG g e).n=g.n:=by
 unfold doneG
 split
 ·next hk=>
  refine ok_printed h _ ?_
  simp only [checkE,hk,if_true] at he
  cases hp:plainN e.b
  ·simp [hp] at he
  ·rfl
 ·split
  ·exact ok_ctl h _
  ·split
   ·exact ok_csi h _ _
   ·split
    ·exact⟨⟨h.w1,h.w2,h.h1,h.h2,h.size,pic_good h.cells _,h.r1,h.r2,h.c1,h.c2,h.i1,h.i2,h.t1,h.t2,h.t3⟩,rfl,rfl,rfl⟩
    ·exact⟨ok_new _ _,new_sides h⟩
end Go.Proofs.YtjikokfjnbhngaaGreatDoor

/- Words for a screen in memory: its value, its box, the cells of its list. -/
namespace Go.Proofs.YtjikokfjnbhngaaGreatDoor
open Go.RowKit
@[reducible] def gcells (g:Gr) (ao:Option Addr) (cap:Nat):Array Value:=#[.int .i64 g.wide,.int .i64 g.high,.slice ao g.n cap,.int .i64 g.row,.int .i64 g.col,.int .i64 g.ink,.bool g.bold,.int .i64 g.top,.int .i64 g.bottom]
@[reducible] def gval (g:Gr) (ao:Option Addr) (cap:Nat):Value:=.agg (gcells g ao cap)
@[reducible] def gbox (g:Gr) (ao:Option Addr) (cap:Nat):Obj:=.cells (gcells g ao cap) 40
@[reducible] def ccells (c:Cel):Array Value:=#[.int .i64 c.ch,.int .i64 c.ink,.int .i64 c.pic,.bool c.bold]
@[reducible] def cval (c:Cel):Value:=.agg (ccells c)
def cel4 (c:Cel) (j:Nat):Option Value:=(ccells c)[j]?
theorem nine {w:World} {b:Nat} {c0 c1 c2 c3 c4 c5 c6 c7 c8:Value} {t:TypeId} (h:w.heap[b]?=some (.cells #[c0,c1,c2,c3,c4,c5,c6,c7,c8] t (0,0))):
  (w.cell? ⟨b,0,none⟩=some c0∧w.cell? ⟨b,1,none⟩=some c1∧w.cell? ⟨b,2,none⟩=some c2∧w.cell? ⟨b,3,none⟩=some c3∧w.cell? ⟨b,4,none⟩=some c4∧w.cell? ⟨b,5,none⟩=some c5∧w.cell? ⟨b,6,none⟩=some c6∧w.cell? ⟨b,7,none⟩=some c7∧w.cell? ⟨b,8,none⟩=some c8)∧
  (∀ j,w.frozen? ⟨b,j,none⟩=false):=
 ⟨⟨cell_of_row w b 0 _ t _ h,cell_of_row w b 1 _ t _ h,cell_of_row w b 2 _ t _ h,cell_of_row w b 3 _ t _ h,cell_of_row w b 4 _ t _ h,cell_of_row w b 5 _ t _ h,cell_of_row w b 6 _ t _ h,cell_of_row w b 7 _ t _ h,cell_of_row w b 8 _ t _ h⟩,fun j=>frozen_of_row w b j _ t h⟩
theorem four {w:World} {b:Nat} {c0 c1 c2 c3:Value} {t:TypeId} (h:w.heap[b]?=some (.cells #[c0,c1,c2,c3] t (0,0))):
  (w.cell? ⟨b,0,none⟩=some c0∧w.cell? ⟨b,1,none⟩=some c1∧w.cell? ⟨b,2,none⟩=some c2∧w.cell? ⟨b,3,none⟩=some c3)∧(∀ j,w.frozen? ⟨b,j,none⟩=false):=
 ⟨⟨cell_of_row w b 0 _ t _ h,cell_of_row w b 1 _ t _ h,cell_of_row w b 2 _ t _ h,cell_of_row w b 3 _ t _ h⟩,fun j=>frozen_of_row w b j _ t h⟩
theorem at_new (w:World) (o:Obj):(w.alloc o).heap[w.heap.size]?=some o:=heap_alloc_new w o
theorem at_old {w:World} {b:Nat} {x:Obj} (h:w.heap[b]?=some x) (o:Obj):(w.alloc o).heap[b]?=some x:=by
 rw [Below.heap_alloc w o b (Array.getElem?_eq_some_iff.1 h).1];exact h
theorem at_new1 (w:World) (o1 o2:Obj):((w.alloc o1).alloc o2).heap[w.heap.size+1]?=some o2:=by
 have:=at_new (w.alloc o1) o2
 simpa using this
theorem at_new2 (w:World) (o1 o2 o3:Obj):(((w.alloc o1).alloc o2).alloc o3).heap[w.heap.size+1+1]?=some o3:=by
 have:=at_new ((w.alloc o1).alloc o2) o3
 simpa using this
theorem ret_bool {a b:Bool} (h:a=b):Ending.returned (.bool a)=.returned (.bool b):=by rw [h]
theorem ret_int {a b:Int} (h:a=b):Ending.returned (.int .i64 a)=.returned (.int .i64 b):=by rw [h]
theorem below1 (w:World) (o:Obj):Below w.heap.size w (w.alloc o):=(Below.refl _ _).alloc (Nat.le_refl _) _
theorem below_block {w w':World} {B b:Nat} {o:Obj} (hb:Below B w w') (h:w.heap[b]?=some o) (hB:b < B):w'.heap[b]?=some o:=by
 rw [hb.block b hB];exact h
theorem below_up {w w1:World} {o:Obj} (hb:Below (w.alloc o).heap.size (w.alloc o) w1):Below w.heap.size w w1:=
 ((Below.refl _ _).alloc (Nat.le_refl _) _).trans (hb.mono (by simp))
theorem plain_any (b:Int) (w:World):Calls Tryz.prog 101 #[.int .i64 b] w fun e w'=>e=.returned (.bool (plainN b))∧w'=w:=by
 by_cases h1:32≤b
 ·go_enter Tryz.func101,Tryz.ntmps101
  go_wp2
  go_ret
  exact⟨ret_bool (by simp [plainN,h1]),rfl⟩
 ·have h1':b < 32:=by omega
  go_enter Tryz.func101,Tryz.ntmps101
  go_wp2
  go_ret
  exact⟨ret_bool (by simp [plainN];omega),rfl⟩
theorem ink_any (b:Int) (w:World):Calls Tryz.prog 84 #[.int .i64 b] w fun e w'=>e=.returned (.bool (inkN b))∧w'=w:=by
 by_cases h1:0≤b
 ·go_enter Tryz.func84,Tryz.ntmps84
  go_wp2
  go_ret
  exact⟨ret_bool (by simp [inkN,h1]),rfl⟩
 ·have h1':b < 0:=by omega
  go_enter Tryz.func84,Tryz.ntmps84
  go_wp2
  go_ret
  exact⟨ret_bool (by simp [inkN];omega),rfl⟩
theorem within_any (n a b:Int) (w:World):Calls Tryz.prog 60 #[.int .i64 n,.int .i64 a,.int .i64 b] w fun e w'=>e=.returned (.int .i64 (max a (min n b)))∧w'=w:=by
 go_enter Tryz.func60,Tryz.ntmps60
 go_wp2
 all_goals (go_ret;exact⟨ret_int (by omega),rfl⟩)
theorem at_new2' (w:World) (o1 o2 o3:Obj):(((w.alloc o1).alloc o2).alloc o3).heap[w.heap.size+2]?=some o3:=at_new2 w o1 o2 o3
end Go.Proofs.YtjikokfjnbhngaaGreatDoor

/- A screen's list in memory, cell by cell; what 'copy' and 'clear' make of it. -/
namespace Go.Proofs.YtjikokfjnbhngaaGreatDoor
open Go.RowKit
theorem info_parts {P:Program} {e:TypeId} {z:Value} {sz by_:Nat} (h:(P.info? e).map (fun i=>(i.zero,i.size,i.bytes))=some (some z,sz,by_)):∃ i,P.info? e=some i∧i.zero=some z∧i.size=sz∧i.bytes=by_:=by
 cases hq:P.info? e with
 | none=>simp [hq] at h
 | some i=>simp only [hq,Option.map_some,Option.some.injEq,Prod.mk.injEq] at h;exact⟨i,rfl,h.1,h.2.1,h.2.2⟩
def Scr (w:World) (b n:Nat) (f:Nat→Cel):Prop:=
 ∃ cur:Array Value,w.heap[b]?=some (.cells cur 66 (0,0))∧n*4≤cur.size∧∀ i,i < n→∀ j,j < 4→cur[i*4+j]?=cel4 (f i) j
theorem Scr.lt {w:World} {b n:Nat} {f:Nat→Cel} (h:Scr w b n f):b < w.heap.size:=by
 obtain⟨cur,hc,_⟩:=h
 exact(Array.getElem?_eq_some_iff.1 hc).1
theorem Scr.move {w w':World} {b n:Nat} {f:Nat→Cel} (h:Scr w b n f) (he:w'.heap[b]?=w.heap[b]?):Scr w' b n f:=by
 obtain⟨cur,hc,r⟩:=h
 exact⟨cur,by rw [he];exact hc,r⟩
theorem Scr.alloc {w:World} {b n:Nat} {f:Nat→Cel} (h:Scr w b n f) (o:Obj):Scr (w.alloc o) b n f:=h.move (Below.heap_alloc w o b h.lt)
theorem Scr.drew {w:World} {b n:Nat} {f:Nat→Cel} (h:Scr w b n f):Scr w.drew b n f:=h
theorem Scr.grown {w w':World} {b n:Nat} {f:Nat→Cel} {row:Option Nat} (h:Scr w b n f) (hg:w.grownBy w' row) (hne:some b≠row):Scr w' b n f:=h.move (hg.block b h.lt hne)
theorem Scr.below {w w':World} {b n B:Nat} {f:Nat→Cel} (h:Scr w b n f) (hb:Below B w w') (hB:b < B):Scr w' b n f:=h.move (hb.block b hB)
theorem Scr.set {w:World} {b n:Nat} {f:Nat→Cel} (h:Scr w b n f) {p:Addr} (hp:p.block≠b) (u:Value):Scr (w.setCell p u) b n f:=h.move (Below.heap_setCell _ _ _ _ (fun e=>hp e.symm))
theorem Scr.cells {w:World} {b n:Nat} {f:Nat→Cel} (h:Scr w b n f) (i:Nat) (hi:i < n):
  w.cell? ⟨b,i*4,none⟩=some (.int .i64 (f i).ch)∧w.cell? ⟨b,i*4+1,none⟩=some (.int .i64 (f i).ink)∧w.cell? ⟨b,i*4+2,none⟩=some (.int .i64 (f i).pic)∧w.cell? ⟨b,i*4+3,none⟩=some (.bool (f i).bold):=by
 obtain⟨cur,hc,hs,hr⟩:=h
 have key:∀ j,j < 4→w.cell? ⟨b,i*4+j,none⟩=cel4 (f i) j:=fun j hj=>by
  rw [←hr i hi j hj]
  simp [World.cell?,hc]
 exact⟨by have:=key 0 (by omega);simpa [cel4] using this,by have:=key 1 (by omega);simpa [cel4] using this,by have:=key 2 (by omega);simpa [cel4] using this,by have:=key 3 (by omega);simpa [cel4] using this⟩
theorem Scr.free {w:World} {b n:Nat} {f:Nat→Cel} (h:Scr w b n f) (j:Nat):w.frozen? ⟨b,j,none⟩=false:=by
 obtain⟨cur,hc,_⟩:=h
 simp [World.frozen?,hc]
theorem Scr.congr {w:World} {b n:Nat} {f f':Nat→Cel} (h:Scr w b n f) (he:∀ i,i < n→f i=f' i):Scr w b n f':=by
 obtain⟨cur,hc,hs,hr⟩:=h
 exact⟨cur,hc,hs,fun i hi j hj=>by rw [hr i hi j hj,he i hi]⟩
def flatC (h:Nat→Cel) (m:Nat):List Value:=(List.range m).flatMap fun i=>(ccells (h i)).toList
theorem flatC_succ (h:Nat→Cel) (m:Nat):flatC h (m+1)=flatC h m++(ccells (h m)).toList:=by
 unfold flatC
 rw [List.range_succ,List.flatMap_append]
 simp
theorem flatC_length (h:Nat→Cel) (m:Nat):(flatC h m).length=m*4:=by
 induction m with
 | zero=>rfl
 | succ m ih=>rw [flatC_succ,List.length_append,ih];simp;omega
theorem flatC_get (h:Nat→Cel) (m i j:Nat) (hi:i < m) (hj:j < 4):(flatC h m)[i*4+j]?=cel4 (h i) j:=by
 induction m with
 | zero=>omega
 | succ m ih=>
  rw [flatC_succ]
  by_cases e:i < m
  ·rw [List.getElem?_append_left (by rw [flatC_length];omega)]
   exact ih e
  ·obtain rfl:i=m:=by omega
   rw [List.getElem?_append_right (by rw [flatC_length];omega),flatC_length]
   have:i*4+j - i*4=j:=by omega
   rw [this]
   simp [cel4]
theorem flatC_one (h:Nat→Cel) (m:Nat):∀ v∈flatC h m,v.oneCell'=true:=by
 intro v hv
 unfold flatC at hv
 rw [List.mem_flatMap] at hv
 obtain⟨i,_,hv⟩:=hv
 simp at hv
 rcases hv with rfl | rfl | rfl | rfl <;>rfl
def layF (f:Nat→Cel) (d m:Nat) (h:Nat→Cel):Nat→Cel:=fun i=>if d≤i∧i < d+m then h (i - d) else f i
theorem Scr.lay {w:World} {b n:Nat} {f:Nat→Cel} {cur:Array Value} (hc:w.heap[b]?=some (.cells cur 66 (0,0))) (hs:n*4≤cur.size) (hr:∀ i,i < n→∀ j,j < 4→cur[i*4+j]?=cel4 (f i) j)
  (d m:Nat) (h:Nat→Cel) (hd:d+m≤n):Scr (w.setRow b (cur.toList.take (d*4)++(flatC h m++cur.toList.drop (d*4+(flatC h m).length))).toArray) b n (layF f d m h):=by
 refine⟨_,setRow_heap w b _ _ _ _ hc,?_,?_⟩
 ·simp [flatC_length];omega
 ·intro i hi j hj
  have hlen:(cur.toList.take (d*4)).length=d*4:=by simp;omega
  simp only [List.getElem?_toArray]
  unfold layF
  by_cases h1:i < d
  ·rw [List.getElem?_append_left (by rw [hlen];omega),List.getElem?_take_of_lt (by omega),if_neg (by omega)]
   simpa using hr i hi j hj
  ·rw [List.getElem?_append_right (by rw [hlen];omega),hlen]
   by_cases h2:i < d+m
   ·rw [List.getElem?_append_left (by rw [flatC_length];omega),if_pos (by omega)]
    have:i*4+j - d*4=(i - d)*4+j:=by omega
    rw [this]
    exact flatC_get h m _ j (by omega) hj
   ·rw [List.getElem?_append_right (by rw [flatC_length];omega),flatC_length,List.getElem?_drop,if_neg (by omega)]
    have:d*4+m*4+(i*4+j - d*4 - m*4)=i*4+j:=by omega
    rw [this]
    simpa using hr i hi j hj
theorem grown_setRow (w:World) (b:Nat) (cs:Array Value):w.grownBy (w.setRow b cs) (some b):=
 ⟨rfl,rfl,rfl,by simp,fun k _ hk=>setRow_other w b k cs (fun e=>hk (by rw [e]))⟩
theorem grown_refl (w:World) (row:Option Nat):w.grownBy w row:=⟨rfl,rfl,rfl,Nat.le_refl _,fun _ _ _=>rfl⟩
theorem grown_trans {a b c:World} {row:Option Nat} (h:a.grownBy b row) (k:b.grownBy c row):a.grownBy c row:=
 ⟨k.os.trans h.os,k.tape.trans h.tape,k.output.trans h.output,Nat.le_trans h.size k.size,fun i hi hne=>(k.block i (Nat.lt_of_lt_of_le hi h.size) hne).trans (h.block i hi hne)⟩
theorem grown_alloc {a w:World} {row:Option Nat} (h:a.grownBy w row) (o:Obj):a.grownBy (w.alloc o) row:=grown_trans h (World.grownBy_alloc w o row)
theorem grown_drew {a w:World} {row:Option Nat} (h:a.grownBy w row):a.grownBy w.drew row:=⟨h.os,h.tape,h.output,h.size,h.block⟩
theorem grown_set {a w : World} {row : Option Nat} (h : a.grownBy w row) {p : Addr} (hp : a.heap.size ≤ p.block ∨ some p.block = row) (u : Value) : a.grownBy (w.setCell p u) row :=
  ⟨h.os, h.tape, h.output, by have := h.size; simpa [World.setCell] using this, fun k hk hne => (Below.heap_setCell _ _ _ _ (fun e => by rcases hp with hp | hp; · omega
                                                                                                                                         · exact hne (by rw [e]; exact hp))).trans (h.block k hk hne)⟩
theorem Below.toGrown {w w':World} (h:Below w.heap.size w w') (row:Option Nat):w.grownBy w' row:=
 ⟨h.os,h.tape,h.output,h.size,fun k hk _=>h.block k hk⟩
theorem grown_block {w w':World} {row:Option Nat} (hg:w.grownBy w' row) {b:Nat} {o:Obj} (h:w.heap[b]?=some o) (hne:some b≠row):w'.heap[b]?=some o:=by
 rw [hg.block b (Array.getElem?_eq_some_iff.1 h).1 hne];exact h
theorem grown_below {w w':World} {b B:Nat} (hg:w.grownBy w' (some b)) (hB:B≤w.heap.size) (hb:B≤b):Below B w w':=
 ⟨hg.os,hg.tape,hg.output,hg.size,fun k hk=>hg.block k (by omega) (by simp;omega)⟩
theorem info49:(Tryz.prog.info? 66).map (fun i=>(i.zero,i.size,i.bytes))=some (some (.agg #[.int .i64 0,.int .i64 0,.int .i64 0,.bool false]),4,32):=by kernel_rfl
theorem run_copy4 (w:World) (ty:TypeId) (b n:Nat) (f:Nat→Cel) (hS:Scr w b n f) (d dLen dCap:Nat) (dp sp:Option Addr) (sLen sCap m:Nat) (h:Nat→Cel) (hm:m=Nat.min sLen dLen) (hd:d+m≤n)
  (hpos:0 < m→dp=some ⟨b,d*4,none⟩∧∃ ad,sp=some ad∧∀ i,i < m→∀ j,j < 4→w.cell? (ad.add (i*4+j))=cel4 (h i) j):
  ∃ w',(Builtin.copy_ #[38,38] ty #[.slice dp dLen dCap,.slice sp sLen sCap]).run Tryz.prog w=.ok (goInt m) w'∧Scr w' b n (layF f d m h)∧w.grownBy w' (some b):=by
 obtain⟨i0,hi,_,hz1,_⟩:=info_parts info49
 by_cases h0:0 < m
 ·obtain⟨rfl,ad,rfl,hsrc⟩:=hpos h0
  obtain⟨cur,hc,hs,hr⟩:=hS
  have hl:=run_loadCells_list (P:=Tryz.prog) w ad (flatC h m) (fun j v hv=>by
   have hj:j < m*4:=by have:=(List.getElem?_eq_some_iff.1 hv).1;rwa [flatC_length] at this
   have e:j=(j / 4)*4+j % 4:=by omega
   rw [e] at hv ⊢
   rw [flatC_get h m _ _ (by omega) (by omega)] at hv
   rw [hsrc _ (by omega) _ (by omega)]
   exact hv)
  have hst:=run_storeCells_at Tryz.prog b (d*4) 66 (flatC h m) 0 cur w hc (by rw [flatC_length];omega) (flatC_one h m)
  rw [flatC_length] at hl
  refine⟨_,?_,Scr.lay hc hs hr d m h hd,grown_setRow _ _ _⟩
  simp only [Nat.add_zero] at hst
  simp [Builtin.copy_,run_underlying Tryz.underlying38,Builtin.lenOf,Builtin.firstCells,sizeOf,typeInfo,hi,hz1, ←hm,hl,hst,List.append_assoc]
 ·obtain rfl:m=0:=by omega
  refine⟨w,?_,hS.congr (fun i _=>by unfold layF;rw [if_neg (by omega)]),grown_refl _ _⟩
  have hl:∀ (x:Addr),(loadCells x 0).run Tryz.prog w=.ok #[] w:=fun x=>by simpa using run_loadCells_list (P:=Tryz.prog) w x [] (by simp)
  cases dp <;>cases sp <;>simp [Builtin.copy_,run_underlying Tryz.underlying38,Builtin.lenOf,Builtin.firstCells,sizeOf,typeInfo,hi, ←hm,storeCells,hl]
theorem zeros4 (m:Nat):(Builtin.zeroCells #[.int .i64 0,.int .i64 0,.int .i64 0,.bool false] m).toList=flatC (fun _=>noCel) m:=by
 refine List.ext_getElem? fun k=>?_
 by_cases hk:k < m*4
 ·have e:k=(k / 4)*4+k % 4:=by omega
  have h2:=flatC_get (fun _=>noCel) m (k / 4) (k % 4) (by omega) (by omega)
  rw [←e] at h2
  rw [h2]
  have h4:k % 4=0∨k % 4=1∨k % 4=2∨k % 4=3:=by omega
  simp only [Builtin.zeroCells,Array.toList_map,Array.toList_range,List.getElem?_map]
  rw [List.getElem?_range (by simpa using hk)]
  rcases h4 with h | h | h | h <;>simp [h,cel4,noCel]
 ·rw [List.getElem?_eq_none (by rw [Array.length_toList,size_zeroCells];simp;omega),List.getElem?_eq_none (by rw [flatC_length];omega)]
theorem run_clear4 (w:World) (ty:TypeId) (b n:Nat) (f:Nat→Cel) (hS:Scr w b n f) (d m c:Nat) (dp:Option Addr) (hd:d+m≤n) (hpos:0 < m→dp=some ⟨b,d*4,none⟩):
  ∃ w',(Builtin.clear_ #[38] ty #[.slice dp m c]).run Tryz.prog w=.ok (.tuple #[]) w'∧Scr w' b n (clrF f d (d+m))∧w.grownBy w' (some b):=by
 obtain⟨i0,hi,hz0,hz1,_⟩:=info_parts info49
 by_cases h0:0 < m
 ·obtain rfl:=hpos h0
  obtain⟨cur,hc,hs,hr⟩:=hS
  have hst:=run_storeCells_at Tryz.prog b (d*4) 66 (flatC (fun _=>noCel) m) 0 cur w hc (by rw [flatC_length];omega) (flatC_one _ m)
  simp only [Nat.add_zero] at hst
  have e:layF f d m (fun _=>noCel)=clrF f d (d+m):=rfl
  refine⟨_,?_,e ▸ Scr.lay hc hs hr d m (fun _=>noCel) hd,grown_setRow _ _ _⟩
  obtain⟨k,rfl⟩:∃ k,m=k+1:=⟨m - 1,by omega⟩
  have hv:(zeroValue 66).run Tryz.prog w=.ok (.agg #[.int .i64 0,.int .i64 0,.int .i64 0,.bool false]) w:=by simp [zeroValue,typeInfo,hi,hz0]
  simp [Builtin.clear_,run_underlying Tryz.underlying38,hv,Value.cells,zeros4,hst,List.append_assoc]
 ·obtain rfl:m=0:=by omega
  refine⟨w,?_,hS.congr (fun i _=>by unfold clrF;rw [if_neg (by omega)]),grown_refl _ _⟩
  cases dp <;>simp [Builtin.clear_,run_underlying Tryz.underlying38]
theorem wpList_copy4 {w:World} {ops:Array Oper} {rest:List Oper} {o:Oper} {a:Act} {Q:Exit→Act→World→Prop} (hgd:o.guard=none) (dx sx:Operand)
  (ho:o.op=.call {callee:=.builtin .copy,args:=#[dx,sx],argTypes:=#[38,38]}) (dp sp:Option Addr) (dLen dCap sLen sCap:Nat) (hdv:a.eval dx=.slice dp dLen dCap) (hsv:a.eval sx=.slice sp sLen sCap)
  (b n:Nat) (f:Nat→Cel) (hS:Scr w b n f) (d m:Nat) (h:Nat→Cel) (hm:m=Nat.min sLen dLen) (hd:d+m≤n)
  (hpos:0 < m→dp=some ⟨b,d*4,none⟩∧∃ ad,sp=some ad∧∀ i,i < m→∀ j,j < 4→w.cell? (ad.add (i*4+j))=cel4 (h i) j)
  (hk:∀ w',Hid (Scr w' b n (layF f d m h))→Hid (w.grownBy w' (some b))→wpList Tryz.prog ops Q rest (a.put o.dst (goInt m)) w'):wpList Tryz.prog ops Q (o::rest) a w:=by
 refine wpList_plain hgd fun K hK=>?_
 obtain⟨w',hrun,h1,h2⟩:=run_copy4 w o.type b n f hS d dLen dCap dp sp sLen sCap m h hm hd hpos
 unfold Oper.wp
 simp [execOp,ho,resolve,invoke,builtin,hdv,hsv,hrun,Result.andThen]
 exact hK _ _ (hk w' h1 h2)
theorem wpList_clear4 {w:World} {ops:Array Oper} {rest:List Oper} {o:Oper} {a:Act} {Q:Exit→Act→World→Prop} (hgd:o.guard=none) (dx:Operand)
  (ho:o.op=.call {callee:=.builtin .clear,args:=#[dx],argTypes:=#[38]}) (dp:Option Addr) (m c:Nat) (hdv:a.eval dx=.slice dp m c)
  (b n:Nat) (f:Nat→Cel) (hS:Scr w b n f) (d:Nat) (hd:d+m≤n) (hpos:0 < m→dp=some ⟨b,d*4,none⟩)
  (hk:∀ w',Hid (Scr w' b n (clrF f d (d+m)))→Hid (w.grownBy w' (some b))→wpList Tryz.prog ops Q rest (a.put o.dst (.tuple #[])) w'):wpList Tryz.prog ops Q (o::rest) a w:=by
 refine wpList_plain hgd fun K hK=>?_
 obtain⟨w',hrun,h1,h2⟩:=run_clear4 w o.type b n f hS d m c dp hd hpos
 unfold Oper.wp
 simp [execOp,ho,resolve,invoke,builtin,hdv,hrun,Result.andThen]
 exact hK _ _ (hk w' h1 h2)
@[reducible] def gzero:Obj:=.cells #[.int .i64 0,.int .i64 0,.slice none 0 0,.int .i64 0,.int .i64 0,.int .i64 0,.bool false,.int .i64 0,.int .i64 0] 40
theorem Scr.at {w:World} {b n:Nat} {f:Nat→Cel} (h:Scr w b n f) (i j off:Nat) (hi:i < n) (hj:j < 4) (ho:off=i*4+j):w.cell? ⟨b,off,none⟩=cel4 (f i) j:=by
 obtain⟨cur,hc,hs,hr⟩:=h
 rw [ho, ←hr i hi j hj]
 simp [World.cell?,hc]
theorem add_at (b o j:Nat):(⟨b,o,none⟩:Addr).add j=⟨b,o+j,none⟩:=by unfold Addr.add;split <;>simp_all
end Go.Proofs.YtjikokfjnbhngaaGreatDoor

/- What 'GoodCell', 'Good' and its parts, and 'At' answer; they change nothing. -/
namespace Go.Proofs.YtjikokfjnbhngaaGreatDoor
open Go.RowKit
def RdS (w:World) (ao:Option Addr) (n:Nat) (f:Nat→Cel):Prop:=
 n=0∨∃ b off,ao=some ⟨b,off,none⟩∧∀ i,i < n→w.cell? ⟨b,off+i*4,none⟩=some (.int .i64 (f i).ch)∧w.cell? ⟨b,off+i*4+1,none⟩=some (.int .i64 (f i).ink)∧w.cell? ⟨b,off+i*4+2,none⟩=some (.int .i64 (f i).pic)∧w.cell? ⟨b,off+i*4+3,none⟩=some (.bool (f i).bold)
theorem RdS.below {w w':World} {ao:Option Addr} {n:Nat} {f:Nat→Cel} (h:RdS w ao n f) (hb:Below w.heap.size w w'):RdS w' ao n f:=by
 rcases h with h | ⟨b,off,ha,hc⟩
 ·exact .inl h
 ·refine .inr ⟨b,off,ha,fun i hi=>?_⟩
  obtain⟨h0,h1,h2,h3⟩:=hc i hi
  have hlt:=World.block_lt_of_cell? _ _ h0
  simp only at hlt
  exact⟨(hb.cell (p:=⟨b,off+i*4,none⟩) hlt).trans h0,(hb.cell (p:=⟨b,off+i*4+1,none⟩) hlt).trans h1,(hb.cell (p:=⟨b,off+i*4+2,none⟩) hlt).trans h2,(hb.cell (p:=⟨b,off+i*4+3,none⟩) hlt).trans h3⟩
theorem Scr.rd {w:World} {b n:Nat} {f:Nat→Cel} (h:Scr w b n f):RdS w (some ⟨b,0,none⟩) n f:=by
 refine .inr ⟨b,0,rfl,fun i hi=>?_⟩
 simp only [Nat.zero_add]
 exact h.cells i hi
theorem eql_cell (c d:Cel) (w:World):(binOp .eql 66 (cval c) (cval d)).run Tryz.prog w=.ok (.bool (celB c d)) w:=by
 obtain⟨a1,a2,a3,a4⟩:=c
 obtain⟨b1,b2,b3,b4⟩:=d
 by_cases h1:a1=b1
 ·by_cases h2:a2=b2
  ·by_cases h3:a3=b3
   ·by_cases h4:a4=b4
    ·subst h1 h2 h3 h4
     simp [go_sem,celB]
    ·subst h1 h2 h3
     simp [go_sem,celB,h4]
   ·subst h1 h2
    simp [go_sem,celB,h3]
  ·subst h1
   simp [go_sem,celB,h2]
 ·simp [go_sem,celB,h1]
theorem neq_cell (c d:Cel) (w:World):(binOp .neq 66 (cval c) (cval d)).run Tryz.prog w=.ok (.bool (!celB c d)) w:=by
 obtain⟨a1,a2,a3,a4⟩:=c
 obtain⟨b1,b2,b3,b4⟩:=d
 by_cases h1:a1=b1
 ·by_cases h2:a2=b2
  ·by_cases h3:a3=b3
   ·by_cases h4:a4=b4
    ·subst h1 h2 h3 h4
     simp [go_sem,celB]
    ·subst h1 h2 h3
     simp [go_sem,celB,h4]
   ·subst h1 h2
    simp [go_sem,celB,h3]
  ·subst h1
   simp [go_sem,celB,h2]
 ·simp [go_sem,celB,h1]
def atG (g:Gr) (r c:Int):Cel:=if g.wide≤24∧g.high≤10∧0≤r∧r < g.high∧0≤c∧c < g.wide∧r*g.wide+c < g.n then g.f (r*g.wide+c).toNat else noCel
set_option maxHeartbeats 1000000 in
theorem goodCell_plain (ch ink:Int) (bold:Bool) (w:World):Calls Tryz.prog 83 #[cval ⟨ch,ink,0,bold⟩] w fun e w'=>e=.returned (.bool (goodC ⟨ch,ink,0,bold⟩))∧Below w.heap.size w w':=by
 obtain⟨p2,hp2⟩:∃ p2,p2=celB ⟨ch,ink,0,bold⟩ noCel:=⟨_,rfl⟩
 have E2:∀ w,(binOp .eql 66 (.agg #[.int .i64 ch,.int .i64 ink,.int .i64 0,.bool bold]) (.agg #[.int .i64 0,.int .i64 0,.int .i64 0,.bool false])).run Tryz.prog w=.ok (.bool p2) w:=fun w=>by rw [hp2];exact eql_cell ⟨ch,ink,0,bold⟩ noCel w
 obtain⟨q1,hq1⟩:∃ q,q=plainN ch:=⟨_,rfl⟩
 obtain⟨q2,hq2⟩:∃ q,q=inkN ink:=⟨_,rfl⟩
 have HP:Hid (∀ w,Calls Tryz.prog 101 #[.int .i64 ch] w fun e w'=>e=.returned (.bool q1)∧w'=w):=fun w=>by rw [hq1];exact plain_any ch w
 have HI:Hid (∀ w,Calls Tryz.prog 84 #[.int .i64 ink] w fun e w'=>e=.returned (.bool q2)∧w'=w):=fun w=>by rw [hq2];exact ink_any ink w
 have HG:Hid (goodC ⟨ch,ink,0,bold⟩=(p2 || (q1 && q2))):=by
  show goodC ⟨ch,ink,0,bold⟩=_
  rw [hp2,hq1,hq2]
  simp [goodC]
 clear hp2 hq1 hq2
 obtain⟨G,hG⟩:∃ G,G=goodC ⟨ch,ink,0,bold⟩:=⟨_,rfl⟩
 rw [←hG] at HG ⊢
 clear hG
 cases p2 <;>cases q1
 all_goals (
  go_enter Tryz.func83,Tryz.ntmps83
  go_wp2_with (first
   | (go_at_call 101;refine(HP.out _).mono ?_;rintro e w1 ⟨rfl,rfl⟩)
   | (go_at_call 84;refine(HI.out _).mono ?_;rintro e w1 ⟨rfl,rfl⟩)))
 all_goals (go_ret;refine⟨ret_bool ?_,below1 _ _⟩;rw [HG.out];simp)
set_option maxHeartbeats 1000000 in
theorem goodCell_pic (ch ink pic:Int) (bold:Bool) (hpic:pic≠0) (w:World):Calls Tryz.prog 83 #[cval ⟨ch,ink,pic,bold⟩] w fun e w'=>e=.returned (.bool (goodC ⟨ch,ink,pic,bold⟩))∧Below w.heap.size w w':=by
 obtain⟨p1,hp1⟩:∃ p1,p1=celB ⟨ch,ink,pic,bold⟩ ⟨0,0,pic,false⟩:=⟨_,rfl⟩
 have E1:∀ w,(binOp .eql 66 (.agg #[.int .i64 ch,.int .i64 ink,.int .i64 pic,.bool bold]) (.agg #[.int .i64 0,.int .i64 0,.int .i64 pic,.bool false])).run Tryz.prog w=.ok (.bool p1) w:=fun w=>by rw [hp1];exact eql_cell ⟨ch,ink,pic,bold⟩ ⟨0,0,pic,false⟩ w
 have E2:∀ w,(binOp .eql 66 (.agg #[.int .i64 ch,.int .i64 ink,.int .i64 pic,.bool bold]) (.agg #[.int .i64 0,.int .i64 0,.int .i64 0,.bool false])).run Tryz.prog w=.ok (.bool false) w:=fun w=>by
  have:=eql_cell ⟨ch,ink,pic,bold⟩ noCel w
  rw [show celB ⟨ch,ink,pic,bold⟩ noCel=false by simp [celB,noCel,hpic]] at this
  exact this
 have HG:Hid (goodC ⟨ch,ink,pic,bold⟩=(p1 && decide (1≤pic∧pic≤8))):=by
  show goodC ⟨ch,ink,pic,bold⟩=_
  rw [hp1]
  simp [goodC,celB,noCel,hpic]
 have hp0:(pic==0)=false:=by simp [hpic]
 clear hp1 hpic
 obtain⟨G,hG⟩:∃ G,G=goodC ⟨ch,ink,pic,bold⟩:=⟨_,rfl⟩
 rw [←hG] at HG ⊢
 clear hG
 cases p1
 ·go_enter Tryz.func83,Tryz.ntmps83
  go_wp2
  go_ret
  exact⟨ret_bool (by rw [HG.out];rfl),below1 _ _⟩
 ·go_enter Tryz.func83,Tryz.ntmps83
  go_wp2
  all_goals (go_ret;refine⟨ret_bool ?_,below1 _ _⟩;rw [HG.out];first | (simp;done) | (simp;omega))
theorem goodCell_any (c:Cel) (w:World):Calls Tryz.prog 83 #[cval c] w fun e w'=>e=.returned (.bool (goodC c))∧Below w.heap.size w w':=by
 obtain⟨ch,ink,pic,bold⟩:=c
 by_cases h:pic=0
 ·subst h;exact goodCell_plain ch ink bold w
 ·exact goodCell_pic ch ink pic bold h w
theorem goodSides_any (g:Gr) (ao:Option Addr) (cap:Nat) (w:World):Calls Tryz.prog 57 #[gval g ao cap] w fun e w'=>e=.returned (.bool (sidesB g))∧w'=w.alloc (gbox g ao cap):=by
 go_enter Tryz.func57,Tryz.ntmps57
 go_wp2
 all_goals (go_ret;refine⟨ret_bool ?_,rfl⟩;rw [Bool.eq_iff_iff];simp only [sidesB,decide_eq_true_eq,Bool.false_eq_true,false_iff];omega)
theorem goodCursor_any (g:Gr) (ao:Option Addr) (cap:Nat) (w:World):Calls Tryz.prog 59 #[gval g ao cap] w fun e w'=>e=.returned (.bool (cursorB g))∧w'=w.alloc (gbox g ao cap):=by
 go_enter Tryz.func59,Tryz.ntmps59
 go_wp2_with (go_at_call 84;refine(ink_any _ _).mono ?_;rintro e w1 ⟨rfl,rfl⟩)
 all_goals (go_ret;refine⟨ret_bool ?_,rfl⟩;rw [Bool.eq_iff_iff];simp only [cursorB,inkN,decide_eq_true_eq,Bool.and_eq_true,Bool.false_eq_true,false_iff];omega)
end Go.Proofs.YtjikokfjnbhngaaGreatDoor
