/- Several texts in one, each as it was: DMach, DWay, DInk, DCol. -/
import Derived.Test.YtjikokfjnbhngaaGreatDoorMGMach
import Derived.Test.YtjikokfjnbhngaaGreatDoorMFMach
import Derived.Lib.Join
import Derived.Lib.TrimByte
import Derived.Test.YtjikokfjnbhngaaGreatDoorMFFold

/- The plain machine of chapter 5: a pen that writes bytes, and knows the screen that they lead to, as functions on lists; nothing of the program is in it. -/
namespace Go.Proofs.YtjikokfjnbhngaaGreatDoor
structure Pen where
 out:List UInt8
 g:Gr
def jumpD (row col:Int):List UInt8:=27::91::(Ps.dec (row+1).toNat++59::(Ps.dec (col+1).toNat++[72]))
def moveD (g:Gr) (row col:Int):List UInt8:=if g.row=row∧g.col=col then [] else jumpD row col
def toG (g:Gr) (row col:Int):Gr:={g with row:=row,col:=col}
def moveP (p:Pen) (row col:Int):Pen:=⟨p.out++moveD p.g row col,toG p.g row col⟩
def goneD (g:Gr) (c:Cel):Bool:=(g.bold && !c.bold) || (decide (0 < g.ink) && decide (c.ink=0))
def inksD (g:Gr) (c:Cel):List (List UInt8):=
 (if goneD g c then [[]] else [])++(if c.bold=(if goneD g c then false else g.bold) then [] else [[49]])++(if c.ink=(if goneD g c then 0 else g.ink) then [] else [Ps.dec (29+c.ink).toNat])
def inkNumsD (g:Gr) (c:Cel):List UInt8:=Lib.join (inksD g c) [59]
def sameInk (g:Gr) (c:Cel):Bool:=decide (g.ink=c.ink) && (g.bold==c.bold)
def withInk (g:Gr) (c:Cel):Gr:={g with ink:=c.ink,bold:=c.bold}
def inkP (p:Pen) (c:Cel):Pen:=if sameInk p.g c then p else ⟨p.out++27::91::(inkNumsD p.g c++[109]),withInk p.g c⟩
def withCell (g:Gr) (c:Cel):Gr:={g with f:=putF g.f (g.row*g.wide+g.col).toNat c,col:=g.col+1}
def chD (c:Cel):UInt8:=UInt8.ofNat c.ch.toNat
def printP (p:Pen) (c:Cel):Pen:=⟨(inkP p c).out++[chD c],withCell (inkP p c).g c⟩
def lackB (h c:Cel):Bool:=decide (0 < c.pic) && !celB h c
def payD (f want:Nat→Cel) (b:Nat) (j:Nat):UInt8:=if lackB (f (b+j)) (want j) then UInt8.ofNat (96+(want j).pic).toNat else 32
def paysD (f want:Nat→Cel) (b c n:Nat):List UInt8:=(List.range n).map fun j=>payD f want b (c+j)
def colF (f want:Nat→Cel) (b c n:Nat):Nat→Cel:=fun i=>if b+c≤i∧i < b+c+n∧lackB (f i) (want (i - b))=true then want (i - b) else f i
def rowAt (g:Gr):Nat:=(g.row*g.wide).toNat
def leftD (g:Gr):Nat:=g.wide.toNat - g.col.toNat
def colBytes (g:Gr) (want:Nat→Cel):List UInt8:=27::80::(Lib.trimRightB (paysD g.f want (rowAt g) g.col.toNat (leftD g)) 32++[27,92])
def colG (g:Gr) (want:Nat→Cel):Gr:={g with f:=colF g.f want (rowAt g) g.col.toNat (leftD g)}
def colourP (p:Pen) (want:Nat→Cel):Pen:=⟨p.out++colBytes p.g want,colG p.g want⟩
def surB (h c:Cel):Bool:=celB c noCel && !celB h c
def surD (have_ want:Nat→Cel) (n:Nat):Nat→Int×Int
 | 0=>((n:Int), -1)
 | k+1=>if surB (have_ k) (want k) then (min (surD have_ want n k).1 (k:Int),(k:Int)) else surD have_ want n k
def keepB (h c:Cel):Bool:=!celB c noCel && celB h c
def keptD (have_ want:Nat→Cel):Nat→Int
 | 0=>0
 | k+1=>if keepB (have_ k) (want k) then keptD have_ want k+1 else keptD have_ want k
def shF (f:Nat→Cel) (a:Nat):Nat→Cel:=fun i=>f (a+i)
def clearG (g:Gr) (a b:Nat):Gr:={g with f:=clrF g.f a b}
def eraseAtP (p:Pen) (row:Nat) (want:Nat→Cel) (b w:Nat) (first last:Int):Pen:=
 if last < 0 then p
 else if keptD (shF p.g.f (b+first.toNat)) (shF want first.toNat) (w - first.toNat)≤keptD (shF p.g.f b) want (last+1).toNat then
  ⟨(moveP p row first).out++[27,91,75],clearG (moveP p row first).g (b+first.toNat) (b+w)⟩
 else ⟨(moveP p row last).out++[27,91,49,75],clearG (moveP p row last).g b (b+(last+1).toNat)⟩
def eraseP (p:Pen) (row:Nat) (want:Nat→Cel):Pen:=
 eraseAtP p row want (row*p.g.wide.toNat) p.g.wide.toNat (surD (shF p.g.f (row*p.g.wide.toNat)) want p.g.wide.toNat p.g.wide.toNat).1 (surD (shF p.g.f (row*p.g.wide.toNat)) want p.g.wide.toNat p.g.wide.toNat).2
def cellP (p:Pen) (row:Nat) (want:Nat→Cel) (j:Nat):Pen:=
 if celB (p.g.f (row*p.g.wide.toNat+j)) (want j) then p
 else if 0 < (want j).pic then colourP (moveP p row j) want
 else printP (moveP p row j) (want j)
def cellsP (p:Pen) (row:Nat) (want:Nat→Cel):Nat→Pen
 | 0=>p
 | k+1=>cellP (cellsP p row want k) row want k
def rowP (p:Pen) (row:Nat) (want:Nat→Cel):Pen:=cellsP (eraseP p row want) row want p.g.wide.toNat
def rowsP (p:Pen) (t:Gr):Nat→Pen
 | 0=>p
 | k+1=>rowP (rowsP p t k) k (shF t.f (k*t.wide.toNat))
def showP (p:Pen) (t:Gr):Pen:=moveP (rowsP p t t.high.toNat) t.row t.col
def showsB (g:Gr):Bool:=goodG g && decide (g.col < g.wide)
def turnB (x t:Gr):Bool:=goodG x && showsB t && decide (x.wide=t.wide) && decide (x.high=t.high)
def turnP (x t:Gr):Pen:=showP ⟨[],x⟩ t
def anewP (t:Gr):Pen:=showP ⟨[27,99],newG t.wide t.high⟩ t
end Go.Proofs.YtjikokfjnbhngaaGreatDoor

/- Ways: the bytes of a move lead the cursor where they are to; how long they are. -/
namespace Go.Proofs.YtjikokfjnbhngaaGreatDoor
def Num (t:List UInt8) (v:Int):Prop:=∀ ps:List Int,Ps.feedS (Ps.inCmd (ps++[0])) t=Ps.inCmd (ps++[v])∧Ps.feedE (Ps.inCmd (ps++[0])) t=[]
theorem num_no:Num [] 0:=fun _=>⟨rfl,rfl⟩
theorem num_dec (n:Nat) (h:n < 1000):Num (Ps.dec n) n:=fun ps=>Ps.sq_num ps n h
theorem joinTail_cons (sep x:List UInt8) (r:List (List UInt8)):Lib.joinTail sep (x::r)=sep++x++Lib.joinTail sep r:=by
 simp [Lib.joinTail]
theorem feed_tail:∀ (l:List (List UInt8×Int)) (ps:List Int),(∀ x∈l,Num x.1 x.2)→ps.length+l.length≤4→Ps.feedS (Ps.inCmd ps) (Lib.joinTail [59] (l.map (·.1)))=Ps.inCmd (ps++l.map (·.2))∧Ps.feedE (Ps.inCmd ps) (Lib.joinTail [59] (l.map (·.1)))=[]
 | [],ps,_,_=>by simp [Lib.joinTail,Ps.feedS,Ps.feedE]
 | x::r,ps,h,hl=>by
  have hx:=h x (by simp) ps
  have h3:=Ps.sq_semi ps (by simp at hl;omega)
  have h4:=feed_tail r (ps++[x.2]) (fun y hy=>h y (by simp [hy])) (by simp at hl ⊢;omega)
  have hb:Ps.bint 59=59:=rfl
  rw [List.map_cons,joinTail_cons,List.append_assoc,List.singleton_append]
  constructor
  ·rw [Ps.feedS_cons,hb,h3,Ps.feedS_append,hx.1,h4.1]
   simp
  ·rw [Ps.feedE_cons,hb,h3,Ps.feedE_append,hx.1,hx.2,h4.2]
   rfl
theorem word_join (x:List UInt8×Int) (l:List (List UInt8×Int)) (c:UInt8) (hx:Num x.1 x.2) (h:∀ y∈l,Num y.1 y.2) (hl:l.length≤3) (h1:64≤c.toNat) (h2:c.toNat≤126):
  Ps.Word (27::91::(Lib.join (x.1::l.map (·.1)) [59]++[c])) [⟨3,Ps.bint c,x.2::l.map (·.2),⟨#[]⟩⟩]:=by
 have e1:Ps.stp Ps.ground (Ps.bint 27)=(⟨1,[],⟨#[]⟩,false⟩,Ps.noEv):=rfl
 have e2:Ps.stp ⟨1,[],⟨#[]⟩,false⟩ (Ps.bint 91)=(Ps.inCmd ([]++[0]),Ps.noEv):=rfl
 have k1:=hx []
 have k2:=feed_tail l ([]++[x.2]) h (by simp;omega)
 have k3:=Ps.sq_end ([]++[x.2]++l.map (·.2)) c h1 h2
 rw [Lib.join_cons]
 refine⟨?_,?_⟩
 ·rw [Ps.feedS_cons,e1,Ps.feedS_cons,e2,Ps.feedS_append,Ps.feedS_append,k1.1,k2.1,Ps.feedS_cons,k3]
  rfl
 ·rw [Ps.feedE_cons,e1,Ps.feedE_cons,e2,Ps.feedE_append,Ps.feedE_append,Ps.feedS_append,k1.1,k1.2,k2.1,k2.2,Ps.feedE_cons,k3]
  rfl
theorem len_dec (n:Nat) (h:n < 100):(Ps.dec n).length≤2:=by
 unfold Ps.dec
 split
 ·simp
 ·simp
theorem sends_one {g x:Gr} {l:List UInt8} {k b:Int} {ps:List Int} {pl:ByteArray} (h:Ps.Word l [⟨k,b,ps,pl⟩]) (hc:checkE ⟨k,b,ps,pl⟩=0) (hx:doneG g ⟨k,b,ps,pl⟩=x):Sends g l x:=
 ⟨_,h,by rw [←hx];exact did_one g _ hc⟩
theorem csiN_pos (n:Int) (r:List Int) (h1:1≤n) (h2:n < 999):csiN (n::r)=n:=by
 have:numP (n::r) 0=n:=by
  show max 0 (min n 999)=_
  omega
 unfold csiN
 rw [this]
 omega
theorem sends_jump {g:Gr} (ok:OkG g) (r c:Int) (h1:0≤r) (h2:r < g.high) (h3:0≤c) (h4:c < g.wide):Sends g (jumpD r c) (toG g r c):=by
 have hw:=ok.w2
 have hh:=ok.h2
 have n1:Num (Ps.dec (r+1).toNat) (r+1):=by
  have:=num_dec (r+1).toNat (by omega)
  rwa [Int.toNat_of_nonneg (by omega)] at this
 have n2:Num (Ps.dec (c+1).toNat) (c+1):=by
  have:=num_dec (c+1).toNat (by omega)
  rwa [Int.toNat_of_nonneg (by omega)] at this
 unfold jumpD
 have hj:Ps.dec (r+1).toNat++59::(Ps.dec (c+1).toNat++[72])=Lib.join (Ps.dec (r+1).toNat::[(Ps.dec (c+1).toNat,c+1)].map (·.1)) [59]++[72]:=by
  rw [Lib.join_cons]
  simp [Lib.joinTail]
 rw [hj]
 refine sends_one (word_join (Ps.dec (r+1).toNat,r+1) [(Ps.dec (c+1).toNat,c+1)] 72 n1 (fun y hy=>?_) (by simp) (by decide) (by decide)) rfl ?_
 ·simp only [List.mem_singleton] at hy
  subst hy
  exact n2
 ·show csiG g 72 [r+1,c+1]=_
  rw [csi72,csiN_pos (r+1) _ (by omega) (by omega)]
  have e2:max 1 (min (numP [r+1,c+1] 1) g.wide) - 1=c:=by
   have:numP [r+1,c+1] 1=c+1:=by
    show max 0 (min (c+1) 999)=_
    omega
   rw [this]
   omega
  have e1:min (r+1) g.high - 1=r:=by omega
  rw [e1,e2]
  rfl
theorem ok_toG {g:Gr} (ok:OkG g) (r c:Int) (h1:0≤r) (h2:r < g.high) (h3:0≤c) (h4:c≤g.wide):OkG (toG g r c):=
 ⟨ok.w1,ok.w2,ok.h1,ok.h2,ok.size,ok.cells,h1,h2,h3,h4,ok.i1,ok.i2,ok.t1,ok.t2,ok.t3⟩
theorem sends_moveD {g:Gr} (ok:OkG g) (r c:Int) (h1:0≤r) (h2:r < g.high) (h3:0≤c) (h4:c < g.wide):Sends g (moveD g r c) (toG g r c):=by
 unfold moveD
 split
 ·rename_i h
  have:toG g r c=g:=by rw [←h.1, ←h.2];rfl
  rw [this]
  exact sends_nil g
 ·exact sends_jump ok r c h1 h2 h3 h4
theorem len_jump (r c:Int) (h1:0≤r) (h2:r < 10) (h3:0≤c) (h4:c < 24):(jumpD r c).length≤8:=by
 have a:=len_dec (r+1).toNat (by omega)
 have b:=len_dec (c+1).toNat (by omega)
 unfold jumpD
 simp
 omega
theorem len_moveD {g:Gr} (ok:OkG g) (r c:Int) (h1:0≤r) (h2:r < g.high) (h3:0≤c) (h4:c < g.wide):
  (moveD g r c).length≤8∧(r=g.row→c=g.col→moveD g r c=[]):=by
 have hw:=ok.w2
 have hh:=ok.h2
 have a:=len_jump r c h1 (by omega) h3 (by omega)
 refine⟨?_,?_⟩
 ·unfold moveD
  split
  ·simp
  ·exact a
 ·intro e e2
  unfold moveD
  rw [if_pos ⟨e.symm,e2.symm⟩]
end Go.Proofs.YtjikokfjnbhngaaGreatDoor

/- Ink: the bytes that take it; a letter that is printed; how long they are. -/
namespace Go.Proofs.YtjikokfjnbhngaaGreatDoor
theorem ink1_0 (g:Gr):ink1 g 0={g with ink:=0,bold:=false}:=rfl
theorem ink1_1 (g:Gr):ink1 g 1={g with bold:=true}:=rfl
theorem ink1_k (g:Gr) (i:Int) (h1:1≤i) (h2:i≤8):ink1 g (29+i)={g with ink:=i}:=by
 unfold ink1
 rw [if_neg (by omega),if_neg (by omega),if_neg (by omega),if_pos (by omega)]
 have:29+i - 29=i:=by omega
 rw [this]
theorem num_ink (i:Int) (h1:1≤i) (h2:i≤8):Num (Ps.dec (29+i).toNat) (29+i):=by
 have:=num_dec (29+i).toNat (by omega)
 rwa [Int.toNat_of_nonneg (by omega)] at this
theorem num_one:Num [49] 1:=num_dec 1 (by omega)
theorem len_ink (i:Int) (h1:1≤i) (h2:i≤8):(Ps.dec (29+i).toNat).length=2:=by
 unfold Ps.dec
 rw [if_neg (by omega),if_pos (by omega)]
 rfl
structure InkTexts (g:Gr) (c:Cel) (x:List UInt8×Int) (l:List (List UInt8×Int)):Prop where
 texts:inksD g c=x.1::l.map (·.1)
 first:Num x.1 x.2
 rest:∀ y∈l,Num y.1 y.2
 few:l.length≤2
 makes:inkG g (x.2::l.map (·.2))=withInk g c
 short:(Lib.join (inksD g c) [59]).length≤4
theorem ink_texts {g:Gr} (hg:0≤g.ink∧g.ink≤8) (c:Cel) (hc:0≤c.ink∧c.ink≤8) (hs:sameInk g c=false):∃ x l,InkTexts g c x l:=by
 by_cases hz:goneD g c=true
 ·-- all goes first
  by_cases hb:c.bold=false
  ·by_cases hi:c.ink=0
   ·have e:inksD g c=[[]]:=by simp [inksD,hz,hb,hi]
    refine⟨([],0),[],⟨by rw [e];rfl,num_no,by simp,by simp,?_,by rw [e];simp [Lib.join_one]⟩⟩
    simp [inkG,ink1_0,withInk,hb,hi]
   ·have e:inksD g c=[[],Ps.dec (29+c.ink).toNat]:=by simp [inksD,hz,hb,hi]
    have k:=num_ink c.ink (by omega) (by omega)
    refine⟨([],0),[(Ps.dec (29+c.ink).toNat,29+c.ink)],⟨by rw [e];rfl,num_no,by simpa using k,by simp,?_,?_⟩⟩
    ·simp [inkG,ink1_0,ink1_k _ c.ink (by omega) (by omega),withInk,hb]
    ·rw [e,Lib.join_cons]
     have:=len_ink c.ink (by omega) (by omega)
     simp [Lib.joinTail,this]
  ·have hb':c.bold=true:=by simpa using hb
   by_cases hi:c.ink=0
   ·have e:inksD g c=[[],[49]]:=by simp [inksD,hz,hb',hi]
    refine⟨([],0),[([49],1)],⟨by rw [e];rfl,num_no,by simpa using num_one,by simp,?_,by rw [e,Lib.join_cons];simp [Lib.joinTail]⟩⟩
    simp [inkG,ink1_0,ink1_1,withInk,hb',hi]
   ·-- not at once
    exfalso
    simp [goneD,hb',hi] at hz
 ·have hz':goneD g c=false:=by simpa using hz
  have h1:g.bold=true→c.bold=true:=by
   intro h
   simp only [goneD,h,Bool.true_and,Bool.or_eq_false_iff,Bool.not_eq_false'] at hz'
   exact hz'.1
  have h2:0 < g.ink→c.ink≠0:=by
   intro h h0
   simp [goneD,h,h0] at hz'
  by_cases hb:c.bold=g.bold
  ·have hi:c.ink≠g.ink:=by
    intro e
    simp [sameInk,e,hb] at hs
   have e:inksD g c=[Ps.dec (29+c.ink).toNat]:=by simp [inksD,hz',hb,hi]
   have k:=num_ink c.ink (by omega) (by omega)
   refine⟨(Ps.dec (29+c.ink).toNat,29+c.ink),[],⟨by rw [e];rfl,k,by simp,by simp,?_,?_⟩⟩
   ·simp [inkG,ink1_k _ c.ink (by omega) (by omega),withInk,hb]
   ·rw [e,Lib.join_one]
    have:=len_ink c.ink (by omega) (by omega)
    omega
  ·have hcb:c.bold=true:=by
    cases h:c.bold
    ·cases h':g.bold
     ·rw [h,h'] at hb;exact absurd rfl hb
     ·exact absurd (h1 h') (by simp [h])
    ·rfl
   by_cases hi:c.ink=g.ink
   ·have e:inksD g c=[[49]]:=by simp [inksD,hz',hb,hi]
    refine⟨([49],1),[],⟨by rw [e];rfl,num_one,by simp,by simp,?_,by rw [e];simp [Lib.join_one]⟩⟩
    simp [inkG,ink1_1,withInk,hcb,hi]
   ·have e:inksD g c=[[49],Ps.dec (29+c.ink).toNat]:=by simp [inksD,hz',hb,hi]
    have k:=num_ink c.ink (by omega) (by omega)
    refine⟨([49],1),[(Ps.dec (29+c.ink).toNat,29+c.ink)],⟨by rw [e];rfl,num_one,by simpa using k,by simp,?_,?_⟩⟩
    ·simp [inkG,ink1_1,ink1_k _ c.ink (by omega) (by omega),withInk,hcb]
    ·rw [e,Lib.join_cons]
     have:=len_ink c.ink (by omega) (by omega)
     simp [Lib.joinTail,this]
theorem sends_inkD {g:Gr} (hg:0≤g.ink∧g.ink≤8) (c:Cel) (hc:0≤c.ink∧c.ink≤8) (hs:sameInk g c=false):Sends g (27::91::(inkNumsD g c++[109])) (withInk g c)∧(27::91::(inkNumsD g c++[109])).length≤7:=by
 obtain⟨x,l,h⟩:=ink_texts hg c hc hs
 refine⟨?_,?_⟩
 ·unfold inkNumsD
  rw [h.texts]
  refine sends_one (word_join x l 109 h.first h.rest (by have:=h.few;omega) (by decide) (by decide)) rfl ?_
  show csiG g 109 (x.2::l.map (·.2))=_
  rw [csi109,h.makes]
 ·have:=h.short
  unfold inkNumsD
  simp
  omega
theorem ok_withInk {g:Gr} (ok:OkG g) (c:Cel) (hc:0≤c.ink∧c.ink≤8):OkG (withInk g c):=
 ⟨ok.w1,ok.w2,ok.h1,ok.h2,ok.size,ok.cells,ok.r1,ok.r2,ok.c1,ok.c2,hc.1,hc.2,ok.t1,ok.t2,ok.t3⟩
structure Adds (p q:Pen) (k:Nat):Prop where
 more:∃ m,q.out=p.out++m∧m.length≤k∧Sends p.g m q.g
theorem Adds.refl (p:Pen):Adds p p 0:=⟨[],by simp,by simp,sends_nil _⟩
theorem Adds.trans {p q r:Pen} {a b:Nat} (h:Adds p q a) (k:Adds q r b):Adds p r (a+b):=by
 obtain⟨m,h1,h2,h3⟩:=h.more
 obtain⟨n,k1,k2,k3⟩:=k.more
 exact⟨m++n,by rw [k1,h1,List.append_assoc],by simp;omega,h3.append k3⟩
theorem Adds.mono {p q:Pen} {a b:Nat} (h:Adds p q a) (hab:a≤b):Adds p q b:=by
 obtain⟨m,h1,h2,h3⟩:=h.more
 exact⟨m,h1,by omega,h3⟩
theorem Adds.ok {p q:Pen} {a:Nat} (h:Adds p q a) (ok:OkG p.g):OkG q.g∧q.g.wide=p.g.wide∧q.g.high=p.g.high∧q.g.n=p.g.n:=by
 obtain⟨m,_,_,h3⟩:=h.more
 exact h3.ok ok
theorem adds_move {p:Pen} (ok:OkG p.g) (r c:Int) (h1:0≤r) (h2:r < p.g.high) (h3:0≤c) (h4:c < p.g.wide):Adds p (moveP p r c) 8:=
 ⟨_,rfl,(len_moveD ok r c h1 h2 h3 h4).1,sends_moveD ok r c h1 h2 h3 h4⟩
theorem adds_move0 {p:Pen} (ok:OkG p.g) (r c:Int) (h1:0≤r) (h2:r < p.g.high) (h3:0≤c) (h4:c < p.g.wide) (he:p.g.row=r) (hc:p.g.col=c):Adds p (moveP p r c) 0:=
 ⟨_,rfl,by rw [(len_moveD ok r c h1 h2 h3 h4).2 he.symm hc.symm];simp,sends_moveD ok r c h1 h2 h3 h4⟩
theorem adds_ink {p:Pen} (ok:OkG p.g) (c:Cel) (hc:0≤c.ink∧c.ink≤8):Adds p (inkP p c) 7∧(inkP p c).g=withInk p.g c:=by
 unfold inkP
 by_cases hs:sameInk p.g c=true
 ·rw [if_pos hs]
  refine⟨(Adds.refl p).mono (by omega),?_⟩
  simp only [sameInk,Bool.and_eq_true,decide_eq_true_eq,beq_iff_eq] at hs
  unfold withInk
  rw [←hs.1, ←hs.2]
 ·have hs':sameInk p.g c=false:=by simpa using hs
  rw [if_neg hs]
  obtain⟨a,b⟩:=sends_inkD ⟨ok.i1,ok.i2⟩ c hc hs'
  exact⟨⟨_,rfl,b,a⟩,rfl⟩
theorem adds_print {p:Pen} (ok:OkG p.g) (c:Cel) (hc:0≤c.ink∧c.ink≤8) (hp:c.pic=0) (hb:plainN c.ch=true) (hcol:p.g.col < p.g.wide):Adds p (printP p c) 8∧(printP p c).g=withCell (withInk p.g c) c:=by
 obtain⟨a,e⟩:=adds_ink ok c hc
 simp only [plainN,decide_eq_true_eq] at hb
 have hn:(chD c).toNat=c.ch.toNat:=by unfold chD;simp;omega
 have s:=sends_print (g:=withInk p.g c) (chD c) (by omega) (by omega) (by simp only [withInk];omega)
 have e2:withCell (inkP p c).g c=withCell (withInk p.g c) c:=by rw [e]
 refine⟨a.trans (b:=1) ⟨[chD c],rfl,by simp,?_⟩,e2⟩
 show Sends (inkP p c).g [chD c] (withCell (inkP p c).g c)
 rw [e]
 have:(⟨((chD c).toNat:Int),(withInk p.g c).ink,0,(withInk p.g c).bold⟩:Cel)=c:=by
  rw [hn,Int.toNat_of_nonneg (by omega), ←hp]
  rfl
 rw [this] at s
 exact s
end Go.Proofs.YtjikokfjnbhngaaGreatDoor

/- Colours: the picture that a pen writes lays just the colours that a row lacks from the cursor on. -/
namespace Go.Proofs.YtjikokfjnbhngaaGreatDoor
theorem good_pic {c:Cel} (h:goodC c=true) (hp:0 < c.pic):c=⟨0,0,c.pic,false⟩∧c.pic≤8:=by
 unfold goodC at h
 simp only [Bool.or_eq_true,Bool.and_eq_true,decide_eq_true_eq,celB_iff] at h
 rcases h with (h | h) | h
 ·rw [h] at hp
  exact absurd hp (by decide)
 ·exact⟨h.1,h.2.2⟩
 ·omega
theorem good_letter {c:Cel} (h:goodC c=true) (hp:¬ 0 < c.pic) (hn:celB c noCel=false):c.pic=0∧plainN c.ch=true∧0≤c.ink∧c.ink≤8:=by
 unfold goodC at h
 rw [hn] at h
 simp only [Bool.false_or,Bool.or_eq_true,Bool.and_eq_true,decide_eq_true_eq,inkN] at h
 rcases h with h | h
 ·omega
 ·exact⟨h.1.1,h.1.2,h.2.1,h.2.2⟩
theorem paysD_succ (f want:Nat→Cel) (b c n:Nat):paysD f want b c (n+1)=paysD f want b c n++[payD f want b (c+n)]:=by
 unfold paysD
 rw [List.range_succ,List.map_append]
 rfl
theorem paysD_length (f want:Nat→Cel) (b c n:Nat):(paysD f want b c n).length=n:=by simp [paysD]
theorem payD_lack {f want:Nat→Cel} {b j:Nat} (hg:goodC (want j)=true) (h:lackB (f (b+j)) (want j)=true):(payD f want b j).toNat=96+(want j).pic.toNat∧1≤(want j).pic∧(want j).pic≤8∧want j=⟨0,0,(want j).pic,false⟩:=by
 unfold payD
 rw [if_pos h]
 simp only [lackB,Bool.and_eq_true,decide_eq_true_eq] at h
 obtain⟨e,k⟩:=good_pic hg h.1
 refine⟨?_,by omega,k,e⟩
 have h1:=h.1
 generalize (want j).pic=q at k h1
 simp
 omega
theorem payD_have {f want:Nat→Cel} {b j:Nat} (h:lackB (f (b+j)) (want j)=false):payD f want b j=32:=by
 unfold payD
 rw [if_neg (by rw [h];simp)]
theorem colF_zero (f want:Nat→Cel) (b c:Nat):colF f want b c 0=f:=by
 funext i
 unfold colF
 rw [if_neg (by omega)]
theorem colF_have {f want:Nat→Cel} {b c n:Nat} (h:lackB (f (b+(c+n))) (want (c+n))=false):colF f want b c (n+1)=colF f want b c n:=by
 funext i
 unfold colF
 by_cases e:i=b+(c+n)
 ·subst e
  have:b+(c+n) - b=c+n:=by omega
  rw [this,if_neg (by rw [h];simp),if_neg (by rw [h];simp)]
 ·by_cases k:b+c≤i∧i < b+c+n∧lackB (f i) (want (i - b))=true
  ·rw [if_pos k,if_pos ⟨k.1,by omega,k.2.2⟩]
  ·rw [if_neg k,if_neg (fun q=>k ⟨q.1,by omega,q.2.2⟩)]
theorem colF_lack {f want:Nat→Cel} {b c n:Nat} (h:lackB (f (b+(c+n))) (want (c+n))=true):colF f want b c (n+1)=putF (colF f want b c n) (b+(c+n)) (want (c+n)):=by
 funext i
 unfold putF colF
 by_cases e:i=b+(c+n)
 ·subst e
  have:b+(c+n) - b=c+n:=by omega
  rw [this,if_pos ⟨by omega,by omega,h⟩,if_pos rfl]
 ·rw [if_neg e]
  by_cases k:b+c≤i∧i < b+c+n∧lackB (f i) (want (i - b))=true
  ·rw [if_pos k,if_pos ⟨k.1,by omega,k.2.2⟩]
  ·rw [if_neg k,if_neg (fun q=>k ⟨q.1,by omega,q.2.2⟩)]
theorem pic_fold {g:Gr} (ok:OkG g) (hcol:g.col < g.wide) (want:Nat→Cel) (hw:∀ j,j < g.wide.toNat→goodC (want j)=true):∀ n,n≤leftD g→
  (paysD g.f want (rowAt g) g.col.toNat n).foldl (pic1 g) (g.f,g.row,hereC g)=(colF g.f want (rowAt g) g.col.toNat n,g.row,g.col+n):=by
 have hh:hereC g=g.col:=by unfold hereC;omega
 have hc1:=ok.c1
 obtain⟨q1,q2,q3,q4,_⟩:=ok.nums
 intro n
 induction n with
 | zero=>
  intro _
  rw [colF_zero,hh]
  simp [paysD]
 | succ n ih=>
  intro hn
  have hl:leftD g=g.wide.toNat - g.col.toNat:=rfl
  rw [paysD_succ,List.foldl_append,ih (by omega)]
  show pic1 g (colF g.f want (rowAt g) g.col.toNat n,g.row,g.col+n) (payD g.f want (rowAt g) (g.col.toNat+n))=_
  have hcast:g.col+((n+1:Nat):Int)=g.col+(n:Int)+1:=by omega
  cases hk:lackB (g.f (rowAt g+(g.col.toNat+n))) (want (g.col.toNat+n))
  ·rw [payD_have hk,colF_have hk,hcast]
   rfl
  ·obtain⟨e1,e2,e3,e4⟩:=payD_lack (hw _ (by omega)) hk
   rw [colF_lack hk,hcast]
   unfold pic1
   rw [if_neg (fun e=>by rw [e] at e1;have:(45:UInt8).toNat=45:=rfl;omega)]
   simp only
   have ha:((payD g.f want (rowAt g) (g.col.toNat+n)).toNat:Int) - 96=(want (g.col.toNat+n)).pic:=by omega
   have hb:(g.row*g.wide+(g.col+(n:Int))).toNat=rowAt g+(g.col.toNat+n):=by unfold rowAt;omega
   rw [if_pos ⟨by omega,by omega,ok.r2,by omega⟩,ha,hb, ←e4]
theorem pic_spaces (g:Gr) (s:(Nat→Cel)×Int×Int) (m:Nat):((List.replicate m (32:UInt8)).foldl (pic1 g) s).1=s.1:=by
 induction m generalizing s with
 | zero=>rfl
 | succ m ih=>
  rw [List.replicate_succ,List.foldl_cons,ih]
  rfl
theorem takeWhile_eq_replicate (l:List UInt8) (c:UInt8):l.takeWhile (·==c)=List.replicate (l.takeWhile (·==c)).length c:=by
 rw [List.eq_replicate_iff]
 refine⟨rfl,fun b hb=>?_⟩
 have:=List.all_takeWhile (l:=l) (p:=(·==c))
 rw [List.all_eq_true] at this
 simpa using this b hb
theorem trim_split (l:List UInt8) (c:UInt8):∃ m,l=Lib.trimRightB l c++List.replicate m c:=by
 refine⟨(l.reverse.takeWhile (·==c)).length,?_⟩
 have h:=List.takeWhile_append_dropWhile (p:=(·==c)) (l:=l.reverse)
 have h2:=congrArg List.reverse h
 rw [List.reverse_append,List.reverse_reverse,takeWhile_eq_replicate,List.reverse_replicate] at h2
 unfold Lib.trimRightB
 simpa using h2.symm
theorem pays_plain {f want:Nat→Cel} {b c n:Nat} (hw:∀ j,j < c+n→goodC (want j)=true):∀ x∈paysD f want b c n,32≤x.toNat∧x.toNat≤126:=by
 intro x hx
 unfold paysD at hx
 rw [List.mem_map] at hx
 obtain⟨j,hj,rfl⟩:=hx
 rw [List.mem_range] at hj
 cases hk:lackB (f (b+(c+j))) (want (c+j))
 ·rw [payD_have hk]
  decide
 ·obtain⟨e1,e2,e3,_⟩:=payD_lack (hw _ (by omega)) hk
  omega
theorem adds_colour {p:Pen} (ok:OkG p.g) (hcol:p.g.col < p.g.wide) (want:Nat→Cel) (hw:∀ j,j < p.g.wide.toNat→goodC (want j)=true):Adds p (colourP p want) 28:=by
 have hc1:=ok.c1
 have hw2:=ok.w2
 have hl:leftD p.g=p.g.wide.toNat - p.g.col.toNat:=rfl
 have hf:=pic_fold ok hcol want hw (leftD p.g) (Nat.le_refl _)
 have hp:∀ x∈paysD p.g.f want (rowAt p.g) p.g.col.toNat (leftD p.g),32≤x.toNat∧x.toNat≤126:=pays_plain (fun j hj=>hw j (by omega))
 have hn:=paysD_length p.g.f want (rowAt p.g) p.g.col.toNat (leftD p.g)
 obtain⟨m,hm⟩:=trim_split (paysD p.g.f want (rowAt p.g) p.g.col.toNat (leftD p.g)) 32
 have hb:colBytes p.g want=27::80::(Lib.trimRightB (paysD p.g.f want (rowAt p.g) p.g.col.toNat (leftD p.g)) 32++[27,92]):=rfl
 have hg:colG p.g want={p.g with f:=colF p.g.f want (rowAt p.g) p.g.col.toNat (leftD p.g)}:=rfl
 generalize Lib.trimRightB (paysD p.g.f want (rowAt p.g) p.g.col.toNat (leftD p.g)) 32=t at hm hb
 generalize paysD p.g.f want (rowAt p.g) p.g.col.toNat (leftD p.g)=l at hm hf hp hn
 have ht:t.length≤24:=by
  have:=congrArg List.length hm
  rw [List.length_append,hn] at this
  omega
 refine⟨colBytes p.g want,rfl,by rw [hb];simp;omega,?_⟩
 show Sends p.g (colBytes p.g want) (colG p.g want)
 rw [hb,hg]
 refine sends_one (Ps.word_pic t (fun c hc=>hp c (by rw [hm];simp [hc])) (by omega)) rfl ?_
 show {p.g with f:=(picS p.g t).1}=_
 have:(picS p.g t).1=(l.foldl (pic1 p.g) (p.g.f,p.g.row,hereC p.g)).1:=by
  rw [hm,List.foldl_append,pic_spaces]
  rfl
 rw [this,hf]
end Go.Proofs.YtjikokfjnbhngaaGreatDoor
