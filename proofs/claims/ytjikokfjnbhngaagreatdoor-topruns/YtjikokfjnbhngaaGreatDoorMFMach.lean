/- Several texts in one, each as it was: FMach, FPure, FEv, FSeq. -/
import Derived.WalkKit
import Derived.Test.YtjikokfjnbhngaaGreatDoorMGMach

/- The plain machine of chapter 1: a parser's places, one byte's step, and the fold over bytes, as functions on lists; nothing of the program is in it. -/
namespace Go.Proofs.YtjikokfjnbhngaaGreatDoor.Ps
structure PS where
 place:Int
 ps:List Int
 pl:ByteArray
 lg:Bool
structure Ev where
 kind:Int
 b:Int
 ps:List Int
 pl:ByteArray
def ground:PS:=⟨0,[],⟨#[]⟩,false⟩
def noEv:Ev:=⟨0,0,[],⟨#[]⟩⟩
def plainB (b:Int):Bool:=decide (32≤b∧b≤126)
def ctlB (b:Int):Bool:=decide (b=8∨b=9∨b=10∨b=13)
def gndF (b:Int):PS×Ev:=
 if b=27 then (⟨1,[],⟨#[]⟩,false⟩,noEv)
 else if 32≤b∧b≤126 then (ground,⟨1,b,[],⟨#[]⟩⟩)
 else if b=8∨b=9∨b=10∨b=13 then (ground,⟨2,b,[],⟨#[]⟩⟩)
 else (ground,noEv)
def escF (b:Int):PS×Ev:=
 if b=27 then (⟨1,[],⟨#[]⟩,false⟩,noEv)
 else if b=91 then (⟨2,[0],⟨#[]⟩,false⟩,noEv)
 else if b=80 then (⟨3,[],⟨#[]⟩,false⟩,noEv)
 else if b=99 then (ground,⟨5,0,[],⟨#[]⟩⟩)
 else (ground,noEv)
def lastUp (l:List Int) (b:Int):List Int:=l.set (l.length - 1) (min (10*l.getD (l.length - 1) 0+b - 48) 999)
def cmdF (s:PS) (b:Int):PS×Ev:=
 if 48≤b∧b≤57 then ({s with ps:=lastUp s.ps b},noEv)
 else if b=59∧s.ps.length < 4 then ({s with ps:=s.ps++[0]},noEv)
 else if 64≤b∧b≤126 then (ground,⟨3,b,s.ps,⟨#[]⟩⟩)
 else if b=27 then (⟨1,[],⟨#[]⟩,false⟩,noEv)
 else (ground,noEv)
def picF (s:PS) (b:Int):PS:=
 if b=27 then {s with place:=4}
 else if b=24 then ground
 else if 32≤b∧b≤126 then (if s.pl.size < 48 then {s with pl:=s.pl.push (UInt8.ofNat b.toNat)} else {s with lg:=true})
 else s
def endF (s:PS) (b:Int):PS×Ev:=
 if b=92∧s.lg=false then (ground,⟨4,0,[],s.pl⟩) else (ground,noEv)
def stp (s:PS) (b:Int):PS×Ev:=
 if s.place=1 then escF b
 else if s.place=2 then cmdF s b
 else if s.place=3 then (picF s b,noEv)
 else if s.place=4 then endF s b
 else gndF b
end Go.Proofs.YtjikokfjnbhngaaGreatDoor.Ps

/- The plain machine over many bytes; nothing of the program is in it. -/
namespace Go.Proofs.YtjikokfjnbhngaaGreatDoor.Ps
def bint (c:UInt8):Int:=(c.toNat:Int)
def feedS (s:PS) (l:List UInt8):PS:=l.foldl (fun s c=>(stp s (bint c)).1) s
def one (e:Ev):List Ev:=if e.kind=0 then [] else [e]
def feedE (s:PS):List UInt8→List Ev
 | []=>[]
 | c::r=>one (stp s (bint c)).2++feedE (stp s (bint c)).1 r
theorem feedS_append (s:PS) (a b:List UInt8):feedS s (a++b)=feedS (feedS s a) b:=by simp [feedS]
theorem feedE_append (s:PS) (a b:List UInt8):feedE s (a++b)=feedE s a++feedE (feedS s a) b:=by
 induction a generalizing s with
 | nil=>rfl
 | cons c r ih=>simp only [List.cons_append,feedE,ih,List.append_assoc];rfl
theorem feedS_snoc (s:PS) (a:List UInt8) (c:UInt8):feedS s (a++[c])=(stp (feedS s a) (bint c)).1:=by rw [feedS_append];rfl
theorem feedE_snoc (s:PS) (a:List UInt8) (c:UInt8):feedE s (a++[c])=feedE s a++one (stp (feedS s a) (bint c)).2:=by rw [feedE_append];simp [feedE]
theorem bint_lo (c:UInt8):0≤bint c:=by unfold bint;omega
theorem bint_hi (c:UInt8):bint c≤255:=by have:=c.toNat_lt;unfold bint;omega
end Go.Proofs.YtjikokfjnbhngaaGreatDoor.Ps

/- An event that is told, as one that a screen does. -/
namespace Go.Proofs.YtjikokfjnbhngaaGreatDoor
def toE (e:Ps.Ev):Evt:=⟨e.kind,e.b,e.ps,e.pl⟩
end Go.Proofs.YtjikokfjnbhngaaGreatDoor

/- Bytes that tell one event each, and leave a parser on the ground: a byte that is printed, a control, a command with its numbers, a picture, a reset; and many of them one behind the other. -/
namespace Go.Proofs.YtjikokfjnbhngaaGreatDoor.Ps
structure Word (l:List UInt8) (es:List Ev):Prop where
 back:feedS ground l=ground
 told:feedE ground l=es
theorem word_nil:Word [] []:=⟨rfl,rfl⟩
theorem Word.append {l m:List UInt8} {es fs:List Ev} (h:Word l es) (k:Word m fs):Word (l++m) (es++fs):=
 ⟨by rw [feedS_append,h.back,k.back],by rw [feedE_append,h.back,h.told,k.told]⟩
theorem feedS_cons (s:PS) (c:UInt8) (l:List UInt8):feedS s (c::l)=feedS (stp s (bint c)).1 l:=rfl
theorem feedE_cons (s:PS) (c:UInt8) (l:List UInt8):feedE s (c::l)=one (stp s (bint c)).2++feedE (stp s (bint c)).1 l:=rfl
theorem stp_ground (b:Int):stp ground b=gndF b:=rfl
theorem word_plain (c:UInt8) (h1:32≤c.toNat) (h2:c.toNat≤126):Word [c] [⟨1,bint c,[],⟨#[]⟩⟩]:=by
 have e:stp ground (bint c)=(ground,⟨1,bint c,[],⟨#[]⟩⟩):=by
  rw [stp_ground]
  unfold gndF bint
  rw [if_neg (by omega),if_pos (by omega)]
 refine⟨?_,?_⟩
 ·rw [feedS_cons,e];rfl
 ·rw [feedE_cons,e];rfl
theorem word_ctl (c:UInt8) (h:c.toNat=8∨c.toNat=9∨c.toNat=10∨c.toNat=13):Word [c] [⟨2,bint c,[],⟨#[]⟩⟩]:=by
 have e:stp ground (bint c)=(ground,⟨2,bint c,[],⟨#[]⟩⟩):=by
  rw [stp_ground]
  unfold gndF bint
  rw [if_neg (by omega),if_neg (by omega),if_pos (by omega)]
 refine⟨?_,?_⟩
 ·rw [feedS_cons,e];rfl
 ·rw [feedE_cons,e];rfl
theorem word_reset:Word [27,99] [⟨5,0,[],⟨#[]⟩⟩]:=⟨rfl,rfl⟩
def dec (n:Nat):List UInt8:=
 if n < 10 then [UInt8.ofNat (48+n)] else if n < 100 then [UInt8.ofNat (48+n / 10),UInt8.ofNat (48+n % 10)] else [UInt8.ofNat (48+n / 100),UInt8.ofNat (48+n / 10 % 10),UInt8.ofNat (48+n % 10)]
def inCmd (ps:List Int):PS:=⟨2,ps,⟨#[]⟩,false⟩
theorem lastUp_snoc (ps:List Int) (v b:Int):lastUp (ps++[v]) b=ps++[min (10*v+b - 48) 999]:=by
 unfold lastUp
 simp [List.getD_eq_getElem?_getD]
theorem sq_digit (ps:List Int) (v:Int) (d:Nat) (hd:d < 10):stp (inCmd (ps++[v])) (bint (UInt8.ofNat (48+d)))=(inCmd (ps++[min (10*v+d) 999]),noEv):=by
 have hb:bint (UInt8.ofNat (48+d))=48+d:=by unfold bint;simp;omega
 rw [hb]
 show cmdF (inCmd (ps++[v])) (48+d)=_
 unfold cmdF
 rw [if_pos (by omega)]
 show (inCmd (lastUp (ps++[v]) (48+d)),noEv)=_
 rw [lastUp_snoc,show 10*v+(48+(d:Int)) - 48=10*v+d by omega]
theorem sq_num (ps:List Int) (n:Nat) (hn:n < 1000):feedS (inCmd (ps++[0])) (dec n)=inCmd (ps++[(n:Int)])∧feedE (inCmd (ps++[0])) (dec n)=[]:=by
 unfold dec
 by_cases h1:n < 10
 ·rw [if_pos h1]
  have e:=sq_digit ps 0 n h1
  have e2:min (10*0+(n:Int)) 999=n:=by omega
  rw [e2] at e
  exact⟨by rw [feedS_cons,e];rfl,by rw [feedE_cons,e];rfl⟩
 ·rw [if_neg h1]
  by_cases h2:n < 100
  ·rw [if_pos h2]
   have e:=sq_digit ps 0 (n / 10) (by omega)
   have f:=sq_digit ps (min (10*0+((n / 10:Nat):Int)) 999) (n % 10) (by omega)
   have e2:min (10*min (10*0+((n / 10:Nat):Int)) 999+((n % 10:Nat):Int)) 999=n:=by omega
   rw [e2] at f
   exact⟨by rw [feedS_cons,e,feedS_cons,f];rfl,by rw [feedE_cons,e,feedE_cons,f];rfl⟩
  ·rw [if_neg h2]
   have e:=sq_digit ps 0 (n / 100) (by omega)
   have f:=sq_digit ps (min (10*0+((n / 100:Nat):Int)) 999) (n / 10 % 10) (by omega)
   have g:=sq_digit ps (min (10*min (10*0+((n / 100:Nat):Int)) 999+((n / 10 % 10:Nat):Int)) 999) (n % 10) (by omega)
   have e2:min (10*min (10*min (10*0+((n / 100:Nat):Int)) 999+((n / 10 % 10:Nat):Int)) 999+((n % 10:Nat):Int)) 999=n:=by omega
   rw [e2] at g
   exact⟨by rw [feedS_cons,e,feedS_cons,f,feedS_cons,g];rfl,by rw [feedE_cons,e,feedE_cons,f,feedE_cons,g];rfl⟩
theorem sq_semi (ps:List Int) (h:ps.length < 4):stp (inCmd ps) 59=(inCmd (ps++[0]),noEv):=by
 show cmdF (inCmd ps) 59=_
 unfold cmdF
 rw [if_neg (by omega),if_pos ⟨rfl,h⟩]
 rfl
theorem sq_end (ps:List Int) (c:UInt8) (h1:64≤c.toNat) (h2:c.toNat≤126):stp (inCmd ps) (bint c)=(ground,⟨3,bint c,ps,⟨#[]⟩⟩):=by
 show cmdF (inCmd ps) (bint c)=_
 unfold cmdF bint
 rw [if_neg (by omega),if_neg (by omega),if_pos (by omega)]
 rfl
def nums:List Nat→List UInt8
 | []=>[]
 | [n]=>dec n
 | n::m::r=>dec n++59::nums (m::r)
theorem sq_nums:∀ (l:List Nat) (ps:List Int),l≠[]→(∀ n∈l,n < 1000)→ps.length+l.length≤4→feedS (inCmd (ps++[0])) (nums l)=inCmd (ps++l.map fun n:Nat=>(n:Int))∧feedE (inCmd (ps++[0])) (nums l)=[]
 | [],_,h,_,_=>absurd rfl h
 | [n],ps,_,hn,_=>by
  have:=sq_num ps n (hn n (by simp))
  simpa [nums] using this
 | n::m::r,ps,_,hn,hl=>by
  have h1:=sq_num ps n (hn n (by simp))
  have h2:=sq_nums (m::r) (ps++[(n:Int)]) (by simp) (fun k hk=>hn k (by simp only [List.mem_cons] at hk ⊢;exact .inr hk)) (by simp at hl ⊢;omega)
  have h3:=sq_semi (ps++[(n:Int)]) (by simp at hl ⊢;omega)
  have hb:bint 59=59:=rfl
  have e:nums (n::m::r)=dec n++59::nums (m::r):=rfl
  rw [e]
  constructor
  ·rw [feedS_append,h1.1,feedS_cons,hb,h3,h2.1]
   simp
  ·rw [feedE_append,h1.1,h1.2,feedE_cons,hb,h3,h2.2]
   rfl
theorem word_csi (l:List Nat) (c:UInt8) (h0:l≠[]) (hn:∀ n∈l,n < 1000) (hl:l.length≤4) (h1:64≤c.toNat) (h2:c.toNat≤126):Word (27::91::(nums l++[c])) [⟨3,bint c,l.map fun n:Nat=>(n:Int),⟨#[]⟩⟩]:=by
 have e1:stp ground (bint 27)=(⟨1,[],⟨#[]⟩,false⟩,noEv):=rfl
 have e2:stp ⟨1,[],⟨#[]⟩,false⟩ (bint 91)=(inCmd ([]++[0]),noEv):=rfl
 have h:=sq_nums l [] h0 hn (by simpa using hl)
 have h3:=sq_end ([]++l.map fun n:Nat=>(n:Int)) c h1 h2
 refine⟨?_,?_⟩
 ·rw [feedS_cons,e1,feedS_cons,e2,feedS_append,h.1,feedS_cons,h3]
  rfl
 ·rw [feedE_cons,e1,feedE_cons,e2,feedE_append,h.1,h.2,feedE_cons,h3]
  rfl
theorem word_csi0 (c:UInt8) (h1:64≤c.toNat) (h2:c.toNat≤126):Word [27,91,c] [⟨3,bint c,[0],⟨#[]⟩⟩]:=by
 have e1:stp ground (bint 27)=(⟨1,[],⟨#[]⟩,false⟩,noEv):=rfl
 have e2:stp ⟨1,[],⟨#[]⟩,false⟩ (bint 91)=(inCmd [0],noEv):=rfl
 have h3:=sq_end [0] c h1 h2
 refine⟨?_,?_⟩
 ·rw [feedS_cons,e1,feedS_cons,e2,feedS_cons,h3]
  rfl
 ·rw [feedE_cons,e1,feedE_cons,e2,feedE_cons,h3]
  rfl
def inPic (pl:ByteArray):PS:=⟨3,[],pl,false⟩
theorem pic_byte (pl:ByteArray) (c:UInt8) (h1:32≤c.toNat) (h2:c.toNat≤126) (hs:pl.size < 48):stp (inPic pl) (bint c)=(inPic (pl.push c),noEv):=by
 show (picF (inPic pl) (bint c),noEv)=_
 have hb:UInt8.ofNat (bint c).toNat=c:=by unfold bint;simp
 unfold picF
 rw [if_neg (by unfold bint;omega),if_neg (by unfold bint;omega),if_pos (by unfold bint;omega),if_pos (by exact hs),hb]
 rfl
theorem pic_bytes:∀ (l:List UInt8) (pl:ByteArray),(∀ c∈l,32≤c.toNat∧c.toNat≤126)→pl.size+l.length≤48→feedS (inPic pl) l=inPic (l.foldl ByteArray.push pl)∧feedE (inPic pl) l=[]
 | [],_,_,_=>⟨rfl,rfl⟩
 | c::r,pl,h,hs=>by
  have h1:=pic_byte pl c (h c (by simp)).1 (h c (by simp)).2 (by simp only [List.length_cons] at hs;omega)
  have h2:=pic_bytes r (pl.push c) (fun d hd=>h d (by simp [hd])) (by rw [ByteArray.size_push];simp only [List.length_cons] at hs;omega)
  exact⟨by rw [feedS_cons,h1];exact h2.1,by rw [feedE_cons,h1,h2.2];rfl⟩
theorem push_all:∀ (l:List UInt8) (pl:ByteArray),(l.foldl ByteArray.push pl).data=pl.data++l.toArray
 | [],pl=>by simp
 | c::r,pl=>by
  show ((r.foldl ByteArray.push (pl.push c))).data=_
  rw [push_all r]
  show (pl.data.push c)++r.toArray=_
  simp
theorem word_pic (l:List UInt8) (h:∀ c∈l,32≤c.toNat∧c.toNat≤126) (hs:l.length≤48):Word (27::80::(l++[27,92])) [⟨4,0,[],⟨l.toArray⟩⟩]:=by
 have e1:stp ground (bint 27)=(⟨1,[],⟨#[]⟩,false⟩,noEv):=rfl
 have e2:stp ⟨1,[],⟨#[]⟩,false⟩ (bint 80)=(inPic ⟨#[]⟩,noEv):=rfl
 have h1:=pic_bytes l ⟨#[]⟩ h (by show 0+l.length≤48;omega)
 have hp:l.foldl ByteArray.push ⟨#[]⟩=⟨l.toArray⟩:=by
  have:=push_all l ⟨#[]⟩
  generalize l.foldl ByteArray.push ⟨#[]⟩=b at this
  obtain⟨d⟩:=b
  simp at this
  rw [this]
 rw [hp] at h1
 refine⟨?_,?_⟩
 ·rw [feedS_cons,e1,feedS_cons,e2,feedS_append,h1.1]
  rfl
 ·rw [feedE_cons,e1,feedE_cons,e2,feedE_append,h1.1,h1.2]
  rfl
end Go.Proofs.YtjikokfjnbhngaaGreatDoor.Ps
