import Derived.Test.YtkcdcamophkdlaaGreatDoorAB
set_option maxHeartbeats 400000
open Go.Proofs.Tryz
namespace Go.Proofs.YtkcdcamophkdlaaGreatDoor.Ps
structure PS where
 place:Int
 ps:List Int
 pl:ByteArray
 lg:Bool
structure Ev where
 kind:Int
 b:Int
 ps:List Int
 pl:ByteArray
def ground:PS:=⟨0,[],⟨#[]⟩,false⟩
def bC:Ev:=⟨0,0,[],⟨#[]⟩⟩
def xV (b:Int):Bool:=decide (32<=b∧b<=126)
def ku (b:Int):PS×Ev:=
 if b=27 then (⟨1,[],⟨#[]⟩,false⟩,bC)
 else if 32<=b∧b<=126 then (ground,⟨1,b,[],⟨#[]⟩⟩)
 else if b=8∨b=9∨b=10∨b=13 then (ground,⟨2,b,[],⟨#[]⟩⟩)
 else (ground,bC)
def jl (b:Int):PS×Ev:=
 if b=27 then (⟨1,[],⟨#[]⟩,false⟩,bC)
 else if b=91 then (⟨2,[0],⟨#[]⟩,false⟩,bC)
 else if b=80 then (⟨3,[],⟨#[]⟩,false⟩,bC)
 else if b=99 then (ground,⟨5,0,[],⟨#[]⟩⟩)
 else (ground,bC)
def zm (l:List Int) (b:Int):List Int:=l.set (l.length - 1) (min (10*l.getD (l.length - 1) 0+b - 48) 999)
def eB (s:PS) (b:Int):PS×Ev:=
 if 48<=b∧b<=57 then ({s with ps:=zm s.ps b},bC)
 else if b=59∧s.ps.length < 4 then ({s with ps:=s.ps++[0]},bC)
 else if 64<=b∧b<=126 then (ground,⟨3,b,s.ps,⟨#[]⟩⟩)
 else if b=27 then (⟨1,[],⟨#[]⟩,false⟩,bC)
 else (ground,bC)
def kH (s:PS) (b:Int):PS:=
 if b=27 then {s with place:=4}
 else if b=24 then ground
 else if 32<=b∧b<=126 then (if s.pl.size < 48 then {s with pl:=s.pl.push (UInt8.ofNat b.toNat)} else {s with lg:=true})
 else s
def og (s:PS) (b:Int):PS×Ev:=
 if b=92∧s.lg=false then (ground,⟨4,0,[],s.pl⟩) else (ground,bC)
def bF (s:PS) (b:Int):PS×Ev:=
 if s.place=1 then jl b
 else if s.place=2 then eB s b
 else if s.place=3 then (kH s b,bC)
 else if s.place=4 then og s b
 else ku b
variable (c:UInt8)
def dA (c:UInt8):Int:=(c.toNat:Int)
def dB (s:PS) (l:List UInt8):PS:=l.foldl (fun s c=>(bF s (dA c)).1) s
def one (e:Ev):List Ev:=if e.kind=0 then [] else [e]
def bR (s:PS):List UInt8->List Ev
 | []=>[]
 | c::r=>one (bF s (dA c)).2++bR (bF s (dA c)).1 r
theorem vR (s:PS) (a b:List UInt8):dB s (a++b)=dB (dB s a) b:=by simp [dB]
theorem xC (s:PS) (a b:List UInt8):bR s (a++b)=bR s a++bR (dB s a) b:=by
 induction a generalizing s with
 | nil=>rfl
 | cons c r ih=>simp only [List.cons_append,bR,ih,List.append_assoc];rfl
theorem Mk (s:PS) (a:List UInt8) (c:UInt8):dB s (a++[c])=(bF (dB s a) (dA c)).1:=by rw [vR];rfl
theorem Mj (s:PS) (a:List UInt8) (c:UInt8):bR s (a++[c])=bR s a++one (bF (dB s a) (dA c)).2:=by rw [xC];simp [bR]
theorem Qb:0<=dA c:=by unfold dA;omega
theorem Qa:dA c<=255:=by have:=c.toNat_lt;unfold dA;omega
end Go.Proofs.YtkcdcamophkdlaaGreatDoor.Ps
namespace Go.Proofs.YtkcdcamophkdlaaGreatDoor
def iY (e:Ps.Ev):gM:=⟨e.kind,e.b,e.ps,e.pl⟩
end Go.Proofs.YtkcdcamophkdlaaGreatDoor
namespace Go.Proofs.YtkcdcamophkdlaaGreatDoor.Ps
variable (ps:List Int) (c:UInt8) (v b:Int)
structure Word (l:List UInt8) (es:List Ev):Prop where
 back:dB ground l=ground
 told:bR ground l=es
theorem ahM:Word [] []:=⟨rfl,rfl⟩
theorem Word.append {l m:List UInt8} {d e:List Ev} (h:Word l d) (k:Word m e):Word (l++m) (d++e):=
 ⟨by rw [vR,h.back,k.back],by rw [xC,h.back,h.told,k.told]⟩
theorem lF (s:PS) (c:UInt8) (l:List UInt8):dB s (c::l)=dB (bF s (dA c)).1 l:=rfl
theorem lD (s:PS) (c:UInt8) (l:List UInt8):bR s (c::l)=one (bF s (dA c)).2++bR (bF s (dA c)).1 l:=rfl
theorem ag0:bF ground b=ku b:=rfl
theorem ahO (d:32<=c.toNat) (f:c.toNat<=126):Word [c] [⟨1,dA c,[],⟨#[]⟩⟩]:=by
 have e:bF ground (dA c)=(ground,⟨1,dA c,[],⟨#[]⟩⟩):=by
  rw [ag0];unfold ku dA;rw [if_neg (by omega),if_pos (by omega)]
 refine⟨?_,?_⟩
 ·rw [lF,e];rfl
 ·rw [lD,e];rfl
theorem ahP:Word [27,99] [⟨5,0,[],⟨#[]⟩⟩]:=⟨rfl,rfl⟩
def dec (n:Nat):List UInt8:=
 if n < 10 then [UInt8.ofNat (48+n)] else if n < 100 then [UInt8.ofNat (48+n / 10),UInt8.ofNat (48+n % 10)] else [UInt8.ofNat (48+n / 100),UInt8.ofNat (48+n / 10 % 10),UInt8.ofNat (48+n % 10)]
def jV (ps:List Int):PS:=⟨2,ps,⟨#[]⟩,false⟩
theorem abR:zm (ps++[v]) b=ps++[min (10*v+b - 48) 999]:=by
 unfold zm;simp [List.getD_eq_getElem?_getD]
theorem DC (d:Nat) (f:d < 10):bF (jV (ps++[v])) (dA (UInt8.ofNat (48+d)))=(jV (ps++[min (10*v+d) 999]),bC):=by
 have e:dA (UInt8.ofNat (48+d))=48+d:=by unfold dA;simp;omega
 rw [e];show eB (jV (ps++[v])) (48+d)=_;unfold eB;rw [if_pos (by omega)];show (jV (zm (ps++[v]) (48+d)),bC)=_;rw [abR,show 10*v+(48+(d:Int)) - 48=10*v+d by omega]
theorem O4 (n:Nat) (j:n < 1000):dB (jV (ps++[0])) (dec n)=jV (ps++[(n:Int)])∧bR (jV (ps++[0])) (dec n)=[]:=by
 unfold dec;by_cases h:n < 10
 ·rw [if_pos h];have e:=DC ps 0 n h;have d:min (10*0+(n:Int)) 999=n:=(by omega);rw [d] at e;exact⟨by rw [lF,e];rfl,by rw [lD,e];rfl⟩
 ·rw [if_neg h];by_cases i:n < 100
  ·rw [if_pos i];have e:=DC ps 0 (n / 10) (by omega);have f:=DC ps (min (10*0+((n / 10:Nat):Int)) 999) (n % 10) (by omega);have d:min (10*min (10*0+((n / 10:Nat):Int)) 999+((n % 10:Nat):Int)) 999=n:=(by omega);rw [d] at f;exact⟨by rw [lF,e,lF,f];rfl,by rw [lD,e,lD,f];rfl⟩
  ·rw [if_neg i];have e:=DC ps 0 (n / 100) (by omega);have f:=DC ps (min (10*0+((n / 100:Nat):Int)) 999) (n / 10 % 10) (by omega);have g:=DC ps (min (10*min (10*0+((n / 100:Nat):Int)) 999+((n / 10 % 10:Nat):Int)) 999) (n % 10) (by omega);have d:min (10*min (10*min (10*0+((n / 100:Nat):Int)) 999+((n / 10 % 10:Nat):Int)) 999+((n % 10:Nat):Int)) 999=n:=(by omega);rw [d] at g;exact⟨by rw [lF,e,lF,f,lF,g];rfl,by rw [lD,e,lD,f,lD,g];rfl⟩
theorem UJ (h:ps.length < 4):bF (jV ps) 59=(jV (ps++[0]),bC):=by
 show eB (jV ps) 59=_;unfold eB;rw [if_neg (by omega),if_pos ⟨rfl,h⟩]
 rfl
theorem O1 (d:64<=c.toNat) (e:c.toNat<=126):bF (jV ps) (dA c)=(ground,⟨3,dA c,ps,⟨#[]⟩⟩):=by
 show eB (jV ps) (dA c)=_;unfold eB dA;rw [if_neg (by omega),if_neg (by omega),if_pos (by omega)]
 rfl
def nums:List Nat->List UInt8
 | []=>[]
 | [n]=>dec n
 | n::m::r=>dec n++59::nums (m::r)
theorem UH:∀ (l:List Nat) (ps:List Int),l≠[]->(∀ n∈l,n < 1000)->ps.length+l.length<=4->dB (jV (ps++[0])) (nums l)=jV (ps++l.map fun n:Nat=>(n:Int))∧bR (jV (ps++[0])) (nums l)=[]
 | [],_,h,_,_=>absurd rfl h
 | [n],ps,_,hn,_=>by
  have:=O4 ps n (hn n (by simp))
  simpa [nums] using this
 | n::m::r,ps,_,hn,hl=>by
  have d:=O4 ps n (hn n (by simp))
  have f:=UH (m::r) (ps++[(n:Int)]) (by simp) (fun k o=>hn k (by simp only [List.mem_cons] at o ⊢;exact .inr o)) (by simp at hl ⊢;omega)
  have i:=UJ (ps++[(n:Int)]) (by simp at hl ⊢;omega)
  have j:dA 59=59:=rfl
  have e:nums (n::m::r)=dec n++59::nums (m::r):=rfl
  rw [e]
  constructor
  ·rw [vR,d.1,lF,j,i,f.1]
   simp
  ·rw [xC,d.1,d.2,lD,j,i,f.2]
   rfl
theorem ahK (l:List Nat) (c:UInt8) (i:l≠[]) (o:∀ n∈l,n < 1000) (m:l.length<=4) (j:64<=c.toNat) (k:c.toNat<=126):Word (27::91::(nums l++[c])) [⟨3,dA c,l.map fun n:Nat=>(n:Int),⟨#[]⟩⟩]:=by
 have d:bF ground (dA 27)=(⟨1,[],⟨#[]⟩,false⟩,bC):=rfl;have e:bF ⟨1,[],⟨#[]⟩,false⟩ (dA 91)=(jV ([]++[0]),bC):=rfl;have h:=UH l [] i o (by simpa using m);have f:=O1 ([]++l.map fun n:Nat=>(n:Int)) c j k;refine⟨?_,?_⟩
 ·rw [lF,d,lF,e,vR,h.1,lF,f]
  rfl
 ·rw [lD,d,lD,e,xC,h.1,h.2,lD,f]
  rfl
theorem ahL (h:64<=c.toNat) (i:c.toNat<=126):Word [27,91,c] [⟨3,dA c,[0],⟨#[]⟩⟩]:=by
 have d:bF ground (dA 27)=(⟨1,[],⟨#[]⟩,false⟩,bC):=rfl;have e:bF ⟨1,[],⟨#[]⟩,false⟩ (dA 91)=(jV [0],bC):=rfl;have f:=O1 [0] c h i;refine⟨?_,?_⟩
 ·rw [lF,d,lF,e,lF,f]
  rfl
 ·rw [lD,d,lD,e,lD,f]
  rfl
def Ay (pl:ByteArray):PS:=⟨3,[],pl,false⟩
theorem adx (pl:ByteArray) (c:UInt8) (f:32<=c.toNat) (h:c.toNat<=126) (e:pl.size < 48):bF (Ay pl) (dA c)=(Ay (pl.push c),bC):=by
 show (kH (Ay pl) (dA c),bC)=_;have d:UInt8.ofNat (dA c).toNat=c:=by unfold dA;simp
 unfold kH;rw [if_neg (by unfold dA;omega),if_neg (by unfold dA;omega),if_pos (by unfold dA;omega),if_pos (by exact e),d]
 rfl
theorem TF:∀ (l:List UInt8) (pl:ByteArray),(∀ c∈l,32<=c.toNat∧c.toNat<=126)->pl.size+l.length<=48->dB (Ay pl) l=Ay (l.foldl ByteArray.push pl)∧bR (Ay pl) l=[]
 | [],_,_,_=>⟨rfl,rfl⟩
 | c::r,pl,h,hs=>by
  have e:=adx pl c (h c (by simp)).1 (h c (by simp)).2 (by simp only [List.length_cons] at hs;omega)
  have f:=TF r (pl.push c) (fun d i=>h d (by simp [i])) (by rw [ByteArray.size_push];simp only [List.length_cons] at hs;omega)
  exact⟨by rw [lF,e];exact f.1,by rw [lD,e,f.2];rfl⟩
theorem TM:∀ (l:List UInt8) (pl:ByteArray),(l.foldl ByteArray.push pl).data=pl.data++l.toArray
 | [],pl=>by simp
 | c::r,pl=>by
  show ((r.foldl ByteArray.push (pl.push c))).data=_
  rw [TM r]
  show (pl.data.push c)++r.toArray=_
  simp
theorem ahN (l:List UInt8) (h:∀ c∈l,32<=c.toNat∧c.toNat<=126) (j:l.length<=48):Word (27::80::(l++[27,92])) [⟨4,0,[],⟨l.toArray⟩⟩]:=by
 have e:bF ground (dA 27)=(⟨1,[],⟨#[]⟩,false⟩,bC):=rfl;have f:bF ⟨1,[],⟨#[]⟩,false⟩ (dA 80)=(Ay ⟨#[]⟩,bC):=rfl;have d:=TF l ⟨#[]⟩ h (by show 0+l.length<=48;omega);have i:l.foldl ByteArray.push ⟨#[]⟩=⟨l.toArray⟩:=by
  have:=TM l ⟨#[]⟩;generalize l.foldl ByteArray.push ⟨#[]⟩=b at this;obtain⟨_⟩:=b;simp at this;rw [this]
 rw [i] at d;refine⟨?_,?_⟩
 ·rw [lF,e,lF,f,vR,d.1]
  rfl
 ·rw [lD,e,lD,f,xC,d.1,d.2]
  rfl
open Go.RowKit
variable {w w' a:World} {base cap b g:Nat} {l:List Int} {row:Option Nat} {ao a0:Option Addr} {p:Addr}
def ints (l:List Int):List Value:=l.map (.int .i64)
def Own (base:Nat) (w:World) (ao:Option Addr) (cap:Nat) (l:List Int):Prop:=w.ownsRow base 3 1 (.slice ao l.length cap) l.length (ints l)
theorem kP (base:Nat) (w:World):Own base w none 0 []:=World.ownsRow_nil _ _ _ _
def blk (ao:Option Addr):Option Nat:=ao.map (·.block)
structure Stepped (base:Nat) (w:World) (a0:Option Addr) (r:PS×Ev) (ao:Option Addr) (cap:Nat) (po:Option Addr) (pc:Nat) (w':World):Prop where
 own:Own base w' ao cap r.1.ps
 zw:Own base w' po pc r.2.ps
 grown:w.grownBy w' (blk a0)
 lies:blk ao=none∨blk ao=blk a0∨∃ g,blk ao=some g∧w.heap.size<=g
 Gc:po=none∨(blk po=blk a0∧ao=none)
theorem Below.nO (h:Below w.heap.size w w') (row:Option Nat):w.grownBy w' row:=
 ⟨h.os,h.tape,h.output,h.size,fun k d _=>h.block k d⟩
theorem agY {r:PS×Ev} (d:r.1.ps=[]) (e:r.2.ps=[]) (f:Below w.heap.size w w'):Stepped base w a0 r none 0 none 0 w':=
 ⟨by rw [d];exact kP _ _,by rw [e];exact kP _ _,Below.nO f _,.inl rfl,.inl rfl⟩
def kZ (base:Nat) (w:World) (a0:Option Addr) (r:PS×Ev) (e:Ending) (w':World):Prop:=
 ∃ ao cap po pc,e=.returned (.tuple #[.agg #[.int .i64 r.1.place,.slice ao r.1.ps.length cap,.string r.1.pl,.bool r.1.lg],.agg #[.int .i64 r.2.kind,.int .i64 r.2.b,.slice po r.2.ps.length pc,.string r.2.pl]])∧Stepped base w a0 r ao cap po pc w'
theorem xA {r:PS×Ev} {e:Ending} (d:r.1.ps=[]) (f:r.2.ps=[]) (i:e=.returned (.tuple #[.agg #[.int .i64 r.1.place,.slice none 0 0,.string r.1.pl,.bool r.1.lg],.agg #[.int .i64 r.2.kind,.int .i64 r.2.b,.slice none 0 0,.string r.2.pl]])) (h:Below w.heap.size w w'):kZ base w a0 r e w':=
 ⟨none,0,none,0,by rw [i,d,f];rfl,agY d f h⟩
theorem jD {b c:World} (h:a.grownBy b row) (k:b.grownBy c row):a.grownBy c row:=
 ⟨k.os.trans h.os,k.tape.trans h.tape,k.output.trans h.output,Nat.le_trans h.size k.size,fun i e d=>(k.block i (Nat.lt_of_lt_of_le e h.size) d).trans (h.block i e d)⟩
theorem bB (h:a.grownBy w row) (o:Obj):a.grownBy (w.alloc o) row:=jD h (World.grownBy_alloc w o row)
theorem om (h:a.grownBy w row):a.grownBy w.drew row:=⟨h.os,h.tape,h.output,h.size,h.block⟩
theorem eP (w:World) (row:Option Nat):w.grownBy w row:=⟨rfl,rfl,rfl,Nat.le_refl _,fun _ _ _=>rfl⟩
theorem iA (h:Own base w ao cap l) (o:Obj):Own base (w.alloc o) ao cap l:=World.ownsRow.alloc h o
theorem xU (h:Own base w ao cap l):Own base w.drew ao cap l:=World.ownsRow.drew h
theorem Oq (h:Own base w ao cap l) (n:0 < l.length):∃ g,ao=some ⟨g,0,none⟩∧base<=g∧g < w.heap.size:=by
 rcases h.2 with ⟨_,m⟩ | ⟨g,c,j,i,k,f,_⟩
 ·omega
 ·simp only [Value.slice.injEq] at i;refine⟨g,i.1,k,?_⟩;rcases Nat.lt_or_ge g w.heap.size with e | d
  ·exact e
  ·rw [Array.getElem?_eq_none d] at f;cases f
theorem xS (h:Own base w (some ⟨g,0,none⟩) cap l) (j:Nat) (d:j < l.length):w.cell? ⟨g,j,none⟩=some (.int .i64 (l.getD j 0)):=by
 rw [World.ownsRow.cellAt h j (by omega)];simp [ints,d]
theorem Tg (h:Own base w (some ⟨g,0,none⟩) cap l) (j:Nat) (x:Int):
  Own base (w.setCell ⟨g,j,none⟩ (.int .i64 x)) (some ⟨g,0,none⟩) cap (l.set j x)∧w.grownBy (w.setCell ⟨g,j,none⟩ (.int .i64 x)) (some g):=by
 obtain⟨d,e⟩:=World.ownsRow.stored h j (.int .i64 x);refine⟨?_,e⟩;unfold Own;rw [List.length_set];simpa [ints,List.map_set] using d
theorem four {d e f i:Value} {t:TypeId} (h:w.heap[b]?=some (.cells #[d,e,f,i] t (0,0))):
  w.cell? ⟨b,0,none⟩=some d∧w.cell? ⟨b,1,none⟩=some e∧w.cell? ⟨b,2,none⟩=some f∧w.cell? ⟨b,3,none⟩=some i∧
  w.frozen? ⟨b,0,none⟩=false∧w.frozen? ⟨b,1,none⟩=false∧w.frozen? ⟨b,2,none⟩=false∧w.frozen? ⟨b,3,none⟩=false:=
 ⟨cell_of_row w b 0 _ t _ h,cell_of_row w b 1 _ t _ h,cell_of_row w b 2 _ t _ h,cell_of_row w b 3 _ t _ h,frozen_of_row w b 0 _ t h,frozen_of_row w b 1 _ t h,frozen_of_row w b 2 _ t h,frozen_of_row w b 3 _ t h⟩
theorem oq (h:a.grownBy w row) (f:a.heap.size<=p.block) (u:Value):a.grownBy (w.setCell p u) row:=
 ⟨h.os,h.tape,h.output,by have:=h.size;simpa [World.setCell] using this,fun k e d=>(Below.heap_setCell _ _ _ _ (by omega)).trans (h.block k e d)⟩
theorem rT (h:Own base w ao cap l) (n:blk ao≠some p.block) (u:Value):Own base (w.setCell p u) ao cap l:=by
 refine⟨h.1,?_⟩;rcases h.2 with m | ⟨g,c,f,i,j,k,d⟩
 ·exact .inl m
 ·refine .inr ⟨g,c,f,i,j,?_,d⟩;rw [Below.heap_setCell _ _ _ _ (fun e=>n (by simp only [Value.slice.injEq] at i;rw [i.1];simp [blk,e]))];exact k
theorem bH (e:w.grownBy w' row) {o:Obj} (h:w.heap[b]?=some o) (d:some b≠row):w'.heap[b]?=some o:=by
 rw [e.block b (gQ h).1 d];exact h
theorem at_new (w:World) (o:Obj):(w.alloc o).heap[w.heap.size]?=some o:=heap_alloc_new w o
theorem aF {x:Obj} (h:w.heap[b]?=some x) (o:Obj):(w.alloc o).heap[b]?=some x:=by
 rw [Below.heap_alloc w o b (gQ h).1];exact h
theorem bK (w:World) (o1 o2:Obj):((w.alloc o1).alloc o2).heap[w.heap.size+1]?=some o2:=by
 have:=at_new (w.alloc o1) o2;simpa using this
theorem kM (w:World) (o1 o2 o3:Obj):(((w.alloc o1).alloc o2).alloc o3).heap[w.heap.size+1+1]?=some o3:=by
 have:=at_new ((w.alloc o1).alloc o2) o3;simpa using this
theorem Zx (base:Nat) (a0:Option Addr) (b:Int) (w:World) (k:base<=w.heap.size):
  kC 122 #[.int .i64 b] w fun e w'=>kZ base w a0 (jl b) e w':=by
 go_enter func122,ntmps122;go_wp2
 ·have h:b=27:=(by simpa using ‹(b==27)=true›);refine bodyPost_ret (v:=.tuple #[.agg #[.int .i64 1,.slice none 0 0,.string ⟨#[]⟩,.bool false],.agg #[.int .i64 0,.int .i64 0,.slice none 0 0,.string ⟨#[]⟩]]) (by simp [results,results122,go_sem]) rfl ?_;exact xA (by simp [jl,h]) (by simp [jl,h,bC]) (by simp [jl,h,bC]) (((Below.refl _ _).alloc (Nat.le_refl _) _).alloc (by simp) _)
 ·have h:b=91:=(by simpa using ‹(b==91)=true›);refine bodyPost_ret (v:=.tuple #[.agg #[.int .i64 2,.slice (some ⟨w.heap.size+1+1,0,none⟩) 1 1,.string ⟨#[]⟩,.bool false],.agg #[.int .i64 0,.int .i64 0,.slice none 0 0,.string ⟨#[]⟩]]) (by simp [results,results122,go_sem]) rfl ?_;subst h;refine⟨some ⟨w.heap.size+1+1,0,none⟩,1,none,0,rfl,?_,kP _ _,Below.nO ((((Below.refl _ _).alloc (Nat.le_refl _) _).alloc (by simp) _).alloc (by simp;omega) _) _,.inr (.inr ⟨w.heap.size+1+1,rfl,by omega⟩),.inl rfl⟩;have:=World.ownsRow_lit (base:=base) (e:=3) (size:=1) ((w.alloc (Obj.cells #[Value.int IntKind.i64 2,Value.slice (some ⟨w.heap.size+1+1,0,none⟩) 1 1,Value.string ⟨#[]⟩,Value.bool false] 40)).alloc (Obj.cells #[Value.int IntKind.i64 0,Value.int IntKind.i64 0,Value.slice none 0 0,Value.string ⟨#[]⟩] 82)) #[.int .i64 0] 1 (by simp;omega) (by decide) rfl;simpa [Own,ints,jl] using this
 ·have h:b=80:=(by simpa using ‹(b==80)=true›);refine bodyPost_ret (v:=.tuple #[.agg #[.int .i64 3,.slice none 0 0,.string ⟨#[]⟩,.bool false],.agg #[.int .i64 0,.int .i64 0,.slice none 0 0,.string ⟨#[]⟩]]) (by simp [results,results122,go_sem]) rfl ?_;exact xA (by simp [jl,h]) (by simp [jl,h,bC]) (by simp [jl,h,bC]) (((Below.refl _ _).alloc (Nat.le_refl _) _).alloc (by simp) _)
 ·have h:b=99:=(by simpa using ‹(b==99)=true›);refine bodyPost_ret (v:=.tuple #[.agg #[.int .i64 0,.slice none 0 0,.string ⟨#[]⟩,.bool false],.agg #[.int .i64 5,.int .i64 0,.slice none 0 0,.string ⟨#[]⟩]]) (by simp [results,results122,go_sem]) rfl ?_;exact xA (by simp [jl,h,ground]) (by simp [jl,h]) (by simp [jl,h,ground]) (((Below.refl _ _).alloc (Nat.le_refl _) _).alloc (by simp) _)
 ·have d:b≠27:=(by simpa using ‹(b==27)=false›);have f:b≠91:=(by simpa using ‹(b==91)=false›);have i:b≠80:=(by simpa using ‹(b==80)=false›);have j:b≠99:=(by simpa using ‹(b==99)=false›);refine bodyPost_ret (v:=.tuple #[.agg #[.int .i64 0,.slice none 0 0,.string ⟨#[]⟩,.bool false],.agg #[.int .i64 0,.int .i64 0,.slice none 0 0,.string ⟨#[]⟩]]) (by simp [results,results122,go_sem]) rfl ?_;exact xA (by simp [jl,d,f,i,j,ground]) (by simp [jl,d,f,i,j,bC]) (by simp [jl,d,f,i,j,ground,bC]) (((Below.refl _ _).alloc (Nat.le_refl _) _).alloc (by simp) _)
variable (base:Nat) (a0:Option Addr)
theorem IV {base:Nat} {w:World} {a0:Option Addr} {r:PS×Ev} {o1 o2:Obj} {d:Int} {k b:Int} (e:r=(⟨d,[],⟨#[]⟩,false⟩,⟨k,b,[],⟨#[]⟩⟩)):
  kZ base w a0 r (.returned (.tuple #[.agg #[.int .i64 d,.slice none 0 0,.string ⟨#[]⟩,.bool false],.agg #[.int .i64 k,.int .i64 b,.slice none 0 0,.string ⟨#[]⟩]])) ((w.alloc o1).alloc o2):=by
 subst e;exact xA rfl rfl rfl (((Below.refl _ _).alloc (Nat.le_refl _) _).alloc (by simp) _)
theorem acT (b:Int) (w:World):
  kC 126 #[.int .i64 b] w fun e w'=>kZ base w a0 (ku b) e w':=by
 by_cases f:b=27
 ·subst f;go_enter func126,ntmps126;go_wp2;exact bodyPost_ret (v:=.tuple #[.agg #[.int .i64 1,.slice none 0 0,.string ⟨#[]⟩,.bool false],.agg #[.int .i64 0,.int .i64 0,.slice none 0 0,.string ⟨#[]⟩]]) (by simp [results,results126,go_sem]) rfl (IV rfl)
 ·have:(b==27)=false:=(by simpa using f);by_cases d:32<=b∧b<=126
  ·have hF:ku b=(ground,⟨1,b,[],⟨#[]⟩⟩):=(by simp [ku,f,d]);have i:=gH hF;clear hF;obtain⟨_,_⟩:=d;go_enter func126,ntmps126;go_wp2;exact bodyPost_ret (v:=.tuple #[.agg #[.int .i64 0,.slice none 0 0,.string ⟨#[]⟩,.bool false],.agg #[.int .i64 1,.int .i64 b,.slice none 0 0,.string ⟨#[]⟩]]) (by simp [results,results126,go_sem]) rfl (IV i.out)
  ·by_cases k:b=8∨b=9∨b=10∨b=13
   ·rcases k with h | h | h | h <;>subst h
    all_goals
     go_enter func126,ntmps126;go_wp2;exact bodyPost_ret (v:=.tuple #[.agg #[.int .i64 0,.slice none 0 0,.string ⟨#[]⟩,.bool false],.agg #[.int .i64 2,.int .i64 _,.slice none 0 0,.string ⟨#[]⟩]]) (by simp [results,results126,go_sem]) rfl (IV rfl)
   ·have i:Hid (ku b=(ground,bC)):=(by show ku b=_;simp [ku,f,d,k]);have:(b==8)=false:=(by simp;omega);have:(b==9)=false:=(by simp;omega);have:(b==10)=false:=(by simp;omega);have:(b==13)=false:=(by simp;omega);have j:b < 32∨126 < b:=(by omega);clear k d f;rcases j with d | d
    all_goals
     go_enter func126,ntmps126;go_wp2;exact bodyPost_ret (v:=.tuple #[.agg #[.int .i64 0,.slice none 0 0,.string ⟨#[]⟩,.bool false],.agg #[.int .i64 0,.int .i64 0,.slice none 0 0,.string ⟨#[]⟩]]) (by simp [results,results126,go_sem]) rfl (IV i.out)
theorem Zq (n cap:Nat) (h:Int) (ps:List Int) (pl:ByteArray) (f:Bool) (b:Int) (w:World):
  kC 125 #[.agg #[.int .i64 h,.slice a0 n cap,.string pl,.bool f],.int .i64 b] w fun e w'=>kZ base w a0 (og ⟨h,ps,pl,f⟩ b) e w':=by
 by_cases d:b=92
 ·subst d;cases f
  ·go_enter func125,ntmps125;go_wp2;go_region;go_wp2;exact bodyPost_ret (v:=.tuple #[.agg #[.int .i64 0,.slice none 0 0,.string ⟨#[]⟩,.bool false],.agg #[.int .i64 4,.int .i64 0,.slice none 0 0,.string pl]]) (by simp [results,results125,go_sem]) rfl
    (xA rfl rfl rfl (((((Below.refl _ _).alloc (Nat.le_refl _) _).alloc (by simp) _).alloc (by simp;omega) _).drew))
  ·go_enter func125,ntmps125;go_wp2;exact bodyPost_ret (v:=.tuple #[.agg #[.int .i64 0,.slice none 0 0,.string ⟨#[]⟩,.bool false],.agg #[.int .i64 0,.int .i64 0,.slice none 0 0,.string ⟨#[]⟩]]) (by simp [results,results125,go_sem]) rfl
    (xA rfl rfl rfl ((((Below.refl _ _).alloc (Nat.le_refl _) _).alloc (by simp) _).alloc (by simp;omega) _))
 ·have:(b==92)=false:=(by simpa using d);have i:Hid (og ⟨h,ps,pl,f⟩ b=(ground,bC)):=(by show og _ b=_;simp [og,d]);clear d;go_enter func125,ntmps125;go_wp2;refine bodyPost_ret (v:=.tuple #[.agg #[.int .i64 0,.slice none 0 0,.string ⟨#[]⟩,.bool false],.agg #[.int .i64 0,.int .i64 0,.slice none 0 0,.string ⟨#[]⟩]]) (by simp [results,results125,go_sem]) rfl ?_;rw [i.out];exact xA rfl rfl rfl ((((Below.refl _ _).alloc (Nat.le_refl _) _).alloc (by simp) _).alloc (by simp;omega) _)
variable (pl:ByteArray) (b:Int)
theorem QI (f:0<=b) (h:b<=127):Utf8.encode b=⟨#[UInt8.ofNat b.toNat]⟩:=by
 have e:Utf8.valid b=true:=by
  simp only [Utf8.valid,Bool.or_eq_true,Bool.and_eq_true,decide_eq_true_eq];omega
 have d:b.toNat < 0x80:=by omega
 unfold Utf8.encode;simp only [e,if_true,if_pos d]
theorem adH (d:0<=b) (e:b<=127):pl++Utf8.encode b=pl.push (UInt8.ofNat b.toNat):=by
 rw [QI b d e];ext1;simp
theorem Zp (d:0<=b) (e:b<=127):(Utf8.encode b).size=1:=by
 rw [QI b d e];rfl
def VX (w:World) (a0:Option Addr) (cap:Nat) (ps:List Int) (r:PS) (e:Ending) (w':World):Prop:=
 ∃ ao c,e=.returned (.agg #[.int .i64 r.place,.slice ao r.ps.length c,.string r.pl,.bool r.lg])∧((ao=a0∧c=cap∧r.ps=ps)∨(ao=none∧c=0∧r.ps=[]))∧Below w.heap.size w w'
theorem aa6 (a0:Option Addr) (cap:Nat) (d:Int) (ps:List Int) (pl:ByteArray) (f:Bool) (b:Int) (w:World) (u:pl.size<=48) (m:0<=b) (t:b<=255):
  kC 124 #[.agg #[.int .i64 d,.slice a0 ps.length cap,.string pl,.bool f],.int .i64 b] w fun e w'=>VX w a0 cap ps (kH ⟨d,ps,pl,f⟩ b) e w':=by
 by_cases h:b=27
 ·subst h;go_enter func124,ntmps124;go_wp2;exact bodyPost_ret (v:=.agg #[.int .i64 4,.slice a0 ps.length cap,.string pl,.bool f]) (by simp [results,results124,go_sem]) rfl ⟨_,_,rfl,.inl ⟨rfl,rfl,rfl⟩,((Below.refl _ _).alloc (Nat.le_refl _) _).alloc (by simp) _⟩
 ·have:(b==27)=false:=(by simpa using h);by_cases i:b=24
  ·subst i;go_enter func124,ntmps124;go_wp2;exact bodyPost_ret (v:=.agg #[.int .i64 0,.slice none 0 0,.string ⟨#[]⟩,.bool false]) (by simp [results,results124,go_sem]) rfl ⟨_,_,rfl,.inr ⟨rfl,rfl,rfl⟩,((Below.refl _ _).alloc (Nat.le_refl _) _).alloc (by simp) _⟩
  ·have:(b==24)=false:=(by simpa using i);by_cases j:32<=b∧b<=126
   ·by_cases r:pl.size < 48
    ·have k:Hid (kH ⟨d,ps,pl,f⟩ b=⟨d,ps,pl++Utf8.encode b,f⟩):=by
      show kH _ _=_;simp [kH,h,i,j,r,adH pl b m (by omega)]
     have:=Zp b m (by omega);have s:(pl.size:Int) < 48:=(by omega);obtain⟨o,q⟩:=j;clear h i;go_enter func124,ntmps124;go_wp2;refine bodyPost_ret (v:=.agg #[.int .i64 d,.slice a0 ps.length cap,.string (pl++Utf8.encode b),.bool f]) (by simp [results,results124,go_sem]) rfl ?_;rw [k.out];exact⟨_,_,rfl,.inl ⟨rfl,rfl,rfl⟩,((Below.refl _ _).alloc (Nat.le_refl _) _).alloc (by simp) _⟩
    ·have k:Hid (kH ⟨d,ps,pl,f⟩ b=⟨d,ps,pl,true⟩):=by
      show kH _ _=_;simp [kH,h,i,j,r]
     have s:¬ (pl.size:Int) < 48:=(by omega);obtain⟨o,q⟩:=j;clear h i r;go_enter func124,ntmps124;go_wp2;refine bodyPost_ret (v:=.agg #[.int .i64 d,.slice a0 ps.length cap,.string pl,.bool true]) (by simp [results,results124,go_sem]) rfl ?_;rw [k.out];exact⟨_,_,rfl,.inl ⟨rfl,rfl,rfl⟩,((Below.refl _ _).alloc (Nat.le_refl _) _).alloc (by simp) _⟩
   ·have k:Hid (kH ⟨d,ps,pl,f⟩ b=⟨d,ps,pl,f⟩):=by
     show kH _ _=_;simp only [kH,if_neg h,if_neg i,if_neg j]
    have n:b < 32∨126 < b:=(by omega);clear h i j;rcases n with j | j
    all_goals
     go_enter func124,ntmps124;go_wp2;refine bodyPost_ret (v:=.agg #[.int .i64 d,.slice a0 ps.length cap,.string pl,.bool f]) (by simp [results,results124,go_sem]) rfl ?_;rw [k.out];exact⟨_,_,rfl,.inl ⟨rfl,rfl,rfl⟩,((Below.refl _ _).alloc (Nat.le_refl _) _).alloc (by simp) _⟩
end Go.Proofs.YtkcdcamophkdlaaGreatDoor.Ps
