import Derived.Test.YtkcdcamophkdlaaGreatDoorAE
import Derived.Test.YtkcdcamophkdlaaGreatDoorAF
set_option maxHeartbeats 400000
open Go.Proofs.Tryz
namespace Go.Proofs.YtkcdcamophkdlaaGreatDoor.Ps
open Go.RowKit
theorem rC:GoodS ground:=⟨by decide,by decide,by decide,by decide,by simp [ground],by decide,fun _ _=>⟨rfl,rfl⟩⟩
theorem MG:GoodS ⟨1,[],⟨#[]⟩,false⟩:=⟨by decide,by decide,by decide,by decide,by simp,by decide,fun _ _=>⟨rfl,rfl⟩⟩
theorem aaq (s:PS) (h:GoodS s) (j:Nat) (x:Int) (i:0<=x) (k:x<=999):GoodS {s with ps:=s.ps.set j x}:=by
 obtain⟨a,b,c,d,e,f,g⟩:=h;refine⟨a,b,by simpa using c,by simpa using d,?_,f,g⟩;intro y m;rcases List.mem_or_eq_of_mem_set m with h | h
 ·exact e y h
 ·subst h;exact⟨i,k⟩
theorem aar (s:PS) (h:GoodS s) (b:Int):GoodS (bF s b).1:=by
 obtain⟨k,m,o,i,f,q,t⟩:=h;have u:GoodS s:=⟨k,m,o,i,f,q,t⟩;unfold bF;by_cases v:s.place=1
 ·rw [if_pos v];unfold jl
  repeat' split
  ·exact MG
  ·exact⟨by decide,by decide,by decide,by decide,by simp,by decide,fun _ _=>⟨rfl,rfl⟩⟩
  ·exact⟨by decide,by decide,by decide,by decide,by simp,by decide,fun _ _=>⟨rfl,rfl⟩⟩
  ·exact rC
  ·exact rC
 ·rw [if_neg v];by_cases j:s.place=2
  ·rw [if_pos j];unfold eB
   repeat' split
   ·rename_i A;have E:=i.1 j;have d:0<=s.ps.getD (s.ps.length - 1) 0:=by
     have:s.ps.length - 1 < s.ps.length:=(by omega);rw [List.getD_eq_getElem?_getD,List.getElem?_eq_getElem this];exact(f _ (List.getElem_mem this)).1
    exact aaq s u _ _ (by omega) (by omega)
   ·rename_i A;obtain⟨C,D⟩:=t (by omega) (by omega);refine⟨k,m,by simp;omega,⟨fun _=>by simp,fun _=>j⟩,?_,q,t⟩;intro x d;simp at d;rcases d with d | d
    ·exact f x d
    ·subst d;decide
   ·exact rC
   ·exact MG
   ·exact rC
  ·rw [if_neg j];by_cases p3:s.place=3
   ·rw [if_pos p3];have z:¬ 0 < s.ps.length:=fun h=>j (i.2 h);show GoodS (kH s b);unfold kH
    repeat' split
    ·exact⟨show (0:Int)<=4 by decide,show (4:Int)<=4 by decide,o,⟨fun h=>absurd h (show ¬ (4:Int)=2 by decide),fun h=>absurd h z⟩,f,q,fun _ h=>absurd rfl h⟩
    ·exact rC
    ·refine⟨k,m,o,i,f,?_,fun h=>absurd p3 h⟩;show (s.pl.push _).size<=48;rw [ByteArray.size_push];omega
    ·exact⟨k,m,o,i,f,q,fun h=>absurd p3 h⟩
    ·exact u
   ·rw [if_neg p3];by_cases y:s.place=4
    ·rw [if_pos y];unfold og;split <;>exact rC
    ·rw [if_neg y];unfold ku
     repeat' split
     ·exact MG
     ·exact rC
     ·exact rC
     ·exact rC
theorem Fb (s:PS) (h:GoodS s) (l:List UInt8):GoodS (dB s l):=by
 induction l generalizing s with
 | nil=>exact h
 | cons c r ih=>exact ih _ (aar s h _)
theorem IW (s:PS):fD s=true↔GoodS s:=by
 constructor
 ·intro h;simp only [fD,sZ,oF,sU,mW,uN,Bool.and_eq_true,decide_eq_true_eq,beq_iff_eq,List.all_eq_true,decide_eq_decide] at h;obtain⟨⟨⟨j,k⟩,⟨⟨m,o⟩,q⟩⟩,f⟩:=h;by_cases i:s.place=3∨s.place=4
  ·rw [if_pos i] at f;exact⟨j,k,o,m,q,by simpa using f,fun a b=>by omega⟩
  ·rw [if_neg i] at f;simp only [Bool.and_eq_true,Bool.not_eq_true'] at f;have t:s.pl=⟨#[]⟩:=by
    have h:=f.1;rw [ByteArray.toList_eq] at h;cases z:s.pl with
    | mk d=>
     rw [z] at h;simp at h;rw [h]
   exact⟨j,k,o,m,q,by rw [t];decide,fun _ _=>⟨t,f.2⟩⟩
 ·rintro⟨j,k,m,o,q,f,y⟩;simp only [fD,sZ,oF,sU,mW,uN,Bool.and_eq_true,decide_eq_true_eq,beq_iff_eq,List.all_eq_true,decide_eq_decide];refine⟨⟨⟨j,k⟩,⟨⟨o,m⟩,q⟩⟩,?_⟩;by_cases i:s.place=3∨s.place=4
  ·rw [if_pos i];simpa using f
  ·rw [if_neg i];obtain⟨u,v⟩:=y (by omega) (by omega);rw [u,v,ByteArray.toList_eq]
   rfl
end Go.Proofs.YtkcdcamophkdlaaGreatDoor.Ps
namespace Go.Proofs.YtkcdcamophkdlaaGreatDoor
variable {g x:Gr} {l:List UInt8}
def Sends (g:Gr) (l:List UInt8) (x:Gr):Prop:=∃ es,Ps.Word l es∧Did g (es.map iY) x
theorem Uq (g:Gr):Sends g [] g:=⟨[],Ps.ahM,Y3 g⟩
theorem Sends.append {y:Gr} {m:List UInt8} (h:Sends g l x) (k:Sends x m y):Sends g (l++m) y:=by
 obtain⟨d,i,j⟩:=h;obtain⟨f,o,q⟩:=k;exact⟨d++f,i.append o,by rw [List.map_append];exact j.append q⟩
theorem Sends.ok (h:Sends g l x) (f:OkG g):OkG x∧x.wide=g.wide∧x.high=g.high∧x.n=g.n:=by
 obtain⟨_,_,d⟩:=h;exact E9 d f
theorem Sends.all (h:Sends g l x):Ps.dB Ps.ground l=Ps.ground∧iR g ((Ps.bR Ps.ground l).map iY)=(x,0):=by
 obtain⟨_,d,f⟩:=h;exact⟨d.back,by rw [d.told];exact f⟩
theorem af2 (c:UInt8) (d:32<=c.toNat) (h:c.toNat<=126) (i:g.col≠g.wide):Sends g [c] {g with f:=gV g.f (g.row*g.wide+g.col).toNat ⟨(c.toNat:Int),g.aA,0,g.bold⟩,col:=g.col+1}:=
 ⟨_,Ps.ahO c d h,Y4 (g:=g) (c.toNat:Int) (by simp only [jJ,decide_eq_true_eq];omega) i⟩
theorem af3 (g:Gr):Sends g [27,99] (newG g.wide g.high):=⟨_,Ps.ahP,Y5 g⟩
end Go.Proofs.YtkcdcamophkdlaaGreatDoor
namespace Go.Proofs.YtkcdcamophkdlaaGreatDoor.Ps
open Go.RowKit
abbrev Item:=Ev×Option Addr×Nat
def cellsOf (x:Item):List Value:=[.int .i64 x.1.kind,.int .i64 x.1.b,.slice x.2.1 x.1.ps.length x.2.2,.string x.1.pl]
def qY (l:List Item):List Value:=l.flatMap cellsOf
structure Told (base:Nat) (w:World) (tq:Option Addr) (tc:Nat) (evs:List Item):Prop where
 row:w.ownsRow base 82 4 (.slice tq evs.length tc) evs.length (qY evs)
 each:∀ x∈evs,Own base w x.2.1 x.2.2 x.1.ps
structure yA (B:Nat) (w wr:World) (s0:PS) (l:List UInt8) (ao:Option Addr) (cap:Nat) (tq:Option Addr) (tc:Nat) (evs:List Item):Prop where
 below:Below B w wr
 size:B+2<=wr.heap.size
 box:wr.heap[B]?=some (.cells #[.int .i64 (dB s0 l).place,.slice ao (dB s0 l).ps.length cap,.string (dB s0 l).pl,.bool (dB s0 l).lg] 40 (0,0))
 res:wr.heap[B+1]?=some (.cells #[.int .i64 0,.slice none 0 0,.string ⟨#[]⟩,.bool false] 40 (0,0))
 own:Own (B+2) wr ao cap (dB s0 l).ps
 told:Told (B+2) wr tq tc evs
 says:evs.map (·.1)=bR s0 l
 apart:∀ x∈evs,blk x.2.1=none∨blk x.2.1≠blk ao
def Mid (B:Nat) (wr wx:World) (a:Option Addr) (r:PS×Ev) (s9 s10:Value):Prop:=
 ∃ g9 g10 a3 c3 p3 eT,s9=.pointer (some ⟨g9,0,none⟩)∧s10=.pointer (some ⟨g10,0,none⟩)∧wr.heap.size<=g9∧wr.heap.size<=g10∧
  wx.heap[g9]?=some (.cells #[.int .i64 r.1.place,.slice a3 r.1.ps.length c3,.string r.1.pl,.bool r.1.lg] 40 (0,0))∧
  wx.heap[g10]?=some (.cells #[.int .i64 r.2.kind,.int .i64 r.2.b,.slice p3 r.2.ps.length eT,.string r.2.pl] 82 (0,0))∧Stepped (B+2) wr a r a3 c3 p3 eT wx
def Pv (w:World) (s0:PS) (s:ByteArray) (e:Ending) (w':World):Prop:=
 Below w.heap.size w w'∧
 (fD s0=false->∃ aK cap',e=.returned (.tuple #[.agg #[.int .i64 s0.place,.slice aK s0.ps.length cap',.string s0.pl,.bool s0.lg],.slice none 0 0,.int .i64 1])∧Own w.heap.size w' aK cap' s0.ps)∧
 (fD s0=true->∃ aK cap' tq tc evs,e=.returned (.tuple #[.agg #[.int .i64 (dB s0 s.data.toList).place,.slice aK (dB s0 s.data.toList).ps.length cap',.string (dB s0 s.data.toList).pl,.bool (dB s0 s.data.toList).lg],.slice tq (List.length (α:=Item) evs) tc,.int .i64 0])∧
  Own w.heap.size w' aK cap' (dB s0 s.data.toList).ps∧Told w.heap.size w' tq tc evs∧evs.map (·.1)=bR s0 s.data.toList)
theorem Xn {w:World} {B:Nat} {d j f i u:Value} {t:TypeId} (h:w.heap[B]?=some (.cells #[d,j,f,i] t (0,0))):(w.setCell ⟨B,1,none⟩ u).heap[B]?=some (.cells #[d,u,f,i] t (0,0)):=by
 rw [heap_setCell_same w B 1 _ t u h];rfl
theorem cO {w:World} {B b:Nat} {o:Obj} {u:Value} {j:Nat} (h:w.heap[b]?=some o) (d:b≠B):(w.setCell ⟨B,j,none⟩ u).heap[b]?=some o:=by
 rw [Below.heap_setCell _ _ _ _ d];exact h
theorem Bf {base d:Nat} {w:World} {e:TypeId} {sz:Nat} {v:Value} {n:Nat} {xs:List Value} (h:w.ownsRow base e sz v n xs) (m:d<=base):w.ownsRow d e sz v n xs:=by
 refine⟨h.1,?_⟩;rcases h.2 with j | ⟨g,c,i,k,o,f⟩
 ·exact .inl j
 ·exact .inr ⟨g,c,i,k,by omega,f⟩
theorem Bc {base d:Nat} {w:World} {ao:Option Addr} {cap:Nat} {l:List Int} (h:Own base w ao cap l) (f:d<=base):Own d w ao cap l:=Bf h f
theorem UO {base d:Nat} {w:World} {tq:Option Addr} {tc:Nat} {f:List Item} (h:Told base w tq tc f) (i:d<=base):Told d w tq tc f:=
 ⟨Bf h.row i,fun x j=>Bc (h.each x j) i⟩
theorem Vl (c:UInt8):IntKind.i64.wrap (c.toNat:Int)=(c.toNat:Int):=by
 have:=c.toNat_lt;rw [IntKind.wrap_i64];omega
theorem qJ {base:Nat} {w:World} {tq:Option Addr} {tc:Nat} {d:List Item} (h:Told base w tq tc d) {p:Addr} (f:p.block < base) (u:Value):Told base (w.setCell p u) tq tc d:=
 ⟨ownsRow_setCell_below h.row f u,fun x i=>ownsRow_setCell_below (h.each x i) f u⟩
theorem gK {base:Nat} {w:World} {ao:Option Addr} {cap:Nat} {l:List Int} (h:Own base w ao cap l) {p:Addr} (d:p.block < base) (u:Value):Own base (w.setCell p u) ao cap l:=ownsRow_setCell_below h d u
theorem Zz {w wr:World} {j:PS} {s:ByteArray} {k:Nat} {a:Option Addr} {c:Nat} {tq:Option Addr} {tc:Nat} {d:List Item} {i:PS} (h:yA w.heap.size w wr j (s.data.toList.take k) a c tq tc d) (q:¬ k < s.size) (o:fD j=true)
  (f:i=dB j (s.data.toList.take k)) (u0 u1 u2 u3:Value):
  Pv w j s (.returned (.tuple #[.agg #[.int .i64 i.place,.slice a i.ps.length c,.string i.pl,.bool i.lg],.slice tq d.length tc,.int .i64 0]))
   ((((wr.setCell ⟨w.heap.size+1,0,none⟩ u0).setCell ⟨w.heap.size+1,1,none⟩ u1).setCell ⟨w.heap.size+1,2,none⟩ u2).setCell ⟨w.heap.size+1,3,none⟩ u3):=by
 have e:s.data.toList.take k=s.data.toList:=List.take_of_length_le (by simp;omega);rw [e] at h f;subst f;refine⟨?_,fun m=>absurd (o.symm.trans m) (by decide),fun _=>⟨a,c,tq,tc,d,rfl,?_,?_,h.says⟩⟩
 ·exact(((h.below.setCell (by simp) _).setCell (by simp) _).setCell (by simp) _).setCell (by simp) _
 ·refine Bc (base:=w.heap.size+2) ?_ (by omega)
  iterate 4 (refine gK ?_ (by simp) _)
  exact h.own
 ·refine UO (base:=w.heap.size+2) ?_ (by omega)
  iterate 4 (refine qJ ?_ (by simp) _)
  exact h.told
theorem wC {w:World} {b:Nat} {d f i c3:Value} {t:TypeId} (h:w.heap[b]?=some (.cells #[d,f,i,c3] t (0,0))) (u0 u1 u2 u3:Value):
  ((((w.setCell ⟨b,0,none⟩ u0).setCell ⟨b,1,none⟩ u1).setCell ⟨b,2,none⟩ u2).setCell ⟨b,3,none⟩ u3).heap[b]?=some (.cells #[u0,u1,u2,u3] t (0,0)):=by
 have j:=heap_setCell_same w b 0 _ t u0 h;have k:=heap_setCell_same _ b 1 _ t u1 j;have m:=heap_setCell_same _ b 2 _ t u2 k;have o:=heap_setCell_same _ b 3 _ t u3 m;rw [o]
 rfl
theorem Bb {w:World} {b f:Nat} {o:Obj} (h:w.heap[f]?=some o) (d:f≠b) (u0 u1 u2 u3:Value):
  ((((w.setCell ⟨b,0,none⟩ u0).setCell ⟨b,1,none⟩ u1).setCell ⟨b,2,none⟩ u2).setCell ⟨b,3,none⟩ u3).heap[f]?=some o:=
 cO (cO (cO (cO h d) d) d) d
theorem DJ {base:Nat} {i w3:World} {a:Option Addr} {r:PS×Ev} {a3:Option Addr} {c3:Nat} {p3:Option Addr} {eT:Nat} (h:Stepped base i a r a3 c3 p3 eT w3) {b:Nat} (k:b < i.heap.size) (f:some b≠blk a):blk a3≠some b∧blk p3≠some b:=by
 constructor
 ·intro e;rcases h.lies with d | d | ⟨g,d,j⟩
  ·rw [d] at e;cases e
  ·exact f (d ▸ e).symm
  ·rw [d] at e;cases e;omega
 ·intro e;rcases h.Gc with d | ⟨d,_⟩
  ·rw [d] at e;cases e
  ·exact f (d ▸ e).symm
theorem DK {base:Nat} {wr w3:World} {a:Option Addr} {r:PS×Ev} {a3:Option Addr} {c3:Nat} {p3:Option Addr} {eT:Nat} (h:Stepped base wr a r a3 c3 p3 eT w3) {b:Nat} (i:wr.heap.size<=b) (d:blk a3≠some b) (f:blk p3≠some b) (u0 u1 u2 u3:Value):
  Stepped base wr a r a3 c3 p3 eT ((((w3.setCell ⟨b,0,none⟩ u0).setCell ⟨b,1,none⟩ u1).setCell ⟨b,2,none⟩ u2).setCell ⟨b,3,none⟩ u3):=
 ⟨rT (rT (rT (rT h.own d _) d _) d _) d _,rT (rT (rT (rT h.zw f _) f _) f _) f _,oq (oq (oq (oq h.grown i _) i _) i _) i _,h.lies,h.Gc⟩
theorem DF {base:Nat} {wr w3:World} {a:Option Addr} {r:PS×Ev} {a3:Option Addr} {c3:Nat} {p3:Option Addr} {eT:Nat} (h:Stepped base wr a r a3 c3 p3 eT w3) (o:Obj):Stepped base wr a r a3 c3 p3 eT (w3.alloc o):=
 ⟨iA h.own o,iA h.zw o,bB h.grown o,h.lies,h.Gc⟩
theorem DI {base:Nat} {wr i w3:World} {a:Option Addr} {r:PS×Ev} {a3:Option Addr} {c3:Nat} {p3:Option Addr} {eT:Nat} (h:Stepped base i a r a3 c3 p3 eT w3) (f:wr.grownBy i (blk a)):Stepped base wr a r a3 c3 p3 eT w3:=
 ⟨h.own,h.zw,jD f h.grown,by
  rcases h.lies with d | d | ⟨g,d,j⟩
  ·exact .inl d
  ·exact .inr (.inl d)
  ·exact .inr (.inr ⟨g,d,Nat.le_trans f.size j⟩),h.Gc⟩
theorem Bh {w:World} {b:Nat} {u0 u1 u2 u3:Value}:((((w.setCell ⟨b,0,none⟩ u0).setCell ⟨b,1,none⟩ u1).setCell ⟨b,2,none⟩ u2).setCell ⟨b,3,none⟩ u3).heap.size=w.heap.size:=by simp
section
variable {B : Nat} {wr w3 : World} {a : Option Addr} {r : PS × Ev} {a3 : Option Addr} {c3 : Nat} {p3 : Option Addr} {eT : Nat}
theorem ab2 (h:Stepped (B+2) wr.drew a r a3 c3 p3 eT w3):
  Mid B wr ((w3.alloc (.cells #[.int .i64 r.1.place,.slice a3 r.1.ps.length c3,.string r.1.pl,.bool r.1.lg] 40)).alloc (.cells #[.int .i64 r.2.kind,.int .i64 r.2.b,.slice p3 r.2.ps.length eT,.string r.2.pl] 82)) a r
   (.pointer (some ⟨w3.heap.size,0,none⟩)) (.pointer (some ⟨w3.heap.size+1,0,none⟩)):=by
 have d:=h.grown.size;simp at d;exact⟨_,_,a3,c3,p3,eT,rfl,rfl,d,by omega,aF (at_new _ _) _,bK _ _ _,DF (DF (DI h (om (eP _ _))) _) _⟩
theorem ab3 (h:Stepped (B+2) wr.drew a r a3 c3 p3 eT w3):
  Mid B wr ((w3.alloc (.cells #[.int .i64 r.2.kind,.int .i64 r.2.b,.slice p3 r.2.ps.length eT,.string r.2.pl] 82)).alloc (.cells #[.int .i64 r.1.place,.slice a3 r.1.ps.length c3,.string r.1.pl,.bool r.1.lg] 40)) a r
   (.pointer (some ⟨w3.heap.size+1,0,none⟩)) (.pointer (some ⟨w3.heap.size,0,none⟩)):=by
 have d:=h.grown.size;simp at d;exact⟨_,_,a3,c3,p3,eT,rfl,rfl,by omega,d,bK _ _ _,aF (at_new _ _) _,DF (DF (DI h (om (eP _ _))) _) _⟩
theorem Sk {i j k m:Value} (h:Stepped (B+2) (wr.alloc (.cells #[i,j,k,m] 40)).drew a r a3 c3 p3 eT w3) (f:some wr.heap.size≠blk a):
  Mid B wr (((((w3.setCell ⟨wr.heap.size,0,none⟩ (.int .i64 r.1.place)).setCell ⟨wr.heap.size,1,none⟩ (.slice a3 r.1.ps.length c3)).setCell ⟨wr.heap.size,2,none⟩ (.string r.1.pl)).setCell ⟨wr.heap.size,3,none⟩ (.bool r.1.lg)).alloc (.cells #[.int .i64 r.2.kind,.int .i64 r.2.b,.slice p3 r.2.ps.length eT,.string r.2.pl] 82)) a r
   (.pointer (some ⟨wr.heap.size,0,none⟩)) (.pointer (some ⟨w3.heap.size,0,none⟩)):=by
 have q:=h.grown.size;simp at q;have d:=DJ h (b:=wr.heap.size) (by simp) f;have o:=bH h.grown (show ((wr.alloc (.cells #[i,j,k,m] 40)).drew).heap[wr.heap.size]?=_ from at_new wr _) f;refine⟨_,_,a3,c3,p3,eT,rfl,rfl,Nat.le_refl _,by omega,aF (wC o _ _ _ _) _,?_,DF (DK (DI h (om (World.grownBy_alloc _ _ _))) (Nat.le_refl _) d.1 d.2 _ _ _ _) _⟩;have:=at_new ((((w3.setCell ⟨wr.heap.size,0,none⟩ (.int .i64 r.1.place)).setCell ⟨wr.heap.size,1,none⟩ (.slice a3 r.1.ps.length c3)).setCell ⟨wr.heap.size,2,none⟩ (.string r.1.pl)).setCell ⟨wr.heap.size,3,none⟩ (.bool r.1.lg)) (.cells #[.int .i64 r.2.kind,.int .i64 r.2.b,.slice p3 r.2.ps.length eT,.string r.2.pl] 82);rw [Bh] at this;exact this
theorem midD {i j k m:Value} (h:Stepped (B+2) (wr.alloc (.cells #[i,j,k,m] 82)).drew a r a3 c3 p3 eT w3) (f:some wr.heap.size≠blk a):
  Mid B wr (((((w3.setCell ⟨wr.heap.size,0,none⟩ (.int .i64 r.2.kind)).setCell ⟨wr.heap.size,1,none⟩ (.int .i64 r.2.b)).setCell ⟨wr.heap.size,2,none⟩ (.slice p3 r.2.ps.length eT)).setCell ⟨wr.heap.size,3,none⟩ (.string r.2.pl)).alloc (.cells #[.int .i64 r.1.place,.slice a3 r.1.ps.length c3,.string r.1.pl,.bool r.1.lg] 40)) a r
   (.pointer (some ⟨w3.heap.size,0,none⟩)) (.pointer (some ⟨wr.heap.size,0,none⟩)):=by
 have q:=h.grown.size;simp at q;have d:=DJ h (b:=wr.heap.size) (by simp) f;have o:=bH h.grown (show ((wr.alloc (.cells #[i,j,k,m] 82)).drew).heap[wr.heap.size]?=_ from at_new wr _) f;refine⟨_,_,a3,c3,p3,eT,rfl,rfl,by omega,Nat.le_refl _,?_,aF (wC o _ _ _ _) _,DF (DK (DI h (om (World.grownBy_alloc _ _ _))) (Nat.le_refl _) d.1 d.2 _ _ _ _) _⟩;have:=at_new ((((w3.setCell ⟨wr.heap.size,0,none⟩ (.int .i64 r.2.kind)).setCell ⟨wr.heap.size,1,none⟩ (.int .i64 r.2.b)).setCell ⟨wr.heap.size,2,none⟩ (.slice p3 r.2.ps.length eT)).setCell ⟨wr.heap.size,3,none⟩ (.string r.2.pl)) (.cells #[.int .i64 r.1.place,.slice a3 r.1.ps.length c3,.string r.1.pl,.bool r.1.lg] 40);rw [Bh] at this;exact this
theorem NQ {j k m o q s t u:Value} (h:Stepped (B+2) ((wr.alloc (.cells #[j,k,m,o] 40)).alloc (.cells #[q,s,t,u] 82)).drew a r a3 c3 p3 eT w3) (y:some wr.heap.size≠blk a) (f:some (wr.heap.size+1)≠blk a):
  Mid B wr ((((((((w3.setCell ⟨wr.heap.size,0,none⟩ (.int .i64 r.1.place)).setCell ⟨wr.heap.size,1,none⟩ (.slice a3 r.1.ps.length c3)).setCell ⟨wr.heap.size,2,none⟩ (.string r.1.pl)).setCell ⟨wr.heap.size,3,none⟩ (.bool r.1.lg)).setCell ⟨wr.heap.size+1,0,none⟩ (.int .i64 r.2.kind)).setCell ⟨wr.heap.size+1,1,none⟩ (.int .i64 r.2.b)).setCell ⟨wr.heap.size+1,2,none⟩ (.slice p3 r.2.ps.length eT)).setCell ⟨wr.heap.size+1,3,none⟩ (.string r.2.pl)) a r
   (.pointer (some ⟨wr.heap.size,0,none⟩)) (.pointer (some ⟨wr.heap.size+1,0,none⟩)):=by
 have v:=DJ h (b:=wr.heap.size) (by simp;omega) y;have d:=DJ h (b:=wr.heap.size+1) (by simp) f;have z:=bH h.grown (show (((wr.alloc (.cells #[j,k,m,o] 40)).alloc (.cells #[q,s,t,u] 82)).drew).heap[wr.heap.size]?=_ from aF (at_new wr _) _) y;have i:=bH h.grown (show (((wr.alloc (.cells #[j,k,m,o] 40)).alloc (.cells #[q,s,t,u] 82)).drew).heap[wr.heap.size+1]?=_ from bK wr _ _) f;exact⟨_,_,a3,c3,p3,eT,rfl,rfl,Nat.le_refl _,by omega,Bb (wC z _ _ _ _) (by omega) _ _ _ _,wC (Bb i (by omega) _ _ _ _) _ _ _ _,DK (DK (DI h (om (bB (World.grownBy_alloc _ _ _) _))) (Nat.le_refl _) v.1 v.2 _ _ _ _) (by omega) d.1 d.2 _ _ _ _⟩
theorem NR {j k m o q s t u:Value} (h:Stepped (B+2) ((wr.alloc (.cells #[q,s,t,u] 82)).alloc (.cells #[j,k,m,o] 40)).drew a r a3 c3 p3 eT w3) (y:some wr.heap.size≠blk a) (f:some (wr.heap.size+1)≠blk a):
  Mid B wr ((((((((w3.setCell ⟨wr.heap.size+1,0,none⟩ (.int .i64 r.1.place)).setCell ⟨wr.heap.size+1,1,none⟩ (.slice a3 r.1.ps.length c3)).setCell ⟨wr.heap.size+1,2,none⟩ (.string r.1.pl)).setCell ⟨wr.heap.size+1,3,none⟩ (.bool r.1.lg)).setCell ⟨wr.heap.size,0,none⟩ (.int .i64 r.2.kind)).setCell ⟨wr.heap.size,1,none⟩ (.int .i64 r.2.b)).setCell ⟨wr.heap.size,2,none⟩ (.slice p3 r.2.ps.length eT)).setCell ⟨wr.heap.size,3,none⟩ (.string r.2.pl)) a r
   (.pointer (some ⟨wr.heap.size+1,0,none⟩)) (.pointer (some ⟨wr.heap.size,0,none⟩)):=by
 have v:=DJ h (b:=wr.heap.size) (by simp;omega) y;have d:=DJ h (b:=wr.heap.size+1) (by simp) f;have z:=bH h.grown (show (((wr.alloc (.cells #[q,s,t,u] 82)).alloc (.cells #[j,k,m,o] 40)).drew).heap[wr.heap.size]?=_ from aF (at_new wr _) _) y;have i:=bH h.grown (show (((wr.alloc (.cells #[q,s,t,u] 82)).alloc (.cells #[j,k,m,o] 40)).drew).heap[wr.heap.size+1]?=_ from bK wr _ _) f;exact⟨_,_,a3,c3,p3,eT,rfl,rfl,by omega,Nat.le_refl _,Bb (wC i _ _ _ _) (by omega) _ _ _ _,wC (Bb z (by omega) _ _ _ _) _ _ _ _,DK (DK (DI h (om (bB (World.grownBy_alloc _ _ _) _))) (by omega) d.1 d.2 _ _ _ _) (Nat.le_refl _) v.1 v.2 _ _ _ _⟩
end
variable {w w' w5:World} {tq a ao p:Option Addr} {tc base cap B c pc sz n g:Nat} {l:List UInt8} {e:TypeId} {xs:List Value} {row:Option Nat} {b:UInt8}
theorem Du (h:w.ownsRow base e sz (.slice ao n cap) n xs) (f:blk ao=some g):
  base<=g∧g < w.heap.size∧∃ d,w.heap[g]?=some (.cells d e (0,0)):=by
 rcases h.2 with ⟨i,_⟩ | ⟨m,c,d,i,k,j,_⟩
 ·simp only [Value.slice.injEq] at i;rw [i.1] at f;simp [blk] at f
 ·simp only [Value.slice.injEq] at i;rw [i.1] at f;simp [blk] at f;subst f;exact⟨k,(gQ j).1,d,j⟩
theorem rV {q s:Nat} {j k:TypeId} {C D:Nat} {f i:Option Addr} {m o t u:Nat} {E F:List Value} (v:w.ownsRow q j C (.slice f m t) m E) (y:w.ownsRow s k D (.slice i o u) o F) (A:j≠k):blk f=none∨blk f≠blk i:=by
 cases z:blk f with
 | none=>exact .inl rfl
 | some g=>
  right;intro e;obtain⟨_,_,_,h⟩:=Du v z;obtain⟨_,_,_,d⟩:=Du y e.symm;rw [h] at d;simp at d;exact A d.2
theorem afi (h:w.ownsRow base e sz (.slice ao n cap) n xs) (f:w.grownBy w' row) (d:blk ao=none∨blk ao≠row):w'.ownsRow base e sz (.slice ao n cap) n xs:=by
 refine World.ownsRow.kept h f ?_;cases ao with
 | none=>exact .inl rfl
 | some a=>simpa [Value.ownBlock,blk] using d
theorem Told.kept {d:List Item} (h:Told base w tq tc d) (f:w.grownBy w' row) (j:blk tq=none∨blk tq≠row) (k:∀ x∈d,blk x.2.1=none∨blk x.2.1≠row):Told base w' tq tc d:=
 ⟨afi h.row f j,fun x i=>uP (h.each x i) f (k x i)⟩
theorem Told.later {d:List Item} (h:Told base w tq tc d) (f:Below w.heap.size w w'):Told base w' tq tc d:=
 h.kept (Below.nO f none) (by cases blk tq <;>simp) (fun x _=>by cases blk x.2.1 <;>simp)
theorem Own.later {l:List Int} (h:Own base w ao cap l) (d:Below w.heap.size w w'):Own base w' ao cap l:=
 uP h (Below.nO d none) (by cases blk ao <;>simp)
structure yL (B:Nat) (w wp:World) (st:PS) (ev:Ev) (a:Option Addr) (c:Nat) (p:Option Addr) (pc:Nat) (tq:Option Addr) (tc:Nat) (evs:List Item):Prop where
 below:Below B w wp
 size:B+2<=wp.heap.size
 box:wp.heap[B]?=some (.cells #[.int .i64 st.place,.slice a st.ps.length c,.string st.pl,.bool st.lg] 40 (0,0))
 res:wp.heap[B+1]?=some (.cells #[.int .i64 0,.slice none 0 0,.string ⟨#[]⟩,.bool false] 40 (0,0))
 own:Own (B+2) wp a c st.ps
 zw:Own (B+2) wp p pc ev.ps
 told:Told (B+2) wp tq tc evs
 apart:∀ x∈evs,blk x.2.1=none∨blk x.2.1≠blk a
 Tk:blk p=none∨blk p≠blk a
theorem adj {wr wc:World} {C:PS} {i:List Item} {r:PS×Ev} {a3:Option Addr} {c3:Nat} {p3:Option Addr} {eT:Nat} (h:yA B w wr C l a c tq tc i) (d:Stepped (B+2) wr a r a3 c3 p3 eT wc):
  yL B w ((((wc.setCell ⟨B,0,none⟩ (.int .i64 r.1.place)).setCell ⟨B,1,none⟩ (.slice a3 r.1.ps.length c3)).setCell ⟨B,2,none⟩ (.string r.1.pl)).setCell ⟨B,3,none⟩ (.bool r.1.lg)) r.1 r.2 a3 c3 p3 eT tq tc i:=by
 have j:∀ g,blk a=some g->B+2<=g∧g < wr.heap.size:=fun g z=>qd h.own z;have:=h.size;have:=d.grown.size;have y:some B≠blk a:=fun e=>by have:=j _ e.symm;omega
 have v:some (B+1)≠blk a:=fun e=>by have:=j _ e.symm;omega
 have D:=bH d.grown h.box y;have q:=bH d.grown h.res v;have o:Below B w wc:=h.below.grown d.grown (by omega) (fun k A=>by have:=j k A;omega);have m:Told (B+2) wc tq tc i:=h.told.kept d.grown (rV h.told.row h.own (by decide)) h.apart;refine⟨?_,?_,wC D _ _ _ _,Bb q (by omega) _ _ _ _,?_,?_,?_,?_,?_⟩
 ·exact(((o.setCell (by simp) _).setCell (by simp) _).setCell (by simp) _).setCell (by simp) _
 ·rw [Bh];omega
 ·exact gK (gK (gK (gK d.own (by simp) _) (by simp) _) (by simp) _) (by simp) _
 ·exact gK (gK (gK (gK d.zw (by simp) _) (by simp) _) (by simp) _) (by simp) _
 ·exact qJ (qJ (qJ (qJ m (by simp) _) (by simp) _) (by simp) _) (by simp) _
 ·intro x u;cases t:blk x.2.1 with
  | none=>exact .inl rfl
  | some g=>
   right;intro e;rcases d.lies with f | f | ⟨E,f,F⟩
   ·rw [f] at e;cases e
   ·rcases h.apart x u with s | s
    ·rw [t] at s;cases s
    ·exact s (by rw [t,e,f])
   ·have:=(qd (h.told.each x u) t).2;rw [f] at e;cases e;omega
 ·rcases d.Gc with f | ⟨_,f⟩
  ·left;rw [f];rfl
  ·cases t:blk p3 with
   | none=>exact .inl rfl
   | some g=>right;rw [f];simp [blk]
theorem yL.later {i:World} {k:PS} {j:Ev} {f:List Item} (h:yL B w i k j a c p pc tq tc f) (d:Below i.heap.size i w5):yL B w w5 k j a c p pc tq tc f:=
 ⟨h.below.trans (d.mono (by have:=h.size;omega)),by have:=h.size;have:=d.size;omega,aG d h.box (by have:=h.size;omega),aG d h.res (by have:=h.size;omega),h.own.later d,h.zw.later d,h.told.later d,h.apart,h.Tk⟩
theorem afb {f:PS} {d:List Item} {r:PS×Ev} (i:r=bF (dB f l) (dA b)) (m:d.map (·.1)=bR f l) (k:r.2.kind=0) (h:yL B w w5 r.1 r.2 a c p pc tq tc d):yA B w w5 f (l++[b]) a c tq tc d:=by
 have e:dB f (l++[b])=r.1:=by rw [Mk,i]
 have j:bR f (l++[b])=bR f l:=by rw [Mj, <-i];simp [one,k]
 exact⟨h.below,h.size,by rw [e];exact h.box,h.res,by rw [e];exact h.own,h.told,by rw [j];exact m,h.apart⟩
theorem P6 (d:List Item) (x:Item):qY (d++[x])=qY d++cellsOf x:=by simp [qY]
theorem afc {t:World} {q:PS} {i:List Item} {r:PS×Ev} {o:Obj} (v:r=bF (dB q l) (dA b)) (F:i.map (·.1)=bR q l) (C:¬ r.2.kind=0) (h:yL B w w5 r.1 r.2 a c p pc tq tc i) (s:t.ownsRow (B+2) 82 4 (.slice (some ⟨g,0,none⟩) (i.length+1) cap) (i.length+1) (qY i++cellsOf (r.2,p,pc))) (d:(w5.alloc o).grownBy t (blk tq)):
  yA B w t q (l++[b]) a c (some ⟨g,0,none⟩) cap (i++[(r.2,p,pc)]):=by
 have e:dB q (l++[b])=r.1:=by rw [Mk,v]
 have A:bR q (l++[b])=bR q l++[r.2]:=by rw [Mj, <-v];simp [one,C]
 have u:∀ k,blk tq=some k->B+2<=k∧k < w5.heap.size:=fun k j=>by have:=Du h.told.row j;exact⟨this.1,this.2.1⟩
 have D:=h.size;have z:some B≠blk tq:=fun e=>by have:=u _ e.symm;omega
 have y:some (B+1)≠blk tq:=fun e=>by have:=u _ e.symm;omega
 have m:Own (B+2) t a c r.1.ps:=uP (iA h.own o) d (rV h.own h.told.row (by decide));have E:Own (B+2) t p pc r.2.ps:=uP (iA h.zw o) d (rV h.zw h.told.row (by decide));refine⟨?_,?_,?_,?_,by rw [e];exact m,⟨?_,?_⟩,?_,?_⟩
 ·exact(h.below.alloc (by omega) o).grown d (by simp;omega) (fun k j=>by have:=u k j;omega)
 ·have:=d.size;simp at this;omega
 ·rw [e];exact bH d (aF h.box o) z
 ·exact bH d (aF h.res o) y
 ·rw [P6];simpa using s
 ·intro x f;rcases List.mem_append.1 f with f | f
  ·exact uP (iA (h.told.each x f) o) d (rV (h.told.each x f) h.told.row (by decide))
  ·simp at f;subst f;exact E
 ·rw [A,List.map_append,F];rfl
 ·intro x f;rcases List.mem_append.1 f with f | f
  ·exact h.apart x f
  ·simp at f;subst f;exact h.Tk
theorem Gx (s:ByteArray) (k:Nat) (h:k < s.size):s.data.toList.take (k+1)=s.data.toList.take k++[s[k]]:=by
 rw [List.take_succ_eq_append_getElem (by simpa using h)];rfl
theorem QK (d:PS) (l:List UInt8):(bR d l).length<=l.length:=by
 induction l generalizing d with
 | nil=>simp [bR]
 | cons c r ih=>
  have:=ih (bF d (dA c)).1;simp only [bR,List.length_append,List.length_cons];have:(one (bF d (dA c)).2).length<=1:=(by unfold one;split <;>simp);omega
theorem ahe (k b:Int) (f:Option Addr) (n pc:Nat) (d:ByteArray) (w:World):
  kA 103 #[.agg #[.int .i64 k,.int .i64 b,.slice f n pc,.string d]] w (.bool (k !=0)):=by
 go_enter func103,ntmps103;go_wp2;go_ret;exact⟨rfl,(Below.refl _ _).alloc (Nat.le_refl _) _⟩
theorem Oo (ao:Option Addr) (n c:Nat):(Value.slice ao n c).ownBlock=blk ao:=by cases ao <;>rfl
theorem info37:(prog.info? 82).map (fun i=>(i.zero,i.size,i.bytes))=some (some (.agg #[.int .i64 0,.int .i64 0,.slice none 0 0,.string ⟨#[]⟩]),4,56):=by kernel_rfl
end Go.Proofs.YtkcdcamophkdlaaGreatDoor.Ps
