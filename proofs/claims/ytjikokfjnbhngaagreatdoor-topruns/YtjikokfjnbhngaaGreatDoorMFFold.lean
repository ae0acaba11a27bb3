/- Several texts in one, each as it was: FFold, FDraw, FTold, FRound. -/
import Derived.Test.YtjikokfjnbhngaaGreatDoorMFCmd
import Derived.Test.YtjikokfjnbhngaaGreatDoorMFMach
import Derived.Test.YtjikokfjnbhngaaGreatDoorMGDraw
import Derived.Deep.AppendLies

/- The plain machine over many bytes: it stays good, and what it tells of two parts is what it tells of both. -/
namespace Go.Proofs.YtjikokfjnbhngaaGreatDoor.Ps
open Go.RowKit
theorem good_ground:GoodS ground:=⟨by decide,by decide,by decide,by decide,by simp [ground],by decide,fun _ _=>⟨rfl,rfl⟩⟩
theorem good_esc:GoodS ⟨1,[],⟨#[]⟩,false⟩:=⟨by decide,by decide,by decide,by decide,by simp,by decide,fun _ _=>⟨rfl,rfl⟩⟩
theorem good_set (s:PS) (h:GoodS s) (j:Nat) (x:Int) (h0:0≤x) (h1:x≤999):GoodS {s with ps:=s.ps.set j x}:=by
 obtain⟨a,b,c,d,e,f,g⟩:=h
 refine⟨a,b,by simpa using c,by simpa using d,?_,f,g⟩
 intro y hy
 rcases List.mem_or_eq_of_mem_set hy with h | h
 ·exact e y h
 ·subst h;exact⟨h0,h1⟩
theorem good_stp (s:PS) (h:GoodS s) (b:Int):GoodS (stp s b).1:=by
 obtain⟨h1,h2,h3,h4,h5,h6,h7⟩:=h
 have hs:GoodS s:=⟨h1,h2,h3,h4,h5,h6,h7⟩
 unfold stp
 by_cases p1:s.place=1
 ·rw [if_pos p1]
  unfold escF
  repeat' split
  ·exact good_esc
  ·exact⟨by decide,by decide,by decide,by decide,by simp,by decide,fun _ _=>⟨rfl,rfl⟩⟩
  ·exact⟨by decide,by decide,by decide,by decide,by simp,by decide,fun _ _=>⟨rfl,rfl⟩⟩
  ·exact good_ground
  ·exact good_ground
 ·rw [if_neg p1]
  by_cases p2:s.place=2
  ·rw [if_pos p2]
   unfold cmdF
   repeat' split
   ·rename_i hb
    have hl:=h4.1 p2
    have hx:0≤s.ps.getD (s.ps.length - 1) 0:=by
     have:s.ps.length - 1 < s.ps.length:=by omega
     rw [List.getD_eq_getElem?_getD,List.getElem?_eq_getElem this]
     exact(h5 _ (List.getElem_mem this)).1
    exact good_set s hs _ _ (by omega) (by omega)
   ·rename_i hb
    obtain⟨e1,e2⟩:=h7 (by omega) (by omega)
    refine⟨h1,h2,by simp;omega,⟨fun _=>by simp,fun _=>p2⟩,?_,h6,h7⟩
    intro x hx
    simp at hx
    rcases hx with hx | hx
    ·exact h5 x hx
    ·subst hx;decide
   ·exact good_ground
   ·exact good_esc
   ·exact good_ground
  ·rw [if_neg p2]
   by_cases p3:s.place=3
   ·rw [if_pos p3]
    have h0:¬ 0 < s.ps.length:=fun h=>p2 (h4.2 h)
    show GoodS (picF s b)
    unfold picF
    repeat' split
    ·exact⟨show (0:Int)≤4 by decide,show (4:Int)≤4 by decide,h3,⟨fun h=>absurd h (show ¬ (4:Int)=2 by decide),fun h=>absurd h h0⟩,h5,h6,fun _ h=>absurd rfl h⟩
    ·exact good_ground
    ·refine⟨h1,h2,h3,h4,h5,?_,fun h=>absurd p3 h⟩
     show (s.pl.push _).size≤48
     rw [ByteArray.size_push];omega
    ·exact⟨h1,h2,h3,h4,h5,h6,fun h=>absurd p3 h⟩
    ·exact hs
   ·rw [if_neg p3]
    by_cases p4:s.place=4
    ·rw [if_pos p4]
     unfold endF
     split <;>exact good_ground
    ·rw [if_neg p4]
     unfold gndF
     repeat' split
     ·exact good_esc
     ·exact good_ground
     ·exact good_ground
     ·exact good_ground
theorem good_feed (s:PS) (h:GoodS s) (l:List UInt8):GoodS (feedS s l):=by
 induction l generalizing s with
 | nil=>exact h
 | cons c r ih=>exact ih _ (good_stp s h _)
theorem goodB_iff (s:PS):goodB s=true↔GoodS s:=by
 constructor
 ·intro h
  simp only [goodB,plcB,parB,payB,numsB,numB,Bool.and_eq_true,decide_eq_true_eq,beq_iff_eq,List.all_eq_true,decide_eq_decide] at h
  obtain⟨⟨⟨h1,h2⟩,⟨⟨h3,h4⟩,h5⟩⟩,h6⟩:=h
  by_cases hp:s.place=3∨s.place=4
  ·rw [if_pos hp] at h6
   exact⟨h1,h2,h4,h3,h5,by simpa using h6,fun a b=>by omega⟩
  ·rw [if_neg hp] at h6
   simp only [Bool.and_eq_true,Bool.not_eq_true'] at h6
   have he:s.pl=⟨#[]⟩:=by
    have h:=h6.1
    rw [ByteArray.toList_eq] at h
    cases hs:s.pl with
    | mk d=>
     rw [hs] at h
     simp at h
     rw [h]
   exact⟨h1,h2,h4,h3,h5,by rw [he];decide,fun _ _=>⟨he,h6.2⟩⟩
 ·rintro⟨h1,h2,h3,h4,h5,h6,h7⟩
  simp only [goodB,plcB,parB,payB,numsB,numB,Bool.and_eq_true,decide_eq_true_eq,beq_iff_eq,List.all_eq_true,decide_eq_decide]
  refine⟨⟨⟨h1,h2⟩,⟨⟨h4,h3⟩,h5⟩⟩,?_⟩
  by_cases hp:s.place=3∨s.place=4
  ·rw [if_pos hp];simpa using h6
  ·rw [if_neg hp]
   obtain⟨e1,e2⟩:=h7 (by omega) (by omega)
   rw [e1,e2,ByteArray.toList_eq]
   rfl
end Go.Proofs.YtjikokfjnbhngaaGreatDoor.Ps

/- Bytes that draw: Fed from the ground they lead back to it, and what they tell, done on a screen, makes another one. -/
namespace Go.Proofs.YtjikokfjnbhngaaGreatDoor
def Sends (g:Gr) (l:List UInt8) (x:Gr):Prop:=∃ es,Ps.Word l es∧Did g (es.map toE) x
theorem sends_nil (g:Gr):Sends g [] g:=⟨[],Ps.word_nil,did_nil g⟩
theorem Sends.append {g x y:Gr} {l m:List UInt8} (h:Sends g l x) (k:Sends x m y):Sends g (l++m) y:=by
 obtain⟨es,h1,h2⟩:=h
 obtain⟨fs,k1,k2⟩:=k
 exact⟨es++fs,h1.append k1,by rw [List.map_append];exact h2.append k2⟩
theorem Sends.ok {g x:Gr} {l:List UInt8} (h:Sends g l x) (ok:OkG g):OkG x∧x.wide=g.wide∧x.high=g.high∧x.n=g.n:=by
 obtain⟨es,_,h2⟩:=h
 exact did_ok h2 ok
theorem Sends.all {g x:Gr} {l:List UInt8} (h:Sends g l x):Ps.feedS Ps.ground l=Ps.ground∧allG g ((Ps.feedE Ps.ground l).map toE)=(x,0):=by
 obtain⟨es,h1,h2⟩:=h
 exact⟨h1.back,by rw [h1.told];exact h2⟩
theorem sends_move {g:Gr} (ok:OkG g) (r c:Nat) (h1:(r:Int) < g.high) (h2:(c:Int) < g.wide):Sends g (27::91::(Ps.nums [r+1,c+1]++[72])) {g with row:=r,col:=c}:=by
 have hw:=ok.w2
 have hh:=ok.h2
 refine⟨_,Ps.word_csi [r+1,c+1] 72 (by simp) (fun n hn=>?_) (by simp) (by decide) (by decide),?_⟩
 ·simp only [List.mem_cons,List.not_mem_nil,or_false] at hn
  omega
 ·have h:=did_move ok r c (by omega) h1 (by omega) h2
  exact h
def inkNat (i:Nat) (o:Bool):List Nat:=0::((if o then [1] else [])++(if i=0 then [] else [29+i]))
theorem inkNat_cast (i:Nat) (o:Bool):(inkNat i o).map (fun n:Nat=>(n:Int))=inkNums i o:=by
 unfold inkNat inkNums
 by_cases hi:i=0
 ·subst hi
  cases o <;>rfl
 ·have hi':¬ (i:Int)=0:=by omega
  cases o <;>simp [hi]
theorem sends_ink (g:Gr) (i:Nat) (o:Bool) (h:i≤8):Sends g (27::91::(Ps.nums (inkNat i o)++[109])) {g with ink:=i,bold:=o}:=by
 refine⟨_,Ps.word_csi (inkNat i o) 109 (by simp [inkNat]) (fun n hn=>?_) ?_ (by decide) (by decide),?_⟩
 ·unfold inkNat at hn
  simp only [List.mem_cons,List.mem_append] at hn
  rcases hn with e | e | e
  ·omega
  ·cases o <;>simp at e <;>omega
  ·by_cases hi:i=0 <;>simp [hi] at e <;>omega
 ·unfold inkNat
  cases o <;>by_cases hi:i=0 <;>simp [hi]
 ·have:=did_ink g i o (by omega) (by omega)
  rw [←inkNat_cast] at this
  exact this
theorem sends_print {g:Gr} (c:UInt8) (h1:32≤c.toNat) (h2:c.toNat≤126) (hc:g.col≠g.wide):Sends g [c] {g with f:=putF g.f (g.row*g.wide+g.col).toNat ⟨(c.toNat:Int),g.ink,0,g.bold⟩,col:=g.col+1}:=
 ⟨_,Ps.word_plain c h1 h2,did_print (g:=g) (c.toNat:Int) (by simp only [plainN,decide_eq_true_eq];omega) hc⟩
theorem sends_pic {g:Gr} (ok:OkG g) (c:UInt8) (h1:97≤c.toNat) (h2:c.toNat≤104):Sends g [27,80,c,27,92] {g with f:=putF g.f (g.row*g.wide+hereC g).toNat ⟨0,0,(c.toNat:Int) - 96,false⟩}:=
 ⟨_,Ps.word_pic [c] (fun d hd=>by simp only [List.mem_singleton] at hd;subst hd;omega) (by simp),did_pic ok c h1 h2⟩
theorem sends_reset (g:Gr):Sends g [27,99] (newG g.wide g.high):=⟨_,Ps.word_reset,did_reset g⟩
end Go.Proofs.YtjikokfjnbhngaaGreatDoor

/- Words for what 'Feed' has in memory at each round's head, and what one byte's step does to it. -/
namespace Go.Proofs.YtjikokfjnbhngaaGreatDoor.Ps
open Go.RowKit
abbrev Item:=Ev×Option Addr×Nat
def cellsOf (x:Item):List Value:=[.int .i64 x.1.kind,.int .i64 x.1.b,.slice x.2.1 x.1.ps.length x.2.2,.string x.1.pl]
def allCells (l:List Item):List Value:=l.flatMap cellsOf
structure Told (base:Nat) (w:World) (tq:Option Addr) (tc:Nat) (evs:List Item):Prop where
 row:w.ownsRow base 124 4 (.slice tq evs.length tc) evs.length (allCells evs)
 each:∀ x∈evs,Own base w x.2.1 x.2.2 x.1.ps
theorem gcell {W w1:World} {row:Option Nat} (hg:W.grownBy w1 row):(∀ b o,b < W.heap.size→some b≠row→w1.cell? ⟨b,o,none⟩=W.cell? ⟨b,o,none⟩)∧(∀ b o,b < W.heap.size→some b≠row→w1.frozen? ⟨b,o,none⟩=W.frozen? ⟨b,o,none⟩):=
 ⟨fun b o h hne=>World.cell?_of_block (a:=⟨b,o,none⟩) (hg.block b h hne),fun b o h hne=>World.frozen?_of_block (a:=⟨b,o,none⟩) (hg.block b h hne)⟩
structure FInv (B:Nat) (w wr:World) (s0:PS) (l:List UInt8) (ao:Option Addr) (cap:Nat) (tq:Option Addr) (tc:Nat) (evs:List Item):Prop where
 below:Below B w wr
 size:B+2≤wr.heap.size
 box:wr.heap[B]?=some (.cells #[.int .i64 (feedS s0 l).place,.slice ao (feedS s0 l).ps.length cap,.string (feedS s0 l).pl,.bool (feedS s0 l).lg] 37 (0,0))
 res:wr.heap[B+1]?=some (.cells #[.int .i64 0,.slice none 0 0,.string ⟨#[]⟩,.bool false] 37 (0,0))
 own:Own (B+2) wr ao cap (feedS s0 l).ps
 told:Told (B+2) wr tq tc evs
 says:evs.map (·.1)=feedE s0 l
 apart:∀ x∈evs,blk x.2.1=none∨blk x.2.1≠blk ao
def Mid (B:Nat) (wr wx:World) (a:Option Addr) (r:PS×Ev) (s9 s10:Value):Prop:=
 ∃ g9 g10 a3 c3 p3 pc3,s9=.pointer (some ⟨g9,0,none⟩)∧s10=.pointer (some ⟨g10,0,none⟩)∧wr.heap.size≤g9∧wr.heap.size≤g10∧
  wx.heap[g9]?=some (.cells #[.int .i64 r.1.place,.slice a3 r.1.ps.length c3,.string r.1.pl,.bool r.1.lg] 37 (0,0))∧
  wx.heap[g10]?=some (.cells #[.int .i64 r.2.kind,.int .i64 r.2.b,.slice p3 r.2.ps.length pc3,.string r.2.pl] 124 (0,0))∧Stepped (B+2) wr a r a3 c3 p3 pc3 wx
def FeedEnd (w:World) (s0:PS) (s:ByteArray) (e:Ending) (w':World):Prop:=
 Below w.heap.size w w'∧
 (goodB s0=false→∃ ao' cap',e=.returned (.tuple #[.agg #[.int .i64 s0.place,.slice ao' s0.ps.length cap',.string s0.pl,.bool s0.lg],.slice none 0 0,.int .i64 1])∧Own w.heap.size w' ao' cap' s0.ps)∧
 (goodB s0=true→∃ ao' cap' tq tc evs,e=.returned (.tuple #[.agg #[.int .i64 (feedS s0 s.data.toList).place,.slice ao' (feedS s0 s.data.toList).ps.length cap',.string (feedS s0 s.data.toList).pl,.bool (feedS s0 s.data.toList).lg],.slice tq (List.length (α:=Item) evs) tc,.int .i64 0])∧
  Own w.heap.size w' ao' cap' (feedS s0 s.data.toList).ps∧Told w.heap.size w' tq tc evs∧evs.map (·.1)=feedE s0 s.data.toList)
theorem box_set {w:World} {B:Nat} {x0 x1 x2 x3 u:Value} {t:TypeId} (h:w.heap[B]?=some (.cells #[x0,x1,x2,x3] t (0,0))):(w.setCell ⟨B,1,none⟩ u).heap[B]?=some (.cells #[x0,u,x2,x3] t (0,0)):=by
 rw [heap_setCell_same w B 1 _ t u h];rfl
theorem other_set {w:World} {B b:Nat} {o:Obj} {u:Value} {j:Nat} (h:w.heap[b]?=some o) (hne:b≠B):(w.setCell ⟨B,j,none⟩ u).heap[b]?=some o:=by
 rw [Below.heap_setCell _ _ _ _ hne];exact h
theorem row_mono {base base':Nat} {w:World} {e:TypeId} {sz:Nat} {v:Value} {n:Nat} {xs:List Value} (h:w.ownsRow base e sz v n xs) (hb:base'≤base):w.ownsRow base' e sz v n xs:=by
 refine⟨h.1,?_⟩
 rcases h.2 with hn | ⟨g,c,cur,hv,hg,rest⟩
 ·exact .inl hn
 ·exact .inr ⟨g,c,cur,hv,by omega,rest⟩
theorem own_mono {base base':Nat} {w:World} {ao:Option Addr} {cap:Nat} {l:List Int} (h:Own base w ao cap l) (hb:base'≤base):Own base' w ao cap l:=row_mono h hb
theorem told_mono {base base':Nat} {w:World} {tq:Option Addr} {tc:Nat} {evs:List Item} (h:Told base w tq tc evs) (hb:base'≤base):Told base' w tq tc evs:=
 ⟨row_mono h.row hb,fun x hx=>own_mono (h.each x hx) hb⟩
theorem wrap_byte (c:UInt8):IntKind.i64.wrap (c.toNat:Int)=(c.toNat:Int):=by
 have:=c.toNat_lt
 rw [IntKind.wrap_i64]
 omega
theorem told_set {base:Nat} {w:World} {tq:Option Addr} {tc:Nat} {evs:List Item} (h:Told base w tq tc evs) {p:Addr} (hp:p.block < base) (u:Value):Told base (w.setCell p u) tq tc evs:=
 ⟨ownsRow_setCell_below h.row hp u,fun x hx=>ownsRow_setCell_below (h.each x hx) hp u⟩
theorem own_setb {base:Nat} {w:World} {ao:Option Addr} {cap:Nat} {l:List Int} (h:Own base w ao cap l) {p:Addr} (hp:p.block < base) (u:Value):Own base (w.setCell p u) ao cap l:=ownsRow_setCell_below h hp u
theorem feed_finish {w wr:World} {s0:PS} {s:ByteArray} {k:Nat} {a:Option Addr} {c:Nat} {tq:Option Addr} {tc:Nat} {evs:List Item} {st:PS} (h:FInv w.heap.size w wr s0 (s.data.toList.take k) a c tq tc evs) (hk:¬ k < s.size) (hg:goodB s0=true)
  (hst:st=feedS s0 (s.data.toList.take k)) (u0 u1 u2 u3:Value):
  FeedEnd w s0 s (.returned (.tuple #[.agg #[.int .i64 st.place,.slice a st.ps.length c,.string st.pl,.bool st.lg],.slice tq evs.length tc,.int .i64 0]))
   ((((wr.setCell ⟨w.heap.size+1,0,none⟩ u0).setCell ⟨w.heap.size+1,1,none⟩ u1).setCell ⟨w.heap.size+1,2,none⟩ u2).setCell ⟨w.heap.size+1,3,none⟩ u3):=by
 have e:s.data.toList.take k=s.data.toList:=List.take_of_length_le (by simp;omega)
 rw [e] at h hst
 subst hst
 refine⟨?_,fun h'=>absurd (hg.symm.trans h') (by decide),fun _=>⟨a,c,tq,tc,evs,rfl,?_,?_,h.says⟩⟩
 ·exact(((h.below.setCell (by simp) _).setCell (by simp) _).setCell (by simp) _).setCell (by simp) _
 ·refine own_mono (base:=w.heap.size+2) ?_ (by omega)
  iterate 4 (refine own_setb ?_ (by simp) _)
  exact h.own
 ·refine told_mono (base:=w.heap.size+2) ?_ (by omega)
  iterate 4 (refine told_set ?_ (by simp) _)
  exact h.told
theorem set4 {w:World} {b:Nat} {c0 c1 c2 c3:Value} {t:TypeId} (h:w.heap[b]?=some (.cells #[c0,c1,c2,c3] t (0,0))) (u0 u1 u2 u3:Value):
  ((((w.setCell ⟨b,0,none⟩ u0).setCell ⟨b,1,none⟩ u1).setCell ⟨b,2,none⟩ u2).setCell ⟨b,3,none⟩ u3).heap[b]?=some (.cells #[u0,u1,u2,u3] t (0,0)):=by
 have h0:=heap_setCell_same w b 0 _ t u0 h
 have h1:=heap_setCell_same _ b 1 _ t u1 h0
 have h2:=heap_setCell_same _ b 2 _ t u2 h1
 have h3:=heap_setCell_same _ b 3 _ t u3 h2
 rw [h3]
 rfl
theorem other4 {w:World} {b b':Nat} {o:Obj} (h:w.heap[b']?=some o) (hne:b'≠b) (u0 u1 u2 u3:Value):
  ((((w.setCell ⟨b,0,none⟩ u0).setCell ⟨b,1,none⟩ u1).setCell ⟨b,2,none⟩ u2).setCell ⟨b,3,none⟩ u3).heap[b']?=some o:=
 other_set (other_set (other_set (other_set h hne) hne) hne) hne
theorem st_fresh {base:Nat} {wx w3:World} {a:Option Addr} {r:PS×Ev} {a3:Option Addr} {c3:Nat} {p3:Option Addr} {pc3:Nat} (h:Stepped base wx a r a3 c3 p3 pc3 w3) {b:Nat} (hb:b < wx.heap.size) (hne:some b≠blk a):blk a3≠some b∧blk p3≠some b:=by
 constructor
 ·intro e
  rcases h.lies with h1 | h1 | ⟨g,h1,h2⟩
  ·rw [h1] at e;cases e
  ·exact hne (h1 ▸ e).symm
  ·rw [h1] at e;cases e;omega
 ·intro e
  rcases h.plies with h1 | ⟨h1,_⟩
  ·rw [h1] at e;cases e
  ·exact hne (h1 ▸ e).symm
theorem st_set4 {base:Nat} {wr w3:World} {a:Option Addr} {r:PS×Ev} {a3:Option Addr} {c3:Nat} {p3:Option Addr} {pc3:Nat} (h:Stepped base wr a r a3 c3 p3 pc3 w3) {b:Nat} (hb:wr.heap.size≤b) (h1:blk a3≠some b) (h2:blk p3≠some b) (u0 u1 u2 u3:Value):
  Stepped base wr a r a3 c3 p3 pc3 ((((w3.setCell ⟨b,0,none⟩ u0).setCell ⟨b,1,none⟩ u1).setCell ⟨b,2,none⟩ u2).setCell ⟨b,3,none⟩ u3):=
 ⟨own_set (own_set (own_set (own_set h.own h1 _) h1 _) h1 _) h1 _,own_set (own_set (own_set (own_set h.pown h2 _) h2 _) h2 _) h2 _,grown_set (grown_set (grown_set (grown_set h.grown hb _) hb _) hb _) hb _,h.lies,h.plies⟩
theorem st_alloc {base:Nat} {wr w3:World} {a:Option Addr} {r:PS×Ev} {a3:Option Addr} {c3:Nat} {p3:Option Addr} {pc3:Nat} (h:Stepped base wr a r a3 c3 p3 pc3 w3) (o:Obj):Stepped base wr a r a3 c3 p3 pc3 (w3.alloc o):=
 ⟨own_alloc h.own o,own_alloc h.pown o,grown_alloc h.grown o,h.lies,h.plies⟩
theorem st_base {base:Nat} {wr wx w3:World} {a:Option Addr} {r:PS×Ev} {a3:Option Addr} {c3:Nat} {p3:Option Addr} {pc3:Nat} (h:Stepped base wx a r a3 c3 p3 pc3 w3) (hg:wr.grownBy wx (blk a)):Stepped base wr a r a3 c3 p3 pc3 w3:=
 ⟨h.own,h.pown,grown_trans hg h.grown,by
  rcases h.lies with h1 | h1 | ⟨g,h1,h2⟩
  ·exact .inl h1
  ·exact .inr (.inl h1)
  ·exact .inr (.inr ⟨g,h1,Nat.le_trans hg.size h2⟩),h.plies⟩
theorem size4 {w:World} {b:Nat} {u0 u1 u2 u3:Value}:((((w.setCell ⟨b,0,none⟩ u0).setCell ⟨b,1,none⟩ u1).setCell ⟨b,2,none⟩ u2).setCell ⟨b,3,none⟩ u3).heap.size=w.heap.size:=by simp
section
variable {B : Nat} {wr w3 : World} {a : Option Addr} {r : PS × Ev} {a3 : Option Addr} {c3 : Nat} {p3 : Option Addr} {pc3 : Nat}
theorem midA (h:Stepped (B+2) wr.drew a r a3 c3 p3 pc3 w3):
  Mid B wr ((w3.alloc (.cells #[.int .i64 r.1.place,.slice a3 r.1.ps.length c3,.string r.1.pl,.bool r.1.lg] 37)).alloc (.cells #[.int .i64 r.2.kind,.int .i64 r.2.b,.slice p3 r.2.ps.length pc3,.string r.2.pl] 124)) a r
   (.pointer (some ⟨w3.heap.size,0,none⟩)) (.pointer (some ⟨w3.heap.size+1,0,none⟩)):=by
 have hs:=h.grown.size
 simp at hs
 exact⟨_,_,a3,c3,p3,pc3,rfl,rfl,hs,by omega,at_old (at_new _ _) _,at_new1 _ _ _,st_alloc (st_alloc (st_base h (grown_drew (grown_refl _ _))) _) _⟩
theorem midB (h:Stepped (B+2) wr.drew a r a3 c3 p3 pc3 w3):
  Mid B wr ((w3.alloc (.cells #[.int .i64 r.2.kind,.int .i64 r.2.b,.slice p3 r.2.ps.length pc3,.string r.2.pl] 124)).alloc (.cells #[.int .i64 r.1.place,.slice a3 r.1.ps.length c3,.string r.1.pl,.bool r.1.lg] 37)) a r
   (.pointer (some ⟨w3.heap.size+1,0,none⟩)) (.pointer (some ⟨w3.heap.size,0,none⟩)):=by
 have hs:=h.grown.size
 simp at hs
 exact⟨_,_,a3,c3,p3,pc3,rfl,rfl,by omega,hs,at_new1 _ _ _,at_old (at_new _ _) _,st_alloc (st_alloc (st_base h (grown_drew (grown_refl _ _))) _) _⟩
theorem midC {x0 x1 x2 x3:Value} (h:Stepped (B+2) (wr.alloc (.cells #[x0,x1,x2,x3] 37)).drew a r a3 c3 p3 pc3 w3) (hn:some wr.heap.size≠blk a):
  Mid B wr (((((w3.setCell ⟨wr.heap.size,0,none⟩ (.int .i64 r.1.place)).setCell ⟨wr.heap.size,1,none⟩ (.slice a3 r.1.ps.length c3)).setCell ⟨wr.heap.size,2,none⟩ (.string r.1.pl)).setCell ⟨wr.heap.size,3,none⟩ (.bool r.1.lg)).alloc (.cells #[.int .i64 r.2.kind,.int .i64 r.2.b,.slice p3 r.2.ps.length pc3,.string r.2.pl] 124)) a r
   (.pointer (some ⟨wr.heap.size,0,none⟩)) (.pointer (some ⟨w3.heap.size,0,none⟩)):=by
 have hs:=h.grown.size
 simp at hs
 have hf:=st_fresh h (b:=wr.heap.size) (by simp) hn
 have hb:=grown_block h.grown (show ((wr.alloc (.cells #[x0,x1,x2,x3] 37)).drew).heap[wr.heap.size]?=_ from at_new wr _) hn
 refine⟨_,_,a3,c3,p3,pc3,rfl,rfl,Nat.le_refl _,by omega,at_old (set4 hb _ _ _ _) _,?_,st_alloc (st_set4 (st_base h (grown_drew (World.grownBy_alloc _ _ _))) (Nat.le_refl _) hf.1 hf.2 _ _ _ _) _⟩
 have:=at_new ((((w3.setCell ⟨wr.heap.size,0,none⟩ (.int .i64 r.1.place)).setCell ⟨wr.heap.size,1,none⟩ (.slice a3 r.1.ps.length c3)).setCell ⟨wr.heap.size,2,none⟩ (.string r.1.pl)).setCell ⟨wr.heap.size,3,none⟩ (.bool r.1.lg)) (.cells #[.int .i64 r.2.kind,.int .i64 r.2.b,.slice p3 r.2.ps.length pc3,.string r.2.pl] 124)
 rw [size4] at this
 exact this
theorem midD {x0 x1 x2 x3:Value} (h:Stepped (B+2) (wr.alloc (.cells #[x0,x1,x2,x3] 124)).drew a r a3 c3 p3 pc3 w3) (hn:some wr.heap.size≠blk a):
  Mid B wr (((((w3.setCell ⟨wr.heap.size,0,none⟩ (.int .i64 r.2.kind)).setCell ⟨wr.heap.size,1,none⟩ (.int .i64 r.2.b)).setCell ⟨wr.heap.size,2,none⟩ (.slice p3 r.2.ps.length pc3)).setCell ⟨wr.heap.size,3,none⟩ (.string r.2.pl)).alloc (.cells #[.int .i64 r.1.place,.slice a3 r.1.ps.length c3,.string r.1.pl,.bool r.1.lg] 37)) a r
   (.pointer (some ⟨w3.heap.size,0,none⟩)) (.pointer (some ⟨wr.heap.size,0,none⟩)):=by
 have hs:=h.grown.size
 simp at hs
 have hf:=st_fresh h (b:=wr.heap.size) (by simp) hn
 have hb:=grown_block h.grown (show ((wr.alloc (.cells #[x0,x1,x2,x3] 124)).drew).heap[wr.heap.size]?=_ from at_new wr _) hn
 refine⟨_,_,a3,c3,p3,pc3,rfl,rfl,by omega,Nat.le_refl _,?_,at_old (set4 hb _ _ _ _) _,st_alloc (st_set4 (st_base h (grown_drew (World.grownBy_alloc _ _ _))) (Nat.le_refl _) hf.1 hf.2 _ _ _ _) _⟩
 have:=at_new ((((w3.setCell ⟨wr.heap.size,0,none⟩ (.int .i64 r.2.kind)).setCell ⟨wr.heap.size,1,none⟩ (.int .i64 r.2.b)).setCell ⟨wr.heap.size,2,none⟩ (.slice p3 r.2.ps.length pc3)).setCell ⟨wr.heap.size,3,none⟩ (.string r.2.pl)) (.cells #[.int .i64 r.1.place,.slice a3 r.1.ps.length c3,.string r.1.pl,.bool r.1.lg] 37)
 rw [size4] at this
 exact this
theorem midE {x0 x1 x2 x3 y0 y1 y2 y3:Value} (h:Stepped (B+2) ((wr.alloc (.cells #[x0,x1,x2,x3] 37)).alloc (.cells #[y0,y1,y2,y3] 124)).drew a r a3 c3 p3 pc3 w3) (hn:some wr.heap.size≠blk a) (hn1:some (wr.heap.size+1)≠blk a):
  Mid B wr ((((((((w3.setCell ⟨wr.heap.size,0,none⟩ (.int .i64 r.1.place)).setCell ⟨wr.heap.size,1,none⟩ (.slice a3 r.1.ps.length c3)).setCell ⟨wr.heap.size,2,none⟩ (.string r.1.pl)).setCell ⟨wr.heap.size,3,none⟩ (.bool r.1.lg)).setCell ⟨wr.heap.size+1,0,none⟩ (.int .i64 r.2.kind)).setCell ⟨wr.heap.size+1,1,none⟩ (.int .i64 r.2.b)).setCell ⟨wr.heap.size+1,2,none⟩ (.slice p3 r.2.ps.length pc3)).setCell ⟨wr.heap.size+1,3,none⟩ (.string r.2.pl)) a r
   (.pointer (some ⟨wr.heap.size,0,none⟩)) (.pointer (some ⟨wr.heap.size+1,0,none⟩)):=by
 have hf:=st_fresh h (b:=wr.heap.size) (by simp;omega) hn
 have hf1:=st_fresh h (b:=wr.heap.size+1) (by simp) hn1
 have hb:=grown_block h.grown (show (((wr.alloc (.cells #[x0,x1,x2,x3] 37)).alloc (.cells #[y0,y1,y2,y3] 124)).drew).heap[wr.heap.size]?=_ from at_old (at_new wr _) _) hn
 have hb1:=grown_block h.grown (show (((wr.alloc (.cells #[x0,x1,x2,x3] 37)).alloc (.cells #[y0,y1,y2,y3] 124)).drew).heap[wr.heap.size+1]?=_ from at_new1 wr _ _) hn1
 exact⟨_,_,a3,c3,p3,pc3,rfl,rfl,Nat.le_refl _,by omega,other4 (set4 hb _ _ _ _) (by omega) _ _ _ _,set4 (other4 hb1 (by omega) _ _ _ _) _ _ _ _,st_set4 (st_set4 (st_base h (grown_drew (grown_alloc (World.grownBy_alloc _ _ _) _))) (Nat.le_refl _) hf.1 hf.2 _ _ _ _) (by omega) hf1.1 hf1.2 _ _ _ _⟩
theorem midF {x0 x1 x2 x3 y0 y1 y2 y3:Value} (h:Stepped (B+2) ((wr.alloc (.cells #[y0,y1,y2,y3] 124)).alloc (.cells #[x0,x1,x2,x3] 37)).drew a r a3 c3 p3 pc3 w3) (hn:some wr.heap.size≠blk a) (hn1:some (wr.heap.size+1)≠blk a):
  Mid B wr ((((((((w3.setCell ⟨wr.heap.size+1,0,none⟩ (.int .i64 r.1.place)).setCell ⟨wr.heap.size+1,1,none⟩ (.slice a3 r.1.ps.length c3)).setCell ⟨wr.heap.size+1,2,none⟩ (.string r.1.pl)).setCell ⟨wr.heap.size+1,3,none⟩ (.bool r.1.lg)).setCell ⟨wr.heap.size,0,none⟩ (.int .i64 r.2.kind)).setCell ⟨wr.heap.size,1,none⟩ (.int .i64 r.2.b)).setCell ⟨wr.heap.size,2,none⟩ (.slice p3 r.2.ps.length pc3)).setCell ⟨wr.heap.size,3,none⟩ (.string r.2.pl)) a r
   (.pointer (some ⟨wr.heap.size+1,0,none⟩)) (.pointer (some ⟨wr.heap.size,0,none⟩)):=by
 have hf:=st_fresh h (b:=wr.heap.size) (by simp;omega) hn
 have hf1:=st_fresh h (b:=wr.heap.size+1) (by simp) hn1
 have hb:=grown_block h.grown (show (((wr.alloc (.cells #[y0,y1,y2,y3] 124)).alloc (.cells #[x0,x1,x2,x3] 37)).drew).heap[wr.heap.size]?=_ from at_old (at_new wr _) _) hn
 have hb1:=grown_block h.grown (show (((wr.alloc (.cells #[y0,y1,y2,y3] 124)).alloc (.cells #[x0,x1,x2,x3] 37)).drew).heap[wr.heap.size+1]?=_ from at_new1 wr _ _) hn1
 exact⟨_,_,a3,c3,p3,pc3,rfl,rfl,by omega,Nat.le_refl _,other4 (set4 hb1 _ _ _ _) (by omega) _ _ _ _,set4 (other4 hb (by omega) _ _ _ _) _ _ _ _,st_set4 (st_set4 (st_base h (grown_drew (grown_alloc (World.grownBy_alloc _ _ _) _))) (by omega) hf1.1 hf1.2 _ _ _ _) (Nat.le_refl _) hf.1 hf.2 _ _ _ _⟩
end
end Go.Proofs.YtjikokfjnbhngaaGreatDoor.Ps

/- One round of 'Feed', away from the walk: what the step and the append leave is what holds at the next round's head. -/
namespace Go.Proofs.YtjikokfjnbhngaaGreatDoor.Ps
open Go.RowKit
theorem row_blk {w:World} {base:Nat} {e:TypeId} {sz:Nat} {ao:Option Addr} {n cap:Nat} {xs:List Value} (h:w.ownsRow base e sz (.slice ao n cap) n xs) {g:Nat} (hg:blk ao=some g):
  base≤g∧g < w.heap.size∧∃ cur,w.heap[g]?=some (.cells cur e (0,0)):=by
 rcases h.2 with ⟨hv,_⟩ | ⟨g',c,cur,hv,hb,hc,_⟩
 ·simp only [Value.slice.injEq] at hv;rw [hv.1] at hg;simp [blk] at hg
 ·simp only [Value.slice.injEq] at hv
  rw [hv.1] at hg
  simp [blk] at hg
  subst hg
  exact⟨hb,(Array.getElem?_eq_some_iff.1 hc).1,cur,hc⟩
theorem row_ne {w:World} {b1 b2:Nat} {e1 e2:TypeId} {s1 s2:Nat} {a1 a2:Option Addr} {n1 n2 c1 c2:Nat} {x1 x2:List Value} (h1:w.ownsRow b1 e1 s1 (.slice a1 n1 c1) n1 x1) (h2:w.ownsRow b2 e2 s2 (.slice a2 n2 c2) n2 x2) (he:e1≠e2):blk a1=none∨blk a1≠blk a2:=by
 cases hb:blk a1 with
 | none=>exact .inl rfl
 | some g=>
  right
  intro e
  obtain⟨_,_,cur1,hc1⟩:=row_blk h1 hb
  obtain⟨_,_,cur2,hc2⟩:=row_blk h2 e.symm
  rw [hc1] at hc2
  simp at hc2
  exact he hc2.2
theorem row_kept {w w':World} {base:Nat} {e:TypeId} {sz:Nat} {ao:Option Addr} {n cap:Nat} {xs:List Value} {row:Option Nat} (h:w.ownsRow base e sz (.slice ao n cap) n xs) (hg:w.grownBy w' row) (hne:blk ao=none∨blk ao≠row):w'.ownsRow base e sz (.slice ao n cap) n xs:=by
 refine World.ownsRow.kept h hg ?_
 cases ao with
 | none=>exact .inl rfl
 | some a=>simpa [Value.ownBlock,blk] using hne
theorem Told.kept {base:Nat} {w w':World} {tq:Option Addr} {tc:Nat} {evs:List Item} {row:Option Nat} (h:Told base w tq tc evs) (hg:w.grownBy w' row) (h1:blk tq=none∨blk tq≠row) (h2:∀ x∈evs,blk x.2.1=none∨blk x.2.1≠row):Told base w' tq tc evs:=
 ⟨row_kept h.row hg h1,fun x hx=>own_kept (h.each x hx) hg (h2 x hx)⟩
theorem Told.later {base:Nat} {w w':World} {tq:Option Addr} {tc:Nat} {evs:List Item} (h:Told base w tq tc evs) (hb:Below w.heap.size w w'):Told base w' tq tc evs:=
 h.kept (Below.toGrown hb none) (by cases blk tq <;>simp) (fun x _=>by cases blk x.2.1 <;>simp)
theorem Own.later {base:Nat} {w w':World} {ao:Option Addr} {cap:Nat} {l:List Int} (h:Own base w ao cap l) (hb:Below w.heap.size w w'):Own base w' ao cap l:=
 own_kept h (Below.toGrown hb none) (by cases blk ao <;>simp)
structure PInv (B:Nat) (w wp:World) (st:PS) (ev:Ev) (a:Option Addr) (c:Nat) (p:Option Addr) (pc:Nat) (tq:Option Addr) (tc:Nat) (evs:List Item):Prop where
 below:Below B w wp
 size:B+2≤wp.heap.size
 box:wp.heap[B]?=some (.cells #[.int .i64 st.place,.slice a st.ps.length c,.string st.pl,.bool st.lg] 37 (0,0))
 res:wp.heap[B+1]?=some (.cells #[.int .i64 0,.slice none 0 0,.string ⟨#[]⟩,.bool false] 37 (0,0))
 own:Own (B+2) wp a c st.ps
 pown:Own (B+2) wp p pc ev.ps
 told:Told (B+2) wp tq tc evs
 apart:∀ x∈evs,blk x.2.1=none∨blk x.2.1≠blk a
 papart:blk p=none∨blk p≠blk a
theorem p_of_mid {B:Nat} {w wr wc:World} {s0:PS} {l:List UInt8} {a:Option Addr} {c:Nat} {tq:Option Addr} {tc:Nat} {evs:List Item} {r:PS×Ev} {a3:Option Addr} {c3:Nat} {p3:Option Addr} {pc3:Nat}
  (h:FInv B w wr s0 l a c tq tc evs) (hst:Stepped (B+2) wr a r a3 c3 p3 pc3 wc):
  PInv B w ((((wc.setCell ⟨B,0,none⟩ (.int .i64 r.1.place)).setCell ⟨B,1,none⟩ (.slice a3 r.1.ps.length c3)).setCell ⟨B,2,none⟩ (.string r.1.pl)).setCell ⟨B,3,none⟩ (.bool r.1.lg)) r.1 r.2 a3 c3 p3 pc3 tq tc evs:=by
 have hra:∀ g,blk a=some g→B+2≤g∧g < wr.heap.size:=fun g hg=>own_blk h.own hg
 have hsz:=h.size
 have hgs:=hst.grown.size
 have hneB:some B≠blk a:=fun e=>by have:=hra _ e.symm;omega
 have hneB1:some (B+1)≠blk a:=fun e=>by have:=hra _ e.symm;omega
 have hbox:=grown_block hst.grown h.box hneB
 have hres:=grown_block hst.grown h.res hneB1
 have hbel:Below B w wc:=h.below.grown hst.grown (by omega) (fun k hk=>by have:=hra k hk;omega)
 have htold:Told (B+2) wc tq tc evs:=h.told.kept hst.grown (row_ne h.told.row h.own (by decide)) h.apart
 refine⟨?_,?_,set4 hbox _ _ _ _,other4 hres (by omega) _ _ _ _,?_,?_,?_,?_,?_⟩
 ·exact(((hbel.setCell (by simp) _).setCell (by simp) _).setCell (by simp) _).setCell (by simp) _
 ·rw [size4];omega
 ·exact own_setb (own_setb (own_setb (own_setb hst.own (by simp) _) (by simp) _) (by simp) _) (by simp) _
 ·exact own_setb (own_setb (own_setb (own_setb hst.pown (by simp) _) (by simp) _) (by simp) _) (by simp) _
 ·exact told_set (told_set (told_set (told_set htold (by simp) _) (by simp) _) (by simp) _) (by simp) _
 ·intro x hx
  cases hb:blk x.2.1 with
  | none=>exact .inl rfl
  | some g=>
   right
   intro e
   rcases hst.lies with h1 | h1 | ⟨g',h1,h2⟩
   ·rw [h1] at e;cases e
   ·rcases h.apart x hx with h3 | h3
    ·rw [hb] at h3;cases h3
    ·exact h3 (by rw [hb,e,h1])
   ·have:=(own_blk (h.told.each x hx) hb).2
    rw [h1] at e
    cases e
    omega
 ·rcases hst.plies with h1 | ⟨_,h1⟩
  ·left;rw [h1];rfl
  ·cases hb:blk p3 with
   | none=>exact .inl rfl
   | some g=>right;rw [h1];simp [blk]
theorem PInv.later {B:Nat} {w wp w5:World} {st:PS} {ev:Ev} {a:Option Addr} {c:Nat} {p:Option Addr} {pc:Nat} {tq:Option Addr} {tc:Nat} {evs:List Item} (h:PInv B w wp st ev a c p pc tq tc evs) (hb:Below wp.heap.size wp w5):PInv B w w5 st ev a c p pc tq tc evs:=
 ⟨h.below.trans (hb.mono (by have:=h.size;omega)),by have:=h.size;have:=hb.size;omega,below_block hb h.box (by have:=h.size;omega),below_block hb h.res (by have:=h.size;omega),h.own.later hb,h.pown.later hb,h.told.later hb,h.apart,h.papart⟩
theorem round_no {B:Nat} {w w5:World} {s0:PS} {l:List UInt8} {b:UInt8} {a:Option Addr} {c:Nat} {p:Option Addr} {pc:Nat} {tq:Option Addr} {tc:Nat} {evs:List Item} {r:PS×Ev}
  (hr:r=stp (feedS s0 l) (bint b)) (hsay:evs.map (·.1)=feedE s0 l) (hk:r.2.kind=0) (h:PInv B w w5 r.1 r.2 a c p pc tq tc evs):FInv B w w5 s0 (l++[b]) a c tq tc evs:=by
 have e:feedS s0 (l++[b])=r.1:=by rw [feedS_snoc,hr]
 have e2:feedE s0 (l++[b])=feedE s0 l:=by rw [feedE_snoc, ←hr];simp [one,hk]
 exact⟨h.below,h.size,by rw [e];exact h.box,h.res,by rw [e];exact h.own,h.told,by rw [e2];exact hsay,h.apart⟩
theorem allCells_snoc (evs:List Item) (x:Item):allCells (evs++[x])=allCells evs++cellsOf x:=by simp [allCells]
theorem round_yes {B:Nat} {w w5 w6:World} {s0:PS} {l:List UInt8} {b:UInt8} {a:Option Addr} {c:Nat} {p:Option Addr} {pc:Nat} {tq:Option Addr} {tc:Nat} {evs:List Item} {r:PS×Ev} {o:Obj} {g cap:Nat}
  (hr:r=stp (feedS s0 l) (bint b)) (hsay:evs.map (·.1)=feedE s0 l) (hk:¬ r.2.kind=0) (h:PInv B w w5 r.1 r.2 a c p pc tq tc evs)
  (hown:w6.ownsRow (B+2) 124 4 (.slice (some ⟨g,0,none⟩) (evs.length+1) cap) (evs.length+1) (allCells evs++cellsOf (r.2,p,pc))) (hgrow:(w5.alloc o).grownBy w6 (blk tq)):
  FInv B w w6 s0 (l++[b]) a c (some ⟨g,0,none⟩) cap (evs++[(r.2,p,pc)]):=by
 have e:feedS s0 (l++[b])=r.1:=by rw [feedS_snoc,hr]
 have e2:feedE s0 (l++[b])=feedE s0 l++[r.2]:=by rw [feedE_snoc, ←hr];simp [one,hk]
 have ht:∀ k,blk tq=some k→B+2≤k∧k < w5.heap.size:=fun k hk'=>by have:=row_blk h.told.row hk';exact⟨this.1,this.2.1⟩
 have hsz:=h.size
 have hneB:some B≠blk tq:=fun e=>by have:=ht _ e.symm;omega
 have hneB1:some (B+1)≠blk tq:=fun e=>by have:=ht _ e.symm;omega
 have hown5:Own (B+2) w6 a c r.1.ps:=own_kept (own_alloc h.own o) hgrow (row_ne h.own h.told.row (by decide))
 have hp5:Own (B+2) w6 p pc r.2.ps:=own_kept (own_alloc h.pown o) hgrow (row_ne h.pown h.told.row (by decide))
 refine⟨?_,?_,?_,?_,by rw [e];exact hown5,⟨?_,?_⟩,?_,?_⟩
 ·exact(h.below.alloc (by omega) o).grown hgrow (by simp;omega) (fun k hk'=>by have:=ht k hk';omega)
 ·have:=hgrow.size;simp at this;omega
 ·rw [e];exact grown_block hgrow (at_old h.box o) hneB
 ·exact grown_block hgrow (at_old h.res o) hneB1
 ·rw [allCells_snoc];simpa using hown
 ·intro x hx
  rcases List.mem_append.1 hx with hx | hx
  ·exact own_kept (own_alloc (h.told.each x hx) o) hgrow (row_ne (h.told.each x hx) h.told.row (by decide))
  ·simp at hx;subst hx;exact hp5
 ·rw [e2,List.map_append,hsay];rfl
 ·intro x hx
  rcases List.mem_append.1 hx with hx | hx
  ·exact h.apart x hx
  ·simp at hx;subst hx;exact h.papart
theorem take_snoc (s:ByteArray) (k:Nat) (h:k < s.size):s.data.toList.take (k+1)=s.data.toList.take k++[s[k]]:=by
 rw [List.take_succ_eq_append_getElem (by simpa using h)];rfl
theorem evs_len (s0:PS) (l:List UInt8):(feedE s0 l).length≤l.length:=by
 induction l generalizing s0 with
 | nil=>simp [feedE]
 | cons c r ih=>
  have:=ih (stp s0 (bint c)).1
  simp only [feedE,List.length_append,List.length_cons]
  have:(one (stp s0 (bint c)).2).length≤1:=by unfold one;split <;>simp
  omega
set_option maxHeartbeats 400000 in
theorem tells_any (k b:Int) (po:Option Addr) (n pc:Nat) (pl:ByteArray) (w:World):
  Calls Tryz.prog 77 #[.agg #[.int .i64 k,.int .i64 b,.slice po n pc,.string pl]] w fun e w'=>e=.returned (.bool (k !=0))∧Below w.heap.size w w':=by
 go_enter Tryz.func77,Tryz.ntmps77
 go_wp2
 go_ret
 exact⟨rfl,(Below.refl _ _).alloc (Nat.le_refl _) _⟩
theorem ownBlock_eq (ao:Option Addr) (n c:Nat):(Value.slice ao n c).ownBlock=blk ao:=by cases ao <;>rfl
theorem info37:(Tryz.prog.info? 124).map (fun i=>(i.zero,i.size,i.bytes))=some (some (.agg #[.int .i64 0,.int .i64 0,.slice none 0 0,.string ⟨#[]⟩]),4,56):=by kernel_rfl
end Go.Proofs.YtjikokfjnbhngaaGreatDoor.Ps
