/- Several texts in one, each as it was: TCopy, TIns, TIns2, TSp0. -/
import Derived.Test.YtjikokfjnbhngaaGreatDoorMTGood
import Derived.Laws.CopyOwn
import Derived.Lib.AppendZerosOnto
import Derived.Lib.Overlaps
import Derived.Laws.Externs

/- What 'copied' makes: the panes in lists of their own. -/
namespace Go.Proofs.YtjikokfjnbhngaaGreatDoor.Tl
open Go.RowKit
structure Cp (its:List CIt) (g:Nat) (w:World):Prop where
 row:w.heap[g]?=some (.cells (its.map cv).toArray 35)
 own:∀ x∈its,w.ownsRow (g+1) 3 1 (cv x) x.1.length (ints x.1)
 apart:∀ j k (hj:j < its.length) (hk:k < its.length),j < k→∀ a b,its[j].2.1=some a→its[k].2.1=some b→a.block < b.block
theorem own_lt {w:World} {base sz n:Nat} {e:TypeId} {a:Addr} {c:Nat} {xs:List Value} (h:w.ownsRow base e sz (.slice (some a) n c) n xs):base≤a.block∧a.block < w.heap.size:=by
 rcases h.2 with ⟨hv,_⟩ | ⟨g,cap,cur,hv,hb,hg,_⟩
 ·cases hv
 ·simp only [Value.slice.injEq,Option.some.injEq] at hv
  obtain⟨rfl,_,_⟩:=hv
  exact⟨hb,at_lt hg⟩
theorem Cp.below {its:List CIt} {g:Nat} {w w':World} (h:Cp its g w) (hb:Below w.heap.size w w'):Cp its g w':=
 ⟨below_block hb h.row (at_lt h.row),fun x hx=>row_below (h.own x hx) hb,h.apart⟩
theorem Cp.set {its:List CIt} {g B j:Nat} {u:Value} {w:World} (h:Cp its g w) (hB:B < g):Cp its g (w.setCell ⟨B,j,none⟩ u):=
 ⟨by rw [Below.heap_setCell _ _ _ _ (by simp;omega)];exact h.row,fun x hx=>row_set (h.own x hx) (by omega),h.apart⟩
theorem Cp.rd {its:List CIt} {g:Nat} {w:World} (h:Cp its g w):RdT w (some ⟨g,0,none⟩) its:=by
 refine⟨fun x hx=>row_rd (h.own x hx),.inr ⟨g,0,rfl,fun k hk=>?_⟩⟩
 simp only [World.cell?,h.row]
 simp [hk]
structure CInv (w:World) (its:List CIt) (co:Option Addr) (cap T k:Nat) (done:List CIt) (wr:World):Prop where
 far:w.heap.size+3≤T
 len:done.length=k
 same:colsOf done=(colsOf its).take k
 row:wr.heap[w.heap.size+2]?=some (.cells (done.map cv++List.replicate (its.length - k) (Value.slice none 0 0)).toArray 35)
 own:∀ x∈done,wr.ownsRow (T+1) 3 1 (cv x) x.1.length (ints x.1)
 apart:∀ j k (hj:j < done.length) (hk:k < done.length),j < k→∀ a b,done[j].2.1=some a→done[k].2.1=some b→a.block < b.block
 box:wr.heap[w.heap.size]?=some (tbox co its.length cap)
 res:wr.heap[w.heap.size+1]?=some (tbox none 0 0)
 to3:wr.heap[T]?=some (tbox (some ⟨w.heap.size+2,0,none⟩) its.length its.length)
 below:Below w.heap.size w wr
theorem cinv_step {w:World} {its:List CIt} {co:Option Addr} {cap T k:Nat} {done:List CIt} {wr w1:World} (h:CInv w its co cap T k done wr) (hk:k < its.length) {ao:Option Addr} {c:Nat}
  (ho:w1.ownsRow wr.heap.size 3 1 (.slice ao its[k].1.length c) its[k].1.length (ints its[k].1)) (hb:Below wr.heap.size wr w1):
  CInv w its co cap T (k+1) (done++[(its[k].1,ao,c)]) (w1.setCell ⟨w.heap.size+2,k,none⟩ (.slice ao its[k].1.length c)):=by
 have hw4:T < wr.heap.size:=at_lt h.to3
 have hT:=h.far
 have hrow:=below_block hb h.row (by omega)
 refine⟨h.far,by simp [h.len],?_,?_,?_,?_,?_,?_,?_,?_⟩
 ·rw [List.take_succ_eq_append_getElem (by simpa using hk)]
  simp [colsOf, ←h.same]
 ·rw [heap_setCell_same w1 (w.heap.size+2) k _ _ _ hrow]
  have e1:its.length - k=(its.length - (k+1))+1:=by omega
  rw [e1,List.replicate_succ]
  have hl:(done.map cv).length=k:=by simp [h.len]
  simp only [List.map_append,List.map_cons,List.map_nil,List.append_assoc,List.cons_append,List.nil_append]
  congr 1
  congr 1
  apply Array.ext'
  simp only [Array.toList_setIfInBounds]
  rw [List.set_append_right _ _ (by omega)]
  simp [hl]
 ·intro x hx
  rcases List.mem_append.1 hx with hx | hx
  ·exact row_set (row_below (h.own x hx) hb) (by omega)
  ·simp at hx
   subst hx
   exact row_set (row_less ho (by omega)) (by omega)
 ·intro i j hi hj hij a b ha hbb
  have hjl:j≤done.length:=by simp at hj;omega
  by_cases e:j=done.length
  ·subst e
   have hi2:i < done.length:=hij
   rw [List.getElem_append_left hi2] at ha
   simp at hbb
   have h1:=h.own done[i] (List.getElem_mem hi2)
   unfold cv at h1
   rw [ha] at h1
   have h2:=(own_lt h1).2
   rw [hbb] at ho
   have h3:=(own_lt ho).1
   omega
  ·have hj2:j < done.length:=by omega
   have hi2:i < done.length:=by omega
   rw [List.getElem_append_left hi2] at ha
   rw [List.getElem_append_left hj2] at hbb
   exact h.apart i j hi2 hj2 hij a b ha hbb
 ·rw [Below.heap_setCell _ _ _ _ (by simp)];exact below_block hb h.box (by omega)
 ·rw [Below.heap_setCell _ _ _ _ (by simp)];exact below_block hb h.res (by omega)
 ·rw [Below.heap_setCell _ _ _ _ (by simp;omega)];exact below_block hb h.to3 (by omega)
 ·exact(below_to h.below hb).setCell (by simp) _
theorem made_nils (n:Nat):(madeCells #[Value.slice none 0 0] n).toList=List.replicate n (.slice none 0 0):=by
 refine List.ext_getElem? fun k=>?_
 simp only [madeCells,Array.toList_map,Array.toList_range,List.getElem?_map,List.getElem?_replicate]
 by_cases h:k < n
 ·simp [h,Nat.mod_one]
 ·simp [h]
theorem nil_at (l:List Value) (m k:Nat) (v:Value) (hl:l.length=k) (hm:0 < m):(l++List.replicate m v).toArray[k]?=some v:=by
 rw [List.getElem?_toArray,List.getElem?_append_right (by omega),hl]
 simp [hm]
theorem row_full {w:World} {base g n:Nat} {e:TypeId} {xs:List Value} (h:w.ownsRow base e 1 (.slice (some ⟨g,0,none⟩) n n) n xs):w.heap[g]?=some (.cells xs.toArray e):=by
 rcases h.2 with ⟨hv,_⟩ | ⟨g',cap,cur,hv,hb,hg,hc,_,hs,ht⟩
 ·cases hv
 ·simp only [Value.slice.injEq,Option.some.injEq,Addr.mk.injEq,and_true,true_and] at hv
  obtain⟨rfl,rfl⟩:=hv
  rw [hg]
  have:cur.toList=xs:=by rw [←ht,List.take_of_length_le (by simp [hs])]
  rw [←this]
def CpEnd (w:World) (cols:List (List Int)) (e:Ending) (w':World):Prop:=
 ∃ g its',e=.returned (tval (some ⟨g,0,none⟩) its'.length its'.length)∧colsOf its'=cols∧w.heap.size≤g∧Cp its' g w'∧Below w.heap.size w w'
set_option maxRecDepth 100000 in
set_option maxHeartbeats 1000000 in
theorem copied_any (its:List CIt) (co:Option Addr) (cap:Nat) (w:World) (hr:RdT w co its) (hm:its.length≤5864062014805) (hm2:∀ x∈its,x.1.length≤17592186044416):
  Calls Tryz.prog 86 #[tval co its.length cap] w (CpEnd w (colsOf its)):=by
 obtain⟨i0,hi,hz0,hz1,hz2⟩:=info_parts infoL
 have HR:Hid (RdT w co its):=hr
 have HM:Hid (∀ x∈its,x.1.length≤17592186044416):=hm2
 clear hr hm2
 go_enter Tryz.func86,Tryz.ntmps86
 go_wp2_with (first | (at_make;refine wpList_make_full _ rfl _ _ 53 rfl w.heap.size 35 i0 (.slice none 0 0) 1 Tryz.underlying53 hi hz0 hz1 .i64 .i64 _ _ its.length rfl rfl rfl rfl (by rw [hz2];omega) (by unfold maxLen;omega) (by simp;omega) ?_) | fail)
 intro w1 hown hg
 rw [made_nils] at hown
 have hrow:=row_full hown
 have hT3:w.heap.size+3≤w1.heap.size:=by have:=at_lt hrow;omega
 have q1:w1.heap[w.heap.size]?=some (tbox co its.length cap):=by rw [World.grownBy.block hg w.heap.size (by simp;omega) (by simp)];exact at_old (at_new w _) _
 have q2:w1.heap[w.heap.size+1]?=some (tbox none 0 0):=by rw [World.grownBy.block hg (w.heap.size+1) (by simp) (by simp)];exact at_new1 w _ _
 have hb1:Below w.heap.size w w1:=(below2 w (tbox co its.length cap) (tbox none 0 0)).trans ⟨hg.os,hg.tape,hg.output,hg.size,fun k hk=>hg.block k (by simp;omega) (by simp)⟩
 obtain⟨y1,z1⟩:=one (at_old q1 (tbox (some ⟨w.heap.size+1+1,0,none⟩) its.length its.length))
 have HS:Hid (CInv w its co cap w1.heap.size 0 [] (w1.alloc (tbox (some ⟨w.heap.size+1+1,0,none⟩) its.length its.length))):=
  ⟨hT3,rfl,by simp [colsOf],by simpa using at_old hrow _,fun x hx=>by simp at hx,fun j k hj=>by simp at hj,at_old q1 _,at_old q2 _,at_new _ _,hb1.alloc (by omega) _⟩
 clear hown hg hrow q1 q2 hb1
 go_wp2
 go_loopw [14] (fun i wr=>∃ (k:Nat) (done:List CIt),k≤its.length∧i=.int .i64 k∧CInv w its co cap w1.heap.size k done wr) (fun i _=>its.length - (intOf i).toNat)
 case atStart=>exact⟨0,[],Nat.zero_le _,rfl,HS.out⟩
 case round=>
  obtain⟨k,done,hk,rfl,hi⟩:=hrel
  obtain⟨x1,x2⟩:=one hi.box
  obtain⟨x3,x4⟩:=one hi.res
  obtain⟨x5,x6⟩:=one hi.to3
  have HI:Hid (CInv w its co cap w1.heap.size k done wr):=hi
  clear HS y1 z1
  by_cases hlt:k < its.length
  ·have hrd:=HR.out.below hi.below
   obtain⟨b,off,rfl,hc⟩:=hrd.row.resolve_left (by intro h;subst h;simp at hlt)
   have h1:wr.cell? ⟨b,off+k,none⟩=some (.slice its[k].2.1 its[k].1.length its[k].2.2):=hc k hlt
   obtain⟨x,hx⟩:∃ x,x=its[k]:=⟨_,rfl⟩
   have hmem:x∈its:=by rw [hx];exact List.getElem_mem hlt
   have HCL:Hid (∀ W,Below wr.heap.size wr W→Calls Tryz.prog 47 #[.slice x.2.1 x.1.length x.2.2] W fun e w'=>∃ ao' cap',e=.returned (.slice ao' x.1.length cap')∧w'.ownsRow W.heap.size 3 1 (.slice ao' x.1.length cap') x.1.length (ints x.1)∧Below W.heap.size W w'):=fun W hW=>clone_any x W ((hrd.each x hmem).1.below hW) (hrd.each x hmem).2 (HM.out x hmem)
   have hck:wr.cell? ⟨w.heap.size+2,k,none⟩=some (.slice none 0 0):=by
    simp only [World.cell?,hi.row]
    exact nil_at _ _ _ _ (by simp [hi.len]) (by omega)
   rw [←hx] at h1
   have HX:Hid (x=its[k]):=hx
   have hlt':(k:Int) < (its.length:Int):=by omega
   clear hc hrd hi hx hmem
   go_wp2_with fail
   go_region_with ((go_at_call 47;refine(HCL.out _ ((Below.refl _ _).drew)).mono ?_;rintro e w2 ⟨ao,c,rfl,ho,hb0⟩;have hb:Below wr.heap.size wr w2:=((Below.refl wr.heap.size wr).drew).trans hb0;have HB:Hid (w2.ownsRow wr.heap.size 3 1 (.slice ao x.1.length c) x.1.length (ints x.1)∧Below wr.heap.size wr w2):=⟨ho,hb⟩;obtain⟨x51,x61⟩:=one (below_block hb HI.out.to3 (at_lt HI.out.to3));have hck2:w2.cell? ⟨w.heap.size+2,k,none⟩=some (.slice none 0 0):=(hb.cell (p:=⟨w.heap.size+2,k,none⟩) (at_lt HI.out.row)).trans hck;have hcf:w2.frozen? ⟨w.heap.size+2,k,none⟩=false:=frozen_of_row w2 _ k _ _ (below_block hb HI.out.row (at_lt HI.out.row));clear ho hb0 hb x1 x2 x3 x4 x5 x6 h1))
   all_goals (
    go_wp2
    go_roundw
    case rel=>
     obtain⟨f1,f2⟩:=HB.out
     rw [HX.out] at f1 ⊢
     exact⟨k+1,_,by omega,by go_num,cinv_step HI.out hlt f1 f2⟩
    case measure=>(simp [intOf];omega))
  ·have hge:(its.length:Int)≤(k:Int):=by omega
   have HK:Hid (k=its.length):=(by omega:k=its.length)
   clear hi
   go_wp2
   refine bodyPost_ret (v:=tval (some ⟨w.heap.size+2,0,none⟩) its.length its.length) (by simp [results,Tryz.results86,go_sem, *]) rfl ?_
   have h0:=HI.out
   rw [HK.out] at h0
   have hl:done.length=its.length:=by rw [h0.len]
   have hf:=h0.far
   refine⟨w.heap.size+2,done,by rw [hl],?_,by omega,⟨?_,?_,h0.apart⟩,?_⟩
   ·rw [h0.same,List.take_of_length_le (by simp)]
   ·rw [Below.heap_setCell _ _ _ _ (by simp),h0.row]
    simp
   ·intro x hx
    exact row_set (row_less (h0.own x hx) (by omega)) (by omega)
   ·exact h0.below.setCell (by simp) _
end Go.Proofs.YtjikokfjnbhngaaGreatDoor.Tl

/- What 'slices.Insert' makes of a list of one's own. -/
namespace Go.Proofs.YtjikokfjnbhngaaGreatDoor.Tl
open Go.RowKit
theorem own_cap {w:World} {base sz n:Nat} {e:TypeId} {a:Addr} {c:Nat} {xs:List Value} (h:w.ownsRow base e sz (.slice (some a) n c) n xs):n≤c:=by
 rcases h.2 with ⟨hv,_⟩ | ⟨g,cap,cur,hv,hb,hg,hc,_⟩
 ·cases hv
 ·simp only [Value.slice.injEq,Option.some.injEq] at hv
  obtain⟨rfl,_,rfl⟩:=hv
  exact hc
theorem own_cell {w:World} {base g n:Nat} {e:TypeId} {c:Nat} {xs:List Value} (h:w.ownsRow base e 1 (.slice (some ⟨g,0,none⟩) n c) n xs) (j:Nat) (u:Value) (hu:xs[j]?=some u):w.cell? ⟨g,j,none⟩=some u:=by
 have hj:j < xs.length:=(List.getElem?_eq_some_iff.1 hu).1
 rcases h.2 with ⟨hv,_⟩ | ⟨g',cap,cur,hv,hb,hg,hc,_,hs,ht⟩
 ·cases hv
 ·simp only [Value.slice.injEq,Option.some.injEq,Addr.mk.injEq,and_true,true_and] at hv
  obtain⟨rfl,rfl⟩:=hv
  have h1:=h.1
  rw [←ht,List.getElem?_take_of_lt (by omega)] at hu
  simp only [World.cell?,hg]
  simpa using hu
theorem splice_ins {α:Type} (Z xs:List α) (i:Nat) (X:α) (hi:i≤xs.length) (hZi:Z.take i=xs.take i) (hZl:xs.length+1≤Z.length):
  (splice (splice Z i [X]) (i+1) (xs.drop i)).take (xs.length+1)=insL xs i X∧(splice (splice Z i [X]) (i+1) (xs.drop i)).length=Z.length:=by
 have hl1:(splice Z i [X]).length=Z.length:=length_splice _ _ _ (by simp;omega)
 have e2:(splice Z i [X]).take (i+1)=xs.take i++[X]:=by
  unfold splice
  rw [hZi, ←List.append_assoc,List.take_append_of_le_length (by simp;omega),List.take_of_length_le (by simp;omega)]
 obtain⟨Y,hY⟩:∃ Y,Y=splice Z i [X]:=⟨_,rfl⟩
 rw [←hY] at e2 hl1 ⊢
 refine⟨?_,by rw [length_splice _ _ _ (by rw [List.length_drop];omega)];exact hl1⟩
 unfold splice
 rw [e2, ←List.append_assoc,List.take_append_of_le_length (by simp;omega),List.take_of_length_le (by simp;omega)]
 simp [insL]
theorem grown_setRow (w:World) (b:Nat) (cs:Array Value):w.grownBy (w.setRow b cs) (some b):=
 ⟨rfl,rfl,rfl,by simp [World.setRow],fun k _ hk=>setRow_other w b k cs (fun e=>hk (by rw [e]))⟩
theorem grown_refl (w:World) (row:Option Nat):w.grownBy w row:=⟨rfl,rfl,rfl,Nat.le_refl _,fun _ _ _=>rfl⟩
theorem grown_trans {a b c:World} {row:Option Nat} (h:a.grownBy b row) (k:b.grownBy c row):a.grownBy c row:=
 ⟨k.os.trans h.os,k.tape.trans h.tape,k.output.trans h.output,Nat.le_trans h.size k.size,fun i hi hne=>(k.block i (Nat.lt_of_lt_of_le hi h.size) hne).trans (h.block i hi hne)⟩
theorem below_grown {w w':World} (h:Below w.heap.size w w') (row:Option Nat):w.grownBy w' row:=
 ⟨h.os,h.tape,h.output,h.size,fun k hk _=>h.block k hk⟩
theorem grown_below {w w':World} {b B:Nat} (hg:w.grownBy w' (some b)) (hB:B≤w.heap.size) (hb:B≤b):Below B w w':=
 ⟨hg.os,hg.tape,hg.output,hg.size,fun k hk=>hg.block k (by omega) (by simp;omega)⟩
theorem run_splice (W:World) (ty T e:TypeId) (hu:Tryz.prog.underlying T=some (.slice e)) (hsz:(Tryz.prog.info? e).map (·.size)=some 1) (g off dLen dCap:Nat) (ad:Addr) (sLen sCap:Nat) (cur:List Value) (hg:W.heap[g]?=some (.cells cur.toArray e (0,0)))
  (cs:List Value) (hn:cs.length=Nat.min sLen dLen) (hsrc:∀ j v,cs[j]?=some v→W.cell? (ad.add j)=some v) (hfit:off+cs.length≤cur.length) (h1:∀ v∈cs,v.oneCell'=true):
  ∃ W1,(Builtin.copy_ #[T,T] ty #[.slice (some ⟨g,off,none⟩) dLen dCap,.slice (some ad) sLen sCap]).run Tryz.prog W=.ok (goInt cs.length) W1∧W1.heap[g]?=some (.cells (splice cur off cs).toArray e (0,0))∧W.grownBy W1 (some g):=by
 refine⟨_,run_copy_row (P:=Tryz.prog) W T T ty e g off dLen dCap ad sLen sCap cur.toArray e cs hu hsz hg hn hsrc (by simpa using hfit) h1,?_,grown_setRow _ _ _⟩
 simpa [splice] using setRow_heap W g _ _ e _ hg
theorem cell_one {w:World} {vb:Nat} {X:Value} {t:TypeId} (h:w.heap[vb]?=some (.cells #[X] t)) (j:Nat) (u:Value) (hu:([X]:List Value)[j]?=some u):w.cell? ((⟨vb,0,none⟩:Addr).add j)=some u:=by
 have hj:j=0:=by
  have:=(List.getElem?_eq_some_iff.1 hu).1
  simpa using this
 subst hj
 simp only [List.getElem?_cons_zero,Option.some.injEq] at hu
 subst hu
 rw [add_at]
 exact cell_of_row _ _ 0 _ t _ h
theorem hszL:(Tryz.prog.info? 35).map (·.size)=some 1:=by kernel_rfl
set_option maxHeartbeats 1000000 in
set_option maxRecDepth 100000 in
theorem ins_endL (base g n cap vb:Nat) (xs:List Value) (X:Value) (w:World) (hown:w.ownsRow base 35 1 (.slice (some ⟨g,0,none⟩) n cap) n xs) (hn:n≤1048576) (hv:w.heap[vb]?=some (.cells #[X] 35)) (hX:X.oneCell'=true) (hbase:base≤w.heap.size):
  Calls Tryz.prog 87 #[.slice (some ⟨g,0,none⟩) n cap,.int .i64 n,.slice (some ⟨vb,0,none⟩) 1 1] w fun en w'=>∃ v',en=.returned v'∧w'.ownsRow base 35 1 v' (n+1) (xs++[X])∧w.grownBy w' (some g):=by
 obtain⟨i0,hi,hz0,hz1,hz2⟩:=info_parts infoL
 have HS:Hid (∀ j u,[X][j]?=some u→w.cell? ((⟨vb,0,none⟩:Addr).add j)=some u):=cell_one hv
 have HO:Hid (w.ownsRow base 35 1 (.slice (some ⟨g,0,none⟩) n cap) n xs):=hown
 have hnc:n≤cap:=own_cap hown
 clear hown hv
 go_enter Tryz.func87,Tryz.ntmps87
 go_wp2_with (at_builtin;refine wpList_append_own _ rfl _ _ 53 rfl base 35 i0 (.slice none 0 0) 1 24 Tryz.underlying53 hi hz0 hz1 hz2 rfl (by decide) _ n xs rfl HO.out ⟨vb,0,none⟩ 1 1 [X] rfl rfl HS.out (by intro u hu;simp at hu;subst hu;exact hX) (by unfold maxLen;omega) (by omega) hbase ?_)
 all_goals
  intro v' w1 hown1 hg1 _
  have HE:Hid (w1.ownsRow base 35 1 v' (n+1) (xs++[X])∧w.grownBy w1 (some g)):=⟨hown1,hg1⟩
  clear hown1 hg1
  go_wp2
  go_ret
  exact⟨v',rfl,HE.out⟩
set_option maxHeartbeats 2000000 in
set_option maxRecDepth 100000 in
theorem ins_growL (base g n cap i vb:Nat) (xs:List Value) (X:Value) (w:World) (hown:w.ownsRow base 35 1 (.slice (some ⟨g,0,none⟩) n cap) n xs) (hn:n≤1048576) (hin:i < n) (hfull:cap < n+1) (hv:w.heap[vb]?=some (.cells #[X] 35)) (hX:X.oneCell'=true) (h1:∀ v∈xs,v.oneCell'=true) (hbase:base≤w.heap.size):
  Calls Tryz.prog 87 #[.slice (some ⟨g,0,none⟩) n cap,.int .i64 i,.slice (some ⟨vb,0,none⟩) 1 1] w fun en w'=>∃ v',en=.returned v'∧w'.ownsRow base 35 1 v' (n+1) (insL xs i X)∧w.grownBy w' (some g):=by
 obtain⟨i0,hi,hz0,hz1,hz2⟩:=info_parts infoL
 have hxl:xs.length=n:=by have:=hown.1;omega
 have hnc:n≤cap:=own_cap hown
 have hsrc:∀ j u,xs[j]?=some u→w.cell? ⟨g,j,none⟩=some u:=own_cell hown
 have hgw:g < w.heap.size:=(own_lt hown).2
 have hvw:vb < w.heap.size:=at_lt hv
 obtain⟨G,hG⟩:∃ G,G=grownCap w (n+1) cap 35:=⟨_,rfl⟩
 have hGn:n+1≤G:=by rw [hG];exact grownCap_ge w _ _ _
 have hGm:G≤maxLen:=by rw [hG];exact grownCap_le_maxLen w _ _ _ (by unfold maxLen;omega)
 have hG63:G≤9223372036854775807:=by unfold maxLen at hGm;omega
 have hold:(Builtin.firstCells i0.size i (.slice (some ⟨g,0,none⟩) i cap)).run Tryz.prog w.drew=.ok (xs.take i).toArray w.drew:=by
  rw [hz1]
  exact run_firstCells_some w.drew 1 i ⟨g,0,none⟩ i cap (xs.take i) (by rw [List.length_take];omega) (fun j v hj=>by
   rw [add_at,Nat.zero_add]
   rw [List.getElem?_take] at hj
   split at hj
   ·exact hsrc j v hj
   ·cases hj)
 have hik:i+(n+1 - i)=n+1:=by omega
 have hkk:(n:Int)+1 - (i:Int)=((n+1 - i:Nat):Int):=by omega
 obtain⟨Z,hZ⟩:∃ Z:List Value,Z=xs.take i++(Builtin.zeroCells (Value.slice none 0 0).cells (n+1 - i)).toList++(Builtin.zeroCells (Value.slice none 0 0).cells (G - (n+1))).toList:=⟨_,rfl⟩
 have hZl:Z.length=G:=by
  rw [hZ]
  simp [Builtin.zeroCells,Value.cells,hxl]
  omega
 have HRZ:Hid (∀ ty,(Builtin.append_ #[53,3] ty #[.slice (some ⟨g,0,none⟩) i cap,.int .i64 ((n:Int)+1 - (i:Int))]).run Tryz.prog w=.ok (.slice (some ⟨w.heap.size,0,none⟩) (n+1) G) (w.drew.alloc (.cells Z.toArray 35))):=fun ty=>by
  have h:=Lib.run_append_grow_zeros w 53 3 ty 35 i0 _ .i64 .i64 Tryz.underlying53 Tryz.underlying3 hi hz0 (some ⟨g,0,none⟩) i cap (xs.take i) hold (n+1 - i) (by omega) (by omega) (by omega) (by omega) (by rw [hz2];omega) (by rw [hz2,hik];exact growslice_fits hfull (by omega))
  rw [hik, ←hG] at h
  have e:Z.toArray=(xs.take i).toArray++Builtin.zeroCells (Value.slice none 0 0).cells (n+1 - i)++Builtin.zeroCells (Value.slice none 0 0).cells (G - (n+1)):=by
   rw [hZ]
   apply Array.ext'
   simp
  rw [hkk,h,e]
 have HV:Hid (∀ W:World,(∀ k,k < w.heap.size→W.heap[k]?=w.heap[k]?)→∀ j u,[X][j]?=some u→W.cell? ((⟨vb,0,none⟩:Addr).add j)=some u):=fun W hW=>cell_one (by rw [hW vb hvw];exact hv)
 have HD:Hid (∀ W:World,(∀ k,k < w.heap.size→W.heap[k]?=w.heap[k]?)→∀ j u,(xs.drop i)[j]?=some u→W.cell? ((⟨g,i,none⟩:Addr).add j)=some u):=fun W hW j u hj=>by
  rw [add_at]
  have h2:=hsrc (i+j) u (by rwa [List.getElem?_drop] at hj)
  simp only [World.cell?] at h2 ⊢
  rw [hW g hgw]
  exact h2
 obtain⟨D,hD⟩:∃ D,D=xs.drop i:=⟨_,rfl⟩
 have hDl:D.length=n - i:=by rw [hD,List.length_drop,hxl]
 have HD1:Hid (∀ v∈D,v.oneCell'=true):=fun v hv=>h1 v (List.mem_of_mem_drop (hD ▸ hv))
 rw [←hD] at HD
 have HFIN:Hid (∀ W:World,W.heap[w.heap.size]?=some (.cells (splice (splice Z i [X]) (i+1) D).toArray 35 (0,0))→W.ownsRow base 35 1 (.slice (some ⟨w.heap.size,0,none⟩) (n+1) G) (n+1) (insL xs i X)):=fun W hW=>by
  have hZi:Z.take i=xs.take i:=by
   rw [hZ,List.append_assoc,List.take_append_of_le_length (by rw [List.length_take];omega),List.take_of_length_le (by rw [List.length_take];omega)]
  obtain⟨e1,e2⟩:=splice_ins Z xs i X (by omega) hZi (by omega)
  rw [hD] at hW
  exact⟨by simp [insL];omega,.inr ⟨w.heap.size,G,_,rfl,hbase,hW,hGn,hGm,by simp [e2,hZl],by simp only [Nat.mul_one];rw [hxl] at e1;exact e1⟩⟩
 have hin0:i≤n:=by omega
 have hz2':¬ ((i:Int)=(n:Int)):=by omega
 have hc1:(cap:Int) < (n:Int)+1:=by omega
 have hci:¬ cap=i:=by omega
 have hGi:¬ G=i:=by omega
 have hGi1:¬ G=i+1:=by omega
 have hi63:(i:Int)≤(cap:Int):=by omega
 have hw1:IntKind.i64.wrap ((i:Int)+1)=(i:Int)+1:=by rw [IntKind.wrap_i64];omega
 have hb1:(0:Int)≤(i:Int)+1:=by omega
 have htn:((i:Int)+1).toNat=i+1:=by omega
 have hb3:(i:Int)≤(n:Int):=by omega
 clear hown hv hold hik hkk hG hZ hD hz0 hz2 hi hsrc
 obtain⟨W0,hW0⟩:∃ W0,W0=(w.alloc (.cells Z.toArray 35)).drew:=⟨_,rfl⟩
 have hb0:Below w.heap.size w W0:=by rw [hW0];exact(below1 _ _).drew
 have hr0:W0.heap[w.heap.size]?=some (.cells Z.toArray 35 (0,0)):=by rw [hW0];exact at_new w _
 obtain⟨W1,r1,g1,q1⟩:=run_splice W0 3 53 35 Tryz.underlying53 hszL w.heap.size i (n+1 - i) (G - i) ⟨vb,0,none⟩ 1 1 Z hr0 [X] (by simp only [List.length_cons,List.length_nil,Nat.min_def];split <;>omega) (HV.out W0 hb0.block) (by simp;omega) (by intro u hu;simp at hu;subst hu;exact hX)
 have hb1:Below w.heap.size w W1:=hb0.trans (grown_below q1 hb0.size (Nat.le_refl _))
 have hsl:(splice Z i [X]).length=G:=by rw [length_splice _ _ _ (by simp;omega)];exact hZl
 obtain⟨W2,r2,g2,q2⟩:=run_splice W1.drew 3 53 35 Tryz.underlying53 hszL w.heap.size (i+1) (n - i) (G - (i+1)) ⟨g,i,none⟩ (n - i) (cap - i) _ g1 D (by rw [hDl];simp only [Nat.min_def];split <;>omega) (HD.out W1.drew hb1.block) (by rw [hsl];omega) HD1.out
 have hb2:Below w.heap.size w W2:=hb1.drew.trans (grown_below q2 (by have:=hb1.size;exact this) (Nat.le_refl _))
 have HE:Hid (W2.ownsRow base 35 1 (.slice (some ⟨w.heap.size,0,none⟩) (n+1) G) (n+1) (insL xs i X)∧w.grownBy W2 (some g)):=⟨HFIN.out W2 g2,below_grown hb2 _⟩
 rw [hW0] at r1
 simp only [List.length_cons,List.length_nil,Nat.zero_add] at r1
 clear hW0 hb0 hr0 g1 q1 hb1 hsl g2 q2 hb2 HFIN HV HD HD1
 go_enter Tryz.func87,Tryz.ntmps87
 go_wp2_with (at_builtin;refine Lib.wpList_append_run _ rfl _ _ _ _ rfl _ _ rfl rfl _ _ (HRZ.out _) ?_)
 go_region
 all_goals
  go_wp2
  go_ret
  exact⟨_,rfl,HE.out⟩
theorem hszI:(Tryz.prog.info? 3).map (·.size)=some 1:=by kernel_rfl
set_option maxHeartbeats 1000000 in
set_option maxRecDepth 100000 in
theorem ins_endI (base g n cap vb:Nat) (xs:List Value) (X:Value) (w:World) (hown:w.ownsRow base 3 1 (.slice (some ⟨g,0,none⟩) n cap) n xs) (hn:n≤1048576) (hv:w.heap[vb]?=some (.cells #[X] 3)) (hX:X.oneCell'=true) (hbase:base≤w.heap.size):
  Calls Tryz.prog 88 #[.slice (some ⟨g,0,none⟩) n cap,.int .i64 n,.slice (some ⟨vb,0,none⟩) 1 1] w fun en w'=>∃ v',en=.returned v'∧w'.ownsRow base 3 1 v' (n+1) (xs++[X])∧w.grownBy w' (some g):=by
 obtain⟨i0,hi,hz0,hz1,hz2⟩:=info_parts info3
 have HS:Hid (∀ j u,[X][j]?=some u→w.cell? ((⟨vb,0,none⟩:Addr).add j)=some u):=cell_one hv
 have HO:Hid (w.ownsRow base 3 1 (.slice (some ⟨g,0,none⟩) n cap) n xs):=hown
 have hnc:n≤cap:=own_cap hown
 clear hown hv
 go_enter Tryz.func88,Tryz.ntmps88
 go_wp2_with (at_builtin;refine wpList_append_own _ rfl _ _ 35 rfl base 3 i0 (.int .i64 0) 1 8 Tryz.underlying35 hi hz0 hz1 hz2 rfl (by decide) _ n xs rfl HO.out ⟨vb,0,none⟩ 1 1 [X] rfl rfl HS.out (by intro u hu;simp at hu;subst hu;exact hX) (by unfold maxLen;omega) (by omega) hbase ?_)
 all_goals
  intro v' w1 hown1 hg1 _
  have HE:Hid (w1.ownsRow base 3 1 v' (n+1) (xs++[X])∧w.grownBy w1 (some g)):=⟨hown1,hg1⟩
  clear hown1 hg1
  go_wp2
  go_ret
  exact⟨v',rfl,HE.out⟩
set_option maxHeartbeats 2000000 in
set_option maxRecDepth 100000 in
theorem ins_growI (base g n cap i vb:Nat) (xs:List Value) (X:Value) (w:World) (hown:w.ownsRow base 3 1 (.slice (some ⟨g,0,none⟩) n cap) n xs) (hn:n≤1048576) (hin:i < n) (hfull:cap < n+1) (hv:w.heap[vb]?=some (.cells #[X] 3)) (hX:X.oneCell'=true) (h1:∀ v∈xs,v.oneCell'=true) (hbase:base≤w.heap.size):
  Calls Tryz.prog 88 #[.slice (some ⟨g,0,none⟩) n cap,.int .i64 i,.slice (some ⟨vb,0,none⟩) 1 1] w fun en w'=>∃ v',en=.returned v'∧w'.ownsRow base 3 1 v' (n+1) (insL xs i X)∧w.grownBy w' (some g):=by
 obtain⟨i0,hi,hz0,hz1,hz2⟩:=info_parts info3
 have hxl:xs.length=n:=by have:=hown.1;omega
 have hnc:n≤cap:=own_cap hown
 have hsrc:∀ j u,xs[j]?=some u→w.cell? ⟨g,j,none⟩=some u:=own_cell hown
 have hgw:g < w.heap.size:=(own_lt hown).2
 have hvw:vb < w.heap.size:=at_lt hv
 obtain⟨G,hG⟩:∃ G,G=grownCap w (n+1) cap 3:=⟨_,rfl⟩
 have hGn:n+1≤G:=by rw [hG];exact grownCap_ge w _ _ _
 have hGm:G≤maxLen:=by rw [hG];exact grownCap_le_maxLen w _ _ _ (by unfold maxLen;omega)
 have hG63:G≤9223372036854775807:=by unfold maxLen at hGm;omega
 have hold:(Builtin.firstCells i0.size i (.slice (some ⟨g,0,none⟩) i cap)).run Tryz.prog w.drew=.ok (xs.take i).toArray w.drew:=by
  rw [hz1]
  exact run_firstCells_some w.drew 1 i ⟨g,0,none⟩ i cap (xs.take i) (by rw [List.length_take];omega) (fun j v hj=>by
   rw [add_at,Nat.zero_add]
   rw [List.getElem?_take] at hj
   split at hj
   ·exact hsrc j v hj
   ·cases hj)
 have hik:i+(n+1 - i)=n+1:=by omega
 have hkk:(n:Int)+1 - (i:Int)=((n+1 - i:Nat):Int):=by omega
 obtain⟨Z,hZ⟩:∃ Z:List Value,Z=xs.take i++(Builtin.zeroCells (Value.int .i64 0).cells (n+1 - i)).toList++(Builtin.zeroCells (Value.int .i64 0).cells (G - (n+1))).toList:=⟨_,rfl⟩
 have hZl:Z.length=G:=by
  rw [hZ]
  simp [Builtin.zeroCells,Value.cells,hxl]
  omega
 have HRZ:Hid (∀ ty,(Builtin.append_ #[35,3] ty #[.slice (some ⟨g,0,none⟩) i cap,.int .i64 ((n:Int)+1 - (i:Int))]).run Tryz.prog w=.ok (.slice (some ⟨w.heap.size,0,none⟩) (n+1) G) (w.drew.alloc (.cells Z.toArray 3))):=fun ty=>by
  have h:=Lib.run_append_grow_zeros w 35 3 ty 3 i0 _ .i64 .i64 Tryz.underlying35 Tryz.underlying3 hi hz0 (some ⟨g,0,none⟩) i cap (xs.take i) hold (n+1 - i) (by omega) (by omega) (by omega) (by omega) (by rw [hz2];omega) (by rw [hz2,hik];exact growslice_fits hfull (by omega))
  rw [hik, ←hG] at h
  have e:Z.toArray=(xs.take i).toArray++Builtin.zeroCells (Value.int .i64 0).cells (n+1 - i)++Builtin.zeroCells (Value.int .i64 0).cells (G - (n+1)):=by
   rw [hZ]
   apply Array.ext'
   simp
  rw [hkk,h,e]
 have HV:Hid (∀ W:World,(∀ k,k < w.heap.size→W.heap[k]?=w.heap[k]?)→∀ j u,[X][j]?=some u→W.cell? ((⟨vb,0,none⟩:Addr).add j)=some u):=fun W hW=>cell_one (by rw [hW vb hvw];exact hv)
 have HD:Hid (∀ W:World,(∀ k,k < w.heap.size→W.heap[k]?=w.heap[k]?)→∀ j u,(xs.drop i)[j]?=some u→W.cell? ((⟨g,i,none⟩:Addr).add j)=some u):=fun W hW j u hj=>by
  rw [add_at]
  have h2:=hsrc (i+j) u (by rwa [List.getElem?_drop] at hj)
  simp only [World.cell?] at h2 ⊢
  rw [hW g hgw]
  exact h2
 obtain⟨D,hD⟩:∃ D,D=xs.drop i:=⟨_,rfl⟩
 have hDl:D.length=n - i:=by rw [hD,List.length_drop,hxl]
 have HD1:Hid (∀ v∈D,v.oneCell'=true):=fun v hv=>h1 v (List.mem_of_mem_drop (hD ▸ hv))
 rw [←hD] at HD
 have HFIN:Hid (∀ W:World,W.heap[w.heap.size]?=some (.cells (splice (splice Z i [X]) (i+1) D).toArray 3 (0,0))→W.ownsRow base 3 1 (.slice (some ⟨w.heap.size,0,none⟩) (n+1) G) (n+1) (insL xs i X)):=fun W hW=>by
  have hZi:Z.take i=xs.take i:=by
   rw [hZ,List.append_assoc,List.take_append_of_le_length (by rw [List.length_take];omega),List.take_of_length_le (by rw [List.length_take];omega)]
  obtain⟨e1,e2⟩:=splice_ins Z xs i X (by omega) hZi (by omega)
  rw [hD] at hW
  exact⟨by simp [insL];omega,.inr ⟨w.heap.size,G,_,rfl,hbase,hW,hGn,hGm,by simp [e2,hZl],by simp only [Nat.mul_one];rw [hxl] at e1;exact e1⟩⟩
 have hin0:i≤n:=by omega
 have hz2':¬ ((i:Int)=(n:Int)):=by omega
 have hc1:(cap:Int) < (n:Int)+1:=by omega
 have hci:¬ cap=i:=by omega
 have hGi:¬ G=i:=by omega
 have hGi1:¬ G=i+1:=by omega
 have hi63:(i:Int)≤(cap:Int):=by omega
 have hw1:IntKind.i64.wrap ((i:Int)+1)=(i:Int)+1:=by rw [IntKind.wrap_i64];omega
 have hb1:(0:Int)≤(i:Int)+1:=by omega
 have htn:((i:Int)+1).toNat=i+1:=by omega
 have hb3:(i:Int)≤(n:Int):=by omega
 clear hown hv hold hik hkk hG hZ hD hz0 hz2 hi hsrc
 obtain⟨W0,hW0⟩:∃ W0,W0=(w.alloc (.cells Z.toArray 3)).drew:=⟨_,rfl⟩
 have hb0:Below w.heap.size w W0:=by rw [hW0];exact(below1 _ _).drew
 have hr0:W0.heap[w.heap.size]?=some (.cells Z.toArray 3 (0,0)):=by rw [hW0];exact at_new w _
 obtain⟨W1,r1,g1,q1⟩:=run_splice W0 3 35 3 Tryz.underlying35 hszI w.heap.size i (n+1 - i) (G - i) ⟨vb,0,none⟩ 1 1 Z hr0 [X] (by simp only [List.length_cons,List.length_nil,Nat.min_def];split <;>omega) (HV.out W0 hb0.block) (by simp;omega) (by intro u hu;simp at hu;subst hu;exact hX)
 have hb1:Below w.heap.size w W1:=hb0.trans (grown_below q1 hb0.size (Nat.le_refl _))
 have hsl:(splice Z i [X]).length=G:=by rw [length_splice _ _ _ (by simp;omega)];exact hZl
 obtain⟨W2,r2,g2,q2⟩:=run_splice W1.drew 3 35 3 Tryz.underlying35 hszI w.heap.size (i+1) (n - i) (G - (i+1)) ⟨g,i,none⟩ (n - i) (cap - i) _ g1 D (by rw [hDl];simp only [Nat.min_def];split <;>omega) (HD.out W1.drew hb1.block) (by rw [hsl];omega) HD1.out
 have hb2:Below w.heap.size w W2:=hb1.drew.trans (grown_below q2 (by have:=hb1.size;exact this) (Nat.le_refl _))
 have HE:Hid (W2.ownsRow base 3 1 (.slice (some ⟨w.heap.size,0,none⟩) (n+1) G) (n+1) (insL xs i X)∧w.grownBy W2 (some g)):=⟨HFIN.out W2 g2,below_grown hb2 _⟩
 rw [hW0] at r1
 simp only [List.length_cons,List.length_nil,Nat.zero_add] at r1
 clear hW0 hb0 hr0 g1 q1 hb1 hsl g2 q2 hb2 HFIN HV HD HD1
 go_enter Tryz.func88,Tryz.ntmps88
 go_wp2_with (at_builtin;refine Lib.wpList_append_run _ rfl _ _ _ _ rfl _ _ rfl rfl _ _ (HRZ.out _) ?_)
 go_region
 all_goals
  go_wp2
  go_ret
  exact⟨_,rfl,HE.out⟩
end Go.Proofs.YtjikokfjnbhngaaGreatDoor.Tl

/- What 'slices.Insert' makes of a column of one's own that has room; all its ways. -/
namespace Go.Proofs.YtjikokfjnbhngaaGreatDoor.Tl
open Go.RowKit
theorem splice_ins2 {α:Type} (Z xs:List α) (i:Nat) (X:α) (hi:i≤xs.length) (hZ:Z.take xs.length=xs) (hZl:xs.length+1≤Z.length):
  (splice (splice Z (i+1) (xs.drop i)) i [X]).take (xs.length+1)=insL xs i X∧(splice (splice Z (i+1) (xs.drop i)) i [X]).length=Z.length:=by
 have hl1:(splice Z (i+1) (xs.drop i)).length=Z.length:=length_splice _ _ _ (by simp;omega)
 have e1:(splice Z (i+1) (xs.drop i)).take i=xs.take i:=by
  unfold splice
  rw [List.take_append_of_le_length (by simp;omega),List.take_take, ←hZ,List.take_take]
  congr 1
  omega
 have e2:(splice Z (i+1) (xs.drop i)).drop (i+1)=xs.drop i++Z.drop (i+1+(xs.drop i).length):=by
  unfold splice
  rw [List.drop_append_of_le_length (by simp;omega),List.drop_eq_nil_of_le (by simp;omega)]
  simp
 obtain⟨Y,hY⟩:∃ Y,Y=splice Z (i+1) (xs.drop i):=⟨_,rfl⟩
 rw [←hY] at e1 e2 hl1 ⊢
 refine⟨?_,by rw [length_splice _ _ _ (by simp;omega)];exact hl1⟩
 unfold splice
 rw [e1]
 simp only [List.length_cons,List.length_nil,Nat.zero_add]
 rw [e2]
 have e3:xs.take i++([X]++(xs.drop i++Z.drop (i+1+(xs.drop i).length)))=insL xs i X++Z.drop (i+1+(xs.drop i).length):=by simp [insL]
 rw [e3,List.take_append_of_le_length (by simp [insL];omega),List.take_of_length_le (by simp [insL];omega)]
theorem own_row {w:World} {base g n:Nat} {e:TypeId} {c:Nat} {xs:List Value} (h:w.ownsRow base e 1 (.slice (some ⟨g,0,none⟩) n c) n xs):∃ cur:List Value,w.heap[g]?=some (.cells cur.toArray e (0,0))∧cur.length=c∧cur.take n=xs∧base≤g∧c≤maxLen:=by
 rcases h.2 with ⟨hv,_⟩ | ⟨g',cap,cur,hv,hb,hg,hc,hm,hs,ht⟩
 ·cases hv
 ·simp only [Value.slice.injEq,Option.some.injEq,Addr.mk.injEq,and_true,true_and] at hv
  obtain⟨rfl,rfl⟩:=hv
  exact⟨cur.toList,by simpa using hg,by simp [hs],by simpa using ht,hb,hm⟩
set_option maxHeartbeats 2000000 in
set_option maxRecDepth 100000 in
theorem ins_shiftI (base g n cap i vb:Nat) (xs:List Value) (X:Value) (w:World) (hown:w.ownsRow base 3 1 (.slice (some ⟨g,0,none⟩) n cap) n xs) (hn:n≤1048576) (hin:i < n) (hroom:n+1≤cap) (hv:w.heap[vb]?=some (.cells #[X] 3)) (hvg:vb≠g) (hX:X.oneCell'=true) (h1:∀ v∈xs,v.oneCell'=true):
  Calls Tryz.prog 88 #[.slice (some ⟨g,0,none⟩) n cap,.int .i64 i,.slice (some ⟨vb,0,none⟩) 1 1] w fun en w'=>∃ v',en=.returned v'∧w'.ownsRow base 3 1 v' (n+1) (insL xs i X)∧w.grownBy w' (some g):=by
 have hxl:xs.length=n:=by have:=hown.1;omega
 have hsrc:∀ j u,xs[j]?=some u→w.cell? ⟨g,j,none⟩=some u:=own_cell hown
 obtain⟨cur,hg,hcl,hct,hbg,hcm⟩:=own_row hown
 have hc63:cap≤9223372036854775807:=by unfold maxLen at hcm;omega
 have hov:∀ lb cb,(callFunc 109 #[.slice (some ⟨vb,0,none⟩) 1 1,.slice (some ⟨g,i+1,none⟩) lb cb]).run Tryz.prog w=.ok (.value (.bool false)) w:=fun lb cb=>by
  obtain⟨i0,hi,hz0,hz1,hz2⟩:=info_parts info3
  rw [run_callFunc_extern Tryz.func109 (by kernel_rfl) (by kernel_rfl) (by kernel_rfl) (e:=Extern.SlicesOverlaps.overlaps #[35,35] #[4]) (by kernel_rfl),
   Lib.run_overlaps_apart w 35 4 3 Tryz.underlying35 1 (fun w=>by simp [Go.sizeOf,typeInfo,hi,hz1]) ⟨vb,0,none⟩ ⟨g,i+1,none⟩ 1 1 lb cb hvg 3 3 1 cur.length (by simp [World.shape?,hv]) (by simp [World.shape?,hg]) (by omega) (frozen_of_row w vb 0 _ _ hv) (frozen_of_row w vb 1 _ _ hv)]
  rfl
 obtain⟨D,hD⟩:∃ D,D=xs.drop i:=⟨_,rfl⟩
 have hDl:D.length=n - i:=by rw [hD,List.length_drop,hxl]
 have hsrcD:∀ j u,D[j]?=some u→w.drew.cell? ((⟨g,i,none⟩:Addr).add j)=some u:=fun j u hj=>by
  rw [add_at]
  rw [hD,List.getElem?_drop] at hj
  exact hsrc (i+j) u hj
 obtain⟨W1,r1,g1,q1⟩:=run_splice w.drew 3 35 3 Tryz.underlying35 hszI g (i+1) (n - i) (cap - (i+1)) ⟨g,i,none⟩ (n+1 - i) (cap - i) cur hg D (by rw [hDl];simp only [Nat.min_def];split <;>omega) hsrcD (by rw [hDl];omega) (fun v hv=>h1 v (List.mem_of_mem_drop (hD ▸ hv)))
 have hv1:W1.heap[vb]?=some (.cells #[X] 3):=by rw [q1.block vb (at_lt hv) (by simpa using hvg)];exact hv
 have hsl:(splice cur (i+1) D).length=cap:=by rw [length_splice _ _ _ (by rw [hDl];omega)];exact hcl
 obtain⟨W2,r2,g2,q2⟩:=run_splice W1 3 35 3 Tryz.underlying35 hszI g i (n+1 - i) (cap - i) ⟨vb,0,none⟩ 1 1 _ g1 [X] (by simp only [List.length_cons,List.length_nil,Nat.min_def];split <;>omega) (cell_one hv1) (by rw [hsl];simp;omega) (by intro u hu;simp at hu;subst hu;exact hX)
 have HE:Hid (W2.ownsRow base 3 1 (.slice (some ⟨g,0,none⟩) (n+1) cap) (n+1) (insL xs i X)∧w.grownBy W2 (some g)):=by
  obtain⟨e1,e2⟩:=splice_ins2 cur xs i X (by omega) (by rw [hxl];exact hct) (by omega)
  rw [hD] at g2
  refine⟨⟨by simp [insL];omega,.inr ⟨g,cap,_,rfl,hbg,g2,hroom,hcm,by simp [e2,hcl],by simp only [Nat.mul_one];rw [hxl] at e1;exact e1⟩⟩,?_⟩
  have q1':w.grownBy W1 (some g):=⟨q1.os,q1.tape,q1.output,q1.size,q1.block⟩
  exact grown_trans q1' q2
 simp only [List.length_cons,List.length_nil,Nat.zero_add] at r2
 have hin0:i≤n:=by omega
 have hz2':¬ ((i:Int)=(n:Int)):=by omega
 have hc1:(n:Int)+1≤(cap:Int):=by omega
 have hci:¬ cap=i:=by omega
 have hci1:¬ cap=i+1:=by omega
 have hw1:IntKind.i64.wrap ((i:Int)+1)=(i:Int)+1:=by rw [IntKind.wrap_i64];omega
 have hb1:(0:Int)≤(i:Int)+1:=by omega
 have htn:((i:Int)+1).toNat=i+1:=by omega
 have hb3:(i:Int)≤(n:Int)+1:=by omega
 have hb4:(i:Int)≤(n:Int):=by omega
 clear hown hv hg hcl hct hbg hcm hsrc hsrcD g1 q1 hv1 hsl g2 q2 hD
 go_enter Tryz.func88,Tryz.ntmps88
 go_wp2_with (simp only [hov])
 go_region
 all_goals
  go_wp2
  go_ret
  exact⟨_,rfl,HE.out⟩
theorem ins_anyI (base g n cap i vb:Nat) (xs:List Value) (X:Value) (w:World) (hown:w.ownsRow base 3 1 (.slice (some ⟨g,0,none⟩) n cap) n xs) (hn:n≤1048576) (hin:i≤n) (hv:w.heap[vb]?=some (.cells #[X] 3)) (hvg:vb≠g) (hX:X.oneCell'=true) (h1:∀ v∈xs,v.oneCell'=true) (hbase:base≤w.heap.size):
  Calls Tryz.prog 88 #[.slice (some ⟨g,0,none⟩) n cap,.int .i64 i,.slice (some ⟨vb,0,none⟩) 1 1] w fun en w'=>∃ v',en=.returned v'∧w'.ownsRow base 3 1 v' (n+1) (insL xs i X)∧w.grownBy w' (some g):=by
 by_cases h:i=n
 ·subst h
  have hxl:xs.length=i:=by have:=hown.1;omega
  have e:insL xs i X=xs++[X]:=by rw [←hxl];simp [insL]
  rw [e]
  exact ins_endI base g i cap vb xs X w hown hn hv hX hbase
 ·by_cases h2:cap < n+1
  ·exact ins_growI base g n cap i vb xs X w hown hn (by omega) h2 hv hX h1 hbase
  ·exact ins_shiftI base g n cap i vb xs X w hown hn (by omega) (by omega) hv hvg hX h1
theorem ins_anyL (base g n i vb:Nat) (xs:List Value) (X:Value) (w:World) (hown:w.ownsRow base 35 1 (.slice (some ⟨g,0,none⟩) n n) n xs) (hn:n≤1048576) (hin:i≤n) (hv:w.heap[vb]?=some (.cells #[X] 35)) (hX:X.oneCell'=true) (h1:∀ v∈xs,v.oneCell'=true) (hbase:base≤w.heap.size):
  Calls Tryz.prog 87 #[.slice (some ⟨g,0,none⟩) n n,.int .i64 i,.slice (some ⟨vb,0,none⟩) 1 1] w fun en w'=>∃ v',en=.returned v'∧w'.ownsRow base 35 1 v' (n+1) (insL xs i X)∧w.grownBy w' (some g):=by
 by_cases h:i=n
 ·subst h
  have hxl:xs.length=i:=by have:=hown.1;omega
  have e:insL xs i X=xs++[X]:=by rw [←hxl];simp [insL]
  rw [e]
  exact ins_endL base g i i vb xs X w hown hn hv hX hbase
 ·exact ins_growL base g n n i vb xs X w hown hn (by omega) (by omega) hv hX h1 hbase
end Go.Proofs.YtjikokfjnbhngaaGreatDoor.Tl

/- What holds in the midst of 'Split' and 'Kill'. -/
namespace Go.Proofs.YtjikokfjnbhngaaGreatDoor.Tl
open Go.RowKit
theorem insL_map {α β:Type} (f:α→β) (l:List α) (i:Nat) (x:α):insL (l.map f) i (f x)=(insL l i x).map f:=by
 simp [insL]
theorem row_setT {w:World} {base sz n B j:Nat} {e t:TypeId} {v u:Value} {xs:List Value} {c:Array Value} (h:w.ownsRow base e sz v n xs) (hB:w.heap[B]?=some (.cells c t (0,0))) (ht:t≠e):(w.setCell ⟨B,j,none⟩ u).ownsRow base e sz v n xs:=by
 refine⟨h.1,?_⟩
 rcases h.2 with h0 | ⟨g,c',cur,hv,hbb,hg,rest⟩
 ·exact .inl h0
 ·refine .inr ⟨g,c',cur,hv,hbb,?_,rest⟩
  rw [Below.heap_setCell _ _ _ _ (by intro e;simp only at e;subst e;rw [hB] at hg;simp at hg;exact ht hg.2)]
  exact hg
theorem row_grownT {w w':World} {base sz n g:Nat} {e t:TypeId} {v:Value} {xs:List Value} {c:Array Value} (h:w.ownsRow base e sz v n xs) (hG:w.grownBy w' (some g)) (hB:w.heap[g]?=some (.cells c t (0,0))) (ht:t≠e):w'.ownsRow base e sz v n xs:=by
 refine⟨h.1,?_⟩
 rcases h.2 with h0 | ⟨g',c',cur,hv,hbb,hg,rest⟩
 ·exact .inl h0
 ·refine .inr ⟨g',c',cur,hv,hbb,?_,rest⟩
  rw [hG.block g' (at_lt hg) (by intro e;simp only [Option.some.injEq] at e;subst e;rw [hB] at hg;simp at hg;exact ht hg.2)]
  exact hg
theorem row_grownB {w w':World} {base sz n g:Nat} {e:TypeId} {v:Value} {xs:List Value} (h:w.ownsRow base e sz v n xs) (hG:w.grownBy w' (some g)) (hne:v.ownBlock≠some g):w'.ownsRow base e sz v n xs:=by
 refine⟨h.1,?_⟩
 rcases h.2 with h0 | ⟨g',c',cur,rfl,hbb,hg,rest⟩
 ·exact .inl h0
 ·exact .inr ⟨g',c',cur,rfl,hbb,by rw [hG.block g' (at_lt hg) (by simpa [Value.ownBlock] using hne)];exact hg,rest⟩
theorem grown_at {w w':World} {g b:Nat} {e t:TypeId} {c c':Array Value} (hG:w.grownBy w' (some g)) (hg:w.heap[g]?=some (.cells c e (0,0))) (hb:w.heap[b]?=some (.cells c' t (0,0))) (ht:t≠e):w'.heap[b]?=some (.cells c' t (0,0)):=by
 rw [hG.block b (at_lt hb) (by intro x;simp only [Option.some.injEq] at x;subst x;rw [hg] at hb;simp at hb;exact ht hb.2.symm)]
 exact hb
theorem set_at {w:World} {g b j:Nat} {e t:TypeId} {u:Value} {c c':Array Value} (hg:w.heap[g]?=some (.cells c e (0,0))) (hb:w.heap[b]?=some (.cells c' t (0,0))) (ht:t≠e):(w.setCell ⟨g,j,none⟩ u).heap[b]?=some (.cells c' t (0,0)):=by
 rw [Below.heap_setCell _ _ _ _ (by intro x;simp only at x;subst x;rw [hg] at hb;simp at hb;exact ht hb.2.symm)]
 exact hb
theorem rdT_own {w:World} {base:Nat} {co:Option Addr} {n c:Nat} {its:List CIt} (h:w.ownsRow base 35 1 (.slice co n c) n (its.map cv)) (he:∀ x∈its,∃ b,w.ownsRow b 3 1 (cv x) x.1.length (ints x.1)):n=its.length∧RdT w co its:=by
 have hl:n=its.length:=by have:=h.1;simp at this;omega
 refine⟨hl,fun x hx=>by obtain⟨b,hb⟩:=he x hx;exact row_rd hb,?_⟩
 rcases h.2 with ⟨_,h0⟩ | ⟨g,cap,cur,hv,hb,hg,hc,_,hs,ht⟩
 ·left;rw [h0] at hl;exact List.length_eq_zero_iff.1 hl.symm
 ·right
  simp only [Value.slice.injEq] at hv
  refine⟨g,0,hv.1,fun k hk=>?_⟩
  have e1:(its.map cv)[k]?=some (cv its[k]):=by simp [hk]
  rw [←ht,List.getElem?_take_of_lt (by omega)] at e1
  simp only [World.cell?,hg,Nat.zero_add]
  simpa using e1
structure TyT (w:World) (co:Option Addr) (its:List CIt):Prop where
 outer:∀ a,co=some a→∃ c,w.heap[a.block]?=some (.cells c 35 (0,0))
 inner:∀ x∈its,∀ a,x.2.1=some a→∃ c,w.heap[a.block]?=some (.cells c 3 (0,0))
theorem row_ty {w:World} {base n c sz:Nat} {e:TypeId} {ao:Option Addr} {xs:List Value} (h:w.ownsRow base e sz (.slice ao n c) n xs) (a:Addr) (ha:ao=some a):∃ c,w.heap[a.block]?=some (.cells c e (0,0)):=by
 rcases h.2 with ⟨hv,_⟩ | ⟨g,cap,cur,hv,_,hg,_⟩
 ·simp only [Value.slice.injEq] at hv
  rw [hv.1] at ha
  cases ha
 ·simp only [Value.slice.injEq] at hv
  rw [hv.1] at ha
  cases ha
  exact⟨cur,hg⟩
theorem rdT_ownT {w:World} {base:Nat} {co:Option Addr} {n c:Nat} {its:List CIt} (h:w.ownsRow base 35 1 (.slice co n c) n (its.map cv)) (he:∀ x∈its,∃ b,w.ownsRow b 3 1 (cv x) x.1.length (ints x.1)):n=its.length∧(RdT w co its∧TyT w co its):=
 ⟨(rdT_own h he).1,(rdT_own h he).2,fun a ha=>row_ty h a ha,fun x hx a ha=>by obtain⟨b,hb⟩:=he x hx;exact row_ty hb a ha⟩
theorem Cp.rdT {its:List CIt} {g:Nat} {w:World} (h:Cp its g w):RdT w (some ⟨g,0,none⟩) its∧TyT w (some ⟨g,0,none⟩) its:=
 ⟨h.rd,fun a ha=>by cases ha;exact⟨_,h.row⟩,fun x hx a ha=>row_ty (h.own x hx) a ha⟩
def SpEnd (w:World) (r:List (List Int)×Int) (e:Ending) (w':World):Prop:=
 ∃ co' cap' its',e=.returned (.tuple #[tval co' its'.length cap',.int .i64 r.2])∧colsOf its'=r.1∧RdT w' co' its'∧Below w.heap.size w w'
def SpEndT (w:World) (r:List (List Int)×Int) (e:Ending) (w':World):Prop:=
 ∃ co' cap' its',e=.returned (.tuple #[tval co' its'.length cap',.int .i64 r.2])∧colsOf its'=r.1∧(RdT w' co' its'∧TyT w' co' its')∧Below w.heap.size w w'
theorem SpEndT.plain {w:World} {r:List (List Int)×Int} {e:Ending} {w':World} (h:SpEndT w r e w'):SpEnd w r e w':=by
 obtain⟨co',cap',its',h1,h2,h3,h4⟩:=h
 exact⟨co',cap',its',h1,h2,h3.1,h4⟩
structure SInv (w:World) (its:List CIt) (co:Option Addr) (cap g:Nat) (its':List CIt) (T:Nat) (wx:World):Prop where
 cols:colsOf its'=colsOf its
 box:wx.heap[w.heap.size]?=some (tbox co its.length cap)
 res:wx.heap[w.heap.size+1]?=some (tbox none 0 0)
 to2:wx.heap[T]?=some (tbox (some ⟨g,0,none⟩) its.length its.length)
 cp:Cp its' g wx
 rd:RdT wx co its
 far:w.heap.size+2≤g∧w.heap.size+2≤T
 below:Below w.heap.size w wx
theorem SInv.len {w:World} {its:List CIt} {co:Option Addr} {cap g:Nat} {its':List CIt} {T:Nat} {wx:World} (h:SInv w its co cap g its' T wx):its'.length=its.length:=by
 have:=congrArg List.length h.cols
 simpa using this
theorem SInv.next {w:World} {its:List CIt} {co:Option Addr} {cap g:Nat} {its':List CIt} {T:Nat} {wx w2:World} (h:SInv w its co cap g its' T wx) (hb:Below wx.heap.size wx w2):SInv w its co cap g its' T w2:=
 ⟨h.cols,below_block hb h.box (at_lt h.box),below_block hb h.res (at_lt h.res),below_block hb h.to2 (at_lt h.to2),h.cp.below hb,h.rd.below hb,h.far,below_to h.below hb⟩
theorem sinv_start {w w1:World} {its:List CIt} {co:Option Addr} {cap g:Nat} {its':List CIt} (hr:RdT w co its) (hc:colsOf its'=colsOf its) (hg:((w.alloc (tbox co its.length cap)).alloc (tbox none 0 0)).heap.size≤g) (hcp:Cp its' g w1) (hb:Below ((w.alloc (tbox co its.length cap)).alloc (tbox none 0 0)).heap.size ((w.alloc (tbox co its.length cap)).alloc (tbox none 0 0)) w1):
  SInv w its co cap g its' w1.heap.size (w1.alloc (tbox (some ⟨g,0,none⟩) its.length its.length)):=by
 have hl:its'.length=its.length:=by
  have:=congrArg List.length hc
  simpa using this
 have hb2:Below w.heap.size w w1:=below_to (below2 w _ _) hb
 have hs:w.heap.size+2≤w1.heap.size:=by have:=hb.size;simp at this;omega
 refine⟨hc,at_old (below_block hb (at_old (at_new w _) _) (by simp;omega)) _,at_old (below_block hb (at_new1 w _ _) (by simp)) _,at_new _ _,hcp.below (below1 _ _),(hr.below hb2).below (below1 _ _),⟨by simpa using hg,hs⟩,below_to hb2 (below1 _ _)⟩
theorem SInv.same {w:World} {its:List CIt} {co:Option Addr} {cap g:Nat} {its':List CIt} {T:Nat} {wx:World} (h:SInv w its co cap g its' T wx) (q:Int) (r:List (List Int)×Int) (hr:r=(colsOf its,q)):
  SpEndT w r (.returned (.tuple #[tval (some ⟨g,0,none⟩) its.length its.length,.int .i64 q])) (wx.setCell ⟨w.heap.size+1,0,none⟩ (.slice (some ⟨g,0,none⟩) its.length its.length)):=by
 subst hr
 have hf:=h.far
 exact⟨some ⟨g,0,none⟩,its.length,its',by rw [h.len],h.cols,(h.cp.set (by omega)).rdT,h.below.setCell (by simp) _⟩
end Go.Proofs.YtjikokfjnbhngaaGreatDoor.Tl
