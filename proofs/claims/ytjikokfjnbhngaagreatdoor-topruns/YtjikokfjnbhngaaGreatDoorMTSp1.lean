/- Several texts in one, each as it was: TSp1, TSplit. -/
import Derived.Test.YtjikokfjnbhngaaGreatDoorMTCopy

/- What the insertions of 'Split' end with. -/
namespace Go.Proofs.YtjikokfjnbhngaaGreatDoor.Tl
open Go.RowKit
theorem SInv.row {w:World} {its:List CIt} {co:Option Addr} {cap g:Nat} {its':List CIt} {T:Nat} {wx:World} (h:SInv w its co cap g its' T wx) (hm:its.length≤1048576):wx.ownsRow (w.heap.size+2) 35 1 (.slice (some ⟨g,0,none⟩) its.length its.length) its.length (its'.map cv):=by
 have hl:=h.len
 refine⟨by simp [hl],.inr ⟨g,its.length,_,rfl,h.far.1,h.cp.row,Nat.le_refl _,by unfold maxLen;omega,by simp [hl],?_⟩⟩
 rw [List.take_of_length_le (by simp [hl])]
theorem nodup_le {α:Type} [DecidableEq α]:∀ (l m:List α),l.Nodup→(∀ x∈l,x∈m)→l.length≤m.length
 | [],_,_,_=>Nat.zero_le _
 | x::r,m,hn,hs=>by
  have hx:=hs x (by simp)
  rw [List.nodup_cons] at hn
  have ih:=nodup_le r (m.erase x) hn.2 (fun y hy=>(List.mem_erase_of_ne (a:=y) (b:=x) (by intro e;subst e;exact hn.1 hy)).2 (hs y (by simp [hy])))
  have:=List.length_erase_of_mem hx
  have:0 < m.length:=List.length_pos_of_mem hx
  simp only [List.length_cons]
  omega
theorem flat_len:∀ (cols:List (List Int)),(∀ c∈cols,1≤c.length)→cols.length≤cols.flatten.length
 | [],_=>Nat.le_refl _
 | c::r,h=>by
  have h1:=h c (by simp)
  have h2:=flat_len r (fun d hd=>h d (by simp [hd]))
  simp only [List.length_cons,List.flatten_cons,List.length_append]
  omega
theorem good_len {cols:List (List Int)} (h:OkT cols):cols.length≤6:=by
 have h1:=flat_len cols (fun c hc=>(h.tall c hc).1)
 have h2:=nodup_le cols.flatten [0,1,2,3,4,5] h.once (fun p hp=>by
  have:=h.pane p hp
  simp only [paneB,decide_eq_true_eq] at this
  have:p=0∨p=1∨p=2∨p=3∨p=4∨p=5:=by omega
  simpa using this)
 simp only [List.length_cons,List.length_nil] at h2
 omega
theorem cv_one (its:List CIt):∀ v∈its.map cv,v.oneCell'=true:=by
 intro v hv
 obtain⟨x,_,rfl⟩:=List.mem_map.1 hv
 rfl
theorem own_single {w:World} {V:Nat} {n:Int} (h:w.heap[V]?=some (.cells #[.int .i64 n] 3)):w.ownsRow 0 3 1 (cv ([n],some ⟨V,0,none⟩,1)) 1 (ints [n]):=
 ⟨rfl,.inr ⟨V,1,_,rfl,Nat.zero_le _,h,Nat.le_refl _,by unfold maxLen;omega,rfl,rfl⟩⟩
theorem ne41:(55:TypeId)≠35:=by decide
theorem ne413:(55:TypeId)≠3:=by decide
theorem ne283:(35:TypeId)≠3:=by decide
theorem mem_insL {α:Type} {l:List α} {i:Nat} {x y:α} (h:y∈insL l i x):y∈l∨y=x:=by
 unfold insL at h
 rcases List.mem_append.1 h with h | h
 ·exact .inl (List.mem_of_mem_take h)
 ·rcases List.mem_cons.1 h with h | h
  ·exact .inr h
  ·exact .inl (List.mem_of_mem_drop h)
theorem split_insL {w:World} {its:List CIt} {co:Option Addr} {cap g:Nat} {its':List CIt} {T:Nat} {wx:World} (h:SInv w its co cap g its' T wx) (hm:its.length≤1048576) (i:Nat) (hi:i+1≤its.length) (n:Int):
  Calls Tryz.prog 87 #[.slice (some ⟨g,0,none⟩) its.length its.length,.int .i64 ((i:Int)+1),.slice (some ⟨wx.heap.size+1,0,none⟩) 1 1] ((wx.alloc (.cells #[.int .i64 n] 3)).alloc (.cells #[.slice (some ⟨wx.heap.size,0,none⟩) 1 1] 35)) fun e w'=>
   ∃ ao' c',e=.returned (.slice ao' (its.length+1) c')∧w'.heap[w.heap.size+1]?=some (tbox none 0 0)∧w'.heap[T]?=some (tbox (some ⟨g,0,none⟩) its.length its.length)∧
    SpEndT w (insL (colsOf its) (i+1) [n],0) (.returned (.tuple #[tval ao' (its.length+1) c',.int .i64 0])) ((w'.setCell ⟨T,0,none⟩ (.slice ao' (its.length+1) c')).setCell ⟨w.heap.size+1,0,none⟩ (.slice ao' (its.length+1) c')):=by
 have hf:=h.far
 have hb:Below wx.heap.size wx ((wx.alloc (.cells #[.int .i64 n] 3)).alloc (.cells #[.slice (some ⟨wx.heap.size,0,none⟩) 1 1] 35)):=below2 _ _ _
 have h2:=h.next hb
 have hV2:=at_new1 wx (.cells #[.int .i64 n] 3) (.cells #[.slice (some ⟨wx.heap.size,0,none⟩) 1 1] 35)
 have hV1:=at_old (at_new wx (.cells #[.int .i64 n] 3)) (.cells #[.slice (some ⟨wx.heap.size,0,none⟩) 1 1] 35)
 have key:=ins_anyL (w.heap.size+2) g its.length (i+1) (wx.heap.size+1) (its'.map cv) (.slice (some ⟨wx.heap.size,0,none⟩) 1 1) _ (h2.row hm) hm hi hV2 rfl (cv_one its') (by have:=at_lt h.to2;simp;omega)
 rw [show ((i+1:Nat):Int)=(i:Int)+1 by omega] at key
 refine key.mono ?_
 rintro e w' ⟨v',rfl,hown,hg⟩
 obtain⟨ao',c',rfl⟩:=row_shape hown
 have q2:=grown_at hg h2.cp.row h2.res ne41
 have q3:=grown_at hg h2.cp.row h2.to2 ne41
 refine⟨ao',c',rfl,q2,q3,ao',c',insL its' (i+1) ([n],some ⟨wx.heap.size,0,none⟩,1),?_,?_,?_,?_⟩
 ·have hl:(insL its' (i+1) ([n],some ⟨wx.heap.size,0,none⟩,1)).length=its.length+1:=by
   have:=h.len
   simp [insL]
   omega
  rw [hl]
 ·simp only [colsOf]
  have e0:=insL_map (fun x:CIt=>x.1) its' (i+1) ([n],some ⟨wx.heap.size,0,none⟩,1)
  rw [←e0]
  have:=h.cols
  simp only [colsOf] at this
  rw [this]
 ·have e1:insL (its'.map cv) (i+1) (.slice (some ⟨wx.heap.size,0,none⟩) 1 1)=(insL its' (i+1) ([n],some ⟨wx.heap.size,0,none⟩,1)).map cv:=insL_map cv its' (i+1) ([n],some ⟨wx.heap.size,0,none⟩,1)
  rw [e1] at hown
  have hq:(w'.setCell ⟨T,0,none⟩ (.slice ao' (its.length+1) c')).heap[w.heap.size+1]?=some (tbox none 0 0):=by
   rw [Below.heap_setCell _ _ _ _ (by simp;omega)];exact q2
  refine(rdT_ownT (base:=w.heap.size+2) (n:=its.length+1) (c:=c') (row_setT (row_setT hown q3 ne41) hq ne41) (fun x hx=>?_)).2
  rcases mem_insL hx with hx | rfl
  ·exact⟨_,row_setT (row_setT (row_grownT (h2.cp.own x hx) hg h2.cp.row ne283) q3 ne413) hq ne413⟩
  ·exact⟨_,row_setT (row_setT (row_grownT (own_single hV1) hg h2.cp.row ne283) q3 ne413) hq ne413⟩
 ·have hb3:Below w.heap.size w w':=h2.below.trans (grown_below hg h2.below.size (by omega))
  exact(hb3.setCell (by simp;omega) _).setCell (by simp) _
theorem SInv.col {w:World} {its:List CIt} {co:Option Addr} {cap g:Nat} {its':List CIt} {T:Nat} {wx:World} (h:SInv w its co cap g its' T wx) (i:Nat) (hi:i < its.length):∃ x,its'[i]?=some x∧x.1=(colsOf its).getD i []∧wx.cell? ⟨g,i,none⟩=some (.slice x.2.1 x.1.length x.2.2)∧wx.frozen? ⟨g,i,none⟩=false:=by
 have hl:=h.len
 have hi':i < its'.length:=by omega
 refine⟨its'[i],by simp [hi'],?_,?_,frozen_of_row wx g i _ _ h.cp.row⟩
 ·rw [←h.cols]
  simp [hi']
 ·simp only [World.cell?,h.cp.row]
  simp [hi']
theorem ints_ins (l:List Int) (i:Nat) (n:Int):insL (ints l) i (.int .i64 n)=ints (insL l i n):=insL_map (Value.int .i64) l i n
theorem own_some {w:World} {base:Nat} {x:CIt} (h:w.ownsRow base 3 1 (cv x) x.1.length (ints x.1)) (hx:x.1≠[]):∃ b,x.2.1=some ⟨b,0,none⟩∧base≤b:=by
 rcases h.2 with ⟨_,h0⟩ | ⟨g,c,cur,hv,hb,_⟩
 ·exact absurd (List.length_eq_zero_iff.1 h0) hx
 ·simp only [cv,Value.slice.injEq] at hv
  exact⟨g,hv.1,hb⟩
theorem set_end {w:World} {its:List CIt} {co:Option Addr} {cap g:Nat} {its':List CIt} {T:Nat} {wx w':World} (h:SInv w its co cap g its' T wx) (hm:its.length≤1048576) (i:Nat) (hi:i < its.length) (x:CIt) (hx:its'[i]?=some x) (b:Nat) (hxb:x.2.1=some ⟨b,0,none⟩) (hg:wx.grownBy w' (some b)) (l:List Int) (ao:Option Addr) (c:Nat) (base:Nat) (hown:w'.ownsRow base 3 1 (.slice ao l.length c) l.length (ints l)):
  w'.heap[w.heap.size+1]?=some (tbox none 0 0)∧w'.heap[T]?=some (tbox (some ⟨g,0,none⟩) its.length its.length)∧w'.cell? ⟨g,i,none⟩=some (.slice x.2.1 x.1.length x.2.2)∧w'.frozen? ⟨g,i,none⟩=false∧
   SpEndT w ((colsOf its).set i l,0) (.returned (.tuple #[tval (some ⟨g,0,none⟩) its.length its.length,.int .i64 0])) ((w'.setCell ⟨g,i,none⟩ (.slice ao l.length c)).setCell ⟨w.heap.size+1,0,none⟩ (.slice (some ⟨g,0,none⟩) its.length its.length)):=by
 have hf:=h.far
 have hl:=h.len
 have hi':i < its'.length:=by omega
 obtain rfl:its'[i]=x:=by simpa [hi'] using hx
 have hxo:=h.cp.own its'[i] (List.getElem_mem hi')
 unfold cv at hxo
 rw [hxb] at hxo
 obtain⟨cur,hcur,_,_,hbg,_⟩:=own_row hxo
 have q1:=grown_at hg hcur h.cp.row ne283
 have q2:=grown_at hg hcur h.res ne413
 have q3:=grown_at hg hcur h.to2 ne413
 have hcell:w'.cell? ⟨g,i,none⟩=some (cv its'[i]):=by
  simp only [World.cell?,q1]
  simp [hi']
 refine⟨q2,q3,hcell,frozen_of_row w' g i _ _ q1,some ⟨g,0,none⟩,its.length,its'.set i (l,ao,c),by simp [hl],?_,?_,?_⟩
 ·have:=h.cols
  simp only [colsOf] at this ⊢
  rw [List.map_set,this]
 ·have q4:(w'.setCell ⟨g,i,none⟩ (.slice ao l.length c)).heap[w.heap.size+1]?=some (tbox none 0 0):=set_at q1 q2 ne41
  have q5:(w'.setCell ⟨g,i,none⟩ (.slice ao l.length c)).heap[g]?=some (.cells ((its'.set i (l,ao,c)).map cv).toArray 35):=by
   rw [heap_setCell_same w' g i _ _ _ q1]
   congr 1
   congr 1
   apply Array.ext'
   simp [List.map_set]
  have q6:(w'.setCell ⟨g,i,none⟩ (.slice ao l.length c)).ownsRow 0 35 1 (.slice (some ⟨g,0,none⟩) its.length its.length) its.length ((its'.set i (l,ao,c)).map cv):=
   ⟨by simp [hl],.inr ⟨g,its.length,_,rfl,Nat.zero_le _,q5,Nat.le_refl _,by unfold maxLen;omega,by simp [hl],by rw [List.take_of_length_le (by simp [hl])]⟩⟩
  refine(rdT_ownT (row_setT q6 q4 ne41) (fun y hy=>?_)).2
  obtain⟨k,hk,rfl⟩:=List.getElem_of_mem hy
  have hk':k < its'.length:=by simpa using hk
  by_cases e:i=k
  ·subst e
   have e1:(its'.set i (l,ao,c))[i]=(l,ao,c):=by simp
   rw [e1]
   exact⟨base,row_setT (row_setT hown q1 ne283) q4 ne413⟩
  ·have e1:(its'.set i (l,ao,c))[k]=its'[k]:=by simp [e]
   rw [e1]
   refine⟨_,row_setT (row_setT (row_grownB (h.cp.own its'[k] (List.getElem_mem hk')) hg ?_) q1 ne283) q4 ne413⟩
   unfold cv
   cases hko:its'[k].2.1 with
   | none=>simp [Value.ownBlock]
   | some a=>
    simp only [Value.ownBlock,ne_eq,Option.some.injEq]
    rcases Nat.lt_or_gt_of_ne e with h1 | h1
    ·have:=h.cp.apart i k hi' hk' h1 _ _ hxb hko
     simp only at this
     omega
    ·have:=h.cp.apart k i hk' hi' h1 _ _ hko hxb
     simp only at this
     omega
 ·have hb3:Below w.heap.size w w':=h.below.trans (grown_below hg h.below.size (by omega))
  exact(hb3.setCell (by simp;omega) _).setCell (by simp) _
theorem split_insI {w:World} {its:List CIt} {co:Option Addr} {cap g:Nat} {its':List CIt} {T:Nat} {wx:World} (h:SInv w its co cap g its' T wx) (hm:its.length≤1048576) (i:Nat) (hi:i < its.length) (x:CIt) (hx:its'[i]?=some x) (hxm:x.1.length≤1048576) (j:Nat) (hj:j+1≤x.1.length) (n:Int) (W:World) (V:Nat) (q:Int) (hq:q=(j:Int)+1) (hb:Below wx.heap.size wx W) (hV:W.heap[V]?=some (.cells #[.int .i64 n] 3)) (hVx:wx.heap.size≤V):
  Calls Tryz.prog 88 #[.slice x.2.1 x.1.length x.2.2,.int .i64 q,.slice (some ⟨V,0,none⟩) 1 1] W fun e w'=>
   ∃ ao' c',e=.returned (.slice ao' (x.1.length+1) c')∧(w'.cell? ⟨w.heap.size+1,0,none⟩=some (.slice none 0 0)∧w'.frozen? ⟨w.heap.size+1,0,none⟩=false)∧w'.cell? ⟨T,0,none⟩=some (.slice (some ⟨g,0,none⟩) its.length its.length)∧w'.cell? ⟨g,i,none⟩=some (.slice x.2.1 x.1.length x.2.2)∧w'.frozen? ⟨g,i,none⟩=false∧
    SpEndT w ((colsOf its).set i (insL x.1 (j+1) n),0) (.returned (.tuple #[tval (some ⟨g,0,none⟩) its.length its.length,.int .i64 0])) ((w'.setCell ⟨g,i,none⟩ (.slice ao' (x.1.length+1) c')).setCell ⟨w.heap.size+1,0,none⟩ (.slice (some ⟨g,0,none⟩) its.length its.length)):=by
 subst hq
 have h2:=h.next hb
 have hxo:=h2.cp.own x (List.mem_of_getElem? hx)
 obtain⟨b,hxb,hgb⟩:=own_some hxo (by intro e;rw [e] at hj;simp at hj)
 have hxo':=hxo
 unfold cv at hxo'
 rw [hxb] at hxo' ⊢
 have hbx:b < wx.heap.size:=by
  have h3:=h.cp.own x (List.mem_of_getElem? hx)
  unfold cv at h3
  rw [hxb] at h3
  exact(own_lt h3).2
 have key:=ins_anyI (g+1) b x.1.length x.2.2 (j+1) V (ints x.1) (.int .i64 n) W hxo' hxm hj hV (by omega) rfl (ints_one _) (by have:=hb.size;omega)
 rw [show ((j+1:Nat):Int)=(j:Int)+1 by omega] at key
 refine key.mono ?_
 rintro e w' ⟨v',rfl,hown,hg⟩
 obtain⟨ao',c',rfl⟩:=row_shape hown
 have hll:(insL x.1 (j+1) n).length=x.1.length+1:=by simp [insL];omega
 rw [ints_ins] at hown
 have hown':w'.ownsRow (g+1) 3 1 (.slice ao' (insL x.1 (j+1) n).length c') (insL x.1 (j+1) n).length (ints (insL x.1 (j+1) n)):=by rw [hll];exact hown
 have:=set_end h2 hm i hi x hx b hxb hg (insL x.1 (j+1) n) ao' c' (g+1) hown'
 rw [hll,hxb] at this
 obtain⟨t1,t2,t3⟩:=this
 exact⟨ao',c',rfl,⟨(one t1).1,(one t1).2 0⟩,(one t2).1,t3⟩
end Go.Proofs.YtjikokfjnbhngaaGreatDoor.Tl

/- What 'Split' makes of panes. -/
namespace Go.Proofs.YtjikokfjnbhngaaGreatDoor.Tl
open Go.RowKit
theorem copied2 (its:List CIt) (co:Option Addr) (cap:Nat) (w:World) (hr:RdT w co its) (hm:its.length≤5864062014805) (hm2:∀ x∈its,x.1.length≤17592186044416):
  Calls Tryz.prog 86 #[tval co its.length cap] w fun e w'=>∃ g its',e=.returned (tval (some ⟨g,0,none⟩) its.length its.length)∧colsOf its'=colsOf its∧w.heap.size≤g∧Cp its' g w'∧Below w.heap.size w w':=by
 refine(copied_any its co cap w hr hm hm2).mono ?_
 rintro e w' ⟨g,its',rfl,hc,hg,hcp,hb⟩
 have hl:its'.length=its.length:=by
  have:=congrArg List.length hc
  simpa using this
 exact⟨g,its',by rw [hl],hc,hg,hcp,hb⟩
theorem find2 (its:List CIt) (co:Option Addr) (cap:Nat) (p:Int) (w:World) (hr:RdT w co its) (hm:its.length≤5864062014805) (hm2:∀ x∈its,x.1.length≤17592186044416) (r:Option (Nat×Nat)) (hr0:r=findT p (colsOf its)):
  Calls Tryz.prog 50 #[tval co its.length cap,.int .i64 p] w fun e w'=>e=.returned (.tuple #[.int .i64 (fi r),.int .i64 (fj r),.bool r.isSome])∧Below w.heap.size w w':=by
 refine(find_any its co cap p w hr hm hm2 r hr0).mono ?_
 rintro e w' ⟨rfl,rfl⟩
 exact⟨rfl,below1 _ _⟩
set_option maxHeartbeats 4000000 in
set_option maxRecDepth 100000 in
theorem split_bad (its:List CIt) (co:Option Addr) (cap:Nat) (p n:Int) (right:Bool) (w:World) (hr:RdT w co its) (hm:its.length≤5864062014805) (hm2:∀ x∈its,x.1.length≤17592186044416) (r:List (List Int)×Int) (hrr:r=splitT (colsOf its) p n right) (hgd:goodT (colsOf its)=false):
  Calls Tryz.prog 66 #[tval co its.length cap,.int .i64 p,.int .i64 n,.bool right] w (SpEndT w r):=by
 have HR:Hid (RdT w co its):=hr
 have HC:Hid (∀ W,Below w.heap.size w W→Calls Tryz.prog 86 #[tval co its.length cap] W fun e w'=>∃ g its',e=.returned (tval (some ⟨g,0,none⟩) its.length its.length)∧colsOf its'=colsOf its∧W.heap.size≤g∧Cp its' g w'∧Below W.heap.size W w'):=fun W hW=>copied2 its co cap W (hr.below hW) hm hm2
 have HG:Hid (∀ W,RdT W co its→Calls Tryz.prog 31 #[tval co its.length cap] W fun e w'=>e=.returned (.bool false)∧Below W.heap.size W w'):=fun W hW=>good_any its co cap W hW hm hm2 false hgd.symm
 have HRR:Hid (r=(colsOf its,1)):=by show r=_;rw [hrr];simp [splitT,hgd]
 clear hr hm2 hrr hgd
 go_enter Tryz.func66,Tryz.ntmps66
 go_wp2_with (first
  | (go_at_call 86;refine(HC.out _ (below2 _ _ _)).mono ?_;rintro e w1 ⟨g,its',rfl,hc,hg,hcp,hb⟩;have HS:Hid (SInv w its co cap g its' w1.heap.size (w1.alloc (tbox (some ⟨g,0,none⟩) its.length its.length))):=sinv_start HR.out hc hg hcp hb;obtain⟨a1,a2⟩:=one HS.out.box;obtain⟨a3,a4⟩:=one HS.out.res;obtain⟨a5,a6⟩:=one HS.out.to2;clear hc hg hcp hb)
  | (go_at_call 31;refine(HG.out _ HS.out.rd).mono ?_;rintro e w2 ⟨rfl,hb2⟩;have HS2:Hid (SInv w its co cap g its' w1.heap.size w2):=HS.out.next hb2;clear hb2 a1 a2 a3 a4 a5 a6;obtain⟨a1,a2⟩:=one HS2.out.box;obtain⟨a3,a4⟩:=one HS2.out.res;obtain⟨a5,a6⟩:=one HS2.out.to2)
  | fail)
 refine bodyPost_ret (v:=.tuple #[tval (some ⟨g,0,none⟩) its.length its.length,.int .i64 1]) (by simp [results,Tryz.results66,go_sem, *]) rfl ?_
 exact HS2.out.same 1 r HRR.out
set_option maxHeartbeats 4000000 in
set_option maxRecDepth 100000 in
theorem split_pane (its:List CIt) (co:Option Addr) (cap:Nat) (p n:Int) (right:Bool) (w:World) (hr:RdT w co its) (hm:its.length≤5864062014805) (hm2:∀ x∈its,x.1.length≤17592186044416) (r:List (List Int)×Int) (hrr:r=splitT (colsOf its) p n right) (hgd:goodT (colsOf its)=true) (hpn:paneB n=false):
  Calls Tryz.prog 66 #[tval co its.length cap,.int .i64 p,.int .i64 n,.bool right] w (SpEndT w r):=by
 have HR:Hid (RdT w co its):=hr
 have HC:Hid (∀ W,Below w.heap.size w W→Calls Tryz.prog 86 #[tval co its.length cap] W fun e w'=>∃ g its',e=.returned (tval (some ⟨g,0,none⟩) its.length its.length)∧colsOf its'=colsOf its∧W.heap.size≤g∧Cp its' g w'∧Below W.heap.size W w'):=fun W hW=>copied2 its co cap W (hr.below hW) hm hm2
 have HG:Hid (∀ W,RdT W co its→Calls Tryz.prog 31 #[tval co its.length cap] W fun e w'=>e=.returned (.bool true)∧Below W.heap.size W w'):=fun W hW=>good_any its co cap W hW hm hm2 true hgd.symm
 have HPN:Hid (∀ W,Calls Tryz.prog 56 #[.int .i64 n] W fun e w'=>e=.returned (.bool false)∧w'=W):=fun W=>by have:=isPane_any n W;rw [hpn] at this;exact this
 have HRR:Hid (r=(colsOf its,1)):=by show r=_;rw [hrr];simp [splitT,hpn]
 clear hr hm2 hrr hgd hpn
 go_enter Tryz.func66,Tryz.ntmps66
 go_wp2_with (first
  | (go_at_call 86;refine(HC.out _ (below2 _ _ _)).mono ?_;rintro e w1 ⟨g,its',rfl,hc,hg,hcp,hb⟩;have HS:Hid (SInv w its co cap g its' w1.heap.size (w1.alloc (tbox (some ⟨g,0,none⟩) its.length its.length))):=sinv_start HR.out hc hg hcp hb;obtain⟨a1,a2⟩:=one HS.out.box;obtain⟨a3,a4⟩:=one HS.out.res;obtain⟨a5,a6⟩:=one HS.out.to2;clear hc hg hcp hb)
  | (go_at_call 31;refine(HG.out _ HS.out.rd).mono ?_;rintro e w2 ⟨rfl,hb2⟩;have HS2:Hid (SInv w its co cap g its' w1.heap.size w2):=HS.out.next hb2;clear hb2 a1 a2 a3 a4 a5 a6;obtain⟨a1,a2⟩:=one HS2.out.box;obtain⟨a3,a4⟩:=one HS2.out.res;obtain⟨a5,a6⟩:=one HS2.out.to2)
  | (go_at_call 56;refine(HPN.out _).mono ?_;rintro e w3 ⟨rfl,rfl⟩)
  | fail)
 refine bodyPost_ret (v:=.tuple #[tval (some ⟨g,0,none⟩) its.length its.length,.int .i64 1]) (by simp [results,Tryz.results66,go_sem, *]) rfl ?_
 exact HS2.out.same 1 r HRR.out
set_option maxHeartbeats 4000000 in
set_option maxRecDepth 100000 in
theorem split_none (its:List CIt) (co:Option Addr) (cap:Nat) (p n:Int) (right:Bool) (w:World) (hr:RdT w co its) (hm:its.length≤5864062014805) (hm2:∀ x∈its,x.1.length≤17592186044416) (r:List (List Int)×Int) (hrr:r=splitT (colsOf its) p n right) (hgd:goodT (colsOf its)=true) (hpn:paneB n=true) (hfd:findT p (colsOf its)=none):
  Calls Tryz.prog 66 #[tval co its.length cap,.int .i64 p,.int .i64 n,.bool right] w (SpEndT w r):=by
 have HR:Hid (RdT w co its):=hr
 have HC:Hid (∀ W,Below w.heap.size w W→Calls Tryz.prog 86 #[tval co its.length cap] W fun e w'=>∃ g its',e=.returned (tval (some ⟨g,0,none⟩) its.length its.length)∧colsOf its'=colsOf its∧W.heap.size≤g∧Cp its' g w'∧Below W.heap.size W w'):=fun W hW=>copied2 its co cap W (hr.below hW) hm hm2
 have HG:Hid (∀ W,RdT W co its→Calls Tryz.prog 31 #[tval co its.length cap] W fun e w'=>e=.returned (.bool true)∧Below W.heap.size W w'):=fun W hW=>good_any its co cap W hW hm hm2 true hgd.symm
 have HPN:Hid (∀ W,Calls Tryz.prog 56 #[.int .i64 n] W fun e w'=>e=.returned (.bool true)∧w'=W):=fun W=>by have:=isPane_any n W;rw [hpn] at this;exact this
 have HF:Hid (∀ W,RdT W co its→Calls Tryz.prog 50 #[tval co its.length cap,.int .i64 p] W fun e w'=>e=.returned (.tuple #[.int .i64 0,.int .i64 0,.bool false])∧Below W.heap.size W w'):=fun W hW=>find2 its co cap p W hW hm hm2 (none) hfd.symm
 have HRR:Hid (r=(colsOf its,3)):=by show r=_;rw [hrr];simp [splitT,hgd,hpn,hfd]
 clear hr hm2 hrr hgd hpn hfd
 go_enter Tryz.func66,Tryz.ntmps66
 go_wp2_with (first
  | (go_at_call 86;refine(HC.out _ (below2 _ _ _)).mono ?_;rintro e w1 ⟨g,its',rfl,hc,hg,hcp,hb⟩;have HS:Hid (SInv w its co cap g its' w1.heap.size (w1.alloc (tbox (some ⟨g,0,none⟩) its.length its.length))):=sinv_start HR.out hc hg hcp hb;obtain⟨a1,a2⟩:=one HS.out.box;obtain⟨a3,a4⟩:=one HS.out.res;obtain⟨a5,a6⟩:=one HS.out.to2;clear hc hg hcp hb)
  | (go_at_call 31;refine(HG.out _ HS.out.rd).mono ?_;rintro e w2 ⟨rfl,hb2⟩;have HS2:Hid (SInv w its co cap g its' w1.heap.size w2):=HS.out.next hb2;clear hb2 a1 a2 a3 a4 a5 a6;obtain⟨a1,a2⟩:=one HS2.out.box;obtain⟨a3,a4⟩:=one HS2.out.res;obtain⟨a5,a6⟩:=one HS2.out.to2)
  | (go_at_call 56;refine(HPN.out _).mono ?_;rintro e w3 ⟨rfl,rfl⟩)
  | (go_at_call 50;refine(HF.out _ HS2.out.rd).mono ?_;rintro e w4 ⟨rfl,hb4⟩;have HS3:Hid (SInv w its co cap g its' w1.heap.size w4):=HS2.out.next hb4;clear hb4 a1 a2 a3 a4 a5 a6;obtain⟨a1,a2⟩:=one HS3.out.box;obtain⟨a3,a4⟩:=one HS3.out.res;obtain⟨a5,a6⟩:=one HS3.out.to2)
  | fail)
 refine bodyPost_ret (v:=.tuple #[tval (some ⟨g,0,none⟩) its.length its.length,.int .i64 3]) (by simp [results,Tryz.results66,go_sem, *]) rfl ?_
 exact HS3.out.same 3 r HRR.out
set_option maxHeartbeats 4000000 in
set_option maxRecDepth 100000 in
theorem split_twice (its:List CIt) (co:Option Addr) (cap:Nat) (p n:Int) (right:Bool) (w:World) (hr:RdT w co its) (hm:its.length≤5864062014805) (hm2:∀ x∈its,x.1.length≤17592186044416) (r:List (List Int)×Int) (hrr:r=splitT (colsOf its) p n right) (hgd:goodT (colsOf its)=true) (hpn:paneB n=true) (i j:Nat) (hfd:findT p (colsOf its)=some (i,j)) (hhs:hasT (colsOf its) n=true):
  Calls Tryz.prog 66 #[tval co its.length cap,.int .i64 p,.int .i64 n,.bool right] w (SpEndT w r):=by
 have HR:Hid (RdT w co its):=hr
 have HC:Hid (∀ W,Below w.heap.size w W→Calls Tryz.prog 86 #[tval co its.length cap] W fun e w'=>∃ g its',e=.returned (tval (some ⟨g,0,none⟩) its.length its.length)∧colsOf its'=colsOf its∧W.heap.size≤g∧Cp its' g w'∧Below W.heap.size W w'):=fun W hW=>copied2 its co cap W (hr.below hW) hm hm2
 have HG:Hid (∀ W,RdT W co its→Calls Tryz.prog 31 #[tval co its.length cap] W fun e w'=>e=.returned (.bool true)∧Below W.heap.size W w'):=fun W hW=>good_any its co cap W hW hm hm2 true hgd.symm
 have HPN:Hid (∀ W,Calls Tryz.prog 56 #[.int .i64 n] W fun e w'=>e=.returned (.bool true)∧w'=W):=fun W=>by have:=isPane_any n W;rw [hpn] at this;exact this
 have HF:Hid (∀ W,RdT W co its→Calls Tryz.prog 50 #[tval co its.length cap,.int .i64 p] W fun e w'=>e=.returned (.tuple #[.int .i64 i,.int .i64 j,.bool true])∧Below W.heap.size W w'):=fun W hW=>find2 its co cap p W hW hm hm2 (some (i,j)) hfd.symm
 have HH:Hid (∀ W,RdT W co its→Calls Tryz.prog 32 #[tval co its.length cap,.int .i64 n] W fun e w'=>e=.returned (.bool true)∧Below W.heap.size W w'):=fun W hW=>has_any its co cap n W hW hm hm2 true hhs.symm
 have HRR:Hid (r=(colsOf its,4)):=by show r=_;rw [hrr];simp [splitT,hgd,hpn,hfd,hhs]
 clear hr hm2 hrr hgd hpn hfd hhs
 go_enter Tryz.func66,Tryz.ntmps66
 go_wp2_with (first
  | (go_at_call 86;refine(HC.out _ (below2 _ _ _)).mono ?_;rintro e w1 ⟨g,its',rfl,hc,hg,hcp,hb⟩;have HS:Hid (SInv w its co cap g its' w1.heap.size (w1.alloc (tbox (some ⟨g,0,none⟩) its.length its.length))):=sinv_start HR.out hc hg hcp hb;obtain⟨a1,a2⟩:=one HS.out.box;obtain⟨a3,a4⟩:=one HS.out.res;obtain⟨a5,a6⟩:=one HS.out.to2;clear hc hg hcp hb)
  | (go_at_call 31;refine(HG.out _ HS.out.rd).mono ?_;rintro e w2 ⟨rfl,hb2⟩;have HS2:Hid (SInv w its co cap g its' w1.heap.size w2):=HS.out.next hb2;clear hb2 a1 a2 a3 a4 a5 a6;obtain⟨a1,a2⟩:=one HS2.out.box;obtain⟨a3,a4⟩:=one HS2.out.res;obtain⟨a5,a6⟩:=one HS2.out.to2)
  | (go_at_call 56;refine(HPN.out _).mono ?_;rintro e w3 ⟨rfl,rfl⟩)
  | (go_at_call 50;refine(HF.out _ HS2.out.rd).mono ?_;rintro e w4 ⟨rfl,hb4⟩;have HS3:Hid (SInv w its co cap g its' w1.heap.size w4):=HS2.out.next hb4;clear hb4 a1 a2 a3 a4 a5 a6;obtain⟨a1,a2⟩:=one HS3.out.box;obtain⟨a3,a4⟩:=one HS3.out.res;obtain⟨a5,a6⟩:=one HS3.out.to2)
  | (go_at_call 32;refine(HH.out _ HS3.out.rd).mono ?_;rintro e w5 ⟨rfl,hb5⟩;have HS4:Hid (SInv w its co cap g its' w1.heap.size w5):=HS3.out.next hb5;clear hb5 a1 a2 a3 a4 a5 a6;obtain⟨a1,a2⟩:=one HS4.out.box;obtain⟨a3,a4⟩:=one HS4.out.res;obtain⟨a5,a6⟩:=one HS4.out.to2)
  | fail)
 refine bodyPost_ret (v:=.tuple #[tval (some ⟨g,0,none⟩) its.length its.length,.int .i64 4]) (by simp [results,Tryz.results66,go_sem, *]) rfl ?_
 exact HS4.out.same 4 r HRR.out
end Go.Proofs.YtjikokfjnbhngaaGreatDoor.Tl
