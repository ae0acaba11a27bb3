/- Several texts in one, each as it was: PFun, PCol, PCellO, PCell. -/
import Derived.Test.YtjikokfjnbhngaaGreatDoorMPMach
import Derived.Test.YtjikokfjnbhngaaGreatDoorMGPush

/- The small functions of paint: within, digit, inside, place. -/
namespace Go.Proofs.YtjikokfjnbhngaaGreatDoor.Pt
open Go.RowKit
open Go.Proofs.YtjikokfjnbhngaaGreatDoor.Tl (Rc noRc whereT shareT inR findT goodT paneB CIt colsOf RdT RdL tval tbox rval rbox rcells zbox cv)
theorem within_any (n a b:Int) (w:World):Calls Tryz.prog 64 #[.int .i64 n,.int .i64 a,.int .i64 b] w fun e w'=>e=.returned (.int .i64 (max a (min n b)))∧w'=w:=by
 go_enter Tryz.func64,Tryz.ntmps64
 go_wp2
 all_goals (go_ret;exact⟨ret_int (by omega),rfl⟩)
theorem digit_any (n:Int) (w:World):Calls Tryz.prog 85 #[.int .i64 n] w fun e w'=>e=.returned (.int .i64 (48+max 0 (min n 9)))∧w'=w:=by
 obtain⟨m,hm⟩:∃ m,m=max 0 (min n 9):=⟨_,rfl⟩
 have HW:Hid (∀ w,Calls Tryz.prog 64 #[.int .i64 n,.int .i64 0,.int .i64 9] w fun e w'=>e=.returned (.int .i64 m)∧w'=w):=fun w=>by rw [hm];exact within_any n 0 9 w
 have h0:0≤m:=by omega
 have h1:m≤9:=by omega
 rw [←hm]
 clear hm
 go_enter Tryz.func85,Tryz.ntmps85
 go_wp2_with (go_at_call 64;refine(HW.out _).mono ?_;rintro e w1 ⟨rfl,rfl⟩)
 go_ret
 exact⟨rfl,rfl⟩
theorem inside_any (r:Rc) (row col:Int) (w:World) (h1:0≤r.row∧r.row≤24) (h2:0≤r.col∧r.col≤24) (h3:0≤r.high∧r.high≤24) (h4:0≤r.wide∧r.wide≤24):
  Calls Tryz.prog 53 #[rval r,.int .i64 row,.int .i64 col] w fun e w'=>e=.returned (.bool (inRb r row col))∧Below w.heap.size w w':=by
 obtain⟨r0,r1,r2,r3⟩:=r
 simp only at h1 h2 h3 h4
 go_enter Tryz.func53,Tryz.ntmps53
 go_wp2
 all_goals (go_ret;refine⟨ret_bool ?_,Tl.below1 _ _⟩;rw [Bool.eq_iff_iff];simp only [inRb,decide_eq_true_eq,Bool.false_eq_true,false_iff];omega)
theorem place_any (v:Vw) (l:Lay) (C:Array Value) (hC:VC v l C) (p:Int) (w:World) (hv:RdV w v l) (r:Rc) (hr:r=v.place p):
  Calls Tryz.prog 52 #[.agg C,.int .i64 p] w fun e w'=>e=.returned (rval r)∧Below w.heap.size w w':=by
 have hr':r=whereT (colsOf l.its) v.wide v.high p:=by rw [hr,Vw.place,hv.cols]
 have HW:Hid (∀ w,RdT w l.co l.its→Calls Tryz.prog 28 #[tval l.co l.its.length l.cap,.int .i64 v.wide,.int .i64 v.high,.int .i64 p] w fun e w'=>e=.returned (rval r)∧Below w.heap.size w w'):=fun w h=>Tl.where_any l.its l.co l.cap v.wide v.high p w h hv.m1 hv.m2 r hr'
 have HV:Hid (RdV w v l):=hv
 obtain⟨c0,c1,c2,c3⟩:=hC.cells
 clear hr hr' hv hC
 go_enter Tryz.func52,Tryz.ntmps52
 go_wp2_with (go_at_call 28;refine(HW.out _ (HV.out.rd.below (Tl.below2 _ _ _))).mono ?_;rintro e w1 ⟨rfl,hb1⟩;have HB:Hid (Below w.heap.size w w1):=Tl.below_to (Tl.below2 _ _ _) hb1;obtain⟨⟨d0,d1,d2,d3⟩,d4⟩:=Tl.four (below_block hb1 (at_new1 w _ _) (by simp));clear hb1)
 refine bodyPost_ret (v:=rval r) (by simp [results,Tryz.results52,go_sem, *]) rfl ?_
 exact⟨rfl,Tl.set4_below HB.out (by omega) _ _ _ _⟩
end Go.Proofs.YtjikokfjnbhngaaGreatDoor.Pt

/- Is there a line in a column of cells? -/
namespace Go.Proofs.YtjikokfjnbhngaaGreatDoor.Pt
open Go.RowKit
open Go.Proofs.YtjikokfjnbhngaaGreatDoor.Tl (Rc noRc whereT shareT inR findT goodT paneB CIt colsOf RdT RdL tval tbox rval rbox rcells zbox cv)
theorem share_num (v:Vw) (k:Nat):0≤(v.share k).1∧(v.share k).1≤24∧0≤(v.share k).2∧(v.share k).2≤24:=by
 unfold Vw.share
 by_cases h:0≤v.wide∧v.wide < 25
 ·rcases Tl.share_in v.wide v.cols.length k h.1 h.2 with e | e
  ·rw [e];decide
  ·omega
 ·rw [share_far h];decide
theorem lineB_true (v:Vw) {col:Int} {k:Nat} (hk:k+1 < v.cols.length) (h1:0 < (v.share k).2) (h2:col=(v.share k).1+(v.share k).2):lineB v col=true:=
 List.any_eq_true.2 ⟨k,List.mem_range.2 (by omega),decide_eq_true ⟨h1,h2⟩⟩
theorem lineB_false (v:Vw) {col:Int} (hl:∀ k:Nat,k+1 < v.cols.length→¬ (0 < (v.share k).2∧col=(v.share k).1+(v.share k).2)):lineB v col=false:=by
 refine List.any_eq_false.2 fun k hk e=>hl k ?_ (of_decide_eq_true e)
 have:=List.mem_range.1 hk
 omega
set_option maxHeartbeats 1000000 in
theorem behind_any (v:Vw) (l:Lay) (C:Array Value) (hC:VC v l C) (col:Int) (w:World) (hv:RdV w v l) (r:Bool) (hr:r=lineB v col):
  Calls Tryz.prog 55 #[.agg C,.int .i64 col] w fun e w'=>e=.returned (.bool r)∧Below w.heap.size w w':=by
 have hlen:v.cols.length=l.its.length:=by rw [hv.cols];simp
 have hm:=hv.m1
 have HS:Hid (∀ (k:Nat) w,Calls Tryz.prog 51 #[.int .i64 v.wide,.int .i64 l.its.length,.int .i64 k] w fun e w'=>e=.returned (.tuple #[.int .i64 (v.share k).1,.int .i64 (v.share k).2])∧Below w.heap.size w w'):=fun k w=>Tl.share_any v.wide l.its.length k w _ (by unfold Vw.share;rw [hlen])
 have HC:Hid (VC v l C):=hC
 have HL:Hid (v.cols.length=l.its.length):=hlen
 have HR:Hid (r=lineB v col):=hr
 obtain⟨c0,c1,c2,c3⟩:=hC.cells
 clear hr hv hC hlen
 go_enter Tryz.func55,Tryz.ntmps55
 go_wp2
 clear c0 c1 c2 c3
 go_loopw [15] (fun i wr=>∃ k:Nat,(k=0∨k+1≤l.its.length)∧i=.int .i64 k∧wr.heap[w.heap.size]?=some (cbox C)∧Below w.heap.size w wr∧∀ j:Nat,j < k→¬ (0 < (v.share j).2∧col=(v.share j).1+(v.share j).2)) (fun i _=>l.its.length - (intOf i).toNat)
 case atStart=>exact⟨0,.inl rfl,rfl,at_new _ _,below1 _ _,fun j hj=>by omega⟩
 case round=>
  obtain⟨k,hk,rfl,hb,hbel,hno⟩:=hrel
  have HB:Hid (wr.heap[w.heap.size]?=some (cbox C)∧Below w.heap.size w wr):=⟨hb,hbel⟩
  have HN:Hid (∀ j:Nat,j < k→¬ (0 < (v.share j).2∧col=(v.share j).1+(v.share j).2)):=hno
  obtain⟨⟨b0,b1,b2,b3⟩,b4⟩:=cbox_cells HC.out hb
  clear hb hbel hno
  by_cases hlt:k+1 < l.its.length
  ·have hlt':(k:Int) < (l.its.length:Int) - 1:=by omega
   obtain⟨s,hs⟩:∃ s,s=v.share k:=⟨_,rfl⟩
   have hn:=share_num v k
   have HSK:=HS.out k
   have HSE:Hid (s=v.share k):=hs
   rw [←hs] at HSK hn
   obtain⟨x,y⟩:=s
   have HSH:Hid (∀ w,Calls Tryz.prog 51 #[.int .i64 v.wide,.int .i64 l.its.length,.int .i64 k] w fun e w'=>e=.returned (.tuple #[.int .i64 x,.int .i64 y])∧Below w.heap.size w w'):=HSK
   simp only at hn
   obtain⟨hn0,hn1,hn2,hn3⟩:=hn
   clear HSK hs HS
   by_cases h1:0 < y
   ·by_cases h2:col=x+y
    ·have HT:Hid (r=true):=by
      show r=true
      rw [HR.out]
      exact lineB_true v (by rw [HL.out];exact hlt) (by rw [←HSE.out];exact h1) (by rw [←HSE.out];exact h2)
     go_wp2_with (go_at_call 51;refine(HSH.out _).mono ?_;rintro e w1 ⟨rfl,hb1⟩;have HB1:Hid (Below w.heap.size w w1):=Tl.below_to HB.out.2 hb1;clear hb1)
     go_ret
     rw [HT.out]
     exact⟨rfl,HB1.out⟩
    ·have HB2:Hid (∀ w1,Below wr.heap.size wr w1→w1.heap[w.heap.size]?=some (cbox C)∧Below w.heap.size w w1):=fun w1 hb1=>⟨below_block hb1 HB.out.1 (Tl.at_lt HB.out.1),Tl.below_to HB.out.2 hb1⟩
     go_wp2_with (go_at_call 51;refine(HSH.out _).mono ?_;rintro e w1 ⟨rfl,hb1⟩;have HB1:Hid (w1.heap[w.heap.size]?=some (cbox C)∧Below w.heap.size w w1):=HB2.out w1 hb1;clear hb1)
     go_roundw
     case rel=>exact⟨k+1,by omega,by go_num,HB1.out.1,HB1.out.2,fun j hj=>by
      by_cases e:j=k
      ·subst e;rw [←HSE.out];exact fun h=>h2 h.2
      ·exact HN.out j (by omega)⟩
     case measure=>simp [intOf];omega
   ·have h1':y≤0:=by omega
    have HB2:Hid (∀ w1,Below wr.heap.size wr w1→w1.heap[w.heap.size]?=some (cbox C)∧Below w.heap.size w w1):=fun w1 hb1=>⟨below_block hb1 HB.out.1 (Tl.at_lt HB.out.1),Tl.below_to HB.out.2 hb1⟩
    go_wp2_with (go_at_call 51;refine(HSH.out _).mono ?_;rintro e w1 ⟨rfl,hb1⟩;have HB1:Hid (w1.heap[w.heap.size]?=some (cbox C)∧Below w.heap.size w w1):=HB2.out w1 hb1;clear hb1)
    go_roundw
    case rel=>exact⟨k+1,by omega,by go_num,HB1.out.1,HB1.out.2,fun j hj=>by
     by_cases e:j=k
     ·subst e;rw [←HSE.out];intro h;have:=h.1;simp only at this;omega
     ·exact HN.out j (by omega)⟩
    case measure=>simp [intOf];omega
  ·have hge:(l.its.length:Int) - 1≤(k:Int):=by omega
   have HF:Hid (r=false):=by
    show r=false
    rw [HR.out]
    exact lineB_false v fun j hj=>HN.out j (by rw [HL.out] at hj;omega)
   go_wp2
   go_ret
   rw [HF.out]
   exact⟨rfl,HB.out.2⟩
end Go.Proofs.YtjikokfjnbhngaaGreatDoor.Pt

/- What is to be seen at a place that is out of all. -/
namespace Go.Proofs.YtjikokfjnbhngaaGreatDoor.Pt
open Go.RowKit
open Go.Proofs.YtjikokfjnbhngaaGreatDoor.Tl (Rc noRc whereT shareT inR findT goodT paneB CIt colsOf RdT RdL tval tbox rval rbox rcells zbox cv)
@[reducible] def kbox (c:Cel):Obj:=.cells (ccells c) 66
structure CInv (w:World) (C:Array Value) (wr:World):Prop where
 box:wr.heap[w.heap.size]?=some (cbox C)
 res:wr.heap[w.heap.size+1]?=some (kbox noCel)
 below:Below w.heap.size w wr
theorem CInv.next {w:World} {C:Array Value} {wr w2:World} (h:CInv w C wr) (hb:Below wr.heap.size wr w2):CInv w C w2:=
 ⟨below_block hb h.box (Tl.at_lt h.box),below_block hb h.res (Tl.at_lt h.res),Tl.below_to h.below hb⟩
theorem cinv_start (w:World) (C:Array Value):CInv w C ((w.alloc (cbox C)).alloc (kbox noCel)):=⟨at_old (at_new w _) _,at_new1 w _ _,Tl.below2 _ _ _⟩
set_option maxHeartbeats 1000000 in
theorem cell_out (v:Vw) (l:Lay) (C:Array Value) (hC:VC v l C) (row col:Int) (w:World) (h:¬ withinV v row col):
  Calls Tryz.prog 29 #[.agg C,.int .i64 row,.int .i64 col] w fun e w'=>e=.returned (cval (sign 46))∧Below w.heap.size w w':=by
 obtain⟨c0,c1,c2,c3⟩:=hC.cells
 have HB:Hid (∀ o1 o2:Obj,∀ u0 u1 u2 u3,Below w.heap.size w ((((((w.alloc o1).alloc o2).setCell ⟨w.heap.size+1,0,none⟩ u0).setCell ⟨w.heap.size+1,1,none⟩ u1).setCell ⟨w.heap.size+1,2,none⟩ u2).setCell ⟨w.heap.size+1,3,none⟩ u3)):=fun o1 o2 u0 u1 u2 u3=>Tl.set4_below (Tl.below2 _ _ _) (by omega) _ _ _ _
 have hcs:row < 0∨(0≤row∧v.high≤row)∨(0≤row∧row < v.high∧col < 0)∨(0≤row∧row < v.high∧0≤col∧v.wide≤col):=by unfold withinV at h;omega
 clear h hC
 rcases hcs with h | ⟨h1,h2⟩ | ⟨h1,h2,h3⟩ | ⟨h1,h2,h3,h4⟩
 all_goals
  go_enter Tryz.func29,Tryz.ntmps29
  go_wp2
  refine bodyPost_ret (v:=cval (sign 46)) (by simp [results,Tryz.results29,go_sem,sign]) rfl ?_
  first | exact⟨rfl,HB.out _ _ _ _ _ _⟩ | exact⟨rfl,Tl.below2 _ _ _⟩
end Go.Proofs.YtjikokfjnbhngaaGreatDoor.Pt

/- What is to be seen at a place. -/
namespace Go.Proofs.YtjikokfjnbhngaaGreatDoor.Pt
open Go.RowKit
open Go.Proofs.YtjikokfjnbhngaaGreatDoor.Tl (Rc noRc whereT shareT inR findT goodT paneB CIt colsOf RdT RdL tval tbox rval rbox rcells zbox cv)
set_option maxHeartbeats 2000000 in
theorem cell_in (v:Vw) (l:Lay) (C:Array Value) (hC:VC v l C) (row col:Int) (w:World) (hv:RdV w v l) (h:withinV v row col) (r:Cel) (hr:r=cellT v row col):
  Calls Tryz.prog 29 #[.agg C,.int .i64 row,.int .i64 col] w fun e w'=>e=.returned (cval r)∧Below w.heap.size w w':=by
 obtain⟨c0,c1,c2,c3⟩:=hC.cells
 obtain⟨A,hA⟩:∃ A,A=(gall v l).toArray:=⟨_,rfl⟩
 have HA:Hid (A=(gall v l).toArray):=hA
 have HC:Hid (VC v l C):=hC
 have HV:Hid (RdV w v l):=hv
 have HH:Hid (withinV v row col):=h
 have HR:Hid (r=cellT v row col):=hr
 have HI0:Hid (CInv w C ((w.alloc (cbox C)).alloc (kbox noCel))):=cinv_start w C
 have HS:Hid (C.size=58):=hC.size
 obtain⟨h1,h2,h3,h4⟩:=h
 obtain⟨ln,hln⟩:∃ ln,ln=lineB v col:=⟨_,rfl⟩
 have HLN:Hid (∀ w,RdV w v l→Calls Tryz.prog 55 #[.agg C,.int .i64 col] w fun e w'=>e=.returned (.bool ln)∧Below w.heap.size w w'):=fun w hv=>behind_any v l C HC.out col w hv ln hln
 have HL:Hid (ln=lineB v col):=hln
 clear hC hv hr hA hln
 go_enter Tryz.func29,Tryz.ntmps29
 go_wp2_with (refine wpList_load_all v l C HC.out rfl _ rfl w.heap.size rfl HI0.out.box A HA.out ?_)
 clear c0 c1 c2 c3
 go_loopw [31] (fun i wr=>∃ p:Nat,p≤6∧i=.int .i64 p∧CInv w C wr∧∀ q:Nat,q < p→¬ inR (v.place q) row col) (fun i _=>6 - (intOf i).toNat)
 case atStart=>exact⟨0,by omega,rfl,HI0.out,fun q hq=>by omega⟩
 case round=>
  obtain⟨p,hp,rfl,hi,hno⟩:=hrel
  have HI:Hid (CInv w C wr):=hi
  have HN:Hid (∀ q:Nat,q < p→¬ inR (v.place q) row col):=hno
  clear hi hno HI0
  by_cases hlt:p < 6
  ·have hlt':(p:Int) < 6:=by omega
   obtain⟨x,hx⟩:∃ x,x=v.gs p:=⟨_,rfl⟩
   obtain⟨ao,hao⟩:∃ x,x=l.ga p:=⟨_,rfl⟩
   obtain⟨cap,hcap⟩:∃ x,x=l.gc p:=⟨_,rfl⟩
   obtain⟨pl,hpl⟩:∃ x,x=v.place p:=⟨_,rfl⟩
   have hnum:=place_num v p
   rw [←hpl] at hnum
   obtain⟨n1,n2,n3,n4,n5,n6,n7,n8⟩:=hnum
   have HX:Hid (x=v.gs p∧ao=l.ga p∧cap=l.gc p∧pl=v.place p):=⟨hx,hao,hcap,hpl⟩
   have HP:Hid (∀ w,RdV w v l→Calls Tryz.prog 52 #[.agg C,.int .i64 p] w fun e w'=>e=.returned (rval pl)∧Below w.heap.size w w'):=fun w hv=>place_any v l C HC.out p w hv pl hpl
   obtain⟨ins,hins⟩:∃ b,b=inRb pl row col:=⟨_,rfl⟩
   have HIN:Hid (∀ w,Calls Tryz.prog 53 #[rval pl,.int .i64 row,.int .i64 col] w fun e w'=>e=.returned (.bool ins)∧Below w.heap.size w w'):=fun w=>by rw [hins];exact inside_any pl row col w ⟨n1,n5⟩ ⟨n2,n6⟩ ⟨n3,n7⟩ ⟨n4,n8⟩
   have HIE:Hid (ins=inRb pl row col):=hins
   have hsz:=Tl.at_lt HI.out.res
   clear hx hao hcap hpl hins
   cases ins with
   | true=>
    have HYI:Hid (inR (v.place p) row col):=by
     show inR (v.place p) row col
     rw [←HX.out.2.2.2]
     exact(inRb_iff _ _ _).1 HIE.out.symm
    have HAT:Hid (∀ w,RdV w v l→Calls Tryz.prog 54 #[gval x ao cap,.int .i64 (row - pl.row),.int .i64 (col - pl.col)] w fun e w'=>e=.returned (cval r)∧Below w.heap.size w w'):=fun w hv=>by
     rw [HR.out,cellT_at v HH.out hlt HYI.out,HX.out.1,HX.out.2.1,HX.out.2.2.1,HX.out.2.2.2]
     exact at_any (v.gs p) (l.ga p) (l.gc p) _ _ w (hv.gs p hlt) (by have:=hv.m3 p hlt;omega)
    have hi1:pl.row≤row∧pl.col≤col∧row < 50∧col < 50:=by
     have:=HYI.out
     rw [←HX.out.2.2.2] at this
     unfold inR at this
     omega
    obtain⟨hi1,hi2,hi3,hi4⟩:=hi1
    go_wp2_with (first
     | (refine wpList_index_grid v l rfl _ _ rfl A rfl p rfl HA.out hlt ?_;rw [←HX.out.1, ←HX.out.2.1, ←HX.out.2.2.1])
     | (refine wpList_load_view C HS.out rfl _ rfl w.heap.size rfl (at_old HI.out.box _) ?_)
     | (go_at_call 52;refine(HP.out _ (HV.out.below (Tl.below_to HI.out.below (below1 _ _)))).mono ?_;rintro e w1 ⟨rfl,hb1⟩;have HI1:Hid (CInv w C w1∧w1.heap[wr.heap.size]?=some (gbox x ao cap)):=⟨(HI.out.next (below1 _ _)).next hb1,below_block hb1 (at_new _ _) (by simp)⟩;clear hb1)
     | (go_at_call 53;refine(HIN.out _).mono ?_;rintro e w2 ⟨rfl,hb2⟩;have HI2:Hid (CInv w C w2):=(HI1.out.1.next (below1 _ _)).next hb2;obtain⟨⟨g0,g1,g2,g3,g4,g5,g6,g7,g8⟩,g9⟩:=nine (below_block hb2 (at_old HI1.out.2 _) (by have:=Tl.at_lt HI1.out.2;simp;omega));obtain⟨⟨d0,d1,d2,d3⟩,d4⟩:=Tl.four (below_block hb2 (at_new w1 _) (by simp));clear hb2)
     | (go_at_call 54;refine(HAT.out _ (HV.out.below HI2.out.below)).mono ?_;rintro e w3 ⟨rfl,hb3⟩;have HI3:Hid (CInv w C w3):=HI2.out.next hb3;obtain⟨⟨k0,k1,k2,k3⟩,k4⟩:=Tl.four HI3.out.res;clear hb3)
     | fail)
    refine bodyPost_ret (v:=cval r) (by simp [results,Tryz.results29,go_sem, *]) rfl ?_
    exact⟨rfl,Tl.set4_below HI3.out.below (by omega) _ _ _ _⟩
   | false=>
    have HNI:Hid (¬ inR (v.place p) row col):=by
     show ¬ inR (v.place p) row col
     rw [←HX.out.2.2.2]
     exact inRb_not HIE.out.symm
    go_wp2_with (first
     | (refine wpList_index_grid v l rfl _ _ rfl A rfl p rfl HA.out hlt ?_;rw [←HX.out.1, ←HX.out.2.1, ←HX.out.2.2.1])
     | (refine wpList_load_view C HS.out rfl _ rfl w.heap.size rfl (at_old HI.out.box _) ?_)
     | (go_at_call 52;refine(HP.out _ (HV.out.below (Tl.below_to HI.out.below (below1 _ _)))).mono ?_;rintro e w1 ⟨rfl,hb1⟩;have HI1:Hid (CInv w C w1):=(HI.out.next (below1 _ _)).next hb1;clear hb1)
     | (go_at_call 53;refine(HIN.out _).mono ?_;rintro e w2 ⟨rfl,hb2⟩;have HI2:Hid (CInv w C w2):=(HI1.out.next (below1 _ _)).next hb2;clear hb2)
     | fail)
    go_roundw
    case rel=>exact⟨p+1,by omega,by go_num,HI2.out,fun q hq=>by
     by_cases e:q=p
     ·subst e;exact HNI.out
     ·exact HN.out q (by omega)⟩
    case measure=>simp [intOf];omega
  ·have hge:(6:Int)≤(p:Int):=by omega
   have HNO:Hid (∀ q:Nat,q < 6→¬ inR (v.place q) row col):=fun q hq=>HN.out q (by omega)
   cases ln with
   | true=>
    have HT:Hid (r=sign 124):=by
     show r=sign 124
     rw [HR.out]
     unfold cellT
     rw [if_pos HH.out,paneAt_none v HNO.out, ←HL.out]
     rfl
    go_wp2_with (first
     | (refine wpList_load_view C HS.out rfl _ rfl w.heap.size rfl HI.out.box ?_)
     | (go_at_call 55;refine(HLN.out _ (HV.out.below HI.out.below)).mono ?_;rintro e w3 ⟨rfl,hb3⟩;have HI3:Hid (CInv w C w3):=HI.out.next hb3;obtain⟨⟨k0,k1,k2,k3⟩,k4⟩:=Tl.four HI3.out.res;clear hb3)
     | fail)
    refine bodyPost_ret (v:=cval (sign 124)) (by simp [results,Tryz.results29,go_sem,sign, *]) rfl ?_
    rw [HT.out]
    exact⟨rfl,Tl.set4_below HI3.out.below (by omega) _ _ _ _⟩
   | false=>
    have HT:Hid (r=sign 45):=by
     show r=sign 45
     rw [HR.out]
     unfold cellT
     rw [if_pos HH.out,paneAt_none v HNO.out, ←HL.out]
     rfl
    go_wp2_with (first
     | (refine wpList_load_view C HS.out rfl _ rfl w.heap.size rfl HI.out.box ?_)
     | (go_at_call 55;refine(HLN.out _ (HV.out.below HI.out.below)).mono ?_;rintro e w3 ⟨rfl,hb3⟩;have HI3:Hid (CInv w C w3):=HI.out.next hb3;obtain⟨⟨k0,k1,k2,k3⟩,k4⟩:=Tl.four HI3.out.res;clear hb3)
     | fail)
    refine bodyPost_ret (v:=cval (sign 45)) (by simp [results,Tryz.results29,go_sem,sign, *]) rfl ?_
    rw [HT.out]
    exact⟨rfl,Tl.set4_below HI3.out.below (by omega) _ _ _ _⟩
theorem cell_any (v:Vw) (l:Lay) (C:Array Value) (hC:VC v l C) (row col:Int) (w:World) (hv:RdV w v l) (r:Cel) (hr:r=cellT v row col):
  Calls Tryz.prog 29 #[.agg C,.int .i64 row,.int .i64 col] w fun e w'=>e=.returned (cval r)∧Below w.heap.size w w':=by
 by_cases h:withinV v row col
 ·exact cell_in v l C hC row col w hv h r hr
 ·rw [hr,cellT_out v h]
  exact cell_out v l C hC row col w h
end Go.Proofs.YtjikokfjnbhngaaGreatDoor.Pt
