/- Several texts in one, each as it was: PStat, PCur, PScr, PScreen. -/
import Derived.Test.YtjikokfjnbhngaaGreatDoorMPFun
import Derived.Deep.RegionHeld3
import Derived.Deep.QuietTactic
import Derived.Test.YtjikokfjnbhngaaGreatDoorMGDraw
import Derived.Test.YtjikokfjnbhngaaGreatDoorMGMove
import Derived.Test.YtjikokfjnbhngaaGreatDoorZTake

/- The line at the foot. -/
namespace Go.Proofs.YtjikokfjnbhngaaGreatDoor.Pt
open Go.RowKit
open Go.Proofs.YtjikokfjnbhngaaGreatDoor.Tl (Rc noRc whereT shareT inR findT goodT paneB CIt colsOf RdT RdL tval tbox rval rbox rcells zbox cv)
theorem flat_at {cols:List (List Int)} {i k:Nat} (hi:i < cols.length) (hk:k < cols[i].length):(cols.take i).flatten.length+k < cols.flatten.length∧cols.flatten.getD ((cols.take i).flatten.length+k) 0=cols[i][k]:=by
 have h0:cols=cols.take i++cols[i]::cols.drop (i+1):=by rw [←List.drop_eq_getElem_cons hi,List.take_append_drop]
 have e:cols.flatten=(cols.take i).flatten++(cols[i]++(cols.drop (i+1)).flatten):=by
  conv=>lhs;rw [h0]
  rw [List.flatten_append,List.flatten_cons]
 constructor
 ·rw [e];simp only [List.length_append];omega
 ·rw [List.getD_eq_getElem?_getD]
  rw [e,List.getElem?_append_right (by omega),Nat.add_sub_cancel_left,List.getElem?_append_left hk]
  simp [hk]
theorem flat_next {cols:List (List Int)} {i:Nat} (hi:i < cols.length):(cols.take (i+1)).flatten.length=(cols.take i).flatten.length+cols[i].length:=by
 rw [List.take_succ_eq_append_getElem hi,List.flatten_append]
 simp
set_option maxHeartbeats 1000000 in
theorem status_no (C:Array Value) (col:Int) (w:World) (h:col < 0∨(0≤col∧col % 2=1)):
  Calls Tryz.prog 62 #[.agg C,.int .i64 col] w fun e w'=>e=.returned (cval (sign 32))∧Below w.heap.size w w':=by
 rcases h with h | ⟨h1,h2⟩
 ·go_enter Tryz.func62,Tryz.ntmps62
  go_wp2
  refine bodyPost_ret (v:=cval (sign 32)) (by simp [results,Tryz.results62,go_sem,sign]) rfl ?_
  exact⟨rfl,Tl.below2 _ _ _⟩
 ·have hm:(Int.tmod col 2)=1:=by rw [Int.tmod_eq_emod_of_nonneg h1];exact h2
  go_enter Tryz.func62,Tryz.ntmps62
  go_wp2
  refine bodyPost_ret (v:=cval (sign 32)) (by simp [results,Tryz.results62,go_sem,sign]) rfl ?_
  exact⟨rfl,Tl.below2 _ _ _⟩
set_option maxHeartbeats 2000000 in
theorem status_yes (v:Vw) (l:Lay) (C:Array Value) (hC:VC v l C) (K:Nat) (hK:(K:Int)≤9000000000000000000) (w:World) (hv:RdV w v l) (r:Cel) (hr:r=footT v (2*K)) (col:Int) (hcol:col=2*K):
  Calls Tryz.prog 62 #[.agg C,.int .i64 col] w fun e w'=>e=.returned (cval r)∧Below w.heap.size w w':=by
 obtain⟨c0,c1,c2,c3⟩:=hC.cells
 have HC:Hid (VC v l C):=hC
 have HV:Hid (RdV w v l):=hv
 have HR:Hid (r=footT v col):=by rw [hcol];exact hr
 have HK:Hid (col=2*K):=hcol
 have h1:0≤col:=by omega
 have hm:(Int.tmod col 2)=0:=by rw [Int.tmod_eq_emod_of_nonneg h1];omega
 have hq:(Int.tdiv col 2)=K:=by rw [Int.tdiv_eq_ediv_of_nonneg h1];omega
 have hml:=hv.m1
 have HI0:Hid (CInv w C ((w.alloc (cbox C)).alloc (kbox noCel))):=cinv_start w C
 clear hC hv hr hcol
 go_enter Tryz.func62,Tryz.ntmps62
 go_wp2
 go_loopw [5,22] (fun s5 s22 wr=>∃ i k:Nat,i≤l.its.length∧s5=.int .i64 k∧s22=.int .i64 i∧CInv w C wr∧k+((colsOf l.its).take i).flatten.length=K) (fun _ s22 _=>l.its.length - (intOf s22).toNat)
 case atStart=>exact⟨0,K,Nat.zero_le _,rfl,rfl,HI0.out,by simp⟩
 case round=>
  obtain⟨i,k,hi,rfl,rfl,hci,hk⟩:=hrel
  have HI:Hid (CInv w C wr):=hci
  have HKK:Hid (k+((colsOf l.its).take i).flatten.length=K):=hk
  have hk9:(k:Int)≤9000000000000000000:=by omega
  have HCO:Hid (v.cols=colsOf l.its):=HV.out.cols
  obtain⟨⟨b0,b1,b2,b3⟩,b4⟩:=cbox_cells HC.out hci.box
  obtain⟨⟨k0,k1,k2,k3⟩,k4⟩:=Tl.four hci.res
  clear hci hk c0 c1 c2 c3
  by_cases hlt:i < l.its.length
  ·have hlt':(i:Int) < (l.its.length:Int):=by omega
   have HRV:=HV.out.rd.below HI.out.below
   obtain⟨b,off,hco,hc⟩:=HRV.row.resolve_left (by intro h;rw [h] at hlt;simp at hlt)
   have h0:=hc i hlt
   obtain⟨⟨x1,x2,x3⟩,hx⟩:∃ x,x=l.its[i]:=⟨_,rfl⟩
   rw [←hx] at h0
   have h5:wr.cell? ⟨b,off+i,none⟩=some (.slice x2 x1.length x3):=h0
   have hmem:(x1,x2,x3)∈l.its:=by rw [hx];exact List.getElem_mem hlt
   have hxl:=HV.out.m2 _ hmem
   have HRX:Hid (RdL w x2 x1):=(HV.out.rd.each _ hmem).1
   have hic:i < (colsOf l.its).length:=by simpa using hlt
   have HXC:Hid ((colsOf l.its)[i]=x1):=by show _=_;simp [←hx]
   simp only at hxl
   clear hc h0 hx hmem HRV
   by_cases hkl:k < x1.length
   ·have hkl':(k:Int) < (x1.length:Int):=by omega
    obtain⟨bl,ol,hao,hcl⟩:=HRX.out.resolve_left (by intro h;subst h;simp at hkl)
    subst hao
    have h6w:=hcl k hkl
    have hbl:bl < w.heap.size:=World.block_lt_of_cell? _ _ h6w
    have h6:=(HI.out.below.cell (p:=⟨bl,ol+k,none⟩) hbl).trans h6w
    have nb1:¬ bl=w.heap.size+1:=by omega
    have nb2:¬ w.heap.size+1=bl:=by omega
    clear h6w
    obtain⟨q,hq0⟩:∃ q,q=x1.getD k 0:=⟨_,rfl⟩
    rw [←hq0] at h6
    obtain⟨d,hd⟩:∃ d,d=48+max 0 (min q 9):=⟨_,rfl⟩
    have HD:Hid (∀ w,Calls Tryz.prog 85 #[.int .i64 q] w fun e w'=>e=.returned (.int .i64 d)∧w'=w):=fun w=>by rw [hd];exact digit_any q w
    have HT:Hid (r=⟨d,0,0,decide (q=v.focus)⟩):=by
     show r=_
     have hkl2:k < (colsOf l.its)[i].length:=by rw [HXC.out];exact hkl
     have hf:=flat_at hic hkl2
     rw [HR.out,hd]
     refine footT_at v (k:=K) HK.out ?_ ?_
     ·rw [HCO.out, ←HKK.out];omega
     ·rw [HCO.out, ←HKK.out,Nat.add_comm,hf.2,hq0]
      simp only [HXC.out]
      simp [hkl]
    have hl1:=Tl.at_lt HI.out.res
    clear hcl hq0 hd HRX HXC
    go_wp2_with fail
    go_region_held3 (fun w'=>w'.cell? ⟨w.heap.size,57,none⟩=some (.int .i64 v.focus)∧w'.cell? ⟨bl,ol+k,none⟩=some (.int .i64 q)) (first | go_keep | (simp [*,World.cell?_alloc_past])) (first | (go_at_call 85;refine(HD.out _).mono ?_;rintro e w6 ⟨rfl,rfl⟩))
    go_wp2
    refine bodyPost_ret (v:=cval ⟨d,0,0,q==v.focus⟩) (by simp [results,Tryz.results62,go_sem, *]) rfl ?_
    rw [HT.out]
    exact⟨rfl,(Tl.set4_below (B:=w.heap.size+1) HI.out.below (by omega) _ _ _ _).drew⟩
   ·have hkl':(x1.length:Int)≤(k:Int):=by omega
    go_wp2
    go_roundw
    case rel=>exact⟨i+1,k - x1.length,by omega,by go_num,by go_num,HI.out,by
     have:=flat_next hic
     have h9:=HKK.out
     simp only [HXC.out] at this
     omega⟩
    case measure=>simp [intOf];omega
  ·have hge:(l.its.length:Int)≤(i:Int):=by omega
   have HT:Hid (r=sign 32):=by
    show r=sign 32
    rw [HR.out]
    refine footT_no v ?_
    have h9:=HKK.out
    rw [List.take_of_length_le (by simp;omega)] at h9
    rw [HCO.out]
    have:=HK.out
    omega
   go_wp2
   refine bodyPost_ret (v:=cval (sign 32)) (by simp [results,Tryz.results62,go_sem,sign, *]) rfl ?_
   rw [HT.out]
   exact⟨rfl,Tl.set4_below HI.out.below (by omega) _ _ _ _⟩
theorem status_any (v:Vw) (l:Lay) (C:Array Value) (hC:VC v l C) (col:Int) (hcol:col≤9223372036854775807) (w:World) (hv:RdV w v l) (r:Cel) (hr:r=footT v col):
  Calls Tryz.prog 62 #[.agg C,.int .i64 col] w fun e w'=>e=.returned (cval r)∧Below w.heap.size w w':=by
 by_cases h:col < 0∨(0≤col∧col % 2=1)
 ·rw [hr,footT_no v (by omega)]
  exact status_no C col w h
 ·exact status_yes v l C hC (col / 2).toNat (by omega) w hv r (by rw [hr];congr 1;omega) col (by omega)
end Go.Proofs.YtjikokfjnbhngaaGreatDoor.Pt

/- Where the cursor is. -/
namespace Go.Proofs.YtjikokfjnbhngaaGreatDoor.Pt
open Go.RowKit
open Go.Proofs.YtjikokfjnbhngaaGreatDoor.Tl (Rc noRc whereT shareT inR findT goodT paneB CIt colsOf RdT RdL tval tbox rval rbox rcells zbox cv)
def LowV (v:Vw):Prop:=∀ p,p < 6→ -9223372036854775808≤(v.gs p).row∧ -9223372036854775808≤(v.gs p).col
theorem ret_two {a b c d:Int} (h1:a=c) (h2:b=d):Ending.returned (.tuple #[.int .i64 a,.int .i64 b])=.returned (.tuple #[.int .i64 c,.int .i64 d]):=by rw [h1,h2]
theorem eql_rect (r:Rc) (w:World):(binOp .eql 63 (rval r) (.agg #[.int .i64 0,.int .i64 0,.int .i64 0,.int .i64 0])).run Tryz.prog w=.ok (.bool (decide (r.row=0∧r.col=0∧r.high=0∧r.wide=0))) w:=by
 obtain⟨a1,a2,a3,a4⟩:=r
 by_cases h1:a1=0
 ·by_cases h2:a2=0
  ·by_cases h3:a3=0
   ·by_cases h4:a4=0
    ·subst h1 h2 h3 h4
     simp [go_sem]
    ·subst h1 h2 h3
     simp [go_sem,h4]
   ·subst h1 h2
    simp [go_sem,h3]
  ·subst h1
   simp [go_sem,h2]
 ·simp [go_sem,h1]
set_option maxRecDepth 100000 in
set_option maxHeartbeats 2000000 in
theorem cursor_any (v:Vw) (l:Lay) (C:Array Value) (hC:VC v l C) (w:World) (hv:RdV w v l) (hlo:LowV v) (r:Int×Int) (hr:r=cursorV v):
  Calls Tryz.prog 63 #[.agg C] w fun e w'=>e=.returned (.tuple #[.int .i64 r.1,.int .i64 r.2])∧Below w.heap.size w w':=by
 obtain⟨c0,c1,c2,c3⟩:=hC.cells
 have HC:Hid (VC v l C):=hC
 have HV:Hid (RdV w v l):=hv
 have HS:Hid (C.size=58):=hC.size
 obtain⟨pl,hpl⟩:∃ x,x=v.place v.focus:=⟨_,rfl⟩
 have HP:Hid (∀ w,RdV w v l→Calls Tryz.prog 52 #[.agg C,.int .i64 v.focus] w fun e w'=>e=.returned (rval pl)∧Below w.heap.size w w'):=fun w hv=>place_any v l C HC.out v.focus w hv pl hpl
 have hcs:=place_cases v v.focus
 rw [←hpl] at hcs
 have hq:=eql_rect pl
 have hnum:=place_num v v.focus
 rw [←hpl] at hnum
 by_cases hz:pl.wide=0
 ·have HT:Hid (r=(0,0)):=by
   show r=(0,0)
   rw [hr]
   unfold cursorV
   rw [←hpl,if_pos hz]
  have hz2:decide (pl.row=0∧pl.col=0∧pl.high=0∧pl.wide=0)=true:=decide_eq_true (by rcases hcs with e | e <;>first | omega | (rw [e];decide))
  rw [hz2] at hq
  clear hr hC hv hpl hcs hz hz2 hnum
  go_enter Tryz.func63,Tryz.ntmps63
  go_wp2_with (first
   | (refine wpList_load_view C HS.out rfl _ rfl w.heap.size rfl (at_new w _) ?_)
   | (go_at_call 52;refine(HP.out _ (HV.out.below (below1 _ _))).mono ?_;rintro e w1 ⟨rfl,hb1⟩;have HB1:Hid (Below w.heap.size w w1):=Tl.below_to (below1 _ _) hb1;clear hb1 c0 c1 c2 c3)
   | fail)
  go_ret2
  rw [HT.out]
  exact⟨rfl,Tl.below_to HB1.out (below1 _ _)⟩
 ·obtain⟨m1,m2,m3,m4,m5,m6,m7,m8⟩:=hcs.resolve_left (fun e=>hz (by rw [e];rfl))
  obtain⟨P,hP⟩:∃ P:Nat,v.focus=P:=⟨v.focus.toNat,by omega⟩
  have hP6:P < 6:=by omega
  obtain⟨x,hx⟩:∃ x,x=v.gs P:=⟨_,rfl⟩
  obtain⟨ao,hao⟩:∃ x,x=l.ga P:=⟨_,rfl⟩
  obtain⟨cap,hcap⟩:∃ x,x=l.gc P:=⟨_,rfl⟩
  have hl:=hlo P hP6
  rw [←hx] at hl
  obtain⟨hl1,hl2⟩:=hl
  have HT:Hid (r=(pl.row+min x.row (pl.high - 1),pl.col+min x.col (pl.wide - 1))):=by
   show r=_
   rw [hr]
   unfold cursorV
   rw [←hpl,if_neg hz,hP,Int.toNat_natCast, ←hx]
  have hz2:decide (pl.row=0∧pl.col=0∧pl.high=0∧pl.wide=0)=false:=decide_eq_false (fun h=>hz h.2.2.2)
  rw [hz2] at hq
  have HGR:Hid (∀ w':World,w'.heap[w.heap.size]?=some (cbox C)→w'.rangeAt w.heap.size (1+P*9) (gcells x ao cap).toList):=fun w' hb=>by rw [hx,hao,hcap];exact cbox_grid HC.out hb P hP6
  rw [hP] at HP c3
  have HC3:Hid (C[57]?=some (.int .i64 P)):=c3
  have hP0:(0:Int)≤(P:Int):=by omega
  have hP6':(P:Int) < 6:=by omega
  obtain⟨n1,n2,n3,n4,n5,n6,n7,n8⟩:=hnum
  have HW1:Hid (IntKind.i64.wrap (pl.row+min x.row (pl.high - 1))=pl.row+min x.row (pl.high - 1)):=by show _=_;rw [IntKind.wrap_i64];omega
  have HW2:Hid (IntKind.i64.wrap (pl.col+min x.col (pl.wide - 1))=pl.col+min x.col (pl.wide - 1)):=by show _=_;rw [IntKind.wrap_i64];omega
  clear hr hC hv hpl hcs hz hz2 hlo hx hao hcap hP m1 m2 m5 m6 m7 m8
  go_enter Tryz.func63,Tryz.ntmps63
  go_wp2_with (first
   | (refine wpList_load_view C HS.out rfl _ rfl w.heap.size rfl (at_new w _) ?_)
   | (go_at_call 52;refine(HP.out _ (HV.out.below (below1 _ _))).mono ?_;rintro e w1 ⟨rfl,hb1⟩;have HB1:Hid (Below w.heap.size w w1∧w1.heap[w.heap.size]?=some (cbox C)):=⟨Tl.below_to (below1 _ _) hb1,below_block hb1 (at_new w _) (by simp)⟩;have k57:(w1.alloc (rbox pl)).cell? ⟨w.heap.size,57,none⟩=some (.int .i64 P):=(cell_of_row _ _ 57 _ _ _ (at_old HB1.out.2 _)).trans HC3.out;clear hb1 c0 c1 c2 c3;have G:=HGR.out (w1.alloc (rbox pl)) (at_old HB1.out.2 _);have g0:=G 0 _ rfl;have g1:=G 1 _ rfl;have g2:=G 2 _ rfl;have g3:=G 3 _ rfl;have g4:=G 4 _ rfl;have g5:=G 5 _ rfl;have g6:=G 6 _ rfl;have g7:=G 7 _ rfl;have g8:=G 8 _ rfl;simp only [Nat.add_zero] at g0;clear G;have hs1:w.heap.size < w1.heap.size:=Tl.at_lt HB1.out.2)
   | fail)
  obtain⟨W,hW⟩:∃ W,W=(w1.alloc (rbox pl)).alloc (gbox x ao cap):=⟨_,rfl⟩
  have HBW:Hid (Below w.heap.size w W):=by show Below w.heap.size w W;rw [hW];exact Tl.below_to HB1.out.1 (Tl.below2 _ _ _)
  obtain⟨⟨d0,d1,d2,d3⟩,d4⟩:=Tl.four (at_old (at_new w1 (rbox pl)) (gbox x ao cap))
  obtain⟨⟨f0,f1,f2,f3,f4,f5,f6,f7,f8⟩,f9⟩:=nine (at_new1 w1 (rbox pl) (gbox x ao cap))
  rw [←hW] at d0 d1 d2 d3 d4 f0 f1 f2 f3 f4 f5 f6 f7 f8 f9 ⊢
  clear hW g0 g1 g2 g3 g4 g5 g6 g7 g8 k57
  rcases(show pl.high - 1 < x.row∨x.row≤pl.high - 1 by omega) with e1 | e1 <;>rcases(show pl.wide - 1 < x.col∨x.col≤pl.wide - 1 by omega) with e2 | e2
  all_goals
   go_quiet (fail)
   go_wp2
   go_ret2
   rw [HT.out]
   refine⟨ret_two ?_ ?_,by first | exact HBW.out | exact Tl.below_to HBW.out (Tl.below_drewN _ _)⟩
   ·show _=pl.row+min x.row (pl.high - 1)
    first | omega | (rw [IntKind.wrap_i64];omega)
   ·show _=pl.col+min x.col (pl.wide - 1)
    first | omega | (rw [IntKind.wrap_i64];omega)
end Go.Proofs.YtjikokfjnbhngaaGreatDoor.Pt

/- A client's screen in the making: the boxes, the cells that are done. -/
namespace Go.Proofs.YtjikokfjnbhngaaGreatDoor.Pt
open Go.RowKit
open Go.Proofs.YtjikokfjnbhngaaGreatDoor.Tl (Rc noRc whereT shareT inR findT goodT paneB CIt colsOf RdT RdL tval tbox rval rbox rcells zbox cv)
def fillF (v:Vw) (W H:Int) (m:Nat):Nat→Cel:=fun i=>if i < m then cellsV v W H i else noCel
theorem fill_put (v:Vw) (W H:Int) (m:Nat):putF (fillF v W H m) m (cellsV v W H m)=fillF v W H (m+1):=by
 funext i
 unfold putF fillF
 by_cases e:i=m
 ·subst e;rw [if_pos rfl,if_pos (by omega)]
 ·rw [if_neg e]
  by_cases h:i < m
  ·rw [if_pos h,if_pos (by omega)]
  ·rw [if_neg h,if_neg (by omega)]
theorem fill_zero (v:Vw) (W H:Int) (i:Nat):noCel=fillF v W H 0 i:=by unfold fillF;rw [if_neg (by omega)]
theorem cellsV_at (v:Vw) {W H:Int} {I:Nat} {k c:Nat} (hc:(c:Int) < W) (hI:(I:Int)=k*W+c):cellsV v W H I=if (k:Int)=H - 1 then footT v c else cellT v k c:=by
 unfold cellsV
 have hd:(I:Int) / W=k:=by
  rw [hI,Int.add_comm,Int.add_mul_ediv_right _ _ (by omega),Int.ediv_eq_zero_of_lt (by omega) hc]
  omega
 have hm:(I:Int) % W=c:=by
  rw [hI,Int.add_comm,Int.add_mul_emod_self_right,Int.emod_eq_of_lt (by omega) hc]
 rw [hd,hm]
structure ScInv (w:World) (C:Array Value) (x:Gr) (b G cp:Nat) (f:Nat→Cel) (wr:World):Prop where
 box:wr.heap[w.heap.size]?=some (cbox C)
 res:wr.heap[w.heap.size+1]?=some gzero
 g:wr.heap[G]?=some (gbox x (some ⟨b,0,none⟩) cp)
 scr:Scr wr b x.n f
 below:Below w.heap.size w wr
 n1:w.heap.size+1 < b
 n2:b < G
theorem ScInv.next {w:World} {C:Array Value} {x:Gr} {b G cp:Nat} {f:Nat→Cel} {wr w2:World} (h:ScInv w C x b G cp f wr) (hb:Below wr.heap.size wr w2):ScInv w C x b G cp f w2:=
 ⟨below_block hb h.box (Tl.at_lt h.box),below_block hb h.res (Tl.at_lt h.res),below_block hb h.g (Tl.at_lt h.g),h.scr.below hb h.scr.lt,Tl.below_to h.below hb,h.n1,h.n2⟩
theorem ScInv.drew {w:World} {C:Array Value} {x:Gr} {b G cp:Nat} {f:Nat→Cel} {wr:World} (h:ScInv w C x b G cp f wr):ScInv w C x b G cp f wr.drew:=
 ⟨h.box,h.res,h.g,h.scr.drew,h.below.drew,h.n1,h.n2⟩
theorem heap_set4 {w:World} {B b i0 i1 i2 i3:Nat} {o:Obj} (h:w.heap[B]?=some o) (hne:B≠b) (u0 u1 u2 u3:Value):((((w.setCell ⟨b,i0,none⟩ u0).setCell ⟨b,i1,none⟩ u1).setCell ⟨b,i2,none⟩ u2).setCell ⟨b,i3,none⟩ u3).heap[B]?=some o:=by
 rw [Below.heap_setCell _ _ _ _ hne,Below.heap_setCell _ _ _ _ hne,Below.heap_setCell _ _ _ _ hne,Below.heap_setCell _ _ _ _ hne]
 exact h
theorem ScInv.put {w:World} {C:Array Value} {x:Gr} {b G cp:Nat} {f:Nat→Cel} {wr:World} (h:ScInv w C x b G cp f wr) (i:Nat) (c:Cel) (hi:i < x.n):
  ScInv w C x b G cp (putF f i c) ((((wr.setCell ⟨b,i*4,none⟩ (.int .i64 c.ch)).setCell ⟨b,i*4+1,none⟩ (.int .i64 c.ink)).setCell ⟨b,i*4+2,none⟩ (.int .i64 c.pic)).setCell ⟨b,i*4+3,none⟩ (.bool c.bold)):=by
 have n1:=h.n1
 have n2:=h.n2
 exact⟨heap_set4 h.box (by omega) _ _ _ _,heap_set4 h.res (by omega) _ _ _ _,heap_set4 h.g (by omega) _ _ _ _,h.scr.put i _ _ _ _ c hi rfl rfl rfl rfl,(((h.below.setCell (by simp;omega) _).setCell (by simp;omega) _).setCell (by simp;omega) _).setCell (by simp;omega) _,h.n1,h.n2⟩
theorem ScInv.setRow {w:World} {C:Array Value} {x:Gr} {b G cp:Nat} {f:Nat→Cel} {wr:World} (h:ScInv w C x b G cp f wr) (R:Int):ScInv w C {x with row:=R} b G cp f (wr.setCell ⟨G,3,none⟩ (.int .i64 R)):=by
 have n1:=h.n1
 have n2:=h.n2
 exact⟨by rw [Below.heap_setCell _ _ _ _ (by simp;omega)];exact h.box,by rw [Below.heap_setCell _ _ _ _ (by simp;omega)];exact h.res,heap_setCell_same _ G 3 _ _ _ h.g,h.scr.set (by simp;omega) _,h.below.setCell (by simp;omega) _,h.n1,h.n2⟩
theorem yields_view {ops:Array Oper} {S:World→Prop} {op:Oper} {a:Act} (hw:Region.wanted op (yielded ops a.tmps)=true) (x:Operand) (ho:op.op=.load 58 x) (b:Nat) (hx:a.eval x=.pointer (some ⟨b,0,none⟩)) (C:Array Value) (hs:C.size=58) (hS:∀ w,S w→w.heap[b]?=some (cbox C)):YieldsIf Tryz.prog ops S op (.agg C) a:=by
 have:=yieldsIf_load_mid (P:=Tryz.prog) hw 58 x ho b 0 hx C.toList _ (fun w h=>cbox_range (hS w h)) Tryz.underlying58 rfl (by rw [Array.length_toList,hs];exact infoV)
 simpa using this
end Go.Proofs.YtjikokfjnbhngaaGreatDoor.Pt

/- A client's screen. -/
namespace Go.Proofs.YtjikokfjnbhngaaGreatDoor.Pt
open Go.RowKit
open Go.Proofs.YtjikokfjnbhngaaGreatDoor.Tl (Rc noRc whereT shareT inR findT goodT paneB CIt colsOf RdT RdL tval tbox rval rbox rcells zbox cv)
theorem cell_set_ne {w:World} {b i j:Nat} {u x:Value} (h:w.cell? ⟨b,i,none⟩=some x) (hne:j≠i):(w.setCell ⟨b,j,none⟩ u).cell? ⟨b,i,none⟩=some x:=by
 rw [World.cell?_setCell_other _ _ _ _ (fun e=>hne (by simp only [Addr.mk.injEq] at e;exact e.2.1))]
 exact h
set_option maxRecDepth 100000 in
set_option maxHeartbeats 4000000 in
theorem screen_any (v:Vw) (l:Lay) (C:Array Value) (hC:VC v l C) (wide high:Int) (w:World) (hv:RdV w v l) (hlo:LowV v) (x:Gr) (hx:x=screenV v wide high):
  Calls Tryz.prog 38 #[.agg C,.int .i64 wide,.int .i64 high] w fun e w'=>∃ b,e=.returned (gval x (some ⟨b,0,none⟩) x.n)∧Scr w' b x.n x.f∧Below w.heap.size w w':=by
 obtain⟨t,ht⟩:∃ t,t=newG wide high:=⟨_,rfl⟩
 have ok:OkG t:=by rw [ht];exact ok_new wide high
 obtain⟨q1,q2,_⟩:=ok.nums
 have HN:Hid (∀ w,Calls Tryz.prog 36 #[.int .i64 wide,.int .i64 high] w fun e w'=>∃ b,e=.returned (gval t (some ⟨b,0,none⟩) t.n)∧Scr w' b t.n t.f∧w.heap.size≤b∧Below w.heap.size w w'):=fun w=>new_any wide high w t ht
 have HTF:Hid (∀ i,t.f i=fillF v t.wide t.high 0 i):=by
  intro i
  rw [←fill_zero,ht]
  rfl
 have HV:Hid (RdV w v l):=hv
 have HS:Hid (C.size=58):=hC.size
 have HVC:Hid (VC v l C):=hC
 have HCL:Hid (∀ (row col:Int) w,RdV w v l→Calls Tryz.prog 29 #[.agg C,.int .i64 row,.int .i64 col] w fun e w'=>e=.returned (cval (cellT v row col))∧Below w.heap.size w w'):=fun row col w hv=>cell_any v l C hC row col w hv _ rfl
 have HST:Hid (∀ (col:Int),col≤24→∀ w,RdV w v l→Calls Tryz.prog 62 #[.agg C,.int .i64 col] w fun e w'=>e=.returned (cval (footT v col))∧Below w.heap.size w w'):=fun col hc w hv=>status_any v l C hC col (by omega) w hv _ rfl
 obtain⟨cu,hcu⟩:∃ cu,cu=cursorV v:=⟨_,rfl⟩
 have HCU:Hid (∀ w,RdV w v l→Calls Tryz.prog 63 #[.agg C] w fun e w'=>e=.returned (.tuple #[.int .i64 cu.1,.int .i64 cu.2])∧Below w.heap.size w w'):=fun w hv=>cursor_any v l C hC w hv hlo cu hcu
 have HX:Hid (x={t with f:=cellsV v t.wide t.high,row:=max 0 (min cu.1 (t.high - 1)),col:=max 0 (min cu.2 (t.wide - 1))}):=by
  show x=_
  rw [hx,hcu,ht]
  rfl
 obtain⟨cu1,cu2⟩:=cu
 simp only at HCU HX
 have h1:=ok.w1
 have h2:=ok.w2
 have h3:=ok.h1
 have h4:=ok.h2
 have HQ:Hid ((t.n:Int)=t.high*t.wide∧t.high*t.wide≤240):=⟨q1,q2⟩
 obtain⟨Wn,hWn⟩:∃ n:Nat,t.wide=n:=⟨t.wide.toNat,by omega⟩
 obtain⟨Hn,hHn⟩:∃ n:Nat,t.high=(n:Int)+1:=⟨(t.high - 1).toNat,by omega⟩
 have HWH:Hid (t.wide=Wn∧t.high=(Hn:Int)+1):=⟨hWn,hHn⟩
 have HB0:Hid (∀ o1 o2:Obj,((w.alloc o1).alloc o2).heap[w.heap.size]?=some o1):=fun o1 o2=>at_old (at_new w o1) o2
 clear hx hcu ht ok q1 q2 hv hC hlo hWn hHn
 go_enter Tryz.func38,Tryz.ntmps38
 go_wp2_with (first
  | (go_at_call 36;refine(HN.out _).mono ?_;rintro e w1 ⟨b,rfl,hs,hbb,hb1⟩;have HI0:Hid (ScInv w C t b w1.heap.size t.n (fillF v t.wide t.high 0) (w1.alloc (gbox t (some ⟨b,0,none⟩) t.n))):=⟨at_old (below_block hb1 (at_old (at_new w _) _) (by simp;omega)) _,at_old (below_block hb1 (at_new1 w _ _) (by simp)) _,at_new _ _,(hs.congr (fun i _=>HTF.out i)).alloc _,Tl.below_to (Tl.below_to (Tl.below2 _ _ _) hb1) (below1 _ _),(by simp at hbb;omega),hs.lt⟩;clear hs hbb hb1)
  | fail)
 go_loopw [21] (fun i wr=>∃ k:Nat,k≤Hn∧i=.int .i64 k∧ScInv w C t b w1.heap.size t.n (fillF v t.wide t.high (k*Wn)) wr) (fun i _=>Hn - (intOf i).toNat)
 case atStart=>exact⟨0,Nat.zero_le _,rfl,by rw [Nat.zero_mul];exact HI0.out⟩
 case round=>
  obtain⟨k,hk,rfl,hi⟩:=hrel
  have HI:Hid (ScInv w C t b w1.heap.size t.n (fillF v t.wide t.high (k*Wn)) wr):=hi
  obtain⟨⟨g0,g1,g2,g3,g4,g5,g6,g7,g8⟩,g9⟩:=nine hi.g
  clear hi
  by_cases hlt:k < Hn
  ·have hlt':(k:Int) < t.high - 1:=by have:=HWH.out.2;omega
   go_wp2_with fail
   go_loopw [26] (fun i wr2=>∃ c:Nat,c≤Wn∧i=.int .i64 c∧ScInv w C t b w1.heap.size t.n (fillF v t.wide t.high (k*Wn+c)) wr2) (fun i _=>Wn - (intOf i).toNat)
   case atStart=>exact⟨0,Nat.zero_le _,rfl,HI.out⟩
   case round=>
    obtain⟨c,hc,rfl,hi⟩:=hrel
    rename_i wr0 wr
    have HJ:Hid (ScInv w C t b w1.heap.size t.n (fillF v t.wide t.high (k*Wn+c)) wr):=hi
    clear g0 g1 g2 g3 g4 g5 g6 g7 g8 g9
    obtain⟨⟨g0,g1,g2,g3,g4,g5,g6,g7,g8⟩,g9⟩:=nine hi.g
    clear hi
    by_cases hcl:c < Wn
    ·have hcl':(c:Int) < t.wide:=by have:=HWH.out.1;omega
     obtain⟨I,hI⟩:∃ I:Nat,I=k*Wn+c:=⟨_,rfl⟩
     have hI2:(I:Int)=k*t.wide+c:=by rw [hI,HWH.out.1];push_cast;rfl
     have hIn:(I:Int) < t.n:=by
      have:=mul_bound (r:=(k:Int)) (h:=t.high) (w:=t.wide) (by omega) (by omega) (by omega)
      have:=HQ.out.1
      omega
     obtain⟨p,hp⟩:∃ p,p=(k:Int)*t.wide:=⟨_,rfl⟩
     have hp0:0≤p:=by rw [hp];exact Int.mul_nonneg (by omega) (by omega)
     have hn9:(t.n:Int)≤240:=by have:=HQ.out;omega
     have hwr:IntKind.i64.wrap ((k:Int)*t.wide)=p:=by rw [←hp,IntKind.wrap_i64];omega
     have hwr2:IntKind.i64.wrap (p+c)=(I:Int):=by rw [hI2, ←hp,IntKind.wrap_i64];omega
     obtain⟨y,hy⟩:∃ y,y=cellT v k c:=⟨_,rfl⟩
     have HYC:Hid (∀ w,RdV w v l→Calls Tryz.prog 29 #[.agg C,.int .i64 k,.int .i64 c] w fun e w'=>e=.returned (cval y)∧Below w.heap.size w w'):=fun w hv=>by rw [hy];exact HCL.out k c w hv
     have HY:Hid (y=cellsV v t.wide t.high I):=by
      show y=_
      rw [cellsV_at v hcl' hI2,if_neg (by omega),hy]
     have HII:Hid (I=k*Wn+c∧I < t.n):=⟨hI,by omega⟩
     have n1:=HJ.out.n1
     have n2:=HJ.out.n2
     have ne1:¬ b=w1.heap.size:=by omega
     have ne2:¬ w1.heap.size=b:=by omega
     clear hI hI2 hp hy HCL
     go_wp2_with fail
     refine bg (fun w'=>w'.heap[w.heap.size]?=some (cbox C)∧w'.cell? ⟨w1.heap.size,0,none⟩=some (.int .i64 t.wide)∧w'.cell? ⟨w1.heap.size,2,none⟩=some (.slice (some ⟨b,0,none⟩) t.n t.n)) ⟨HJ.out.box,g0,g2⟩ (fun hHeld=>?_)
     refine wpAnyH_take (i:=0) (v:=?_) rfl (by kernel_rfl) (by kernel_rfl) (by kernel_rfl) (fun _ _ _ h=>h) (Or.inl ⟨by rfl,?_⟩) (by assumption) ?_
     rotate_left
     ·((intro w0 hSw;(try dsimp only at hSw);go_simp) <;>with_reducible rfl)
     try simp only [Act.put,List.setIfInBounds_toArray,List.set_cons_zero,List.set_cons_succ,List.getElem_toArray,List.getElem_cons_zero]
     refine wpAnyH_take (i:=1) (v:=?_) rfl (by kernel_rfl) (by kernel_rfl) (by kernel_rfl) (fun _ _ _ h=>h) (Or.inl ⟨by rfl,?_⟩) (by assumption) ?_
     rotate_left
     ·((intro w0 hSw;(try dsimp only at hSw);go_simp) <;>with_reducible rfl)
     try simp only [Act.put,List.setIfInBounds_toArray,List.set_cons_zero,List.set_cons_succ,List.getElem_toArray,List.getElem_cons_zero,List.getElem_cons_succ]
     refine wpAnyH_take (i:=2) (v:=?_) rfl (by kernel_rfl) (by kernel_rfl) (by kernel_rfl) (fun _ _ _ h=>h) (Or.inl ⟨by rfl,?_⟩) (by assumption) ?_
     rotate_left
     ·((intro w0 hSw;(try dsimp only at hSw);go_simp) <;>with_reducible rfl)
     try simp only [Act.put,List.setIfInBounds_toArray,List.set_cons_zero,List.set_cons_succ,List.getElem_toArray,List.getElem_cons_zero,List.getElem_cons_succ]
     refine wpAnyH_take (i:=3) (v:=?_) rfl (by kernel_rfl) (by kernel_rfl) (by kernel_rfl) (fun _ _ _ h=>h) (Or.inl ⟨by rfl,?_⟩) (by assumption) ?_
     rotate_left
     ·((intro w0 hSw;(try dsimp only at hSw);go_simp) <;>with_reducible rfl)
     try simp only [Act.put,List.setIfInBounds_toArray,List.set_cons_zero,List.set_cons_succ,List.getElem_toArray,List.getElem_cons_zero,List.getElem_cons_succ]
     refine wpAnyH_take (i:=4) (v:=?_) rfl (by kernel_rfl) (by kernel_rfl) (by kernel_rfl) (fun _ _ _ h=>h) (Or.inl ⟨by rfl,?_⟩) (by assumption) ?_
     rotate_left
     ·((intro w0 hSw;(try dsimp only at hSw);go_simp) <;>with_reducible rfl)
     try simp only [Act.put,List.setIfInBounds_toArray,List.set_cons_zero,List.set_cons_succ,List.getElem_toArray,List.getElem_cons_zero,List.getElem_cons_succ]
     refine wpAnyH_take (i:=5) (v:=?_) rfl (by kernel_rfl) (by kernel_rfl) (by kernel_rfl) (fun _ _ _ h=>h) (Or.inl ⟨by rfl,?_⟩) (by assumption) ?_
     rotate_left
     ·((intro w0 hSw;(try dsimp only at hSw);go_simp) <;>with_reducible rfl)
     try simp only [Act.put,List.setIfInBounds_toArray,List.set_cons_zero,List.set_cons_succ,List.getElem_toArray,List.getElem_cons_zero,List.getElem_cons_succ]
     refine wpAnyH_take (i:=6) (v:=?_) rfl (by kernel_rfl) (by kernel_rfl) (by kernel_rfl) (fun _ _ _ h=>h) (Or.inl ⟨by rfl,?_⟩) (by assumption) ?_
     rotate_left
     ·((intro w0 hSw;(try dsimp only at hSw);go_simp) <;>with_reducible rfl)
     try simp only [Act.put,List.setIfInBounds_toArray,List.set_cons_zero,List.set_cons_succ,List.getElem_toArray,List.getElem_cons_zero,List.getElem_cons_succ]
     refine wpAnyH_take (i:=7) (v:=?_) rfl (by kernel_rfl) (by kernel_rfl) (by kernel_rfl) (fun _ _ _ h=>h) (Or.inl ⟨by rfl,?_⟩) (by assumption) ?_
     rotate_left
     ·((intro w0 hSw;(try dsimp only at hSw);go_simp) <;>with_reducible rfl)
     try simp only [Act.put,List.setIfInBounds_toArray,List.set_cons_zero,List.set_cons_succ,List.getElem_toArray,List.getElem_cons_zero,List.getElem_cons_succ]
     refine wpAnyH_take (i:=8) (v:=.agg C) rfl (by kernel_rfl) (by kernel_rfl) (by kernel_rfl) (fun _ _ _ h=>h) (yields_view (by rfl) _ rfl w.heap.size rfl C HS.out (fun w0 h=>h.1)) (by assumption) ?_
     try simp only [Act.put,List.setIfInBounds_toArray,List.set_cons_zero,List.set_cons_succ,List.getElem_toArray,List.getElem_cons_zero,List.getElem_cons_succ]
     refine wpAnyH_take (i:=9) (v:=?_) rfl (by kernel_rfl) (by kernel_rfl) (by kernel_rfl) (fun _ _ _ h=>h) (Or.inl ⟨by rfl,?_⟩) (by assumption) ?_
     rotate_left
     ·((intro w0 hSw;(try dsimp only at hSw);go_simp) <;>with_reducible rfl)
     try simp only [Act.put,List.setIfInBounds_toArray,List.set_cons_zero,List.set_cons_succ,List.getElem_toArray,List.getElem_cons_zero,List.getElem_cons_succ]
     refine wpAnyH_take (i:=10) (v:=?_) rfl (by kernel_rfl) (by kernel_rfl) (by kernel_rfl) (fun _ _ _ h=>h) (Or.inl ⟨by rfl,?_⟩) (by assumption) ?_
     rotate_left
     ·((intro w0 hSw;(try dsimp only at hSw);go_simp) <;>with_reducible rfl)
     try simp only [Act.put,List.setIfInBounds_toArray,List.set_cons_zero,List.set_cons_succ,List.getElem_toArray,List.getElem_cons_zero,List.getElem_cons_succ]
     refine wpAnyH_ready (rs:=[11]) (by kernel_rfl) (by simp) ?_
     refine AllReadyH.cons rfl (fun K hK=>?_) AllReadyH.nil
     go_simp
     go_at_call 29
     refine(HYC.out _ (HV.out.below HJ.out.below.drew)).mono ?_
     rintro e w3 ⟨rfl,hb3⟩
     have HJ3:Hid (ScInv w C t b w1.heap.size t.n (fillF v t.wide t.high (k*Wn+c)) w3):=HJ.out.drew.next hb3
     clear g0 g1 g2 g3 g4 g5 g6 g7 g8 g9 hb3
     obtain⟨⟨g0,g1,g2,g3,g4,g5,g6,g7,g8⟩,g9⟩:=nine HJ3.out.g
     obtain⟨t0,t1,t2,t3⟩:=HJ3.out.scr.cells I HII.out.2
     have hfr:=HJ3.out.scr.free
     try go_simp
     refine hK.out _ _ ⟨HJ3.out.box,g0,g2⟩ (fun hHeld=>?_)
     clear hK K
     try simp only [Act.put,List.setIfInBounds_toArray,List.set_cons_zero,List.set_cons_succ,List.getElem_toArray,List.getElem_cons_zero,List.getElem_cons_succ]
     refine wpAnyH_take (i:=12) (v:=?_) rfl (by kernel_rfl) (by kernel_rfl) (by kernel_rfl) (fun _ _ _ h=>h) (Or.inl ⟨by rfl,?_⟩) (by assumption) ?_
     rotate_left
     ·((intro w0 hSw;(try dsimp only at hSw);go_simp) <;>with_reducible rfl)
     try simp only [Act.put,List.setIfInBounds_toArray,List.set_cons_zero,List.set_cons_succ,List.getElem_toArray,List.getElem_cons_zero,List.getElem_cons_succ]
     refine wpAnyH_ready (rs:=[13]) (by kernel_rfl) (by simp) ?_
     refine AllReadyH.cons rfl (fun K hK=>?_) AllReadyH.nil
     go_simp
     refine hK.out _ _ ⟨(HJ3.out.put I y HII.out.2).box,(nine (HJ3.out.put I y HII.out.2).g).1.1,(nine (HJ3.out.put I y HII.out.2).g).1.2.2.1⟩ (fun hHeld=>?_)
     clear hK K
     try simp only [Act.put,List.setIfInBounds_toArray,List.set_cons_zero,List.set_cons_succ,List.getElem_toArray,List.getElem_cons_zero,List.getElem_cons_succ]
     refine dn ?_
     have HJ4:Hid (ScInv w C t b w1.heap.size t.n (fillF v t.wide t.high (k*Wn+(c+1))) ((((w3.setCell ⟨b,I*4,none⟩ (.int .i64 y.ch)).setCell ⟨b,I*4+1,none⟩ (.int .i64 y.ink)).setCell ⟨b,I*4+2,none⟩ (.int .i64 y.pic)).setCell ⟨b,I*4+3,none⟩ (.bool y.bold))):=by
      have hp:=HJ3.out.put I y HII.out.2
      rw [HY.out, ←HII.out.1,fill_put,HII.out.1] at hp
      rw [HY.out,HII.out.1]
      exact hp
     go_wp2
     go_roundw
     case rel=>exact⟨c+1,by omega,by go_num,HJ4.out⟩
     case measure=>simp [intOf];omega
    ·have hge:t.wide≤(c:Int):=by have:=HWH.out.1;omega
     have HE:Hid (k*Wn+c=(k+1)*Wn):=by show _=_;rw [Nat.add_mul];omega
     go_wp2_with fail
     go_roundw
     case rel=>exact⟨k+1,by omega,by go_num,by rw [←HE.out];exact HJ.out⟩
     case measure=>simp [intOf];omega
  ·have hge:t.high - 1≤(k:Int):=by have:=HWH.out.2;omega
   have HKH:Hid (k=Hn):=(by omega:k=Hn)
   go_wp2_with fail
   go_loopw [46] (fun i wr2=>∃ c:Nat,c≤Wn∧i=.int .i64 c∧ScInv w C t b w1.heap.size t.n (fillF v t.wide t.high (Hn*Wn+c)) wr2) (fun i _=>Wn - (intOf i).toNat)
   case atStart=>exact⟨0,Nat.zero_le _,rfl,by rw [←HKH.out];exact HI.out⟩
   case round=>
    obtain⟨c,hc,rfl,hi⟩:=hrel
    rename_i wr0 wr
    have HJ:Hid (ScInv w C t b w1.heap.size t.n (fillF v t.wide t.high (Hn*Wn+c)) wr):=hi
    clear g0 g1 g2 g3 g4 g5 g6 g7 g8 g9
    obtain⟨⟨g0,g1,g2,g3,g4,g5,g6,g7,g8⟩,g9⟩:=nine hi.g
    clear hi
    by_cases hcl:c < Wn
    ·have hcl':(c:Int) < t.wide:=by have:=HWH.out.1;omega
     obtain⟨I,hI⟩:∃ I:Nat,I=Hn*Wn+c:=⟨_,rfl⟩
     have hI2:(I:Int)=(Hn:Int)*t.wide+c:=by rw [hI,HWH.out.1];push_cast;rfl
     have hIn:(I:Int) < t.n:=by
      have:=mul_bound (r:=(Hn:Int)) (h:=t.high) (w:=t.wide) (by omega) (by have:=HWH.out.2;omega) (by omega)
      have:=HQ.out.1
      omega
     obtain⟨p,hp⟩:∃ p,p=(Hn:Int)*t.wide:=⟨_,rfl⟩
     have hp0:0≤p:=by rw [hp];exact Int.mul_nonneg (by omega) (by omega)
     have hn9:(t.n:Int)≤240:=by have:=HQ.out;omega
     have hwr:IntKind.i64.wrap ((t.high - 1)*t.wide)=p:=by rw [show t.high - 1=(Hn:Int) by have:=HWH.out.2;omega, ←hp,IntKind.wrap_i64];omega
     have hwr2:IntKind.i64.wrap (p+c)=(I:Int):=by rw [hI2, ←hp,IntKind.wrap_i64];omega
     obtain⟨y,hy⟩:∃ y,y=footT v c:=⟨_,rfl⟩
     have HYC:Hid (∀ w,RdV w v l→Calls Tryz.prog 62 #[.agg C,.int .i64 c] w fun e w'=>e=.returned (cval y)∧Below w.heap.size w w'):=fun w hv=>by rw [hy];exact HST.out c (by omega) w hv
     have HY:Hid (y=cellsV v t.wide t.high I):=by
      show y=_
      rw [cellsV_at v hcl' hI2,if_pos (by have:=HWH.out.2;omega),hy]
     have HII:Hid (I=Hn*Wn+c∧I < t.n):=⟨hI,by omega⟩
     have n1:=HJ.out.n1
     have n2:=HJ.out.n2
     have ne1:¬ b=w1.heap.size:=by omega
     have ne2:¬ w1.heap.size=b:=by omega
     clear hI hI2 hp hy
     go_wp2_with fail
     refine bg (fun w'=>w'.heap[w.heap.size]?=some (cbox C)∧w'.cell? ⟨w1.heap.size,0,none⟩=some (.int .i64 t.wide)∧w'.cell? ⟨w1.heap.size,2,none⟩=some (.slice (some ⟨b,0,none⟩) t.n t.n)) ⟨HJ.out.box,g0,g2⟩ (fun hHeld=>?_)
     refine wpAnyH_take (i:=0) (v:=?_) rfl (by kernel_rfl) (by kernel_rfl) (by kernel_rfl) (fun _ _ _ h=>h) (Or.inl ⟨by rfl,?_⟩) (by assumption) ?_
     rotate_left
     ·((intro w0 hSw;(try dsimp only at hSw);go_simp) <;>with_reducible rfl)
     try simp only [Act.put,List.setIfInBounds_toArray,List.set_cons_zero,List.set_cons_succ,List.getElem_toArray,List.getElem_cons_zero]
     refine wpAnyH_take (i:=1) (v:=?_) rfl (by kernel_rfl) (by kernel_rfl) (by kernel_rfl) (fun _ _ _ h=>h) (Or.inl ⟨by rfl,?_⟩) (by assumption) ?_
     rotate_left
     ·((intro w0 hSw;(try dsimp only at hSw);go_simp) <;>with_reducible rfl)
     try simp only [Act.put,List.setIfInBounds_toArray,List.set_cons_zero,List.set_cons_succ,List.getElem_toArray,List.getElem_cons_zero,List.getElem_cons_succ]
     refine wpAnyH_take (i:=2) (v:=?_) rfl (by kernel_rfl) (by kernel_rfl) (by kernel_rfl) (fun _ _ _ h=>h) (Or.inl ⟨by rfl,?_⟩) (by assumption) ?_
     rotate_left
     ·((intro w0 hSw;(try dsimp only at hSw);go_simp) <;>with_reducible rfl)
     try simp only [Act.put,List.setIfInBounds_toArray,List.set_cons_zero,List.set_cons_succ,List.getElem_toArray,List.getElem_cons_zero,List.getElem_cons_succ]
     refine wpAnyH_take (i:=3) (v:=?_) rfl (by kernel_rfl) (by kernel_rfl) (by kernel_rfl) (fun _ _ _ h=>h) (Or.inl ⟨by rfl,?_⟩) (by assumption) ?_
     rotate_left
     ·((intro w0 hSw;(try dsimp only at hSw);go_simp) <;>with_reducible rfl)
     try simp only [Act.put,List.setIfInBounds_toArray,List.set_cons_zero,List.set_cons_succ,List.getElem_toArray,List.getElem_cons_zero,List.getElem_cons_succ]
     refine wpAnyH_take (i:=4) (v:=?_) rfl (by kernel_rfl) (by kernel_rfl) (by kernel_rfl) (fun _ _ _ h=>h) (Or.inl ⟨by rfl,?_⟩) (by assumption) ?_
     rotate_left
     ·((intro w0 hSw;(try dsimp only at hSw);go_simp) <;>with_reducible rfl)
     try simp only [Act.put,List.setIfInBounds_toArray,List.set_cons_zero,List.set_cons_succ,List.getElem_toArray,List.getElem_cons_zero,List.getElem_cons_succ]
     refine wpAnyH_take (i:=5) (v:=?_) rfl (by kernel_rfl) (by kernel_rfl) (by kernel_rfl) (fun _ _ _ h=>h) (Or.inl ⟨by rfl,?_⟩) (by assumption) ?_
     rotate_left
     ·((intro w0 hSw;(try dsimp only at hSw);go_simp) <;>with_reducible rfl)
     try simp only [Act.put,List.setIfInBounds_toArray,List.set_cons_zero,List.set_cons_succ,List.getElem_toArray,List.getElem_cons_zero,List.getElem_cons_succ]
     refine wpAnyH_take (i:=6) (v:=?_) rfl (by kernel_rfl) (by kernel_rfl) (by kernel_rfl) (fun _ _ _ h=>h) (Or.inl ⟨by rfl,?_⟩) (by assumption) ?_
     rotate_left
     ·((intro w0 hSw;(try dsimp only at hSw);go_simp) <;>with_reducible rfl)
     try simp only [Act.put,List.setIfInBounds_toArray,List.set_cons_zero,List.set_cons_succ,List.getElem_toArray,List.getElem_cons_zero,List.getElem_cons_succ]
     refine wpAnyH_take (i:=7) (v:=?_) rfl (by kernel_rfl) (by kernel_rfl) (by kernel_rfl) (fun _ _ _ h=>h) (Or.inl ⟨by rfl,?_⟩) (by assumption) ?_
     rotate_left
     ·((intro w0 hSw;(try dsimp only at hSw);go_simp) <;>with_reducible rfl)
     try simp only [Act.put,List.setIfInBounds_toArray,List.set_cons_zero,List.set_cons_succ,List.getElem_toArray,List.getElem_cons_zero,List.getElem_cons_succ]
     refine wpAnyH_take (i:=8) (v:=.agg C) rfl (by kernel_rfl) (by kernel_rfl) (by kernel_rfl) (fun _ _ _ h=>h) (yields_view (by rfl) _ rfl w.heap.size rfl C HS.out (fun w0 h=>h.1)) (by assumption) ?_
     try simp only [Act.put,List.setIfInBounds_toArray,List.set_cons_zero,List.set_cons_succ,List.getElem_toArray,List.getElem_cons_zero,List.getElem_cons_succ]
     refine wpAnyH_take (i:=9) (v:=?_) rfl (by kernel_rfl) (by kernel_rfl) (by kernel_rfl) (fun _ _ _ h=>h) (Or.inl ⟨by rfl,?_⟩) (by assumption) ?_
     rotate_left
     ·((intro w0 hSw;(try dsimp only at hSw);go_simp) <;>with_reducible rfl)
     try simp only [Act.put,List.setIfInBounds_toArray,List.set_cons_zero,List.set_cons_succ,List.getElem_toArray,List.getElem_cons_zero,List.getElem_cons_succ]
     refine wpAnyH_ready (rs:=[10]) (by kernel_rfl) (by simp) ?_
     refine AllReadyH.cons rfl (fun K hK=>?_) AllReadyH.nil
     go_simp
     go_at_call 62
     refine(HYC.out _ (HV.out.below HJ.out.below.drew)).mono ?_
     rintro e w3 ⟨rfl,hb3⟩
     have HJ3:Hid (ScInv w C t b w1.heap.size t.n (fillF v t.wide t.high (Hn*Wn+c)) w3):=HJ.out.drew.next hb3
     clear g0 g1 g2 g3 g4 g5 g6 g7 g8 g9 hb3
     obtain⟨⟨g0,g1,g2,g3,g4,g5,g6,g7,g8⟩,g9⟩:=nine HJ3.out.g
     obtain⟨t0,t1,t2,t3⟩:=HJ3.out.scr.cells I HII.out.2
     have hfr:=HJ3.out.scr.free
     try go_simp
     refine hK.out _ _ ⟨HJ3.out.box,g0,g2⟩ (fun hHeld=>?_)
     clear hK K
     try simp only [Act.put,List.setIfInBounds_toArray,List.set_cons_zero,List.set_cons_succ,List.getElem_toArray,List.getElem_cons_zero,List.getElem_cons_succ]
     refine wpAnyH_take (i:=11) (v:=?_) rfl (by kernel_rfl) (by kernel_rfl) (by kernel_rfl) (fun _ _ _ h=>h) (Or.inl ⟨by rfl,?_⟩) (by assumption) ?_
     rotate_left
     ·((intro w0 hSw;(try dsimp only at hSw);go_simp) <;>with_reducible rfl)
     try simp only [Act.put,List.setIfInBounds_toArray,List.set_cons_zero,List.set_cons_succ,List.getElem_toArray,List.getElem_cons_zero,List.getElem_cons_succ]
     refine wpAnyH_ready (rs:=[12]) (by kernel_rfl) (by simp) ?_
     refine AllReadyH.cons rfl (fun K hK=>?_) AllReadyH.nil
     go_simp
     refine hK.out _ _ ⟨(HJ3.out.put I y HII.out.2).box,(nine (HJ3.out.put I y HII.out.2).g).1.1,(nine (HJ3.out.put I y HII.out.2).g).1.2.2.1⟩ (fun hHeld=>?_)
     clear hK K
     try simp only [Act.put,List.setIfInBounds_toArray,List.set_cons_zero,List.set_cons_succ,List.getElem_toArray,List.getElem_cons_zero,List.getElem_cons_succ]
     refine dn ?_
     have HJ4:Hid (ScInv w C t b w1.heap.size t.n (fillF v t.wide t.high (Hn*Wn+(c+1))) ((((w3.setCell ⟨b,I*4,none⟩ (.int .i64 y.ch)).setCell ⟨b,I*4+1,none⟩ (.int .i64 y.ink)).setCell ⟨b,I*4+2,none⟩ (.int .i64 y.pic)).setCell ⟨b,I*4+3,none⟩ (.bool y.bold))):=by
      have hp:=HJ3.out.put I y HII.out.2
      rw [HY.out, ←HII.out.1,fill_put,HII.out.1] at hp
      rw [HY.out,HII.out.1]
      exact hp
     go_wp2
     go_roundw
     case rel=>exact⟨c+1,by omega,by go_num,HJ4.out⟩
     case measure=>simp [intOf];omega
    ·have hge2:t.wide≤(c:Int):=by have:=HWH.out.1;omega
     have HE:Hid (Hn*Wn+c=t.n):=by
      show _=_
      have h9:(t.n:Int)=((Hn*Wn+Wn:Nat):Int):=by rw [HQ.out.1,HWH.out.1,HWH.out.2];push_cast;rw [Int.add_mul];omega
      omega
     have HWR:Hid (IntKind.i64.wrap (t.wide - 1)=t.wide - 1):=by show _=_;rw [IntKind.wrap_i64];omega
     obtain⟨R,hR⟩:∃ R,R=max 0 (min cu1 (t.high - 1)):=⟨_,rfl⟩
     obtain⟨Q,hQ⟩:∃ Q,Q=max 0 (min cu2 (t.wide - 1)):=⟨_,rfl⟩
     have HW1:Hid (∀ w,Calls Tryz.prog 64 #[.int .i64 cu1,.int .i64 0,.int .i64 (t.high - 1)] w fun e w'=>e=.returned (.int .i64 R)∧w'=w):=fun w=>by rw [hR];exact within_any cu1 0 (t.high - 1) w
     have HW2:Hid (∀ w,Calls Tryz.prog 64 #[.int .i64 cu2,.int .i64 0,.int .i64 (t.wide - 1)] w fun e w'=>e=.returned (.int .i64 Q)∧w'=w):=fun w=>by rw [hQ];exact within_any cu2 0 (t.wide - 1) w
     have HX2:Hid (x={t with f:=cellsV v t.wide t.high,row:=R,col:=Q}):=by show x=_;rw [HX.out,hR,hQ]
     have n1:=HJ.out.n1
     have n2:=HJ.out.n2
     clear hR hQ HX HCL HST
     go_wp2_with (first
      | (refine wpList_load_view C HS.out rfl _ rfl w.heap.size rfl HJ.out.box ?_)
      | (go_at_call 63;refine(HCU.out _ (HV.out.below HJ.out.below)).mono ?_;rintro e w5 ⟨rfl,hb5⟩;have HJ5:Hid (ScInv w C t b w1.heap.size t.n (fillF v t.wide t.high (Hn*Wn+c)) w5):=HJ.out.next hb5;clear g0 g1 g2 g3 g4 g5 g6 g7 g8 g9 hb5;obtain⟨⟨g0,g1,g2,g3,g4,g5,g6,g7,g8⟩,g9⟩:=nine HJ5.out.g;obtain⟨⟨u0,u1,u2,u3,u4,u5,u6,u7,u8⟩,u9⟩:=nine HJ5.out.res)
      | fail)
     have ne1:¬ w1.heap.size=w.heap.size+1:=by omega
     have ne2:¬ w.heap.size+1=w1.heap.size:=by omega
     go_region_held3 (fun w'=>w'.cell? ⟨w1.heap.size,0,none⟩=some (.int .i64 t.wide)) (first | exact g0 | exact cell_set_ne g0 (by decide) | exact cell_set_ne (cell_set_ne g0 (by decide)) (by decide) | go_keep)
      (first
      | (go_at_call_of 64 (Value.int IntKind.i64 cu1);refine(HW1.out _).mono ?_;rintro e w6 ⟨rfl,rfl⟩)
      | (go_at_call_of 64 (Value.int IntKind.i64 cu2);rw [HWR.out];refine(HW2.out _).mono ?_;rintro e w6 ⟨rfl,rfl⟩))
     all_goals
      go_wp2
      refine bodyPost_ret (v:=gval {t with f:=cellsV v t.wide t.high,row:=R,col:=Q} (some ⟨b,0,none⟩) t.n) (by simp [results,Tryz.results38,go_sem, *]) rfl ?_
      rw [HX2.out]
      refine⟨b,rfl,?_,?_⟩
      ·have hs:Scr w5 b t.n (cellsV v t.wide t.high):=HJ5.out.scr.congr fun i hi=>by unfold fillF;rw [HE.out,if_pos hi]
       first | exact Scr.drew (scr_set9 ((hs.set (by simp;omega) _).set (by simp;omega) _) (by omega) _ _ _ _ _ _ _ _ _) | exact(scr_set9 ((hs.set (by simp;omega) _).set (by simp;omega) _) (by omega) _ _ _ _ _ _ _ _ _)
      ·first | exact Below.drew (below_set9 ((HJ5.out.below.setCell (by simp;omega) _).setCell (by simp;omega) _) (by omega) _ _ _ _ _ _ _ _ _) | exact below_set9 ((HJ5.out.below.setCell (by simp;omega) _).setCell (by simp;omega) _) (by omega) _ _ _ _ _ _ _ _ _
end Go.Proofs.YtjikokfjnbhngaaGreatDoor.Pt
