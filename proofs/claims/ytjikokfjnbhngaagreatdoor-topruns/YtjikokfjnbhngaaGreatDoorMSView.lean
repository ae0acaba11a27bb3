/- Several texts in one, each as it was: SView, SSame, SAttach, SChange. -/
import Derived.Test.YtjikokfjnbhngaaGreatDoorMSShow
import Derived.Test.YtjikokfjnbhngaaGreatDoorMPMach
import Derived.Test.YtjikokfjnbhngaaGreatDoorMGDraw
import Derived.Test.YtjikokfjnbhngaaGreatDoorPPair
import Derived.Deep.QuietTactic
import Derived.BigQuiet
import Derived.Test.YtjikokfjnbhngaaGreatDoorZTake
import Derived.Test.YtjikokfjnbhngaaGreatDoorMSSet
import Derived.Test.YtjikokfjnbhngaaGreatDoorMSTell
import Derived.Test.YtjikokfjnbhngaaGreatDoorMSPut

/- What 'View' answers: the view, of its own memory. -/
namespace Go.Proofs.YtjikokfjnbhngaaGreatDoor.Sv
open Go.RowKit
open Go.Proofs.YtjikokfjnbhngaaGreatDoor.Tl (CIt colsOf RdT RdL cv ints)
open Go.Proofs.YtjikokfjnbhngaaGreatDoor.Pt (Vw VC RdV vcells vlist zv zl gall vc infoV wpList_alloc_view wpList_store_view wpList_load_view wpList_load_all wpList_index_grid)
set_option maxRecDepth 100000
theorem view_put (v:Vw) (l:Pt.Lay) (ao:Option Addr) (cap:Nat):(vcells v l).setIfInBounds 0 (.slice ao l.its.length cap)=vcells v {l with co:=ao,cap:=cap}:=rfl
theorem vinv_start {w:World} {v:Vw} {l:Pt.Lay} (hpos:0 < l.its.length) {w1:World} {ao:Option Addr} {cap:Nat}
  (ho:w1.ownsRow ((w.alloc (Pt.cbox (vcells zv zl))).alloc (Pt.cbox (vcells v l))).heap.size 35 1 (.slice ao l.its.length cap) l.its.length (l.its.map cv))
  (hb:Below ((w.alloc (Pt.cbox (vcells zv zl))).alloc (Pt.cbox (vcells v l))).heap.size ((w.alloc (Pt.cbox (vcells zv zl))).alloc (Pt.cbox (vcells v l))) w1):
  ∃ g,ao=some ⟨g,0,none⟩∧VInv w v l g cap 0 [] (w1.setCell ⟨w.heap.size+1,0,none⟩ (.slice ao l.its.length cap)):=by
 obtain⟨g,rfl,h1,h2⟩:=row_some ho hpos
 have hsz:((w.alloc (Pt.cbox (vcells zv zl))).alloc (Pt.cbox (vcells v l))).heap.size=w.heap.size+2:=by simp
 rw [hsz] at ho h1
 have hbox:w1.heap[w.heap.size+1]?=some (Pt.cbox (vcells v l)):=below_block hb (at_new1 w _ _) (by simp)
 have hres:w1.heap[w.heap.size]?=some (Pt.cbox (vcells zv zl)):=below_block hb (at_old (at_new w _) _) (by simp;omega)
 have hty:∃ c,w1.heap[g]?=some (.cells c 35 (0,0)):=by
  rcases ho.2 with ⟨hv,_⟩ | ⟨g',c',cur,hv,_,hg,_⟩
  ·cases hv
  ·simp only [Value.slice.injEq,Option.some.injEq,Addr.mk.injEq,and_true,true_and] at hv
   exact⟨cur,by rw [hv.1];exact hg⟩
 refine⟨g,rfl,rfl,rfl,?_,fun x hx=>by simp at hx,?_,?_,?_,?_⟩
 ·have:=row_keep (w':=w1.setCell ⟨w.heap.size+1,0,none⟩ (.slice (some ⟨g,0,none⟩) l.its.length cap)) ho (fun b hb1 _=>Below.heap_setCell _ _ _ _ (by simp;omega))
  simpa using this
 ·rw [set_cells hbox,view_put]
 ·rw [Below.heap_setCell _ _ _ _ (by simp)];exact hres
 ·obtain⟨c,hc⟩:=hty
  exact⟨c,by rw [Below.heap_setCell _ _ _ _ (by simp;omega)];exact hc⟩
 ·exact(((below1 _ _).alloc (by simp) _).trans (hb.mono (by simp;omega))).setCell (by simp) _
set_option maxHeartbeats 4000000 in
theorem view_any (w:World) (S:Srv) (L:Lay) (h:SrvIn w S L):
  Calls Tryz.prog 25 #[.pointer (some ⟨L.sb,0,none⟩)] w fun e w'=>∃ l,e=.returned (.agg (vcells S.v l))∧VOwn w.heap.size w' S.v l∧Below w.heap.size w w':=by
 have HS:Hid (SrvIn w S L):=h
 have hlt:=(Array.getElem?_eq_some_iff.1 h.box).1
 have hv:=h.rdV
 have hpos:0 < L.l.its.length:=by
  have:=h.ok.t.some
  rw [h.cols] at this
  simpa [List.length_pos_iff] using this
 obtain⟨l,hl⟩:∃ l,l=L.l:=⟨_,rfl⟩
 obtain⟨v,hve⟩:∃ v,v=S.v:=⟨_,rfl⟩
 have hgn:∀ p,p < 6→(v.gs p).n*32≤140737488355328∧(l.ga p=none→(v.gs p).n=0∧l.gc p=0):=fun p hp=>by
  have h1:=(h.gs p hp).none
  rw [hve,hl]
  refine⟨?_,h1⟩
  rcases h.ok.grid p hp with e | e
  ·rw [e];show 0*32≤_;omega
  ·obtain⟨q1,q2,_⟩:=e.nums
   omega
 obtain⟨C,hC⟩:∃ C,C=vcells v l:=⟨_,rfl⟩
 have HZ:Hid (C.size=58):=by rw [hC];rfl
 have HRA:Hid (w.alloc (Pt.cbox (vcells zv zl)) |>.rangeAt L.sb 0 C.toList):=by
  have:=(h.alloc (Pt.cbox (vcells zv zl))).view
  rw [hC,hve,hl]
  exact this
 rw [←hl, ←hve] at hv
 rw [←hl] at hpos
 rw [←hve]
 have HV:Hid (RdV w v l):=hv
 have HG:Hid (∀ p,p < 6→(v.gs p).n*32≤140737488355328∧(l.ga p=none→(v.gs p).n=0∧l.gc p=0)):=hgn
 have HPOS:Hid (0 < l.its.length):=hpos
 have HW0:Hid (∀ (W:World),Below w.heap.size w W→RdV W v l):=fun W hW=>HV.out.below hW
 have hb2:Below w.heap.size w ((w.alloc (Pt.cbox (vcells zv zl))).alloc (Pt.cbox C)):=(below1 _ _).alloc (by simp) _
 obtain⟨a0,ha0⟩:∃ a,l.co=some a:=by
  rcases(hv.rd.row) with e | ⟨b,off,e,_⟩
  ·rw [e] at hpos;simp at hpos
  ·exact⟨_,e⟩
 have HCL:Hid (Calls Tryz.prog 46 #[.slice (some a0) l.its.length l.cap] ((w.alloc (Pt.cbox (vcells zv zl))).alloc (Pt.cbox C)) fun e w'=>∃ ao' cap' g,e=.returned (.slice ao' l.its.length cap')∧ao'=some ⟨g,0,none⟩∧Below (w.heap.size+2) ((w.alloc (Pt.cbox (vcells zv zl))).alloc (Pt.cbox C)) w'∧VInv w v l g cap' 0 [] (w'.setCell ⟨w.heap.size+1,0,none⟩ (.slice ao' l.its.length cap'))):=by
  have hr:=(hv.below hb2).rd
  rw [ha0] at hr
  refine(Tl.cloneC_some a0 l.cap l.its _ hr (by have:=hv.m1;omega)).mono ?_
  rintro e w' ⟨ao',cap',rfl,ho,hb⟩
  rw [hC] at ho hb
  obtain⟨g,hg,hi⟩:=vinv_start (w:=w) (v:=v) (l:=l) hpos ho hb
  exact⟨ao',cap',g,rfl,hg,by rw [hC];simpa using hb,hi⟩
 have hc0:C[0]?=some (.slice (some a0) l.its.length l.cap):=by rw [hC, ←ha0];rfl
 obtain⟨y0,z0⟩:((w.alloc (Pt.cbox (vcells zv zl))).alloc (Pt.cbox C)).cell? ⟨w.heap.size+1,0,none⟩=some (.slice (some a0) l.its.length l.cap)∧∀ j,((w.alloc (Pt.cbox (vcells zv zl))).alloc (Pt.cbox C)).frozen? ⟨w.heap.size+1,j,none⟩=false:=
  ⟨(cell_of_row _ _ 0 _ _ _ (at_new1 w _ _)).trans hc0,fun j=>frozen_of_row _ _ j _ _ (at_new1 w _ _)⟩
 have HCO:Hid (C.all (·.oneCell')=true):=by rw [hC];exact Pt.vcells_one v l
 have HLL:Hid (∀ x∈l.its,x.1.length≤17592186044416):=hv.m2
 have hN:=hv.m1
 clear h hv hgn hb2 hpos hve hl ha0 hc0 hC HPOS
 go_enter Tryz.func25,Tryz.ntmps25
 go_wp2_with (first
  | (refine wpList_alloc_view rfl rfl ?_)
  | (refine wpList_load_sv C HZ.out rfl _ rfl L.sb rfl HRA.out ?_)
  | (refine wpList_store_new 58 (vcells zv zl) C rfl _ _ rfl rfl rfl (by rw [HZ.out];exact infoV) (by rw [HZ.out];rfl) HCO.out ?_)
  | (go_at_call 46;refine HCL.out.mono ?_;rintro e w1 ⟨ao,cap,g,rfl,hao,hb1,hi1⟩;subst hao;have HI1:Hid (VInv w v l g cap 0 [] (w1.setCell ⟨w.heap.size+1,0,none⟩ (.slice (some ⟨g,0,none⟩) l.its.length cap))):=hi1;have hbx:=below_block hb1 (at_new1 w (Pt.cbox (vcells zv zl)) (Pt.cbox C)) (by omega);have u0:w1.cell? ⟨w.heap.size+1,0,none⟩=some (.slice (some a0) l.its.length l.cap):=(hb1.cell (p:=⟨w.heap.size+1,0,none⟩) (by show w.heap.size+1 < w.heap.size+2;omega)).trans y0;have uf:∀ j,w1.frozen? ⟨w.heap.size+1,j,none⟩=false:=(fun j=>frozen_of_row w1 _ j _ _ hbx);have ul:=(Array.getElem?_eq_some_iff.1 hbx).1;clear hb1 hi1 hbx y0 z0))
 generalize w1.setCell ⟨w.heap.size+1,0,none⟩ (.slice (some ⟨g,0,none⟩) l.its.length cap)=W1 at*
 clear u0 uf ul HCL HRA HS
 go_loopw [25] (fun i wr=>∃ (k:Nat) (done:List CIt),k≤l.its.length∧i=.int .i64 k∧VInv w v l g cap k done wr) (fun i _=>l.its.length - (intOf i).toNat)
 case atStart=>exact⟨0,[],Nat.zero_le _,rfl,HI1.out⟩
 case round=>
  obtain⟨k,done,hk,rfl,hi⟩:=hrel
  have HI:Hid (VInv w v l g cap k done wr):=hi
  clear HI1
  by_cases hlt:k < l.its.length
  ·have hlt':(k:Int) < (l.its.length:Int):=by omega
   obtain⟨x,hx⟩:∃ x,x=l.its[k]:=⟨_,rfl⟩
   have HX:Hid (x=l.its[k]):=hx
   have hkx:((done++l.its.drop k).map cv)[k]?=some (.slice x.2.1 x.1.length x.2.2):=by
    rw [List.getElem?_map,List.getElem?_append_right (by rw [hi.len];exact Nat.le_refl _),hi.len,Nat.sub_self,List.getElem?_drop,Nat.add_zero,List.getElem?_eq_getElem hlt, ←hx]
    rfl
   obtain⟨h1,h1f⟩:=row_cell hi.row hkx
   obtain⟨hg1,hg2⟩:=hi.gbase
   have hbx:=hi.box
   have x5:wr.cell? ⟨w.heap.size+1,0,none⟩=some (.slice (some ⟨g,0,none⟩) l.its.length cap):=(cell_of_row wr _ 0 _ _ _ hbx).trans rfl
   have x6:∀ j,wr.frozen? ⟨w.heap.size+1,j,none⟩=false:=fun j=>frozen_of_row wr _ j _ _ hbx
   have hbl:=(Array.getElem?_eq_some_iff.1 hbx).1
   have hmem:x∈l.its:=by rw [hx];exact List.getElem_mem hlt
   have hrd:=(HW0.out wr hi.below).rd
   have HCL:Hid (∀ W,Below wr.heap.size wr W→Calls Tryz.prog 47 #[.slice x.2.1 x.1.length x.2.2] W fun e w'=>∃ ao' cap',e=.returned (.slice ao' x.1.length cap')∧w'.ownsRow W.heap.size 3 1 (.slice ao' x.1.length cap') x.1.length (ints x.1)∧Below W.heap.size W w'):=fun W hW=>Tl.clone_any x W ((hrd.each x hmem).1.below hW) (hrd.each x hmem).2 (HLL.out x hmem)
   have hkx2:Hid (wr.cell? ⟨g,k,none⟩=some (.slice x.2.1 x.1.length x.2.2)):=h1
   clear hi hx hkx hbx hrd hmem
   go_wp2_with fail
   go_region_with ((go_at_call 47;refine(HCL.out _ ((Below.refl _ _).drew)).mono ?_;rintro e w2 ⟨ao,c,rfl,ho,hb0⟩;have hb:Below wr.heap.size wr w2:=((Below.refl wr.heap.size wr).drew).trans hb0;have HB:Hid (w2.ownsRow wr.heap.size 3 1 (.slice ao x.1.length c) x.1.length (ints x.1)∧Below wr.heap.size wr w2):=⟨ho,hb⟩;have x51:w2.cell? ⟨w.heap.size+1,0,none⟩=some (.slice (some ⟨g,0,none⟩) l.its.length cap):=(hb.cell (p:=⟨w.heap.size+1,0,none⟩) hbl).trans x5;have x61:(∀ j,w2.frozen? ⟨w.heap.size+1,j,none⟩=false):=(fun j=>frozen_of_row w2 _ j _ _ (below_block hb HI.out.box hbl));have hck2:w2.cell? ⟨g,k,none⟩=some (.slice x.2.1 x.1.length x.2.2):=(hb.cell (p:=⟨g,k,none⟩) hg2).trans hkx2.out;have hcf:w2.frozen? ⟨g,k,none⟩=false:=(row_cell (Tl.row_below HI.out.row hb) (k:=k) (u:=.slice x.2.1 x.1.length x.2.2) (by rw [List.getElem?_map,List.getElem?_append_right (by rw [HI.out.len];exact Nat.le_refl _),HI.out.len,Nat.sub_self,List.getElem?_drop,Nat.add_zero,List.getElem?_eq_getElem hlt, ←HX.out];rfl)).2;have hbl2:w.heap.size+1 < w2.heap.size:=Nat.lt_of_lt_of_le hbl hb.size;have hgl2:g < w2.heap.size:=Nat.lt_of_lt_of_le hg2 hb.size;clear ho hb0 hb x5 x6 h1 h1f))
   all_goals (
    go_wp2
    go_roundw
    case rel=>
     obtain⟨f1,f2⟩:=HB.out
     rw [HX.out] at f1 ⊢
     exact⟨k+1,_,by omega,by go_num,vinv_step HI.out hlt f1 f2⟩
    case measure=>(simp [intOf];omega))
  ·have hge:(l.its.length:Int)≤(k:Int):=by omega
   obtain⟨m0,hm0,hw0⟩:∃ m,(m.ga=l.ga∧m.gc=l.gc)∧WInv w v l 0 m wr:=⟨_,⟨rfl,rfl⟩,vinv_winv HV.out.cols hi (by omega)⟩
   have HM0:Hid (m0.ga=l.ga∧m0.gc=l.gc):=hm0
   have HW:Hid (WInv w v l 0 m0 wr):=hw0
   obtain⟨C1,hC1⟩:∃ C,C=vcells v m0:=⟨_,rfl⟩
   have HC1:Hid (VC v m0 C1):=(hC1 ▸ vc v m0)
   have HB1:Hid (wr.heap[w.heap.size+1]?=some (Pt.cbox C1)):=by rw [hC1];exact hw0.box
   obtain⟨A,hA⟩:∃ A,A=(gall v m0).toArray:=⟨_,rfl⟩
   have HA:Hid (A=(gall v m0).toArray):=hA
   clear hi hm0 hw0 hC1 hA HI
   go_wp2_with (refine wpList_load_all v m0 C1 HC1.out rfl _ rfl (w.heap.size+1) rfl HB1.out A HA.out ?_)
   go_loopw [40] (fun i wr=>∃ (k:Nat) (m:Pt.Lay),k≤6∧i=.int .i64 k∧WInv w v l k m wr) (fun i _=>6 - (intOf i).toNat)
   case atStart=>exact⟨0,m0,by omega,rfl,HW.out⟩
   case round=>
    obtain⟨k,m,hk,rfl,hi⟩:=hrel
    have HI:Hid (WInv w v l k m wr):=hi
    clear HB1 HW HC1
    by_cases hlt:k < 6
    ·have hlt':(k:Int) < 6:=by omega
     have hk0:(0:Int)≤(k:Int):=by omega
     obtain⟨G,hG⟩:∃ G,G=v.gs k:=⟨_,rfl⟩
     obtain⟨ga,hga⟩:∃ ga,ga=l.ga k:=⟨_,rfl⟩
     obtain⟨gc,hgc⟩:∃ gc,gc=l.gc k:=⟨_,rfl⟩
     have HGK:Hid (G=v.gs k):=hG
     have hbx:=hi.box
     have hbl:=(Array.getElem?_eq_some_iff.1 hbx).1
     have HCL:Hid (∀ W,Below wr.heap.size wr W→Calls Tryz.prog 48 #[.slice ga G.n gc] W fun e w'=>∃ ao' cap',e=.returned (.slice ao' G.n cap')∧Copied W G.n G.f ao' cap' w'∧w'.cell? ⟨w.heap.size+1,1+k*9+2,none⟩=some (.slice (m.ga k) G.n (m.gc k))∧(∀ j,w'.frozen? ⟨w.heap.size+1,j,none⟩=false)∧w.heap.size+1 < w'.heap.size):=fun W hW=>by
      have hrd:=(HW0.out W (hi.below.trans (hW.mono hi.below.size))).gs k hlt
      obtain⟨g1,g2⟩:=HG.out k hlt
      rw [hG,hga,hgc]
      refine(clone_any (l.ga k) (l.gc k) (v.gs k).n (v.gs k).f W hrd g2 g1).mono ?_
      rintro e w' ⟨ao',cap',rfl,hcp⟩
      have hb':Below wr.heap.size wr w':=hW.trans (hcp.2.2.mono hW.size)
      have hbx':=below_block hb' hbx hbl
      refine⟨ao',cap',rfl,hcp,?_,fun j=>frozen_of_row w' _ j _ _ hbx',Nat.lt_of_lt_of_le hbl hb'.size⟩
      exact Pt.cbox_grid (vc v m) hbx' k hlt 2 _ rfl
     have HIX:Hid (∀ {ops:Array Oper} {rest:List Oper} {op:Oper} {a:Act} {w:World} {Q:Exit→Act→World→Prop} (_:op.guard=none) (x ix:Operand) (_:op.op=.index 56 x ix) (_:a.eval x=.agg A) (_:a.eval ix=.int .i64 k) (_:wpList Tryz.prog ops Q rest (a.put op.dst (gval G ga gc)) w),wpList Tryz.prog ops Q (op::rest) a w):=fun hgd x ix ho hx hix h=>wpList_index_grid v m0 hgd x ix ho A hx k hix HA.out hlt (by rw [HM0.out.1,HM0.out.2, ←hG, ←hga, ←hgc];exact h)
     clear hi hG hga hgc hbx HA
     go_wp2_with (first
      | (refine HIX.out rfl _ _ rfl rfl rfl ?_)
      | (go_at_call 48;refine(HCL.out _ (below1 _ _)).mono ?_;rintro e w2 ⟨ao,c,rfl,hcp,z1,z2,z3⟩;have HCP:Hid (Copied (wr.alloc (gbox G ga gc)) G.n G.f ao c w2):=hcp;clear hcp))
     go_roundw
     case rel=>
      refine⟨k+1,{m with ga:=upd m.ga k ao,gc:=upd m.gc k c},by omega,by go_num,?_⟩
      have:=HCP.out
      rw [HGK.out] at this ⊢
      exact winv_step HI.out hlt (below1 _ _) this
     case measure=>(simp [intOf];omega)
    ·obtain rfl:k=6:=by omega
     obtain⟨C6,hC6⟩:∃ C,C=vcells v m:=⟨_,rfl⟩
     have hz6:Hid (C6.size=58):=by rw [hC6];rfl
     have ho6:Hid (C6.all (·.oneCell')=true):=by rw [hC6];exact Pt.vcells_one v m
     have hb6:Hid (wr.heap[w.heap.size+1]?=some (Pt.cbox C6)):=by rw [hC6];exact hi.box
     have hr6:Hid (wr.heap[w.heap.size]?=some (Pt.cbox (vcells zv zl))):=hi.res
     have H6:Hid (C6=vcells v m):=hC6
     clear hi hC6 HA HM0
     go_wp2_with (first
      | (refine wpList_load_view C6 hz6.out rfl _ rfl (w.heap.size+1) rfl hb6.out ?_)
      | (refine wpList_box rfl 58 _ _ rfl w.heap.size C6 rfl rfl (vcells zv zl) hr6.out (by rw [hz6.out];exact infoV) (by rw [hz6.out];rfl) ho6.out ?_;intro w7 h7))
     refine view_ret rfl rfl rfl hz6.out h7.out.1 ⟨m,by rw [H6.out],winv_own HI.out (fun b hb1 hb2=>h7.out.2.block b hb2 (by simp;omega)),below_grown HI.out.below (Nat.le_refl _) h7.out.2⟩
end Go.Proofs.YtjikokfjnbhngaaGreatDoor.Sv

/- What the laws' own 'sameCells' and 'sameGrid' answer of two screens that are alike. -/
namespace Go.Proofs.YtjikokfjnbhngaaGreatDoor.Pt
open Go.RowKit
open Go.Proofs.YtjikokfjnbhngaaGreatDoor.Tl (below2)
set_option maxHeartbeats 1000000 in
theorem sameCellsT_eq (a:Gr) (r2 c2 i2:Int) (o2:Bool) (t2 b2:Int) (oa ob:Option Addr) (ca cb:Nat) (w:World) (ha:RdS w oa a.n a.f) (hb:RdS w ob a.n a.f) (hm:a.n≤4398046511104):
  Calls Tryz.prog 39 #[gval a oa ca,gval ⟨a.wide,a.high,a.n,a.f,r2,c2,i2,o2,t2,b2⟩ ob cb] w fun e w'=>e=.returned (.bool true)∧Below w.heap.size w w':=by
 obtain⟨b,hbb⟩:∃ b:Gr,b=⟨a.wide,a.high,a.n,a.f,r2,c2,i2,o2,t2,b2⟩:=⟨_,rfl⟩
 rw [←hbb]
 have e1:b.wide=a.wide:=by rw [hbb]
 have e2:b.high=a.high:=by rw [hbb]
 have e3:b.n=a.n:=by rw [hbb]
 have HF:Hid (b.f=a.f∧b.n=a.n):=by rw [hbb];exact⟨rfl,rfl⟩
 have HP:Hid (PairR w a b oa ob ca cb ((w.alloc (gbox a oa ca)).alloc (gbox b ob cb))):=by
  have hbel:Below w.heap.size w ((w.alloc (gbox a oa ca)).alloc (gbox b ob cb)):=(below1 _ _).alloc (by simp) _
  exact⟨at_old (at_new w _) _,at_new1 w _ _,ha.below hbel,by rw [HF.out.1,HF.out.2];exact hb.below hbel,hbel⟩
 clear hbb ha hb
 go_enter Tryz.func39,Tryz.ntmps39
 go_wp2
 go_loopw [30] (fun i wr=>∃ k:Nat,k≤a.n∧i=.int .i64 k∧PairR w a b oa ob ca cb wr) (fun i _=>a.n - (intOf i).toNat)
 case atStart=>exact⟨0,Nat.zero_le _,rfl,HP.out⟩
 case round=>
  obtain⟨k,hk,rfl,hp⟩:=hrel
  have HQ:Hid (PairR w a b oa ob ca cb wr):=hp
  by_cases hlt:k < a.n
  ·obtain⟨⟨x0,x1,x2,x3,x4,x5,x6,x7,x8⟩,z⟩:=nine hp.one
   obtain⟨⟨y0,y1,y2,y3,y4,y5,y6,y7,y8⟩,z3⟩:=nine hp.two
   have hra:=hp.ra
   have hrb:=hp.rb
   rw [HF.out.1,HF.out.2] at hrb
   obtain⟨ba,fa,rfl,hca⟩:=hra.resolve_left (by omega)
   obtain⟨bb,fb,rfl,hcb⟩:=hrb.resolve_left (by omega)
   obtain⟨t0,t1,t2,t3⟩:=hca k hlt
   obtain⟨s0,s1,s2,s3⟩:=hcb k hlt
   have hlt':(k:Int) < (a.n:Int):=by omega
   have hk0:(0:Int)≤(k:Int):=by omega
   obtain⟨y,hy⟩:∃ y,y=a.f k:=⟨_,rfl⟩
   rw [←hy] at t0 t1 t2 t3 s0 s1 s2 s3
   rw [e3] at y2
   clear hca hcb hra hrb hp hy e1 e2
   go_wp2_with fail
   go_quiet (fail)
   go_wp2
   go_roundw
   case rel=>exact⟨k+1,by omega,by go_num,HQ.out.later (below_drewN (Below.refl _ _) _)⟩
   case measure=>simp [intOf];omega
  ·clear hp
   go_wp2
   go_ret
   exact⟨rfl,HQ.out.below⟩
set_option maxHeartbeats 1000000 in
theorem sameGridT_eq (a:Gr) (oa ob:Option Addr) (ca cb:Nat) (w:World) (ha:RdS w oa a.n a.f) (hb:RdS w ob a.n a.f) (hm:a.n≤4398046511104):
  Calls Tryz.prog 27 #[gval a oa ca,gval a ob cb] w fun e w'=>e=.returned (.bool true)∧Below w.heap.size w w':=by
 have HS:Hid (∀ w,RdS w oa a.n a.f→RdS w ob a.n a.f→Calls Tryz.prog 39 #[gval a oa ca,gval a ob cb] w fun e w'=>e=.returned (.bool true)∧Below w.heap.size w w'):=fun w h1 h2=>sameCellsT_eq a a.row a.col a.ink a.bold a.top a.bottom oa ob ca cb w h1 h2 hm
 have HA:Hid (RdS w oa a.n a.f∧RdS w ob a.n a.f):=⟨ha,hb⟩
 clear ha hb hm
 go_enter Tryz.func27,Tryz.ntmps27
 go_wp2_with (go_at_call 39;refine(HS.out _ (HA.out.1.below (below2 _ _ _)) (HA.out.2.below (below2 _ _ _))).mono ?_;rintro e w2 ⟨rfl,hb2⟩;have HB:Hid (Below w.heap.size w w2):=(below2 _ _ _).trans (hb2.mono (by simp;omega));obtain⟨⟨x0,x1,x2,x3,x4,x5,x6,x7,x8⟩,z⟩:=nine (below_block hb2 (at_old (at_new w _) _) (by simp;omega));obtain⟨⟨y0,y1,y2,y3,y4,y5,y6,y7,y8⟩,z3⟩:=nine (below_block hb2 (at_new1 w _ _) (by simp));clear hb2)
 go_ret
 exact⟨rfl,HB.out⟩
end Go.Proofs.YtjikokfjnbhngaaGreatDoor.Pt

/- A client comes. -/
namespace Go.Proofs.YtjikokfjnbhngaaGreatDoor.Sv
open Go.RowKit
open Go.Proofs.YtjikokfjnbhngaaGreatDoor.Tl (colsOf RdT TyT)
set_option maxRecDepth 100000
theorem attach_put {w:World} {S:Srv} {L:Lay} (h:SrvIn w S L) (n:Nat) (hn:n < 3) (_hc:S.cl n=none) (x:Gr) (okx:OkG x) {w3:World} {b:Nat} (hb3:Below w.heap.size w w3) (hs:Scr w3 b x.n x.f) (_hbb:w.heap.size≤b):
  SrvTo w S L {S with cl:=upd S.cl n (some ⟨[],true,x⟩)} {L with cb:=upd L.cb n w3.heap.size,ca:=upd L.ca n (some ⟨b,0,none⟩),cc:=upd L.cc n x.n} ((w3.alloc (clbox ⟨[],true,x⟩ (some ⟨b,0,none⟩) x.n)).setCell ⟨L.sb,82+n,none⟩ (.pointer (some ⟨w3.heap.size,0,none⟩))):=by
 have hin:=(h.below hb3).alloc (clbox ⟨[],true,x⟩ (some ⟨b,0,none⟩) x.n)
 have hk:=set_kp (w3.alloc (clbox ⟨[],true,x⟩ (some ⟨b,0,none⟩) x.n)) L.sb (82+n) (.pointer (some ⟨w3.heap.size,0,none⟩))
 have hsz:=hb3.size
 have hlt3:∀ j,j < 3→(S.cl j).isSome=true→L.cb j < w.heap.size:=fun j hj hs=>h.mut_lt (.inr ⟨j,hj,hs,rfl⟩)
 have hcase:∀ j,j < 3→((upd S.cl n (some ⟨[],true,x⟩)) j).isSome=true→j=n∨(j≠n∧(S.cl j).isSome=true):=fun j _ hs=>by
  by_cases e:j=n
  ·exact .inl e
  ·rw [upd_ne _ _ e] at hs
   exact .inr ⟨e,hs⟩
 refine⟨sb_in hin hk rfl (wk_cl h.ok n _ (fun c e=>by cases e;exact⟨okx,by simp⟩)) (put_ptr hin n hn (some ⟨[],true,x⟩) w3.heap.size _ _ _ rfl) hin.cols hin.rd hin.ty hin.gs hin.ps (fun j hj c hcj=>?_) (fun j k hj hk2 hne e1 e2=>?_),rfl,?_,fun j hj hs=>?_⟩
 ·have hcj':upd S.cl n (some ⟨[],true,x⟩) j=some c:=hcj
  show (w3.alloc (clbox ⟨[],true,x⟩ (some ⟨b,0,none⟩) x.n)).heap[upd L.cb n w3.heap.size j]?=some (clbox c (upd L.ca n (some ⟨b,0,none⟩) j) (upd L.cc n x.n j))∧Gl _ (upd L.ca n (some ⟨b,0,none⟩) j) (upd L.cc n x.n j) c.g
  by_cases e:j=n
  ·rw [e,upd_at] at hcj'
   cases hcj'
   rw [e,upd_at,upd_at,upd_at]
   exact⟨at_new _ _,.inr ⟨b,rfl,hs.alloc _,Nat.le_refl _⟩⟩
  ·rw [upd_ne _ _ e] at hcj'
   rw [upd_ne _ _ e,upd_ne _ _ e,upd_ne _ _ e]
   exact hin.cl j hj c hcj'
 ·show upd L.cb n w3.heap.size j≠upd L.cb n w3.heap.size k
  rcases hcase j hj e1 with d1 | ⟨d1,f1⟩
  ·rcases hcase k hk2 e2 with d2 | ⟨d2,f2⟩
   ·exact absurd (d1.trans d2.symm) hne
   ·rw [d1,upd_at,upd_ne _ _ d2]
    have:=hlt3 k hk2 f2
    omega
  ·rcases hcase k hk2 e2 with d2 | ⟨d2,f2⟩
   ·rw [d2,upd_at,upd_ne _ _ d1]
    have:=hlt3 j hj f1
    omega
   ·rw [upd_ne _ _ d1,upd_ne _ _ d2]
    exact h.apart j k hj hk2 hne f1 f2
 ·exact(Kp.of_below (Mut S L) (hb3.alloc hsz _)).trans hk.sb (fun _ e=>.inl e)
 ·show _∨w.heap.size≤upd L.cb n w3.heap.size j
  rcases hcase j hj hs with d1 | ⟨d1,f1⟩
  ·right;rw [d1,upd_at];exact hsz
  ·left;exact⟨f1,upd_ne _ _ d1⟩
set_option maxHeartbeats 2000000 in
theorem attach_any (i wide high:Int) (w:World) (S:Srv) (L:Lay) (h:SrvIn w S L):
  Calls Tryz.prog 72 #[.pointer (some ⟨L.sb,0,none⟩),.int .i64 i,.int .i64 wide,.int .i64 high] w fun e w'=>e=.returned (.int .i64 (attachS S i wide high).2)∧∃ L',SrvTo w S L (attachS S i wide high).1 L' w':=by
 have HS:Hid (SrvIn w S L):=h
 cases hi:isCl i
 ·have HC:Hid (∀ w,Calls Tryz.prog 61 #[.int .i64 i] w fun e w'=>e=.returned (.bool false)∧w'=w):=fun w=>by rw [←hi];exact isClient_any i w
  have HD:Hid (attachS S i wide high=(S,3)):=by show attachS S i wide high=_;unfold attachS;rw [hi];rfl
  clear h hi
  go_enter Tryz.func72,Tryz.ntmps72
  go_wp2_with (go_at_call 61;refine(HC.out _).mono ?_;rintro e w1 ⟨rfl,hw1⟩;subst w1)
  go_ret
  rw [HD.out]
  exact⟨rfl,L,SrvTo.refl HS.out⟩
 ·have HC:Hid (∀ w,Calls Tryz.prog 61 #[.int .i64 i] w fun e w'=>e=.returned (.bool true)∧w'=w):=fun w=>by rw [←hi];exact isClient_any i w
  have hi2:0≤i∧i < 3:=by simpa [isCl] using hi
  obtain⟨n,rfl⟩:=Int.eq_ofNat_of_zero_le hi2.1
  have hn:n < 3:=by omega
  have hp:=h.ptr n hn
  have hf:=h.frozen (82+n)
  have hn':(n:Int) < 3:=by omega
  have hn0:(0:Int)≤(n:Int):=by omega
  have hlt:=(Array.getElem?_eq_some_iff.1 h.box).1
  cases hc:S.cl n with
  | some c=>
   have HD:Hid (attachS S (n:Int) wide high=(S,4)):=by show attachS S _ wide high=_;unfold attachS;rw [hi,Int.toNat_natCast,hc];rfl
   have hcad:cad S L n=some ⟨L.cb n,0,none⟩:=by unfold cad;rw [hc];rfl
   rw [hcad] at hp
   clear h hi hi2 hc hcad
   go_enter Tryz.func72,Tryz.ntmps72
   go_wp2_with (go_at_call 61;refine(HC.out _).mono ?_;rintro e w1 ⟨rfl,hw1⟩;subst w1)
   go_ret
   rw [HD.out]
   exact⟨rfl,L,SrvTo.refl HS.out⟩
  | none=>
   have hcad:cad S L n=none:=by unfold cad;rw [hc];rfl
   rw [hcad] at hp
   cases hs:sidesS wide high with
   | false=>
    have HG:Hid (∀ w,Calls Tryz.prog 91 #[.int .i64 wide,.int .i64 high] w fun e w'=>e=.returned (.bool false)∧w'=w):=fun w=>by rw [←hs];exact goodSides_any wide high w
    have HD:Hid (attachS S (n:Int) wide high=(S,1)):=by show attachS S _ wide high=_;unfold attachS;rw [hi,Int.toNat_natCast,hc,hs];rfl
    clear h hi hi2 hc hcad hs
    go_enter Tryz.func72,Tryz.ntmps72
    go_wp2_with (first
     | (go_at_call 61;refine(HC.out _).mono ?_;rintro e w1 ⟨rfl,hw1⟩;subst w1)
     | (go_at_call 91;refine(HG.out _).mono ?_;rintro e w2 ⟨rfl,hw2⟩;subst w2))
    go_ret
    rw [HD.out]
    exact⟨rfl,L,SrvTo.refl HS.out⟩
   | true=>
   have HG:Hid (∀ w,Calls Tryz.prog 91 #[.int .i64 wide,.int .i64 high] w fun e w'=>e=.returned (.bool true)∧w'=w):=fun w=>by rw [←hs];exact goodSides_any wide high w
   obtain⟨x,hx⟩:∃ x,x=newG wide high:=⟨_,rfl⟩
   have HD:Hid (attachS S (n:Int) wide high=({S with cl:=upd S.cl n (some ⟨[],true,x⟩)},0)):=by show attachS S _ wide high=_;unfold attachS;rw [hi,Int.toNat_natCast,hc,hs,hx];rfl
   have HN:Hid (∀ w,Calls Tryz.prog 36 #[.int .i64 wide,.int .i64 high] w fun e w'=>∃ b,e=.returned (gval x (some ⟨b,0,none⟩) x.n)∧Scr w' b x.n x.f∧w.heap.size≤b∧Below w.heap.size w w'):=fun w=>new_any wide high w x hx
   have HE:Hid (∀ w3 b,Below w.heap.size w w3→Scr w3 b x.n x.f→w.heap.size≤b→SrvTo w S L {S with cl:=upd S.cl n (some ⟨[],true,x⟩)} {L with cb:=upd L.cb n w3.heap.size,ca:=upd L.ca n (some ⟨b,0,none⟩),cc:=upd L.cc n x.n} ((w3.alloc (clbox ⟨[],true,x⟩ (some ⟨b,0,none⟩) x.n)).setCell ⟨L.sb,82+n,none⟩ (.pointer (some ⟨w3.heap.size,0,none⟩)))):=fun w3 b h1 h2 h3=>attach_put h n hn hc x (by rw [hx];exact ok_new _ _) h1 h2 h3
   clear h hi hi2 hc hcad hs hx
   go_enter Tryz.func72,Tryz.ntmps72
   go_wp2_with (first
    | (go_at_call 61;refine(HC.out _).mono ?_;rintro e w1 ⟨rfl,hw1⟩;subst w1)
    | (go_at_call 91;refine(HG.out _).mono ?_;rintro e w2 ⟨rfl,hw2⟩;subst w2))
   refine bg (fun _=>True) trivial (fun hHeld=>?_)
   refine tk 0 hHeld ?_
   refine tk 1 hHeld ?_
   refine tk 2 hHeld ?_
   refine tk 3 hHeld ?_
   refine tk 7 hHeld ?_
   refine tk 8 hHeld ?_
   refine wpAnyH_ready (rs:=[4]) (by kernel_rfl) (by simp) ?_
   refine AllReadyH.cons rfl (fun K hK=>?_) AllReadyH.nil
   go_simp
   go_at_call 36
   refine(HN.out _).mono ?_
   rintro e w3 ⟨b,rfl,hs3,hbb3,hb3⟩
   have HB3:Hid (Scr w3 b x.n x.f∧w.heap.size≤b∧Below w.heap.size w w3):=⟨hs3,hbb3,undrewS hb3⟩
   have hin3:=HS.out.below HB3.out.2.2
   have hp3:=hin3.ptr n hn
   have hf3:=hin3.frozen (82+n)
   have hlt3:L.sb < w3.heap.size:=Nat.lt_of_lt_of_le hlt HB3.out.2.2.size
   clear hs3 hbb3 hb3 hin3 hp hf
   (try go_simp)
   refine hK.out _ _ trivial (fun hHeld=>?_)
   clear hK K
   refine pt ?_
   refine tk 5 hHeld ?_
   refine wpAnyH_ready (rs:=[6]) (by kernel_rfl) (by simp) ?_
   refine AllReadyH.cons rfl (fun K hK=>?_) AllReadyH.nil
   go_simp
   refine hK.out _ _ trivial (fun hHeld=>?_)
   clear hK K
   refine pt ?_
   refine tk 9 hHeld ?_
   refine wpAnyH_ready (rs:=[10]) (by kernel_rfl) (by simp) ?_
   refine AllReadyH.cons rfl (fun K hK=>?_) AllReadyH.nil
   go_simp
   refine hK.out _ _ trivial (fun hHeld=>?_)
   clear hK K
   refine pt ?_
   refine dn ?_
   have HE3:=HE.out w3 b HB3.out.2.2 HB3.out.1 HB3.out.2.1
   rw [World.setCell_alloc_past _ _ _ _ hlt3] at HE3
   go_wp2
   go_ret
   rw [HD.out]
   exact⟨rfl,_,HE3⟩
end Go.Proofs.YtjikokfjnbhngaaGreatDoor.Sv

/- The acts of which there is no more to say than whether they were done. -/
namespace Go.Proofs.YtjikokfjnbhngaaGreatDoor.Sv
open Go.RowKit
set_option maxRecDepth 100000
theorem five {w:World} {b:Nat} {c0 c1 c2 c3 c4:Value} {t:TypeId} (h:w.heap[b]?=some (.cells #[c0,c1,c2,c3,c4] t (0,0))):
  w.cell? ⟨b,0,none⟩=some c0∧w.cell? ⟨b,1,none⟩=some c1∧w.cell? ⟨b,2,none⟩=some c2∧w.cell? ⟨b,3,none⟩=some c3∧w.cell? ⟨b,4,none⟩=some c4:=
 ⟨cell_of_row w b 0 _ t _ h,cell_of_row w b 1 _ t _ h,cell_of_row w b 2 _ t _ h,cell_of_row w b 3 _ t _ h,cell_of_row w b 4 _ t _ h⟩
def ChEnd (w:World) (S:Srv) (L:Lay) (X:Srv×Int) (e:Ending) (w':World):Prop:=e=.returned (.int .i64 X.2)∧∃ L',SrvTo w S L X.1 L' w'
theorem change_kill (p n m:Int) (bytes:List UInt8) (w:World) (S:Srv) (L:Lay) (h:SrvIn w S L):
  Calls Tryz.prog 42 #[.pointer (some ⟨L.sb,0,none⟩),aval ⟨2,p,n,m,bytes⟩] w (ChEnd w S L (killS S p)):=by
 have HC:Hid (Calls Tryz.prog 68 #[.pointer (some ⟨L.sb,0,none⟩),.int .i64 p] (w.alloc (abox ⟨2,p,n,m,bytes⟩)) (ChEnd w S L (killS S p))):=
  (kill_srv p (w.alloc (abox ⟨2,p,n,m,bytes⟩)) S L (h.alloc _)).mono fun e w' hE=>⟨hE.1,hE.2.elim fun L' h2=>⟨L',h2.from (below1 _ _)⟩⟩
 obtain⟨X,hX⟩:∃ X:Srv×Int,X=killS S p:=⟨_,rfl⟩
 rw [←hX] at HC ⊢
 clear h hX
 go_enter Tryz.func42,Tryz.ntmps42
 go_wp2_with (go_at_call 68;refine HC.out.mono ?_;rintro e w1 ⟨rfl,h1⟩;have H1:Hid (∃ L',SrvTo w S L X.1 L' w1):=h1;clear h1)
 go_ret
 exact⟨rfl,H1.out⟩
theorem change_output (p n m:Int) (bytes:List UInt8) (hl:bytes.length≤140737488355328) (w:World) (S:Srv) (L:Lay) (h:SrvIn w S L) (okv:OkV S.v):
  Calls Tryz.prog 42 #[.pointer (some ⟨L.sb,0,none⟩),aval ⟨3,p,n,m,bytes⟩] w (ChEnd w S L (outputS S p bytes)):=by
 have HC:Hid (Calls Tryz.prog 69 #[.pointer (some ⟨L.sb,0,none⟩),.int .i64 p,.string (bs bytes)] (w.alloc (abox ⟨3,p,n,m,bytes⟩)) (ChEnd w S L (outputS S p bytes))):=
  (output_any p bytes hl (w.alloc (abox ⟨3,p,n,m,bytes⟩)) S L (h.alloc _) okv).mono fun e w' hE=>⟨hE.1,hE.2.elim fun L' h2=>⟨L',h2.from (below1 _ _)⟩⟩
 obtain⟨X,hX⟩:∃ X:Srv×Int,X=outputS S p bytes:=⟨_,rfl⟩
 rw [←hX] at HC ⊢
 clear h okv hX
 go_enter Tryz.func42,Tryz.ntmps42
 go_wp2_with (go_at_call 69;refine HC.out.mono ?_;rintro e w1 ⟨rfl,h1⟩;have H1:Hid (∃ L',SrvTo w S L X.1 L' w1):=h1;clear h1)
 go_ret
 exact⟨rfl,H1.out⟩
theorem change_focus (p n m:Int) (bytes:List UInt8) (w:World) (S:Srv) (L:Lay) (h:SrvIn w S L):
  Calls Tryz.prog 42 #[.pointer (some ⟨L.sb,0,none⟩),aval ⟨4,p,n,m,bytes⟩] w (ChEnd w S L (focusS S p)):=by
 have HC:Hid (Calls Tryz.prog 70 #[.pointer (some ⟨L.sb,0,none⟩),.int .i64 p] (w.alloc (abox ⟨4,p,n,m,bytes⟩)) (ChEnd w S L (focusS S p))):=
  (focus_any p (w.alloc (abox ⟨4,p,n,m,bytes⟩)) S L (h.alloc _)).mono fun e w' hE=>⟨hE.1,hE.2.elim fun L' h2=>⟨L',h2.from (below1 _ _)⟩⟩
 obtain⟨X,hX⟩:∃ X:Srv×Int,X=focusS S p:=⟨_,rfl⟩
 rw [←hX] at HC ⊢
 clear h hX
 go_enter Tryz.func42,Tryz.ntmps42
 go_wp2_with (go_at_call 70;refine HC.out.mono ?_;rintro e w1 ⟨rfl,h1⟩;have H1:Hid (∃ L',SrvTo w S L X.1 L' w1):=h1;clear h1)
 go_ret
 exact⟨rfl,H1.out⟩
theorem change_resize (p n m:Int) (bytes:List UInt8) (w:World) (S:Srv) (L:Lay) (h:SrvIn w S L):
  Calls Tryz.prog 42 #[.pointer (some ⟨L.sb,0,none⟩),aval ⟨5,p,n,m,bytes⟩] w (ChEnd w S L (resizeS S n m)):=by
 have HC:Hid (Calls Tryz.prog 71 #[.pointer (some ⟨L.sb,0,none⟩),.int .i64 n,.int .i64 m] (w.alloc (abox ⟨5,p,n,m,bytes⟩)) (ChEnd w S L (resizeS S n m))):=
  (resize_srv n m (w.alloc (abox ⟨5,p,n,m,bytes⟩)) S L (h.alloc _)).mono fun e w' hE=>⟨hE.1,hE.2.elim fun L' h2=>⟨L',h2.from (below1 _ _)⟩⟩
 obtain⟨X,hX⟩:∃ X:Srv×Int,X=resizeS S n m:=⟨_,rfl⟩
 rw [←hX] at HC ⊢
 clear h hX
 go_enter Tryz.func42,Tryz.ntmps42
 go_wp2_with (go_at_call 71;refine HC.out.mono ?_;rintro e w1 ⟨rfl,h1⟩;have H1:Hid (∃ L',SrvTo w S L X.1 L' w1):=h1;clear h1)
 go_ret
 exact⟨rfl,H1.out⟩
theorem change_attach (p n m:Int) (bytes:List UInt8) (w:World) (S:Srv) (L:Lay) (h:SrvIn w S L):
  Calls Tryz.prog 42 #[.pointer (some ⟨L.sb,0,none⟩),aval ⟨6,p,n,m,bytes⟩] w (ChEnd w S L (attachS S p n m)):=by
 have HC:Hid (Calls Tryz.prog 72 #[.pointer (some ⟨L.sb,0,none⟩),.int .i64 p,.int .i64 n,.int .i64 m] (w.alloc (abox ⟨6,p,n,m,bytes⟩)) (ChEnd w S L (attachS S p n m))):=
  (attach_any p n m (w.alloc (abox ⟨6,p,n,m,bytes⟩)) S L (h.alloc _)).mono fun e w' hE=>⟨hE.1,hE.2.elim fun L' h2=>⟨L',h2.from (below1 _ _)⟩⟩
 obtain⟨X,hX⟩:∃ X:Srv×Int,X=attachS S p n m:=⟨_,rfl⟩
 rw [←hX] at HC ⊢
 clear h hX
 go_enter Tryz.func42,Tryz.ntmps42
 go_wp2_with (go_at_call 72;refine HC.out.mono ?_;rintro e w1 ⟨rfl,h1⟩;have H1:Hid (∃ L',SrvTo w S L X.1 L' w1):=h1;clear h1)
 go_ret
 exact⟨rfl,H1.out⟩
theorem change_detach (p n m:Int) (bytes:List UInt8) (w:World) (S:Srv) (L:Lay) (h:SrvIn w S L):
  Calls Tryz.prog 42 #[.pointer (some ⟨L.sb,0,none⟩),aval ⟨7,p,n,m,bytes⟩] w (ChEnd w S L (detachS S p)):=by
 have HC:Hid (Calls Tryz.prog 73 #[.pointer (some ⟨L.sb,0,none⟩),.int .i64 p] (w.alloc (abox ⟨7,p,n,m,bytes⟩)) (ChEnd w S L (detachS S p))):=
  (detach_any p (w.alloc (abox ⟨7,p,n,m,bytes⟩)) S L (h.alloc _)).mono fun e w' hE=>⟨hE.1,hE.2.elim fun L' h2=>⟨L',h2.from (below1 _ _)⟩⟩
 obtain⟨X,hX⟩:∃ X:Srv×Int,X=detachS S p:=⟨_,rfl⟩
 rw [←hX] at HC ⊢
 clear h hX
 go_enter Tryz.func42,Tryz.ntmps42
 go_wp2_with (go_at_call 73;refine HC.out.mono ?_;rintro e w1 ⟨rfl,h1⟩;have H1:Hid (∃ L',SrvTo w S L X.1 L' w1):=h1;clear h1)
 go_ret
 exact⟨rfl,H1.out⟩
theorem change_tick (p n m:Int) (bytes:List UInt8) (w:World) (S:Srv) (L:Lay) (h:SrvIn w S L) (okv:OkV S.v):
  Calls Tryz.prog 42 #[.pointer (some ⟨L.sb,0,none⟩),aval ⟨8,p,n,m,bytes⟩] w (ChEnd w S L ((tickS S,0))):=by
 have HC:Hid (Calls Tryz.prog 74 #[.pointer (some ⟨L.sb,0,none⟩)] (w.alloc (abox ⟨8,p,n,m,bytes⟩)) (ChEnd w S L ((tickS S,0)))):=
  (tick_any (w.alloc (abox ⟨8,p,n,m,bytes⟩)) S L (h.alloc _) okv).mono fun e w' hE=>⟨hE.1,hE.2.elim fun L' h2=>⟨L',h2.from (below1 _ _)⟩⟩
 obtain⟨X,hX⟩:∃ X:Srv×Int,X=(tickS S,0):=⟨_,rfl⟩
 rw [←hX] at HC ⊢
 clear h okv hX
 go_enter Tryz.func42,Tryz.ntmps42
 go_wp2_with (go_at_call 74;refine HC.out.mono ?_;rintro e w1 ⟨rfl,h1⟩;have H1:Hid (∃ L',SrvTo w S L X.1 L' w1):=h1;clear h1)
 go_ret
 exact⟨rfl,H1.out⟩
theorem change_none (a:Ac) (w:World) (S:Srv) (L:Lay) (h:SrvIn w S L) (k2:¬ a.kind=2) (k3:¬ a.kind=3) (k4:¬ a.kind=4) (k5:¬ a.kind=5) (k6:¬ a.kind=6) (k7:¬ a.kind=7) (k8:¬ a.kind=8):
  Calls Tryz.prog 42 #[.pointer (some ⟨L.sb,0,none⟩),aval a] w (ChEnd w S L (S,2)):=by
 have H1:Hid (∃ L',SrvTo w S L S L' (w.alloc (abox a))):=⟨L,(SrvTo.refl h).later (below1 _ _)⟩
 clear h
 go_enter Tryz.func42,Tryz.ntmps42
 go_wp2
 go_ret
 exact⟨rfl,H1.out⟩
theorem change_any (a:Ac) (hl:a.bytes.length≤140737488355328) (w:World) (S:Srv) (L:Lay) (h:SrvIn w S L) (okv:OkV S.v):
  Calls Tryz.prog 42 #[.pointer (some ⟨L.sb,0,none⟩),aval a] w (ChEnd w S L (changeS S a)):=by
 obtain⟨kind,p,n,m,bytes⟩:=a
 simp only at hl
 unfold changeS
 simp only
 by_cases k2:kind=2
 ·subst k2
  rw [if_pos rfl]
  exact change_kill p n m bytes w S L h
 rw [if_neg k2]
 by_cases k3:kind=3
 ·subst k3
  rw [if_pos rfl]
  exact change_output p n m bytes hl w S L h okv
 rw [if_neg k3]
 by_cases k4:kind=4
 ·subst k4
  rw [if_pos rfl]
  exact change_focus p n m bytes w S L h
 rw [if_neg k4]
 by_cases k5:kind=5
 ·subst k5
  rw [if_pos rfl]
  exact change_resize p n m bytes w S L h
 rw [if_neg k5]
 by_cases k6:kind=6
 ·subst k6
  rw [if_pos rfl]
  exact change_attach p n m bytes w S L h
 rw [if_neg k6]
 by_cases k7:kind=7
 ·subst k7
  rw [if_pos rfl]
  exact change_detach p n m bytes w S L h
 rw [if_neg k7]
 by_cases k8:kind=8
 ·subst k8
  rw [if_pos rfl]
  exact change_tick p n m bytes w S L h okv
 rw [if_neg k8]
 exact change_none ⟨kind,p,n,m,bytes⟩ w S L h k2 k3 k4 k5 k6 k7 k8
end Go.Proofs.YtjikokfjnbhngaaGreatDoor.Sv
