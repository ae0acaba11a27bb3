/- Several texts in one, each as it was: DShow, DTop, DTop2, DTurnA. -/
import Derived.Test.YtjikokfjnbhngaaGreatDoorMDErase
import Derived.Test.YtjikokfjnbhngaaGreatDoorMDRow
import Derived.Test.YtjikokfjnbhngaaGreatDoorMGDraw
import Derived.Test.YtjikokfjnbhngaaGreatDoorMGCtl

/- The pen shows a screen. -/
namespace Go.Proofs.YtjikokfjnbhngaaGreatDoor
open Go.RowKit
set_option maxRecDepth 100000
theorem tagGC:(40:TypeId)≠66:=by decide
theorem tagGP:(40:TypeId)≠167:=by decide
theorem tagG5:(40:TypeId)≠5:=by decide
theorem PenTo.grid {w1 v:World} {pb b cap:Nat} {o1:Option Addr} {c1:Nat} {q q':Pen} (h:PenIn w1 pb b cap o1 c1 q) (hk:PenTo w1 pb b cap o1 q' v) {k:Nat} {c:Array Value} (hbx:w1.heap[k]?=some (.cells c 40 (0,0))):v.heap[k]?=some (.cells c 40 (0,0)):=by
 obtain⟨_,_,_,z⟩:=hk
 obtain⟨cur,hcur,_⟩:=h.scr
 refine(z.block k (Array.getElem?_eq_some_iff.1 hbx).1 (ne_tag hbx h.box tagGP) (ne_tag hbx hcur tagGC) (fun e=>?_)).trans hbx
 obtain⟨cur2,hc2⟩:=own_tag h.own e
 exact ne_tag hbx hc2 tagG5 rfl
set_option maxHeartbeats 1500000 in
theorem show_pen (pb b cap:Nat) (oo:Option Addr) (oc:Nat) (p:Pen) (ok:OkG p.g) (hcap:p.g.n≤cap) (t:Gr) (okt:OkG t) (hwd:t.wide=p.g.wide) (hhg:t.high=p.g.high) (htc:t.col < t.wide) (ta:Option Addr) (ct:Nat) (hct:t.n≤ct) (hl:p.out.length≤100) (w:World) (h:PenIn w pb b cap oo oc p)
  (ht:∀ w' o',Kept w w' pb b oo o'→RdS w' ta t.n t.f):
  Calls Tryz.prog 135 #[.pointer (some ⟨pb,0,none⟩),gval t ta ct] w fun e w'=>e=.returned (.tuple #[])∧PenTo w pb b cap oo (showP p t) w':=by
 have w1:=okt.w1
 have w2:=okt.w2
 have h1:=okt.h1
 have h2:=okt.h2
 have hn:=size_nat okt
 have hnp:0 < t.n:=by
  rw [hn]
  exact Nat.mul_pos (by omega) (by omega)
 obtain⟨bt,ot,rfl,_⟩:=(ht w oo (Kept.refl _ _ _ _)).resolve_left (by omega)
 obtain⟨H,hH⟩:∃ H:Nat,(H:Int)=t.high:=⟨t.high.toNat,by omega⟩
 obtain⟨W,hW⟩:∃ W:Nat,W=t.wide.toNat:=⟨_,rfl⟩
 have hnn:t.n=H*W:=by rw [hn,hW, ←hH];rfl
 obtain⟨Q,hQ⟩:∃ Q:Nat→Pen,Q=fun k=>rowsP p t k:=⟨_,rfl⟩
 have HQ:Hid (∀ k,k≤H→OkG (Q k).g∧(Q k).g.wide=p.g.wide∧(Q k).g.high=p.g.high∧(Q k).g.n=p.g.n∧(Q k).out.length≤5000):=fun k hk=>by
  obtain⟨ha,_⟩:=rows_end ok t okt hwd hhg k (by omega)
  obtain⟨o1,o2,o3,o4⟩:=ha.ok ok
  obtain⟨m,m1,m2,_⟩:=ha.more
  rw [hQ]
  refine⟨o1,o2,o3,o4,?_⟩
  show (rowsP p t k).out.length≤5000
  rw [m1,List.length_append]
  omega
 have HST:Hid (∀ k,Q (k+1)=rowP (Q k) k (shF t.f (k*W))):=fun k=>by rw [hQ,hW];rfl
 have HQ0:Hid (PenTo w pb b cap oo (Q 0) (w.alloc (gbox t (some ⟨bt,ot,none⟩) ct))):=by rw [hQ];exact h.stay (below1 _ _)
 have HSH:Hid (showP p t=moveP (Q H) t.row t.col):=by show showP p t=_;rw [hQ];unfold showP;rw [←hH];rfl
 have HCE:Hid (∀ k:Nat,k < H→∀ w,Calls Tryz.prog 139 #[gval t (some ⟨bt,ot,none⟩) ct,.int .i64 k] w fun e w'=>e=.returned (.slice (some ⟨bt,ot+k*W*4,none⟩) W (ct - k*W))∧w'=w.alloc (gbox t (some ⟨bt,ot,none⟩) ct)):=fun k hk w=>by
  have:=cells_any t okt bt ot ct k (by omega) hct w
  rw [←hW] at this
  exact this
 have hkW:∀ k,k < H→k*W+W≤t.n:=fun k hk=>by
  have:(k+1)*W≤H*W:=Nat.mul_le_mul_right _ (by omega)
  rw [Nat.succ_mul] at this
  omega
 have HRO:Hid (∀ k,k < H→∀ wr,PenTo w pb b cap oo (Q k) wr→wr.heap[w.heap.size]?=some (gbox t (some ⟨bt,ot,none⟩) ct)→∀ o:Obj,Calls Tryz.prog 138 #[.pointer (some ⟨pb,0,none⟩),.int .i64 k,.slice (some ⟨bt,ot+k*W*4,none⟩) W (ct - k*W)] (wr.alloc o) fun e w'=>e=.returned (.tuple #[])∧PenTo w pb b cap oo (Q (k+1)) w'∧w'.heap[w.heap.size]?=some (gbox t (some ⟨bt,ot,none⟩) ct)):=fun k hk wr hpt hbx o=>by
  obtain⟨z1,z2,z3,z4,z5⟩:=HQ.out k (by omega)
  obtain⟨o1,c1,a1,k1⟩:=hpt
  have hkw:=hkW k hk
  have hbel:=below1 wr o
  rw [HST.out k]
  refine(showRow_pen pb b cap o1 c1 (Q k) z1 (by rw [z4];exact hcap) k (by rw [z3];omega) (shF t.f (k*W)) (fun j hj=>?_) _ (ct - k*W) W (by rw [z2, ←hwd];exact hW) (by omega) (by omega) (wr.alloc o) (a1.later hbel) (fun w' o' hk'=>?_)).mono fun e w' hk'=>⟨hk'.1,PenTo.trans (k1.trans (Kept.below pb b o1 hbel)) hk'.2,PenTo.grid (a1.later hbel) hk'.2 (at_old hbx o)⟩
  ·rw [z2, ←hwd, ←hW] at hj
   exact okt.cells _ (by omega)
  ·exact(ht w' o' ((k1.trans (Kept.below pb b o1 hbel)).trans hk')).shift (k*W) W _ (by omega) rfl
 have HMV:Hid (∀ wr,PenTo w pb b cap oo (Q H) wr→Calls Tryz.prog 140 #[.pointer (some ⟨pb,0,none⟩),.int .i64 t.row,.int .i64 t.col] wr fun e w'=>e=.returned (.tuple #[])∧PenTo w pb b cap oo (showP p t) w'):=fun wr hpt=>by
  obtain⟨z1,z2,z3,z4,z5⟩:=HQ.out H (Nat.le_refl _)
  have r1:=okt.r1
  have r2:=okt.r2
  have k1:=okt.c1
  rw [HSH.out]
  exact move_from hpt z1 t.row t.col r1 (by omega) k1 (by omega) (by omega)
 have hlt:=h.lt
 have hH10:H≤10:=by omega
 have HH:Hid ((H:Int)=t.high):=hH
 have hh1:1≤t.high:=h1
 clear h ht hW hn hnn ok okt hQ hwd hhg htc hkW hH HST HQ HSH
 go_enter Tryz.func135,Tryz.ntmps135
 go_wp2_with fail
 go_loopw [7] (fun i wr=>∃ k:Nat,k≤H∧i=.int .i64 k∧PenTo w pb b cap oo (Q k) wr∧wr.heap[w.heap.size]?=some (gbox t (some ⟨bt,ot,none⟩) ct)) (fun i _=>H - (intOf i).toNat)
 case atStart=>exact⟨0,Nat.zero_le _,rfl,HQ0.out,at_new w _⟩
 case round=>
  obtain⟨k,hk,rfl,hpt,hbx⟩:=hrel
  have HI:Hid (PenTo w pb b cap oo (Q k) wr∧wr.heap[w.heap.size]?=some (gbox t (some ⟨bt,ot,none⟩) ct)):=⟨hpt,hbx⟩
  obtain⟨⟨x0,x1,x2,x3,x4,x5,x6,x7,x8⟩,xf⟩:=nine hbx
  clear hpt hbx HQ0
  by_cases hlt:k < H
  ·have hlt':(k:Int) < t.high:=by rw [←HH.out];omega
   go_wp2_with (first
    | (go_at_call 139;refine(HCE.out k hlt _).mono ?_;rintro e v1 ⟨rfl,rfl⟩)
    | (go_at_call 138;refine(HRO.out k hlt _ HI.out.1 HI.out.2 _).mono ?_;rintro e v2 ⟨rfl,hk2,hx2⟩;have HK2:Hid (PenTo w pb b cap oo (Q (k+1)) v2∧v2.heap[w.heap.size]?=some (gbox t (some ⟨bt,ot,none⟩) ct)):=⟨hk2,hx2⟩;clear hk2 hx2))
   go_roundw
   case rel=>exact⟨k+1,by omega,by go_num,HK2.out.1,HK2.out.2⟩
   case measure=>simp [intOf];omega
  ·have hlt':¬ (k:Int) < t.high:=by rw [←HH.out];omega
   have HI2:Hid (PenTo w pb b cap oo (Q H) wr):=by rw [show H=k by omega];exact HI.out.1
   go_wp2_with (go_at_call 140;refine(HMV.out _ HI2.out).mono ?_;rintro e v3 ⟨rfl,hk3⟩)
   go_end0
   exact⟨rfl,hk3⟩
end Go.Proofs.YtjikokfjnbhngaaGreatDoor

/- Turn: the program's answer is the plain machine's. -/
namespace Go.Proofs.YtjikokfjnbhngaaGreatDoor
open Go.RowKit
set_option maxRecDepth 100000
set_option maxHeartbeats 1000000 in
theorem own_any (g:Gr) (ao:Option Addr) (cap:Nat) (w:World) (hr:RdS w ao g.n g.f) (hn:ao=none→g.n=0∧cap=0) (hm:g.n≤4398046511104):
  Calls Tryz.prog 133 #[gval g ao cap] w fun e w'=>∃ ao' cap',e=.returned (gval g ao' cap')∧Copied w g.n g.f ao' cap' w':=by
 have HR:Hid (RdS w ao g.n g.f):=hr
 have HCL:Hid (∀ w,RdS w ao g.n g.f→Calls Tryz.prog 48 #[.slice ao g.n cap] w fun e w'=>∃ ao' cap',e=.returned (.slice ao' g.n cap')∧Copied w g.n g.f ao' cap' w'):=fun w hr=>clone_any ao cap g.n g.f w hr hn (by omega)
 have HB2:Hid (∀ o1 o2:Obj,Below w.heap.size w ((w.alloc o1).alloc o2)):=fun o1 o2=>(below1 _ _).alloc (by simp) _
 clear hr hn hm
 go_enter Tryz.func133,Tryz.ntmps133
 go_wp2_with (go_at_call 48;refine(HCL.out _ (HR.out.below (HB2.out _ _))).mono ?_;rintro e w1 ⟨ao',cap',rfl,hcp⟩;have HCP:Hid (Copied ((w.alloc (gbox g ao cap)).alloc gzero) g.n g.f ao' cap' w1):=hcp;obtain⟨⟨x0,x1,x2,x3,x4,x5,x6,x7,x8⟩,z⟩:=nine (below_block hcp.2.2 (at_old (at_new w _) _) (by simp;omega));obtain⟨⟨u0,u1,u2,u3,u4,u5,u6,u7,u8⟩,v⟩:=nine (below_block hcp.2.2 (at_new1 w _ _) (by simp));clear hcp)
 refine bodyPost_ret (v:=gval g ao' cap') (by simp [results,Tryz.results133,go_sem, *]) rfl ?_
 exact⟨ao',cap',rfl,(start_of HCP.out).copied (Below.refl _ _) _ _ _ _ _ _ _ _ _⟩
set_option maxHeartbeats 1000000 in
theorem showsD_any (g:Gr) (ao:Option Addr) (cap:Nat) (w:World) (hr:RdS w ao g.n g.f) (hm:(g.n:Int)≤9223372036854775807) (S:Bool) (hS:S=showsB g):
  Calls Tryz.prog 132 #[gval g ao cap] w fun e w'=>e=.returned (.bool S)∧Below w.heap.size w w':=by
 obtain⟨G,hG⟩:∃ G,G=goodG g:=⟨_,rfl⟩
 have HG:Hid (∀ w,RdS w ao g.n g.f→Calls Tryz.prog 33 #[gval g ao cap] w fun e w'=>e=.returned (.bool G)∧Below w.heap.size w w'):=fun w hr=>good_any g ao cap w hr hm G hG
 have HS:Hid (S=(G && decide (g.col < g.wide))):=by rw [hS,hG];rfl
 have HR:Hid (RdS w ao g.n g.f):=hr
 clear hr hm hS hG
 cases G
 ·go_enter Tryz.func132,Tryz.ntmps132
  go_wp2_with (go_at_call 33;refine(HG.out _ (HR.out.below (below1 _ _))).mono ?_;rintro e w1 ⟨rfl,hb1⟩;have HB1:Hid (Below w.heap.size w w1):=below_up hb1;obtain⟨⟨x0,x1,x2,x3,x4,x5,x6,x7,x8⟩,z⟩:=nine (below_block hb1 (at_new w _) (by simp));clear hb1)
  go_ret
  exact⟨ret_bool (by rw [HS.out];rfl),HB1.out⟩
 ·go_enter Tryz.func132,Tryz.ntmps132
  go_wp2_with (go_at_call 33;refine(HG.out _ (HR.out.below (below1 _ _))).mono ?_;rintro e w1 ⟨rfl,hb1⟩;have HB1:Hid (Below w.heap.size w w1):=below_up hb1;obtain⟨⟨x0,x1,x2,x3,x4,x5,x6,x7,x8⟩,z⟩:=nine (below_block hb1 (at_new w _) (by simp));clear hb1)
  go_ret
  exact⟨ret_bool (by rw [HS.out];rfl),HB1.out⟩
def turnR (x t:Gr):List UInt8×Gr×Int:=if turnB x t then ((turnP x t).out,(turnP x t).g,0) else ([],x,1)
def DrawEnd (w:World) (r:List UInt8×Gr×Int) (e:Ending) (w':World):Prop:=
 ∃ ao cap,e=.returned (.tuple #[.string (bs r.1),gval r.2.1 ao cap,.int .i64 r.2.2])∧Copied w r.2.1.n r.2.1.f ao cap w'
structure Box3 (w wr:World) (a b:Obj):Prop where
 one:wr.heap[w.heap.size]?=some a
 two:wr.heap[w.heap.size+1]?=some b
 res:wr.heap[w.heap.size+2]?=some gzero
 below:Below w.heap.size w wr
theorem Box3.later {w wr w':World} {a b:Obj} (h:Box3 w wr a b) (hb:Below wr.heap.size wr w'):Box3 w w' a b:=
 ⟨below_block hb h.one (Array.getElem?_eq_some_iff.1 h.one).1,below_block hb h.two (Array.getElem?_eq_some_iff.1 h.two).1,below_block hb h.res (Array.getElem?_eq_some_iff.1 h.res).1,h.below.trans (hb.mono h.below.size)⟩
theorem box3 (w:World) (a b:Obj):Box3 w (((w.alloc a).alloc b).alloc gzero) a b:=
 ⟨at_old (at_old (at_new w _) _) _,at_old (at_new1 w _ _) _,at_new2' w _ _ _,((below1 _ _).alloc (by simp) _).alloc (by simp;omega) _⟩
theorem Copied.out3 {w wr w2:World} {n:Nat} {f:Nat→Cel} {ao:Option Addr} {cap:Nat} {a b:Obj} (h:Copied wr n f ao cap w2) (h3:Box3 w wr a b) (u0 u1 u2 u3 u4 u5 u6 u7 u8:Value):
  Copied w n f ao cap (((((((((w2.setCell ⟨w.heap.size+2,0,none⟩ u0).setCell ⟨w.heap.size+2,1,none⟩ u1).setCell ⟨w.heap.size+2,2,none⟩ u2).setCell ⟨w.heap.size+2,3,none⟩ u3).setCell ⟨w.heap.size+2,4,none⟩ u4).setCell ⟨w.heap.size+2,5,none⟩ u5).setCell ⟨w.heap.size+2,6,none⟩ u6).setCell ⟨w.heap.size+2,7,none⟩ u7).setCell ⟨w.heap.size+2,8,none⟩ u8):=
 h.out h3.below (by omega) (Array.getElem?_eq_some_iff.1 h3.res).1 _ _ _ _ _ _ _ _ _
set_option maxHeartbeats 2000000 in
theorem turn_no (x:Gr) (ao:Option Addr) (cap:Nat) (t:Gr) (ta:Option Addr) (ct:Nat) (w:World) (hr:RdS w ao x.n x.f) (hn:ao=none→x.n=0∧cap=0) (hm:x.n≤4398046511104) (ht:RdS w ta t.n t.f) (hmt:t.n≤4398046511104) (hB:turnB x t=false):
  Calls Tryz.prog 131 #[gval x ao cap,gval t ta ct] w (DrawEnd w ([],x,1)):=by
 obtain⟨G,hG⟩:∃ G,G=goodG x:=⟨_,rfl⟩
 obtain⟨S,hS⟩:∃ S,S=showsB t:=⟨_,rfl⟩
 have HG:Hid (∀ wr,Box3 w wr (gbox x ao cap) (gbox t ta ct)→Calls Tryz.prog 33 #[gval x ao cap] wr fun e w'=>e=.returned (.bool G)∧Below wr.heap.size wr w'):=fun wr hb=>good_any x ao cap wr (hr.below hb.below) (by omega) G hG
 have HS:Hid (∀ wr,Box3 w wr (gbox x ao cap) (gbox t ta ct)→Calls Tryz.prog 132 #[gval t ta ct] wr fun e w'=>e=.returned (.bool S)∧Below wr.heap.size wr w'):=fun wr hb=>showsD_any t ta ct wr (ht.below hb.below) (by omega) S hS
 have HO:Hid (∀ wr,Box3 w wr (gbox x ao cap) (gbox t ta ct)→Calls Tryz.prog 133 #[gval x ao cap] wr fun e w'=>∃ ao' cap',e=.returned (gval x ao' cap')∧Copied wr x.n x.f ao' cap' w'):=fun wr hb=>own_any x ao cap wr (hr.below hb.below) hn hm
 have H0:Hid (Box3 w (((w.alloc (gbox x ao cap)).alloc (gbox t ta ct)).alloc gzero) (gbox x ao cap) (gbox t ta ct)):=box3 w _ _
 have hB':(G && S && decide (x.wide=t.wide) && decide (x.high=t.high))=false:=by rw [hG,hS];exact hB
 clear hr hn hm ht hmt hB hG hS
 cases G
 ·clear hB'
  go_enter Tryz.func131,Tryz.ntmps131
  go_wp2_with (first
   | (go_at_call 33;refine(HG.out _ H0.out).mono ?_;rintro e w1 ⟨rfl,hb1⟩;have H1:Hid (Box3 w w1 (gbox x ao cap) (gbox t ta ct)):=H0.out.later hb1;clear hb1 H0;obtain⟨⟨x0,x1,x2,x3,x4,x5,x6,x7,x8⟩,xf⟩:=nine H1.out.one)
   | (go_at_call 133;refine(HO.out _ H1.out).mono ?_;rintro e w3 ⟨ao',cap',rfl,hcp⟩;have HCP:Hid (Copied w1 x.n x.f ao' cap' w3):=hcp;obtain⟨⟨u0,u1,u2,u3,u4,u5,u6,u7,u8⟩,uf⟩:=nine (below_block hcp.2.2 H1.out.res (Array.getElem?_eq_some_iff.1 H1.out.res).1);clear hcp x0 x1 x2 x3 x4 x5 x6 x7 x8 xf))
  refine bodyPost_ret (v:=.tuple #[.string (bs []),gval x ao' cap',.int .i64 1]) (by simp [results,Tryz.results131,go_sem, *]) rfl ?_
  exact⟨ao',cap',rfl,HCP.out.out3 H1.out _ _ _ _ _ _ _ _ _⟩
 ·cases S
  ·clear hB'
   go_enter Tryz.func131,Tryz.ntmps131
   go_wp2_with (first
    | (go_at_call 33;refine(HG.out _ H0.out).mono ?_;rintro e w1 ⟨rfl,hb1⟩;have H1:Hid (Box3 w w1 (gbox x ao cap) (gbox t ta ct)):=H0.out.later hb1;clear hb1 H0;obtain⟨⟨y0,y1,y2,y3,y4,y5,y6,y7,y8⟩,yf⟩:=nine H1.out.two)
    | (go_at_call 132;refine(HS.out _ H1.out).mono ?_;rintro e w2 ⟨rfl,hb2⟩;have H2:Hid (Box3 w w2 (gbox x ao cap) (gbox t ta ct)):=H1.out.later hb2;clear hb2 H1 y0 y1 y2 y3 y4 y5 y6 y7 y8 yf;obtain⟨⟨x0,x1,x2,x3,x4,x5,x6,x7,x8⟩,xf⟩:=nine H2.out.one)
    | (go_at_call 133;refine(HO.out _ H2.out).mono ?_;rintro e w3 ⟨ao',cap',rfl,hcp⟩;have HCP:Hid (Copied w2 x.n x.f ao' cap' w3):=hcp;obtain⟨⟨u0,u1,u2,u3,u4,u5,u6,u7,u8⟩,uf⟩:=nine (below_block hcp.2.2 H2.out.res (Array.getElem?_eq_some_iff.1 H2.out.res).1);clear hcp x0 x1 x2 x3 x4 x5 x6 x7 x8 xf))
   refine bodyPost_ret (v:=.tuple #[.string (bs []),gval x ao' cap',.int .i64 1]) (by simp [results,Tryz.results131,go_sem, *]) rfl ?_
   exact⟨ao',cap',rfl,HCP.out.out3 H2.out _ _ _ _ _ _ _ _ _⟩
  ·have hor:(x.wide !=t.wide)=true∨(x.wide !=t.wide)=false∧(x.high !=t.high)=true:=by
    by_cases e:x.wide=t.wide
    ·refine .inr ⟨by simpa using e,?_⟩
     simpa [e] using hB'
    ·exact .inl (by simpa using e)
   clear hB'
   rcases hor with e1 | ⟨e1,e2⟩
   all_goals (
    go_enter Tryz.func131,Tryz.ntmps131
    go_wp2_with (first
     | (go_at_call 33;refine(HG.out _ H0.out).mono ?_;rintro e w1 ⟨rfl,hb1⟩;have H1:Hid (Box3 w w1 (gbox x ao cap) (gbox t ta ct)):=H0.out.later hb1;clear hb1 H0;obtain⟨⟨y0,y1,y2,y3,y4,y5,y6,y7,y8⟩,yf⟩:=nine H1.out.two)
     | (go_at_call 132;refine(HS.out _ H1.out).mono ?_;rintro e w2 ⟨rfl,hb2⟩;have H2:Hid (Box3 w w2 (gbox x ao cap) (gbox t ta ct)):=H1.out.later hb2;clear hb2 H1 y0 y1 y2 y3 y4 y5 y6 y7 y8 yf;obtain⟨⟨x0,x1,x2,x3,x4,x5,x6,x7,x8⟩,xf⟩:=nine H2.out.one;obtain⟨⟨y0,y1,y2,y3,y4,y5,y6,y7,y8⟩,yf⟩:=nine H2.out.two)
     | (go_at_call 133;refine(HO.out _ H2.out).mono ?_;rintro e w3 ⟨ao',cap',rfl,hcp⟩;have HCP:Hid (Copied w2 x.n x.f ao' cap' w3):=hcp;obtain⟨⟨u0,u1,u2,u3,u4,u5,u6,u7,u8⟩,uf⟩:=nine (below_block hcp.2.2 H2.out.res (Array.getElem?_eq_some_iff.1 H2.out.res).1);clear hcp x0 x1 x2 x3 x4 x5 x6 x7 x8 xf y0 y1 y2 y3 y4 y5 y6 y7 y8 yf))
    refine bodyPost_ret (v:=.tuple #[.string (bs []),gval x ao' cap',.int .i64 1]) (by simp [results,Tryz.results131,go_sem, *]) rfl ?_
    exact⟨ao',cap',rfl,HCP.out.out3 H2.out _ _ _ _ _ _ _ _ _⟩)
end Go.Proofs.YtjikokfjnbhngaaGreatDoor

/- Turn where it is not refused. -/
namespace Go.Proofs.YtjikokfjnbhngaaGreatDoor
open Go.RowKit
set_option maxRecDepth 100000
theorem RdS.kept {w w1 w':World} {ta:Option Addr} {n:Nat} {f:Nat→Cel} {pb b:Nat} {o':Option Addr} (h:RdS w ta n f) (hb:Below w.heap.size w w1) (hk:Kept w1 w' pb b none o') (h1:w.heap.size≤pb) (h2:w.heap.size≤b):RdS w' ta n f:=
 h.below (hb.trans (hk.toBelow h1 h2 (fun k e=>by simp [blkD] at e) hb.size))
theorem new_pen {w:World} {b cap n:Nat} {x:Gr} (h:Scr w b x.n x.f) (hn:n=x.n):PenIn (w.alloc (.cells #[.slice none 0 0,.int .i64 x.wide,.int .i64 x.high,.slice (some ⟨b,0,none⟩) n cap,.int .i64 x.row,.int .i64 x.col,.int .i64 x.ink,.bool x.bold,.int .i64 x.top,.int .i64 x.bottom] 167)) w.heap.size b cap none 0 ⟨[],x⟩:=by
 subst hn
 exact⟨at_new w _,World.ownsRow_nil _ _ _ _,h.alloc _⟩
theorem Box3.pen {w w1 w2:World} {_a _b:Obj} {pb sb cap:Nat} {q q':Pen} {oo:Option Addr} {oc:Nat} {c1 c2:Array Value} (h:Box3 w w1 (.cells c1 40) (.cells c2 40)) (hp:PenIn w1 pb sb cap oo oc q) (hk:PenTo w1 pb sb cap oo q' w2):
  w2.heap[w.heap.size]?=some (.cells c1 40 (0,0))∧w2.heap[w.heap.size+1]?=some (.cells c2 40 (0,0))∧w2.heap[w.heap.size+2]?=some gzero:=
 ⟨PenTo.grid hp hk h.one,PenTo.grid hp hk h.two,PenTo.grid hp hk h.res⟩
theorem draw_end {w w1 w2:World} {pb b cap B:Nat} {q:Pen} (hb:Below w.heap.size w w1) (hk:PenTo w1 pb b cap none q w2) (h1:w.heap.size≤pb) (h2:w.heap.size≤b) (hc:q.g.n≤cap) (hB:w.heap.size≤B) (hne:b≠B) (u0 u1 u2 u3 u4 u5 u6 u7 u8:Value):
  Copied w q.g.n q.g.f (some ⟨b,0,none⟩) cap (((((((((w2.setCell ⟨B,0,none⟩ u0).setCell ⟨B,1,none⟩ u1).setCell ⟨B,2,none⟩ u2).setCell ⟨B,3,none⟩ u3).setCell ⟨B,4,none⟩ u4).setCell ⟨B,5,none⟩ u5).setCell ⟨B,6,none⟩ u6).setCell ⟨B,7,none⟩ u7).setCell ⟨B,8,none⟩ u8).drew:=by
 obtain⟨o',c',a,k⟩:=hk
 have hbel:Below w.heap.size w w2:=hb.trans (k.toBelow h1 h2 (fun k e=>by simp [blkD] at e) hb.size)
 have hs:=(scr_set9 a.scr hne u0 u1 u2 u3 u4 u5 u6 u7 u8).drew
 have hb9:=redrew (below_set9 hbel hB u0 u1 u2 u3 u4 u5 u6 u7 u8)
 exact⟨hs.rd,fun _=>⟨b,rfl,h2,hc,hs⟩,hb9⟩
set_option maxHeartbeats 2000000 in
theorem turn_yes (x:Gr) (ao:Option Addr) (cap:Nat) (t:Gr) (ta:Option Addr) (ct:Nat) (w:World) (hr:RdS w ao x.n x.f) (hn:ao=none→x.n=0∧cap=0) (ht:RdS w ta t.n t.f) (hct:t.n≤ct) (hB:turnB x t=true):
  Calls Tryz.prog 131 #[gval x ao cap,gval t ta ct] w (DrawEnd w ((turnP x t).out,(turnP x t).g,0)):=by
 obtain⟨okx,okt,htc,hwd,hhg⟩:=(turnB_iff x t).1 hB
 obtain⟨m1,m2,_⟩:=okx.nums
 obtain⟨m3,m4,_⟩:=okt.nums
 have hxn:x.n=x.high.toNat*x.wide.toNat:=size_nat okx
 have hpos:0 < x.n:=by
  have:=okx.h1
  have:=okx.w1
  rw [hxn]
  exact Nat.mul_pos (by omega) (by omega)
 have HG:Hid (∀ wr,Box3 w wr (gbox x ao cap) (gbox t ta ct)→Calls Tryz.prog 33 #[gval x ao cap] wr fun e w'=>e=.returned (.bool true)∧Below wr.heap.size wr w'):=fun wr hb=>good_any x ao cap wr (hr.below hb.below) (by omega) true ((goodG_iff x).2 okx).symm
 have HS:Hid (∀ wr,Box3 w wr (gbox x ao cap) (gbox t ta ct)→Calls Tryz.prog 132 #[gval t ta ct] wr fun e w'=>e=.returned (.bool true)∧Below wr.heap.size wr w'):=fun wr hb=>showsD_any t ta ct wr (ht.below hb.below) (by omega) true (by unfold showsB;rw [(goodG_iff t).2 okt];simpa using htc)
 have HO:Hid (∀ wr,Box3 w wr (gbox x ao cap) (gbox t ta ct)→Calls Tryz.prog 133 #[gval x ao cap] wr fun e w'=>∃ ao' cap',e=.returned (gval x ao' cap')∧Copied wr x.n x.f ao' cap' w'):=fun wr hb=>own_any x ao cap wr (hr.below hb.below) hn (by omega)
 have H0:Hid (Box3 w (((w.alloc (gbox x ao cap)).alloc (gbox t ta ct)).alloc gzero) (gbox x ao cap) (gbox t ta ct)):=box3 w _ _
 have HSH:Hid (∀ w1 pb b cap',Below w.heap.size w w1→PenIn w1 pb b cap' none 0 ⟨[],x⟩→w.heap.size≤pb→w.heap.size≤b→x.n≤cap'→Calls Tryz.prog 135 #[.pointer (some ⟨pb,0,none⟩),gval t ta ct] w1 fun e w'=>e=.returned (.tuple #[])∧PenTo w1 pb b cap' none (turnP x t) w'):=fun w1 pb b cap' hb hp h1 h2 hc=>
  show_pen pb b cap' none 0 ⟨[],x⟩ okx hc t okt hwd.symm hhg.symm htc ta ct hct (by simp) w1 hp (fun w' o' hk=>ht.kept hb hk h1 h2)
 have hdr:=turn_draws okx okt htc hwd hhg
 obtain⟨q,hq⟩:∃ q,q=turnP x t:=⟨_,rfl⟩
 rw [←hq] at HSH hdr ⊢
 have hqn:q.g.n=x.n:=by
  rw [hdr.n,size_nat okt,size_nat okx,hwd,hhg]
 have HQN:Hid (q.g.n=x.n):=hqn
 have e1:(x.wide !=t.wide)=false:=by simpa using hwd
 have e2:(x.high !=t.high)=false:=by simpa using hhg
 clear hr hn ht hB okx okt hwd hhg htc m1 m2 m3 m4 hxn hdr hq hct hqn
 go_enter Tryz.func131,Tryz.ntmps131
 go_wp2_with (first
  | (go_at_call 33;refine(HG.out _ H0.out).mono ?_;rintro e w1 ⟨rfl,hb1⟩;have H1:Hid (Box3 w w1 (gbox x ao cap) (gbox t ta ct)):=H0.out.later hb1;clear hb1 H0;obtain⟨⟨y0,y1,y2,y3,y4,y5,y6,y7,y8⟩,yf⟩:=nine H1.out.two)
  | (go_at_call 132;refine(HS.out _ H1.out).mono ?_;rintro e w2 ⟨rfl,hb2⟩;have H2:Hid (Box3 w w2 (gbox x ao cap) (gbox t ta ct)):=H1.out.later hb2;clear hb2 H1 y0 y1 y2 y3 y4 y5 y6 y7 y8 yf;obtain⟨⟨x0,x1,x2,x3,x4,x5,x6,x7,x8⟩,xf⟩:=nine H2.out.one;obtain⟨⟨y0,y1,y2,y3,y4,y5,y6,y7,y8⟩,yf⟩:=nine H2.out.two)
  | (go_at_call 133;refine(HO.out _ H2.out).mono ?_;rintro e w3 ⟨ao',cap',rfl,hcp⟩;have H3:Hid (Box3 w w3 (gbox x ao cap) (gbox t ta ct)):=H2.out.later hcp.2.2;obtain⟨b,rfl,hbb,hbc,hscr⟩:=hcp.2.1 hpos;have HSC:Hid (Scr w3 b x.n x.f∧w.heap.size≤b∧x.n≤cap'):=⟨hscr,Nat.le_trans H2.out.below.size hbb,hbc⟩;clear hcp hbb hbc hscr H2 x0 x1 x2 x3 x4 x5 x6 x7 x8 xf y0 y1 y2 y3 y4 y5 y6 y7 y8 yf;obtain⟨⟨y0,y1,y2,y3,y4,y5,y6,y7,y8⟩,yf⟩:=nine H3.out.two;have hz3:w.heap.size+2 < w3.heap.size:=(Array.getElem?_eq_some_iff.1 H3.out.res).1;have hz2:w.heap.size+1 < w3.heap.size:=(by omega))
  | (go_at_call 135;refine(HSH.out _ w3.heap.size b cap' (H3.out.below.alloc H3.out.below.size _) (new_pen HSC.out.1 rfl) H3.out.below.size HSC.out.2.1 HSC.out.2.2).mono ?_;rintro e w5 ⟨rfl,hk5⟩;have hres:=PenTo.grid (new_pen HSC.out.1 rfl) hk5 (at_old H3.out.res _);have HE:Hid (∀ u0 u1 u2 u3 u4 u5 u6 u7 u8:Value,Copied w q.g.n q.g.f (some ⟨b,0,none⟩) cap' (((((((((w5.setCell ⟨w.heap.size+2,0,none⟩ u0).setCell ⟨w.heap.size+2,1,none⟩ u1).setCell ⟨w.heap.size+2,2,none⟩ u2).setCell ⟨w.heap.size+2,3,none⟩ u3).setCell ⟨w.heap.size+2,4,none⟩ u4).setCell ⟨w.heap.size+2,5,none⟩ u5).setCell ⟨w.heap.size+2,6,none⟩ u6).setCell ⟨w.heap.size+2,7,none⟩ u7).setCell ⟨w.heap.size+2,8,none⟩ u8).drew):=(fun u0 u1 u2 u3 u4 u5 u6 u7 u8=>draw_end (H3.out.below.alloc H3.out.below.size _) hk5 H3.out.below.size HSC.out.2.1 (by rw [HQN.out];exact HSC.out.2.2) (by omega) (fun e=>by have hs5:=HSC.out.1;obtain⟨cur,hcur,_⟩:=hs5;rw [e] at hcur;exact ne_tag H3.out.res hcur tagGC rfl) u0 u1 u2 u3 u4 u5 u6 u7 u8);obtain⟨o5,c5,hp5,_⟩:=hk5;clear y0 y1 y2 y3 y4 y5 y6 y7 y8 yf;obtain⟨⟨c0,c1,c2,c3,c4,c5',c6,c7,c8,c9⟩,cf⟩:=ten hp5.box;obtain⟨⟨u0,u1,u2,u3,u4,u5,u6,u7,u8⟩,uf⟩:=nine hres;obtain⟨S,hS⟩:∃ S,S=bs q.out:=⟨_,rfl⟩;have hcv:(convert 165 9 (.slice o5 q.out.length c5)).run Tryz.prog w5.drew=.ok (.string S) w5.drew:=(by rw [hS];exact run_text w5.drew 0 q.out.length c5 o5 q.out rfl hp5.own.drew);have HSS:Hid (S=bs q.out):=hS;have hpl:w3.heap.size < w5.heap.size:=hp5.lt;clear hS hp5 hres HSC H3))
 have hne:w3.heap.size≠w.heap.size+2:=by omega
 have hne2:w.heap.size+2≠w3.heap.size:=by omega
 go_region
 go_wp2
 refine bodyPost_ret (v:=.tuple #[.string S,gval q.g (some ⟨b,0,none⟩) cap',.int .i64 0]) (by simp [results,Tryz.results131,go_sem, *]) rfl ?_
 exact⟨some ⟨b,0,none⟩,cap',by rw [HSS.out],HE.out _ _ _ _ _ _ _ _ _⟩
end Go.Proofs.YtjikokfjnbhngaaGreatDoor

/- What Turn answers, whatever the screens. -/
namespace Go.Proofs.YtjikokfjnbhngaaGreatDoor
open Go.RowKit
set_option maxRecDepth 100000
theorem belowChain {a b c:World} (h:Below a.heap.size a b) (k:Below b.heap.size b c):Below a.heap.size a c:=h.trans (k.mono h.size)
theorem turn_any (x:Gr) (ao:Option Addr) (cap:Nat) (t:Gr) (ta:Option Addr) (ct:Nat) (w:World) (hr:RdS w ao x.n x.f) (hn:ao=none→x.n=0∧cap=0) (hm:x.n≤4398046511104) (ht:RdS w ta t.n t.f) (hmt:t.n≤4398046511104) (hct:t.n≤ct):
  Calls Tryz.prog 131 #[gval x ao cap,gval t ta ct] w (DrawEnd w (turnR x t)):=by
 unfold turnR
 cases hB:turnB x t
 ·exact turn_no x ao cap t ta ct w hr hn hm ht hmt hB
 ·exact turn_yes x ao cap t ta ct w hr hn ht hct hB
end Go.Proofs.YtjikokfjnbhngaaGreatDoor
