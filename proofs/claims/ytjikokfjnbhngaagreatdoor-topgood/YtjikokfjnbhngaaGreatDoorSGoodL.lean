/- The law TopGood. -/
import Derived.Test.YtjikokfjnbhngaaGreatDoorSPlayGood
import Derived.Test.YtjikokfjnbhngaaGreatDoorMSShown
import Derived.Lib.MinMax
namespace Go.Proofs.YtjikokfjnbhngaaGreatDoor.Sv
open Go.RowKit
open Go.Proofs.YtjikokfjnbhngaaGreatDoor.Tl (tval rval rbox rcells hasT whereT colsOf Rc)
open Go.Proofs.YtjikokfjnbhngaaGreatDoor.Pt (Vw VC RdV vcells vc zv zl gall infoV wpList_alloc_view wpList_load_all wpList_index_grid)
set_option maxRecDepth 100000
structure GdIn (w:World) (x:Srv×(Nat→Tm)) (L:Lay) (TB:Nat) (T:TL) (w0:World) (v:Vw) (m:Pt.Lay) (C:Array Value) (VB:Nat) (wr:World):Prop where
 lk:LkIn w x L TB T w0 wr
 vb:wr.heap[VB]?=some (Pt.cbox C)
 rv:RdV wr v m
theorem GdIn.later {w:World} {x:Srv×(Nat→Tm)} {L:Lay} {TB:Nat} {T:TL} {w0:World} {v:Vw} {m:Pt.Lay} {C:Array Value} {VB:Nat} {wr w':World} (h:GdIn w x L TB T w0 v m C VB wr) (hb:Below wr.heap.size wr w'):GdIn w x L TB T w0 v m C VB w':=⟨h.lk.later hb,below_block hb h.vb (Array.getElem?_eq_some_iff.1 h.vb).1,h.rv.below hb⟩
theorem four {w:World} {b:Nat} {r:Rc} (h:w.heap[b]?=some (rbox r)):
  (w.cell? ⟨b,0,none⟩=some (.int .i64 r.row)∧w.cell? ⟨b,1,none⟩=some (.int .i64 r.col)∧w.cell? ⟨b,2,none⟩=some (.int .i64 r.high)∧w.cell? ⟨b,3,none⟩=some (.int .i64 r.wide))∧(∀ j,w.frozen? ⟨b,j,none⟩=false):=
 ⟨⟨cell_of_row w b 0 _ _ _ h,cell_of_row w b 1 _ _ _ h,cell_of_row w b 2 _ _ _ h,cell_of_row w b 3 _ _ _ h⟩,fun j=>frozen_of_row w b j _ _ h⟩
set_option maxHeartbeats 4000000 in
theorem good_look (w:World) (y:Srv×(Nat→Tm)) (oky:OkS y.1) (a:Ac) (r:Rp) (L:Lay) (TB:Nat) (T:TL) (w0:World) (h:PlIn (fun _=>False) w y L TB T w0):
  Calls Tryz.prog 30 #[.pointer (some ⟨L.sb,0,none⟩),.pointer (some ⟨TB,0,none⟩),aval a,rpval r] w0 fun e w'=>e=.returned (.bool true)∧Below w0.heap.size w0 w':=by
 obtain⟨sb,hsb⟩:∃ sb,sb=L.sb:=⟨_,rfl⟩
 obtain⟨v,hv⟩:∃ v,v=y.1.v:=⟨_,rfl⟩
 have okv:OkV v:=by rw [hv];exact oky.v
 have H0:Hid (LkIn w y L TB T w0 ((w0.alloc (abox a)).alloc (rpbox r))):=by
  have hb:Below w0.heap.size w0 ((w0.alloc (abox a)).alloc (rpbox r)):=(below1 _ _).alloc (by simp) _
  exact⟨h.later hb,hb⟩
 have HVW:Hid (∀ W,LkIn w y L TB T w0 W→Calls Tryz.prog 25 #[.pointer (some ⟨sb,0,none⟩)] W fun e w'=>∃ m,e=.returned (.agg (vcells v m))∧LkIn w y L TB T w0 w'∧RdV w' v m):=fun W hW=>by
  have h0:=view_any W y.1 L hW.pl.srv
  rw [←hsb] at h0
  refine h0.mono ?_
  rintro e w' ⟨m,rfl,h1,h2⟩
  rw [←hv] at h1 ⊢
  exact⟨m,rfl,hW.later h2,h1.rdV okv⟩
 have HGD:Hid (∀ W m,RdV W v m→Calls Tryz.prog 31 #[tval m.co m.its.length m.cap] W fun e w'=>e=.returned (.bool true)∧Below W.heap.size W w'):=fun W m hW=>Tl.good_any m.its m.co m.cap W hW.rd hW.m1 hW.m2 true (by rw [←hW.cols];exact((Tl.goodT_iff _).2 okv.t).symm)
 have HHS:Hid (∀ W m (p:Int) (b:Bool),b=hasT v.cols p→RdV W v m→Calls Tryz.prog 32 #[tval m.co m.its.length m.cap,.int .i64 p] W fun e w'=>e=.returned (.bool b)∧Below W.heap.size W w'):=fun W m p b hb hW=>Tl.has_any m.its m.co m.cap p W hW.rd hW.m1 hW.m2 b (by rw [←hW.cols];exact hb)
 have HWH:Hid (∀ W m (p:Int),RdV W v m→Calls Tryz.prog 28 #[tval m.co m.its.length m.cap,.int .i64 v.wide,.int .i64 v.high,.int .i64 p] W fun e w'=>e=.returned (rval (v.place p))∧Below W.heap.size W w'):=fun W m p hW=>Tl.where_any m.its m.co m.cap v.wide v.high p W hW.rd hW.m1 hW.m2 _ (by rw [←hW.cols];rfl)
 have HCS:Hid (∀ k:Nat,k < 6→(false=hasT v.cols k∧v.gs k=noG)∨(true=hasT v.cols k∧OkG (v.gs k)∧((v.gs k).wide !=max 1 (v.place k).wide)=false∧((v.gs k).high !=max 1 (v.place k).high)=false)):=fun k hk=>by
  cases e:hasT v.cols k with
  | false=>exact .inl ⟨rfl,okv.gone k hk e⟩
  | true=>
   obtain⟨q1,q2,q3⟩:=okv.here k hk e
   exact .inr ⟨rfl,q1,by rw [q2,Int.max_comm];simp,by rw [q3,Int.max_comm];simp⟩
 have HF:Hid (true=hasT v.cols v.focus):=okv.focus.symm
 have n1:1≤v.wide:=okv.w1
 have n2:v.wide≤24:=okv.w2
 have n3:1≤v.high:=okv.h1
 have n4:v.high≤10:=okv.h2
 rw [←hsb]
 clear h hsb hv okv oky
 go_enter Tryz.func30,Tryz.ntmps30
 go_wp2_with (first
  | (refine wpList_alloc_view rfl rfl ?_)
  | (go_at_call 25;refine(HVW.out _ H0.out).mono ?_;rintro e w2' ⟨m,rfl,hl2,hr2⟩;obtain⟨C,hC⟩:∃ C,C=vcells v m:=⟨_,rfl⟩;have HC:Hid (VC v m C∧C.size=58∧C.all (·.oneCell')=true):=(hC ▸ ⟨vc v m,rfl,Pt.vcells_one v m⟩);rw [←hC];have H2:Hid (GdIn w y L TB T w0 v m C w2'.heap.size (w2'.alloc (Pt.cbox C))):=⟨hl2.later (below1 _ _),at_new _ _,hr2.below (below1 _ _)⟩;obtain⟨⟨x0,x1,x2,x3⟩,xf⟩:=Pt.cbox_cells HC.out.1 H2.out.vb;obtain⟨A,hA⟩:∃ A,A=(gall v m).toArray:=⟨_,rfl⟩;have HA:Hid (A=(gall v m).toArray):=hA;clear hl2 hr2 hC HVW hA)
  | (refine wpList_store_new 58 (vcells zv zl) C rfl _ _ rfl rfl rfl (by rw [HC.out.2.1];exact infoV) (by rw [HC.out.2.1];rfl) HC.out.2.2 ?_)
  | (go_at_call 31;refine(HGD.out _ m H2.out.rv).mono ?_;rintro e w3 ⟨rfl,hb3⟩;have H3:Hid (GdIn w y L TB T w0 v m C w2'.heap.size w3):=H2.out.later hb3;clear x0 x1 x2 x3 xf hb3 HGD;obtain⟨⟨x0,x1,x2,x3⟩,xf⟩:=Pt.cbox_cells HC.out.1 H3.out.vb)
  | (go_at_call 32;refine(HHS.out _ m v.focus true HF.out H3.out.rv).mono ?_;rintro e w4 ⟨rfl,hb4⟩;have H4:Hid (GdIn w y L TB T w0 v m C w2'.heap.size w4):=H3.out.later hb4;clear x0 x1 x2 x3 xf hb4;obtain⟨⟨x0,x1,x2,x3⟩,xf⟩:=Pt.cbox_cells HC.out.1 H4.out.vb)
  | (refine wpList_load_all v m C HC.out.1 rfl _ rfl w2'.heap.size rfl H4.out.vb A HA.out ?_))
 clear H2 H3 x0 x1 x2 x3 xf n1 n2 n3 n4 HF H0
 generalize w2'.heap.size=VB at*
 go_loopw [49] (fun i wr=>∃ k:Nat,k≤6∧i=.int .i64 k∧GdIn w y L TB T w0 v m C VB wr) (fun i _=>6 - (intOf i).toNat)
 case atStart=>exact⟨0,by omega,rfl,H4.out⟩
 case round=>
  obtain⟨k,hk,rfl,hi⟩:=hrel
  have HI:Hid (GdIn w y L TB T w0 v m C VB wr):=hi
  clear hi H4
  by_cases hlt:k < 6
  ·have hlt':(k:Int) < 6:=by omega
   have hk0:(0:Int)≤(k:Int):=by omega
   obtain⟨G,hG⟩:∃ G,G=v.gs k:=⟨_,rfl⟩
   obtain⟨ga,hga⟩:∃ ga,ga=m.ga k:=⟨_,rfl⟩
   obtain⟨gc,hgc⟩:∃ gc,gc=m.gc k:=⟨_,rfl⟩
   obtain⟨rc,hrc⟩:∃ rc,rc=v.place k:=⟨_,rfl⟩
   have HRS:Hid (∀ W,GdIn w y L TB T w0 v m C VB W→RdS W ga G.n G.f):=fun W hW=>by rw [hga,hG];exact hW.rv.gs k hlt
   have HIX:Hid (∀ {ops:Array Oper} {rest:List Oper} {op:Oper} {a:Act} {w:World} {Q:Exit→Act→World→Prop} (_:op.guard=none) (x ix:Operand) (_:op.op=.index 56 x ix) (_:a.eval x=.agg A) (_:a.eval ix=.int .i64 k) (_:wpList Tryz.prog ops Q rest (a.put op.dst (gval G ga gc)) w),wpList Tryz.prog ops Q (op::rest) a w):=fun hgd x ix ho hx hix h=>wpList_index_grid v m hgd x ix ho A hx k hix HA.out hlt (by rw [←hG, ←hga, ←hgc];exact h)
   have H1:Hid (GdIn w y L TB T w0 v m C VB (wr.alloc (gbox G ga gc))∧(wr.alloc (gbox G ga gc)).heap[wr.heap.size]?=some (gbox G ga gc)):=⟨HI.out.later (below1 _ _),at_new _ _⟩
   obtain⟨⟨x0,x1,x2,x3⟩,xf⟩:=Pt.cbox_cells HC.out.1 HI.out.vb
   have xl:=(Array.getElem?_eq_some_iff.1 HI.out.vb).1
   have hcs:=HCS.out k hlt
   rw [←hG, ←hrc] at hcs
   rcases hcs with ⟨hf,hnog⟩ | ⟨hf,hok,hw,hh⟩
   ·have HHK:Hid (∀ W,RdV W v m→Calls Tryz.prog 32 #[tval m.co m.its.length m.cap,.int .i64 k] W fun e w'=>e=.returned (.bool false)∧Below W.heap.size W w'):=fun W hW=>HHS.out W m k false hf hW
    have HSG:Hid (∀ W,Calls Tryz.prog 27 #[gval G ga gc,gval noG none 0] W fun e w'=>e=.returned (.bool true)∧Below W.heap.size W w'):=fun W=>by
     rw [hnog]
     exact Pt.sameGridT_eq noG ga none gc 0 W (.inl rfl) (.inl rfl) (by show 0≤_;omega)
    clear hG hga hgc hrc hf hnog HCS HHS HWH
    go_wp2_with (first
     | (refine HIX.out rfl _ _ rfl rfl rfl ?_)
     | (go_at_call 32;refine(HHK.out _ H1.out.1.rv).mono ?_;rintro e w5 ⟨rfl,hb5⟩;have H5:Hid (GdIn w y L TB T w0 v m C VB w5):=H1.out.1.later hb5;obtain⟨⟨g0,g1,g2,g3,g4,g5,g6,g7,g8⟩,gf⟩:=nine (below_block hb5 H1.out.2 (Array.getElem?_eq_some_iff.1 H1.out.2).1);have gl:wr.heap.size < w5.heap.size:=(Nat.lt_of_lt_of_le (Array.getElem?_eq_some_iff.1 H1.out.2).1 hb5.size);clear hb5 HHK)
     | (go_at_call 27;refine(HSG.out _).mono ?_;rintro e w6 ⟨rfl,hb6⟩;have H6:Hid (GdIn w y L TB T w0 v m C VB w6):=H5.out.later hb6;clear hb6 HSG))
    go_roundw
    case rel=>exact⟨k+1,by omega,by go_num,H6.out⟩
    case measure=>simp [intOf];omega
   ·have HHK:Hid (∀ W,RdV W v m→Calls Tryz.prog 32 #[tval m.co m.its.length m.cap,.int .i64 k] W fun e w'=>e=.returned (.bool true)∧Below W.heap.size W w'):=fun W hW=>HHS.out W m k true hf hW
    have HWK:Hid (∀ W,RdV W v m→Calls Tryz.prog 28 #[tval m.co m.its.length m.cap,.int .i64 v.wide,.int .i64 v.high,.int .i64 k] W fun e w'=>e=.returned (rval rc)∧Below W.heap.size W w'):=fun W hW=>by rw [hrc];exact HWH.out W m k hW
    obtain⟨nx1,nx2,_⟩:=hok.nums
    have HGG:Hid (∀ W,RdS W ga G.n G.f→Calls Tryz.prog 33 #[gval G ga gc] W fun e w'=>e=.returned (.bool true)∧Below W.heap.size W w'):=fun W hW=>good_any G ga gc W hW (by omega) true ((goodG_iff G).2 hok).symm
    clear hG hga hgc hrc hf hok HCS HHS HWH nx1 nx2
    go_wp2_with (first
     | (refine HIX.out rfl _ _ rfl rfl rfl ?_)
     | (go_at_call 32;refine(HHK.out _ H1.out.1.rv).mono ?_;rintro e w5 ⟨rfl,hb5⟩;have H5:Hid (GdIn w y L TB T w0 v m C VB w5∧w5.heap[wr.heap.size]?=some (gbox G ga gc)):=⟨H1.out.1.later hb5,below_block hb5 H1.out.2 (Array.getElem?_eq_some_iff.1 H1.out.2).1⟩;clear x0 x1 x2 x3 xf xl hb5 HHK;obtain⟨⟨x0,x1,x2,x3⟩,xf⟩:=Pt.cbox_cells HC.out.1 H5.out.1.vb;have xl:=(Array.getElem?_eq_some_iff.1 H5.out.1.vb).1)
     | (go_at_call 28;refine(HWK.out _ H5.out.1.rv).mono ?_;rintro e w6 ⟨rfl,hb6⟩;have H6:Hid (GdIn w y L TB T w0 v m C VB (w6.alloc (rbox rc))∧(w6.alloc (rbox rc)).heap[wr.heap.size]?=some (gbox G ga gc)∧(w6.alloc (rbox rc)).heap[w6.heap.size]?=some (rbox rc)):=⟨(H5.out.1.later hb6).later (below1 _ _),at_old (below_block hb6 H5.out.2 (Array.getElem?_eq_some_iff.1 H5.out.2).1) _,at_new _ _⟩;obtain⟨⟨g0,g1,g2,g3,g4,g5,g6,g7,g8⟩,gf⟩:=nine (below_block hb6 H5.out.2 (Array.getElem?_eq_some_iff.1 H5.out.2).1);have gl:wr.heap.size < w6.heap.size:=(Nat.lt_of_lt_of_le (Array.getElem?_eq_some_iff.1 H5.out.2).1 hb6.size);clear hb6 HWK x0 x1 x2 x3 xf xl)
     | (go_at_call 33;refine(HGG.out _ (HRS.out _ H6.out.1)).mono ?_;rintro e w7 ⟨rfl,hb7⟩;have H7:Hid (GdIn w y L TB T w0 v m C VB w7):=H6.out.1.later hb7;clear g0 g1 g2 g3 g4 g5 g6 g7 g8 gf gl;obtain⟨⟨g0,g1,g2,g3,g4,g5,g6,g7,g8⟩,gf⟩:=nine (below_block hb7 H6.out.2.1 (Array.getElem?_eq_some_iff.1 H6.out.2.1).1);obtain⟨⟨r0,r1,r2,r3⟩,rf⟩:=four (below_block hb7 H6.out.2.2 (Array.getElem?_eq_some_iff.1 H6.out.2.2).1);have gl:wr.heap.size < w7.heap.size:=(Nat.lt_of_lt_of_le (Array.getElem?_eq_some_iff.1 H6.out.2.1).1 hb7.size);have rl:w6.heap.size < w7.heap.size:=(Nat.lt_of_lt_of_le (Array.getElem?_eq_some_iff.1 H6.out.2.2).1 hb7.size);clear hb7 HGG))
    go_roundw
    case rel=>exact⟨k+1,by omega,by go_num,H7.out⟩
    case measure=>simp [intOf];omega
  ·have hge:(6:Int)≤(k:Int):=by omega
   clear HCS HHS HWH HA
   go_wp2
   go_ret
   exact⟨rfl,HI.out.lk.bel⟩
theorem topGood_any (l:List Ac) (lo:Option Addr) (lc:Nat) (w:World) (hr:RdA w lo l) (hb:∀ a∈l,a.bytes.length≤140737488355328) (hlen:l.length≤4398046511104):
  Calls Tryz.prog 8 #[.slice lo l.length lc] w fun e w'=>e=.returned (.bool true)∧Below w.heap.size w w':=by
 have HP:Hid (Calls Tryz.prog 14 #[.slice lo l.length lc,.func (.func 30) #[] #[]] w fun e w'=>∃ sb TB:Nat,e=.returned (.tuple #[.pointer (some ⟨sb,0,none⟩),.pointer (some ⟨TB,0,none⟩),.bool true])∧Below w.heap.size w w'):=by
  refine(playGood_any (fun _=>False) (fun _ _ _ _=>True) l lo lc w hr (fun _ _ _ e=>e) hb hlen (eok_true w) (fun _ _ _ _ _=>trivial) (fun k hk h100 L TB T wr h _=>?_)).mono ?_
  ·refine(good_look w _ (okp_take l (k+1) (by omega) (by omega)).ok _ _ L TB T wr h).mono ?_
   rintro e w' ⟨rfl,hb'⟩
   exact⟨rfl,L,T,rfl,h.later hb',trivial⟩
  ·rintro e w' ⟨L,TB,T,he,h1,_⟩
   exact⟨L.sb,TB,he,kp_below h1.kp⟩
 clear hr hb
 go_enter Tryz.func8,Tryz.ntmps8
 go_wp2_with (go_at_call 14;refine HP.out.mono ?_;rintro e w1 ⟨sb,TB,rfl,h1⟩;have H1:Hid (Below w.heap.size w w1):=h1;clear h1)
 go_ret
 exact⟨rfl,H1.out⟩
end Go.Proofs.YtjikokfjnbhngaaGreatDoor.Sv
