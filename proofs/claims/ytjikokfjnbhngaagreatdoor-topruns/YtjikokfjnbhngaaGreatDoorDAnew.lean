/- Anew: the program's answer is the plain machine's. -/
import Derived.Test.YtjikokfjnbhngaaGreatDoorMDShow
namespace Go.Proofs.YtjikokfjnbhngaaGreatDoor
open Go.RowKit
set_option maxRecDepth 100000
structure Box2 (w wr:World) (a:Obj):Prop where
 one:wr.heap[w.heap.size]?=some a
 res:wr.heap[w.heap.size+1]?=some gzero
 below:Below w.heap.size w wr
theorem Box2.later {w wr w':World} {a:Obj} (h:Box2 w wr a) (hb:Below wr.heap.size wr w'):Box2 w w' a:=
 ⟨below_block hb h.one (Array.getElem?_eq_some_iff.1 h.one).1,below_block hb h.res (Array.getElem?_eq_some_iff.1 h.res).1,h.below.trans (hb.mono h.below.size)⟩
theorem box2 (w:World) (a:Obj):Box2 w ((w.alloc a).alloc gzero) a:=
 ⟨at_old (at_new w _) _,at_new1 w _ _,(below1 _ _).alloc (by simp) _⟩
theorem Copied.out2 {w wr w2:World} {n:Nat} {f:Nat→Cel} {ao:Option Addr} {cap:Nat} {a:Obj} (h:Copied wr n f ao cap w2) (h3:Box2 w wr a) (u0 u1 u2 u3 u4 u5 u6 u7 u8:Value):
  Copied w n f ao cap (((((((((w2.setCell ⟨w.heap.size+1,0,none⟩ u0).setCell ⟨w.heap.size+1,1,none⟩ u1).setCell ⟨w.heap.size+1,2,none⟩ u2).setCell ⟨w.heap.size+1,3,none⟩ u3).setCell ⟨w.heap.size+1,4,none⟩ u4).setCell ⟨w.heap.size+1,5,none⟩ u5).setCell ⟨w.heap.size+1,6,none⟩ u6).setCell ⟨w.heap.size+1,7,none⟩ u7).setCell ⟨w.heap.size+1,8,none⟩ u8):=
 h.out h3.below (by omega) (Array.getElem?_eq_some_iff.1 h3.res).1 _ _ _ _ _ _ _ _ _
def anewR (t:Gr):List UInt8×Gr×Int:=if showsB t then ((anewP t).out,(anewP t).g,0) else ([],t,1)
set_option maxHeartbeats 2000000 in
theorem anew_no (t:Gr) (ta:Option Addr) (ct:Nat) (w:World) (ht:RdS w ta t.n t.f) (hn:ta=none→t.n=0∧ct=0) (hmt:t.n≤4398046511104) (hB:showsB t=false):
  Calls Tryz.prog 114 #[gval t ta ct] w (DrawEnd w ([],t,1)):=by
 have HS:Hid (∀ wr,Box2 w wr (gbox t ta ct)→Calls Tryz.prog 132 #[gval t ta ct] wr fun e w'=>e=.returned (.bool false)∧Below wr.heap.size wr w'):=fun wr hb=>showsD_any t ta ct wr (ht.below hb.below) (by omega) false hB.symm
 have HO:Hid (∀ wr,Box2 w wr (gbox t ta ct)→Calls Tryz.prog 133 #[gval t ta ct] wr fun e w'=>∃ ao' cap',e=.returned (gval t ao' cap')∧Copied wr t.n t.f ao' cap' w'):=fun wr hb=>own_any t ta ct wr (ht.below hb.below) hn hmt
 have H0:Hid (Box2 w ((w.alloc (gbox t ta ct)).alloc gzero) (gbox t ta ct)):=box2 w _
 clear ht hn hmt hB
 go_enter Tryz.func114,Tryz.ntmps114
 go_wp2_with (first
  | (go_at_call 132;refine(HS.out _ H0.out).mono ?_;rintro e w2 ⟨rfl,hb2⟩;have H2:Hid (Box2 w w2 (gbox t ta ct)):=H0.out.later hb2;clear hb2 H0;obtain⟨⟨x0,x1,x2,x3,x4,x5,x6,x7,x8⟩,xf⟩:=nine H2.out.one)
  | (go_at_call 133;refine(HO.out _ H2.out).mono ?_;rintro e w3 ⟨ao',cap',rfl,hcp⟩;have HCP:Hid (Copied w2 t.n t.f ao' cap' w3):=hcp;obtain⟨⟨u0,u1,u2,u3,u4,u5,u6,u7,u8⟩,uf⟩:=nine (below_block hcp.2.2 H2.out.res (Array.getElem?_eq_some_iff.1 H2.out.res).1);clear hcp x0 x1 x2 x3 x4 x5 x6 x7 x8 xf))
 refine bodyPost_ret (v:=.tuple #[.string (bs []),gval t ao' cap',.int .i64 1]) (by simp [results,Tryz.results114,go_sem, *]) rfl ?_
 exact⟨ao',cap',rfl,HCP.out.out2 H2.out _ _ _ _ _ _ _ _ _⟩
set_option maxHeartbeats 2000000 in
theorem anew_yes (t:Gr) (ta:Option Addr) (ct:Nat) (w:World) (ht:RdS w ta t.n t.f) (hct:t.n≤ct) (okt:OkG t) (htc:t.col < t.wide):
  Calls Tryz.prog 114 #[gval t ta ct] w (DrawEnd w ((anewP t).out,(anewP t).g,0)):=by
 obtain⟨m3,m4,_⟩:=okt.nums
 obtain⟨n1,n2,n3⟩:=new_sides okt
 have okn:=ok_new t.wide t.high
 have HS:Hid (∀ wr,Box2 w wr (gbox t ta ct)→Calls Tryz.prog 132 #[gval t ta ct] wr fun e w'=>e=.returned (.bool true)∧Below wr.heap.size wr w'):=fun wr hb=>showsD_any t ta ct wr (ht.below hb.below) (by omega) true (by unfold showsB;rw [(goodG_iff t).2 okt];simpa using htc)
 have H0:Hid (Box2 w ((w.alloc (gbox t ta ct)).alloc gzero) (gbox t ta ct)):=box2 w _
 have hdr:=anew_draws (x:=t) okt htc rfl rfl
 obtain⟨q,hq⟩:∃ q,q=anewP t:=⟨_,rfl⟩
 obtain⟨x,hx⟩:∃ x,x=newG t.wide t.high:=⟨_,rfl⟩
 have HN:Hid (∀ w,Calls Tryz.prog 36 #[.int .i64 t.wide,.int .i64 t.high] w fun e w'=>∃ b,e=.returned (gval x (some ⟨b,0,none⟩) x.n)∧Scr w' b x.n x.f∧w.heap.size≤b∧Below w.heap.size w w'):=fun w=>new_any t.wide t.high w x hx
 have HW:Hid (∀ w1 pb b,PenIn w1 pb b x.n none 0 ⟨[],x⟩→Calls Tryz.prog 134 #[.pointer (some ⟨pb,0,none⟩),.string (bs [27,99])] w1 fun e w'=>e=.returned (.tuple #[])∧PenTo w1 pb b x.n none ⟨[27,99],x⟩ w'):=fun w1 pb b h=>write_any pb b x.n none 0 ⟨[],x⟩ (bs [27,99]) w1 h (show 0+(bs [27,99]).size≤1048576 by decide)
 have HSH:Hid (∀ w1 w2 pb b,Below w.heap.size w w1→PenTo w1 pb b x.n none ⟨[27,99],x⟩ w2→w.heap.size≤pb→w.heap.size≤b→Calls Tryz.prog 135 #[.pointer (some ⟨pb,0,none⟩),gval t ta ct] w2 fun e w'=>e=.returned (.tuple #[])∧PenTo w1 pb b x.n none q w'):=fun w1 w2 pb b hb hp h1 h2=>by
  obtain⟨o',c',hp',hk⟩:=hp
  rw [hq]
  unfold anewP
  rw [←hx]
  have:=show_pen pb b x.n o' c' ⟨[27,99],x⟩ (by rw [hx];exact okn) (Nat.le_refl _) t okt (by rw [hx];exact n1.symm) (by rw [hx];exact n2.symm) htc ta ct hct (by simp) w2 hp' (fun w' o'' hk2=>ht.kept hb (hk.trans hk2) h1 h2)
  refine this.mono ?_
  rintro e w' ⟨he,hk3⟩
  exact⟨he,PenTo.trans hk hk3⟩
 rw [←hq] at hdr ⊢
 have HQN:Hid (q.g.n=x.n):=by
  show q.g.n=x.n
  rw [hdr.n,hx]
  exact n3.symm
 clear ht okt htc m3 m4 n1 n2 n3 okn hdr hq hct hx
 go_enter Tryz.func114,Tryz.ntmps114
 go_wp2_with (first
  | (go_at_call 132;refine(HS.out _ H0.out).mono ?_;rintro e w2 ⟨rfl,hb2⟩;have H2:Hid (Box2 w w2 (gbox t ta ct)):=H0.out.later hb2;clear hb2 H0;obtain⟨⟨x0,x1,x2,x3,x4,x5,x6,x7,x8⟩,xf⟩:=nine H2.out.one)
  | (go_at_call 36;refine(HN.out _).mono ?_;rintro e w3 ⟨b,rfl,hscr,hbb,hb3⟩;have H3:Hid (Box2 w w3 (gbox t ta ct)):=H2.out.later hb3;have HSC:Hid (Scr w3 b x.n x.f∧w.heap.size≤b):=⟨hscr,Nat.le_trans H2.out.below.size hbb⟩;clear hbb hb3 hscr H2 x0 x1 x2 x3 x4 x5 x6 x7 x8 xf;have hz3:w.heap.size+1 < w3.heap.size:=(Array.getElem?_eq_some_iff.1 H3.out.res).1;have hz2:w.heap.size < w3.heap.size:=(by omega))
  | (go_at_call 134;refine(HW.out _ w3.heap.size b (new_pen HSC.out.1 rfl)).mono ?_;rintro e w4 ⟨rfl,hk4⟩;have hone:=PenTo.grid (new_pen HSC.out.1 rfl) hk4 (at_old H3.out.one _);have HK4:Hid (PenTo _ w3.heap.size b x.n none ⟨[27,99],x⟩ w4):=hk4;clear hk4;obtain⟨⟨y0,y1,y2,y3,y4,y5,y6,y7,y8⟩,yf⟩:=nine hone;clear hone)
  | (go_at_call 135;refine(HSH.out _ _ w3.heap.size b (H3.out.below.alloc H3.out.below.size _) HK4.out H3.out.below.size HSC.out.2).mono ?_;rintro e w5 ⟨rfl,hk5⟩;have hres:=PenTo.grid (new_pen HSC.out.1 rfl) hk5 (at_old H3.out.res _);have HE:Hid (∀ u0 u1 u2 u3 u4 u5 u6 u7 u8:Value,Copied w q.g.n q.g.f (some ⟨b,0,none⟩) x.n (((((((((w5.setCell ⟨w.heap.size+1,0,none⟩ u0).setCell ⟨w.heap.size+1,1,none⟩ u1).setCell ⟨w.heap.size+1,2,none⟩ u2).setCell ⟨w.heap.size+1,3,none⟩ u3).setCell ⟨w.heap.size+1,4,none⟩ u4).setCell ⟨w.heap.size+1,5,none⟩ u5).setCell ⟨w.heap.size+1,6,none⟩ u6).setCell ⟨w.heap.size+1,7,none⟩ u7).setCell ⟨w.heap.size+1,8,none⟩ u8).drew):=(fun u0 u1 u2 u3 u4 u5 u6 u7 u8=>draw_end (H3.out.below.alloc H3.out.below.size _) hk5 H3.out.below.size HSC.out.2 (by rw [HQN.out];exact Nat.le_refl _) (by omega) (fun e=>by have hs5:=HSC.out.1;obtain⟨cur,hcur,_⟩:=hs5;rw [e] at hcur;exact ne_tag H3.out.res hcur tagGC rfl) u0 u1 u2 u3 u4 u5 u6 u7 u8);obtain⟨o5,c5,hp5,_⟩:=hk5;clear y0 y1 y2 y3 y4 y5 y6 y7 y8 yf;obtain⟨⟨c0,c1,c2,c3,c4,c5',c6,c7,c8,c9⟩,cf⟩:=ten hp5.box;obtain⟨⟨u0,u1,u2,u3,u4,u5,u6,u7,u8⟩,uf⟩:=nine hres;obtain⟨S,hS⟩:∃ S,S=bs q.out:=⟨_,rfl⟩;have hcv:(convert 165 9 (.slice o5 q.out.length c5)).run Tryz.prog w5.drew=.ok (.string S) w5.drew:=(by rw [hS];exact run_text w5.drew 0 q.out.length c5 o5 q.out rfl hp5.own.drew);have HSS:Hid (S=bs q.out):=hS;have hpl:w3.heap.size < w5.heap.size:=hp5.lt;clear hS hp5 hres HSC H3 HK4))
 have hne:w3.heap.size≠w.heap.size+1:=by omega
 have hne2:w.heap.size+1≠w3.heap.size:=by omega
 go_region
 go_wp2
 refine bodyPost_ret (v:=.tuple #[.string S,gval q.g (some ⟨b,0,none⟩) x.n,.int .i64 0]) (by simp [results,Tryz.results114,go_sem, *]) rfl ?_
 exact⟨some ⟨b,0,none⟩,x.n,by rw [HSS.out],HE.out _ _ _ _ _ _ _ _ _⟩
theorem anew_any (t:Gr) (ta:Option Addr) (ct:Nat) (w:World) (ht:RdS w ta t.n t.f) (hn:ta=none→t.n=0∧ct=0) (hmt:t.n≤4398046511104) (hct:t.n≤ct):
  Calls Tryz.prog 114 #[gval t ta ct] w (DrawEnd w (anewR t)):=by
 unfold anewR
 cases hB:showsB t
 ·exact anew_no t ta ct w ht hn hmt hB
 ·have h2:=hB
  unfold showsB at h2
  rw [Bool.and_eq_true,decide_eq_true_eq,goodG_iff] at h2
  exact anew_yes t ta ct w ht hct h2.1 h2.2
end Go.Proofs.YtjikokfjnbhngaaGreatDoor
