/- Several texts in one, each as it was: SQuiet, SSameN, SSameV, SSameS. -/
import Derived.Test.YtjikokfjnbhngaaGreatDoorSPlayQuiet
import Derived.Test.YtjikokfjnbhngaaGreatDoorMTMach
import Derived.Deep.QuietTactic
import Derived.Test.YtjikokfjnbhngaaGreatDoorZTake
import Derived.Test.YtjikokfjnbhngaaGreatDoorMSClient
import Derived.Test.YtjikokfjnbhngaaGreatDoorMSView

/- What 'play' answers with the look that is quiet. -/
namespace Go.Proofs.YtjikokfjnbhngaaGreatDoor.Sv
open Go.RowKit
set_option maxRecDepth 100000
theorem quiet_look (x y:Option Addr) (a:Ac) (r:Rp) (w:World):Calls Tryz.prog 18 #[.pointer x,.pointer y,aval a,rpval r] w fun e w'=>e=.returned (.bool true)∧Below w.heap.size w w':=by
 have HB:Hid (∀ o1 o2:Obj,Below w.heap.size w ((w.alloc o1).alloc o2)):=fun o1 o2=>(below1 _ _).alloc (by simp) _
 go_enter Tryz.func18,Tryz.ntmps18
 go_wp2
 go_ret
 exact⟨rfl,HB.out _ _⟩
def QuietEnd (l:List Ac) (w:World) (e:Ending) (w':World):Prop:=∃ L TB T,e=.returned (.tuple #[.pointer (some ⟨L.sb,0,none⟩),.pointer (some ⟨TB,0,none⟩),.bool true])∧PlIn (fun _=>False) w (playP (l.take 100)) L TB T w'
theorem quiet_any (l:List Ac) (lo:Option Addr) (lc:Nat) (w:World) (hr:RdA w lo l) (hb:∀ a∈l,a.bytes.length≤140737488355328) (hlen:l.length≤4398046511104):
  Calls Tryz.prog 14 #[.slice lo l.length lc,.func (.func 18) #[] #[]] w (QuietEnd l w):=by
 refine(playQuiet_any (fun _=>False) (fun _ _ _ _=>True) l lo lc w hr (fun _ _ _ e=>e) hb hlen (eok_true w) (fun _ _ _ _ _=>trivial) (fun k hk _ L TB T wr h _=>?_)).mono ?_
 ·refine(quiet_look _ _ l[k] _ wr).mono ?_
  rintro e w' ⟨rfl,hb'⟩
  exact⟨rfl,L,T,rfl,h.later hb',trivial⟩
 ·rintro e w' ⟨L,TB,T,he,h1,_⟩
  exact⟨L,TB,T,he,h1⟩
end Go.Proofs.YtjikokfjnbhngaaGreatDoor.Sv

/- Lists of numbers that are alike, as the laws of the whole have it. -/
namespace Go.Proofs.YtjikokfjnbhngaaGreatDoor.Tl
open Go.RowKit
set_option maxHeartbeats 400000 in
theorem sameNT (l:List Int) (ao bo:Option Addr) (c1 c2:Nat) (w:World) (ha:RdL w ao l) (hb:RdL w bo l) (hm:l.length≤17592186044416):
  Calls Tryz.prog 49 #[.slice ao l.length c1,.slice bo l.length c2] w fun e w'=>e=.returned (.bool true)∧∃ m,w'=w.drewN m:=by
 have HA:Hid (RdL w ao l):=ha
 have HB:Hid (RdL w bo l):=hb
 clear ha hb
 go_enter Tryz.func49,Tryz.ntmps49
 go_wp2
 go_loopw [13] (fun i wr=>∃ k m:Nat,k≤l.length∧i=.int .i64 k∧wr=w.drewN m) (fun i _=>l.length - (intOf i).toNat)
 case atStart=>exact⟨0,0,Nat.zero_le _,rfl,rfl⟩
 case round=>
  obtain⟨k,m,hk,rfl,rfl⟩:=hrel
  by_cases hlt:k < l.length
  ·obtain⟨b,off,rfl,hc⟩:=HA.out.resolve_left (by intro h;subst h;simp at hlt)
   obtain⟨b',off',rfl,hc'⟩:=HB.out.resolve_left (by intro h;subst h;simp at hlt)
   have h1:=hc k hlt
   have h2:=hc' k hlt
   obtain⟨x,hx⟩:∃ x,x=l.getD k 0:=⟨_,rfl⟩
   rw [←hx] at h1 h2
   have hlt':(k:Int) < (l.length:Int):=by omega
   clear hc hc' hx HA HB
   go_wp2_with fail
   go_quiet (fail)
   go_wp2
   go_roundw
   case rel=>exact⟨k+1,_,by omega,by go_num,rfl⟩
   case measure=>simp [intOf];omega
  ·have hge:(l.length:Int)≤(k:Int):=by omega
   go_wp2
   go_ret
   exact⟨rfl,m,rfl⟩
end Go.Proofs.YtjikokfjnbhngaaGreatDoor.Tl

/- Two views that are alike, as the laws' own 'sameView' and 'same' have it. -/
namespace Go.Proofs.YtjikokfjnbhngaaGreatDoor.Sv
open Go.RowKit
open Go.Proofs.YtjikokfjnbhngaaGreatDoor.Pt (Vw VC RdV vcells)
open Go.Proofs.YtjikokfjnbhngaaGreatDoor.Tl (colsOf tval RdL)
set_option maxRecDepth 100000
set_option maxHeartbeats 4000000 in
theorem sameViewT_eq (v:Vw) (l m:Pt.Lay) (C D:Array Value) (hC:VC v l C) (hD:VC v m D) (w:World) (ha:RdV w v l) (hb:RdV w v m):
  Calls Tryz.prog 26 #[.agg C,.agg D] w fun e w'=>e=.returned (.bool true)∧Below w.heap.size w w':=by
 have HP:Hid (PairV w C D v l m ((w.alloc (Pt.cbox C)).alloc (Pt.cbox D))):=by
  have hbel:Below w.heap.size w ((w.alloc (Pt.cbox C)).alloc (Pt.cbox D)):=(below1 _ _).alloc (by simp) _
  exact⟨at_old (at_new w _) _,at_new1 w _ _,ha.below hbel,hb.below hbel,hbel⟩
 have HC:Hid (VC v l C∧VC v m D):=⟨hC,hD⟩
 have HSG:Hid (∀ p,p < 6→∀ w,RdV w v l→RdV w v m→Calls Tryz.prog 27 #[gval (v.gs p) (l.ga p) (l.gc p),gval (v.gs p) (m.ga p) (m.gc p)] w fun e w'=>e=.returned (.bool true)∧Below w.heap.size w w'):=fun p hp w h1 h2=>Pt.sameGridT_eq (v.gs p) _ _ _ _ w (h1.gs p hp) (h2.gs p hp) (h1.m3 p hp)
 have hlen:m.its.length=l.its.length:=by
  have:=congrArg List.length (hb.cols.symm.trans ha.cols)
  simpa using this
 have hn:=ha.m1
 have HL:Hid (m.its.length=l.its.length):=hlen
 obtain⟨N,hN⟩:∃ N,N=l.its.length:=⟨_,rfl⟩
 have HN:Hid (N=l.its.length):=hN
 rw [←hN] at hn
 obtain⟨⟨x0,x1,x2,x3⟩,xf⟩:=Pt.cbox_cells hC HP.out.one
 obtain⟨⟨y0,y1,y2,y3⟩,yf⟩:=Pt.cbox_cells hD HP.out.two
 rw [hlen, ←hN] at y0
 rw [←hN] at x0
 clear ha hb hC hD hlen hN
 go_enter Tryz.func26,Tryz.ntmps26
 go_wp2
 clear x0 x1 x2 x3 xf y0 y1 y2 y3 yf
 go_loopw [41] (fun i wr=>∃ k:Nat,k≤N∧i=.int .i64 k∧PairV w C D v l m wr) (fun i _=>N - (intOf i).toNat)
 case atStart=>exact⟨0,Nat.zero_le _,rfl,HP.out⟩
 case round=>
  obtain⟨k,hk,rfl,hp⟩:=hrel
  have HQ:Hid (PairV w C D v l m wr):=hp
  clear HP
  by_cases hlt:k < N
  ·obtain⟨⟨x0,x1,x2,x3⟩,xf⟩:=Pt.cbox_cells HC.out.1 hp.one
   obtain⟨⟨y0,y1,y2,y3⟩,yf⟩:=Pt.cbox_cells HC.out.2 hp.two
   rw [HL.out, ←HN.out] at y0
   rw [←HN.out] at x0
   have hlt':(k:Int) < (N:Int):=by omega
   have hla:k < l.its.length:=by rw [←HN.out];exact hlt
   have hlb:k < m.its.length:=by rw [HL.out];exact hla
   obtain⟨b,off,e1,hc⟩:=hp.ra.rd.row.resolve_left (by intro h;rw [h] at hla;simp at hla)
   obtain⟨b',off',e2,hc'⟩:=hp.rb.rd.row.resolve_left (by intro h;rw [h] at hlb;simp at hlb)
   rw [e1] at x0
   rw [e2] at y0
   have h1:=hc k hla
   have h2:=hc' k hlb
   obtain⟨⟨p1,p2,p3⟩,hx⟩:∃ x,x=l.its[k]:=⟨_,rfl⟩
   obtain⟨⟨q1,q2,q3⟩,hy⟩:∃ y,y=m.its[k]:=⟨_,rfl⟩
   rw [←hx] at h1
   rw [←hy] at h2
   have hxy:q1=p1:=by
    have e3:(colsOf m.its)[k]?=(colsOf l.its)[k]?:=by rw [←hp.ra.cols, ←hp.rb.cols]
    simp only [colsOf,List.getElem?_map,List.getElem?_eq_getElem hla,List.getElem?_eq_getElem hlb,Option.map_some,Option.some.injEq, ←hx, ←hy] at e3
    exact e3
   subst hxy
   have hxm:(q1,p2,p3)∈l.its:=by rw [hx];exact List.getElem_mem hla
   have hym:(q1,q2,q3)∈m.its:=by rw [hy];exact List.getElem_mem hlb
   have HSN:Hid (∀ n,Calls Tryz.prog 49 #[.slice p2 q1.length p3,.slice q2 q1.length q3] (wr.drewN n) fun e w'=>e=.returned (.bool true)∧∃ q,w'=(wr.drewN n).drewN q):=fun n=>
    Tl.sameNT q1 p2 q2 p3 q3 (wr.drewN n) (RdL.below (hp.ra.rd.each _ hxm).1 (Tl.below_drewN wr n)) (RdL.below (hp.rb.rd.each _ hym).1 (Tl.below_drewN wr n)) (hp.ra.m2 _ hxm)
   have h1':wr.cell? ⟨b,off+k,none⟩=some (.slice p2 q1.length p3):=h1
   have h2':wr.cell? ⟨b',off'+k,none⟩=some (.slice q2 q1.length q3):=h2
   clear hc hc' hx hy hxm hym h1 h2 hla hlb e1 e2 hp
   go_wp2_with fail
   go_quiet ((go_at_call 49;exact Calls.quiet_of (HSN.out _)))
   go_wp2
   go_roundw
   case rel=>exact⟨k+1,by omega,by go_num,HQ.out.later (Tl.below_drewN _ _)⟩
   case measure=>simp [intOf];omega
  ·have hge:(N:Int)≤(k:Int):=by omega
   clear hp
   go_wp2
   go_loopw [59] (fun i wr=>∃ k:Nat,k≤6∧i=.int .i64 k∧PairV w C D v l m wr) (fun i _=>6 - (intOf i).toNat)
   case atStart=>exact⟨0,Nat.zero_le _,rfl,HQ.out⟩
   case round=>
    obtain⟨k,hk,rfl,hp⟩:=hrel
    have HQ:Hid (PairV w C D v l m wr):=hp
    by_cases hlt:k < 6
    ·have hlt':(k:Int) < 6:=by omega
     have hk0:(0:Int)≤(k:Int):=by omega
     clear hp
     go_wp2_with fail
     refine bg (fun w'=>w'.heap[w.heap.size]?=some (Pt.cbox C)∧w'.heap[w.heap.size+1]?=some (Pt.cbox D)) ⟨HQ.out.one,HQ.out.two⟩ (fun hHeld=>?_)
     refine tk 0 hHeld ?_
     refine tk 1 hHeld ?_
     refine tk 2 hHeld ?_
     refine ty 3 rfl (gval (v.gs k) (l.ga k) (l.gc k)) (yields_grid (by rfl) _ rfl w.heap.size k hlt rfl v l C HC.out.1 (fun w0 h=>h.1)) hHeld ?_
     refine tk 4 hHeld ?_
     refine tk 5 hHeld ?_
     refine tk 6 hHeld ?_
     refine ty 7 rfl (gval (v.gs k) (m.ga k) (m.gc k)) (yields_grid (by rfl) _ rfl (w.heap.size+1) k hlt rfl v m D HC.out.2 (fun w0 h=>h.2)) hHeld ?_
     refine wpAnyH_ready (rs:=[8]) (by kernel_rfl) (by simp) ?_
     refine AllReadyH.cons rfl (fun K hK=>?_) AllReadyH.nil
     go_simp
     go_at_call 27
     refine(HSG.out k hlt _ (drewV HQ.out.ra) (drewV HQ.out.rb)).mono ?_
     rintro e w3 ⟨rfl,hb3⟩
     have HQ3:Hid (PairV w C D v l m w3):=HQ.out.later (undrewS hb3)
     (try go_simp)
     refine hK.out _ _ ⟨HQ3.out.one,HQ3.out.two⟩ (fun hHeld=>?_)
     clear hK K
     refine pt ?_
     refine tk 9 hHeld ?_
     refine dn ?_
     go_wp2
     go_roundw
     case rel=>exact⟨k+1,by omega,by go_num,HQ3.out⟩
     case measure=>simp [intOf];omega
    ·obtain rfl:k=6:=by omega
     clear hp
     go_wp2
     go_ret
     exact⟨rfl,HQ.out.below⟩
end Go.Proofs.YtjikokfjnbhngaaGreatDoor.Sv

/- Two servers that stand alike, as the laws' own 'same' has it. -/
namespace Go.Proofs.YtjikokfjnbhngaaGreatDoor.Sv
open Go.RowKit
open Go.Proofs.YtjikokfjnbhngaaGreatDoor.Pt (Vw VC RdV vcells vc)
set_option maxRecDepth 100000
structure Both (w:World) (S:Srv) (L:Lay) (T:Srv) (M:Lay) (wr:World):Prop where
 a:SrvIn wr S L
 b:SrvIn wr T M
 below:Below w.heap.size w wr
theorem Both.later {w:World} {S:Srv} {L:Lay} {T:Srv} {M:Lay} {wr w':World} (h:Both w S L T M wr) (hb:Below wr.heap.size wr w'):Both w S L T M w':=⟨h.a.below hb,h.b.below hb,h.below.trans (hb.mono h.below.size)⟩
theorem here_lt (S:Srv) (k:Nat) (hk:k < 3):hereS S (k:Int)=S.cl k:=by
 unfold hereS
 rw [if_pos (by unfold isCl;simp;omega)]
 rfl
set_option maxHeartbeats 2000000 in
theorem same_eq (w:World) (S:Srv) (L:Lay) (T:Srv) (M:Lay) (h1:SrvIn w S L) (h2:SrvIn w T M) (okv:OkV S.v) (hv:T.v=S.v) (hc:∀ i,i < 3→T.cl i=S.cl i):
  Calls Tryz.prog 24 #[.pointer (some ⟨L.sb,0,none⟩),.pointer (some ⟨M.sb,0,none⟩)] w fun e w'=>e=.returned (.bool true)∧Below w.heap.size w w':=by
 have H0:Hid (Both w S L T M w):=⟨h1,h2,Below.refl _ _⟩
 obtain⟨sa,hsa⟩:∃ sa,sa=L.sb:=⟨_,rfl⟩
 obtain⟨sb,hsb⟩:∃ sb,sb=M.sb:=⟨_,rfl⟩
 have HCA:Hid (∀ (k:Nat) W,k < 3→Both w S L T M W→Calls Tryz.prog 16 #[.pointer (some ⟨sa,0,none⟩),.int .i64 k] W fun e w'=>e=.returned (.tuple (clR (S.cl k)))∧Both w S L T M w'):=fun k W hk hW=>by
  rw [hsa]
  refine(client_any k W S L hW.a).mono ?_
  rintro e w' ⟨rfl,n,rfl⟩
  exact⟨by rw [here_lt S k hk],hW.later (below_drewN (Below.refl _ _) n)⟩
 have HCB:Hid (∀ (k:Nat) W,k < 3→Both w S L T M W→Calls Tryz.prog 16 #[.pointer (some ⟨sb,0,none⟩),.int .i64 k] W fun e w'=>e=.returned (.tuple (clR (S.cl k)))∧Both w S L T M w'):=fun k W hk hW=>by
  rw [hsb]
  refine(client_any k W T M hW.b).mono ?_
  rintro e w' ⟨rfl,n,rfl⟩
  exact⟨by rw [here_lt T k hk,hc k hk],hW.later (below_drewN (Below.refl _ _) n)⟩
 have HVA:Hid (∀ W,Both w S L T M W→Calls Tryz.prog 25 #[.pointer (some ⟨sa,0,none⟩)] W fun e w'=>∃ l,e=.returned (.agg (vcells S.v l))∧RdV w' S.v l∧Both w S L T M w'):=fun W hW=>by
  rw [hsa]
  refine(view_any W S L hW.a).mono ?_
  rintro e w' ⟨l,rfl,h3,h4⟩
  exact⟨l,rfl,h3.rdV okv,hW.later h4⟩
 have HVB:Hid (∀ W l0,Both w S L T M W→RdV W S.v l0→Calls Tryz.prog 25 #[.pointer (some ⟨sb,0,none⟩)] W fun e w'=>∃ l,e=.returned (.agg (vcells S.v l))∧RdV w' S.v l∧RdV w' S.v l0∧Both w S L T M w'):=fun W l0 hW h0=>by
  rw [hsb]
  refine(view_any W T M hW.b).mono ?_
  rintro e w' ⟨l,rfl,h3,h4⟩
  rw [hv] at h3 ⊢
  exact⟨l,rfl,h3.rdV okv,h0.below h4,hW.later h4⟩
 obtain⟨v,hve⟩:∃ v,v=S.v:=⟨_,rfl⟩
 rw [←hve] at HVA HVB
 rw [←hsa, ←hsb]
 have HX:Hid (∀ k:Nat,S.cl k=none∨∃ c,S.cl k=some c):=fun k=>by cases S.cl k with | none=>exact .inl rfl | some c=>exact .inr ⟨c,rfl⟩
 clear h1 h2 okv hv hc hsa hsb hve
 go_enter Tryz.func24,Tryz.ntmps24
 go_wp2
 go_loopw [12] (fun i wr=>∃ k:Nat,k≤3∧i=.int .i64 k∧Both w S L T M wr) (fun i _=>3 - (intOf i).toNat)
 case atStart=>exact⟨0,by omega,rfl,H0.out⟩
 case round=>
  obtain⟨k,hk,rfl,hb⟩:=hrel
  have HB:Hid (Both w S L T M wr):=hb
  clear hb H0
  by_cases hlt:k < 3
  ·have hlt':(k:Int) < 3:=by omega
   have HA1:Hid (∀ W,Both w S L T M W→Calls Tryz.prog 16 #[.pointer (some ⟨sa,0,none⟩),.int .i64 k] W fun e w'=>e=.returned (.tuple (clR (S.cl k)))∧Both w S L T M w'):=fun W hW=>HCA.out k W hlt hW
   have HB1:Hid (∀ W,Both w S L T M W→Calls Tryz.prog 16 #[.pointer (some ⟨sb,0,none⟩),.int .i64 k] W fun e w'=>e=.returned (.tuple (clR (S.cl k)))∧Both w S L T M w'):=fun W hW=>HCB.out k W hlt hW
   rcases HX.out k with e | ⟨c,e⟩
   all_goals (
    rw [e] at HA1 HB1
    clear e HX HCA HCB HVA HVB
    unfold clR at HA1 HB1
    dsimp only at HA1 HB1
    go_wp2_with (first
     | (go_at_call 16;refine(HA1.out _ HB.out).mono ?_;rintro e w2 ⟨rfl,h2⟩;have H2:Hid (Both w S L T M w2):=h2;clear h2 HA1)
     | (go_at_call 16;refine(HB1.out _ H2.out).mono ?_;rintro e w3 ⟨rfl,h3⟩;have H3:Hid (Both w S L T M w3):=h3;clear h3 HB1))
    go_roundw
    case rel=>exact⟨k+1,by omega,by go_num,H3.out⟩
    case measure=>simp [intOf];omega)
  ·have hge:(3:Int)≤(k:Int):=by omega
   clear HCA HCB HX
   go_wp2_with (first
    | (go_at_call 25;refine(HVA.out _ HB.out).mono ?_;rintro e w2 ⟨l2,rfl,hr2,h2⟩;have H2:Hid (RdV w2 v l2∧Both w S L T M w2):=⟨hr2,h2⟩;clear hr2 h2 HVA;obtain⟨C,hC⟩:∃ C,C=vcells v l2:=⟨_,rfl⟩;have HC:Hid (VC v l2 C):=(hC ▸ vc v l2);rw [←hC];clear hC)
    | (go_at_call 25;refine(HVB.out _ l2 H2.out.2 H2.out.1).mono ?_;rintro e w3 ⟨l3,rfl,hr3,hq3,h3⟩;have H3:Hid (RdV w3 v l2∧RdV w3 v l3∧Both w S L T M w3):=⟨hq3,hr3,h3⟩;clear hr3 hq3 h3 HVB;obtain⟨D,hD⟩:∃ D,D=vcells v l3:=⟨_,rfl⟩;have HD:Hid (VC v l3 D):=(hD ▸ vc v l3);rw [←hD];clear hD)
    | (go_at_call 26;refine(sameViewT_eq v l2 l3 C D HC.out HD.out _ H3.out.1 H3.out.2.1).mono ?_;rintro e w4 ⟨rfl,h4⟩;have H4:Hid (Below w.heap.size w w4):=H3.out.2.2.below.trans (h4.mono H3.out.2.2.below.size);clear h4))
   go_ret
   exact⟨rfl,H4.out⟩
end Go.Proofs.YtjikokfjnbhngaaGreatDoor.Sv
