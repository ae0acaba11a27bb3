/- The law TopApart. -/
import Derived.Test.YtjikokfjnbhngaaGreatDoorZTake
import Derived.Test.YtjikokfjnbhngaaGreatDoorSOthers
import Derived.Test.YtjikokfjnbhngaaGreatDoorSEnds
namespace Go.Proofs.YtjikokfjnbhngaaGreatDoor.Sv
open Go.RowKit
open Go.Proofs.YtjikokfjnbhngaaGreatDoor.Tl (tval rval rbox rcells hasT whereT colsOf Rc)
open Go.Proofs.YtjikokfjnbhngaaGreatDoor.Pt (Vw VC RdV vcells vc zv zl gall infoV wpList_alloc_view cellT)
set_option maxRecDepth 100000
theorem rect_cells {w:World} {b:Nat} {r:Rc} (h:w.heap[b]?=some (rbox r)):
  (w.cell? ⟨b,0,none⟩=some (.int .i64 r.row)∧w.cell? ⟨b,1,none⟩=some (.int .i64 r.col)∧w.cell? ⟨b,2,none⟩=some (.int .i64 r.high)∧w.cell? ⟨b,3,none⟩=some (.int .i64 r.wide))∧(∀ j,w.frozen? ⟨b,j,none⟩=false):=
 ⟨⟨cell_of_row w b 0 _ _ _ h,cell_of_row w b 1 _ _ _ h,cell_of_row w b 2 _ _ _ h,cell_of_row w b 3 _ _ _ h⟩,fun j=>frozen_of_row w b j _ _ h⟩
structure ApIn (w:World) (S0:Srv) (S:Srv) (L:Lay) (v:Vw) (m:Pt.Lay) (C:Array Value) (VB B0:Nat) (v':Vw) (m':Pt.Lay) (D:Array Value) (V2:Nat) (wr:World):Prop where
 o:OvIn w S0 [] S L v m C VB B0 wr
 vb2:wr.heap[V2]?=some (Pt.cbox D)
 rv2:RdV wr v' m'
theorem ApIn.later {w:World} {S0:Srv} {S:Srv} {L:Lay} {v:Vw} {m:Pt.Lay} {C:Array Value} {VB B0:Nat} {v':Vw} {m':Pt.Lay} {D:Array Value} {V2:Nat} {wr w':World} (h:ApIn w S0 S L v m C VB B0 v' m' D V2 wr) (hb:Below wr.heap.size wr w'):ApIn w S0 S L v m C VB B0 v' m' D V2 w':=⟨h.o.later hb,below_block hb h.vb2 (Array.getElem?_eq_some_iff.1 h.vb2).1,h.rv2.below hb⟩
theorem out_cases {S:Srv} (hf:S.acts≠300) (p:Int) (l:List UInt8):
  ((doS S ⟨3,p,0,0,l⟩).2=⟨3,0,[]⟩∧(doS S ⟨3,p,0,0,l⟩).1.v=S.v)∨
  (hasT S.v.cols p=true∧(doS S ⟨3,p,0,0,l⟩).2=⟨0,0,[]⟩∧∃ x,(doS S ⟨3,p,0,0,l⟩).1.v={S.v with gs:=upd S.v.gs p.toNat x}):=by
 rw [do_eq hf,act_out S (a:=⟨3,p,0,0,l⟩) rfl]
 unfold outputS
 dsimp only
 cases h:hasT S.v.cols p
 ·exact .inl ⟨rfl,rfl⟩
 ·exact .inr ⟨rfl,rfl,_,rfl⟩
set_option maxHeartbeats 16000000 in
theorem topApart_any (l:List Ac) (lo:Option Addr) (lc:Nat) (p:Int) (s:List UInt8) (w:World) (hr:RdA w lo l) (hb:∀ a∈l,a.bytes.length≤140737488355328) (hlen:l.length≤4398046511104) (hs:s.length≤140737488355328):
  Calls Tryz.prog 7 #[.slice lo l.length lc,.int .i64 p,.string (bs s)] w fun e w'=>e=.returned (.bool true)∧Below w.heap.size w w':=by
 obtain⟨x,hx⟩:∃ x,x=playP (l.take 100):=⟨_,rfl⟩
 have okx:OkP x (min 100 l.length):=by
  have:=okp_play (l.take 100) (by simp;omega)
  rwa [List.length_take, ←hx] at this
 obtain⟨S,t⟩:=x
 have HP:Hid (Calls Tryz.prog 14 #[.slice lo l.length lc,.func (.func 18) #[] #[]] w fun e w'=>∃ L TB,e=.returned (.tuple #[.pointer (some ⟨L.sb,0,none⟩),.pointer (some ⟨TB,0,none⟩),.bool true])∧SrvK w [] w' S L):=by
  refine(quiet_any l lo lc w hr hb hlen).mono ?_
  rintro e w' ⟨L,TB,T,he,h1⟩
  rw [←hx] at h1
  exact⟨L,TB,he,h1.srv,h1.mine,kp_below h1.kp,fun k hk=>by simp at hk⟩
 obtain⟨v,hve⟩:∃ v,v=S.v:=⟨_,rfl⟩
 obtain⟨S',hS'⟩:∃ S',S'=(doS S ⟨3,p,0,0,s⟩).1:=⟨_,rfl⟩
 have HVW0:Hid (∀ (L:Lay) (sb:Nat) W,L.sb=sb→SrvK w [] W S L→Calls Tryz.prog 25 #[.pointer (some ⟨sb,0,none⟩)] W fun e w'=>∃ m,e=.returned (.agg (vcells v m))∧OvIn w S [] S L v m (vcells v m) w'.heap.size W.heap.size (w'.alloc (Pt.cbox (vcells v m)))):=fun L sb W hs hW=>by
  have h0:=viewK hW
  rw [hs] at h0
  refine h0.mono ?_
  rintro e w' ⟨m,rfl,h1,h2,h3⟩
  rw [←hve] at h1 ⊢
  exact⟨m,rfl,h2.later (below1 _ _),at_new _ _,h1.later (below1 _ _),hve.symm⟩
 have okv:OkV v:=by rw [hve];exact okx.ok.v
 have HOK:Hid (OkV v):=okv
 have ok':OkV S'.v:=by rw [hS'];exact(ok_do okx.ok _).v
 have hf:S.acts≠300:=by have h1:S.acts=min 100 l.length:=okx.acts;omega
 have hDO:∀ c:Int,(doS S ⟨3,p,0,0,s⟩).2=⟨c,0,[]⟩→∀ (L:Lay) (sb:Nat) m C VB B0 W,L.sb=sb→(∀ b,Mut S L b→b < B0)→OvIn w S [] S L v m C VB B0 W→Calls Tryz.prog 19 #[.pointer (some ⟨sb,0,none⟩),aval ⟨3,p,0,0,s⟩] W fun e w'=>e=.returned (.agg #[.int .i64 c,.int .i64 0,.string ⟨#[]⟩])∧∃ L',L'.sb=sb∧OvIn w S [] S' L' v m C VB B0 w':=fun c hc L sb m C VB B0 W hs1 hB hW=>by
  have h0:=do_any ⟨3,p,0,0,s⟩ hs W S L hW.k.srv okx.ok
  rw [hs1] at h0
  refine h0.mono ?_
  rintro e w' ⟨rfl,L',h'⟩
  refine⟨by rw [hc],L',h'.sb.trans hs1,by rw [hS'];exact hW.k.to h',h'.keeps hW.k.srv hW.vb (by decide) (by decide),hW.ow.keep (fun b h1 h2=>h'.kp.block b h2 (fun hm=>by have:=hB b hm;omega)),hW.sv⟩
 have HV20:Hid (∀ (v':Vw),v'=S'.v→∀ (L:Lay) (sb:Nat) m C VB B0 W,L.sb=sb→OvIn w S [] S' L v m C VB B0 W→Calls Tryz.prog 25 #[.pointer (some ⟨sb,0,none⟩)] W fun e w'=>∃ m7,e=.returned (.agg (vcells v' m7))∧RdV w' v' m7∧OvIn w S [] S' L v m C VB B0 w'):=fun v' hv' L sb m C VB B0 W hs1 hW=>by
  have h0:=view_any W S' L hW.k.srv
  rw [hs1] at h0
  refine h0.mono ?_
  rintro e w' ⟨m7,rfl,h1,h2⟩
  rw [hv']
  exact⟨m7,rfl,h1.rdV ok',hW.later h2⟩
 rcases out_cases hf p s with ⟨c1,c2⟩ | ⟨c0,c1,z,c2⟩
 ·have HDO:Hid (∀ (L:Lay) (sb:Nat) m C VB B0 W,L.sb=sb→(∀ b,Mut S L b→b < B0)→OvIn w S [] S L v m C VB B0 W→Calls Tryz.prog 19 #[.pointer (some ⟨sb,0,none⟩),aval ⟨3,p,0,0,s⟩] W fun e w'=>e=.returned (.agg #[.int .i64 3,.int .i64 0,.string ⟨#[]⟩])∧∃ L',L'.sb=sb∧OvIn w S [] S' L' v m C VB B0 w'):=hDO 3 c1
  have HVE:Hid (v=S'.v):=by rw [hve,hS'];exact c2.symm
  clear hr hb hlen hs hx okx hve hS' ok' hf hDO c1 c2 okv
  go_enter Tryz.func7,Tryz.ntmps7
  go_wp2_with (first
   | (refine wpList_alloc_view rfl rfl ?_)
   | (refine wpList_code (by rfl) _ rfl _ _ _ rfl ?_)
   | (go_at_call 14;refine HP.out.mono ?_;rintro e w1 ⟨L,TB,rfl,h1⟩;have H1:Hid (SrvK w [] w1 S L):=h1;obtain⟨sb,hsb⟩:∃ sb,sb=L.sb:=⟨_,rfl⟩;have HSB:Hid (L.sb=sb):=hsb.symm;have HMU:Hid (∀ b,Mut S L b→b < w1.heap.size):=(fun b hb=>h1.srv.mut_lt hb);have HVW:Hid (Calls Tryz.prog 25 #[.pointer (some ⟨sb,0,none⟩)] w1 fun e w'=>∃ m,e=.returned (.agg (vcells v m))∧OvIn w S [] S L v m (vcells v m) w'.heap.size w1.heap.size (w'.alloc (Pt.cbox (vcells v m)))):=HVW0.out L sb w1 HSB.out h1;rw [←hsb];clear h1 hsb HP HVW0)
   | (go_at_call 25;refine HVW.out.mono ?_;rintro e w3 ⟨m,rfl,h3⟩;obtain⟨C,hC⟩:∃ C,C=vcells v m:=⟨_,rfl⟩;have HC:Hid (VC v m C∧C.size=58∧C.all (·.oneCell')=true):=(hC ▸ ⟨vc v m,rfl,Pt.vcells_one v m⟩);rw [←hC] at h3 ⊢;have H3:Hid (OvIn w S [] S L v m C w3.heap.size w1.heap.size (w3.alloc (Pt.cbox C))):=h3;clear h3 hC HVW)
   | (refine wpList_store_new 58 (vcells zv zl) C rfl _ _ rfl rfl rfl (by rw [HC.out.2.1];exact infoV) (by rw [HC.out.2.1];rfl) HC.out.2.2 ?_)
   | (go_at_call 19;refine(HDO.out L sb m C _ _ _ HSB.out HMU.out H3.out).mono ?_;rintro e w4 ⟨rfl,L4,hs4,h4⟩;have H4:Hid (OvIn w S [] S' L4 v m C w3.heap.size w1.heap.size w4):=h4;have HS4:Hid (L4.sb=sb):=hs4;clear hs4 h4 HDO))
  have HV2:Hid (∀ W,OvIn w S [] S' L4 v m C w3.heap.size w1.heap.size W→Calls Tryz.prog 25 #[.pointer (some ⟨sb,0,none⟩)] W fun e w'=>∃ m7,e=.returned (.agg (vcells v m7))∧RdV w' v m7∧OvIn w S [] S' L4 v m C w3.heap.size w1.heap.size w'):=fun W hW=>HV20.out v HVE.out L4 sb m C _ _ W HS4.out hW
  have HCS:Hid (C.size=58):=HC.out.2.1
  have HCV:Hid (VC v m C):=HC.out.1
  clear HC HV20 H3
  generalize w3.heap.size=VB at*
  generalize w1.heap.size=B0 at*
  refine bg (fun w'=>w'.heap[VB]?=some (Pt.cbox C)) H4.out.vb (fun hHeld=>?_)
  refine ty 0 rfl (.agg C) (Pt.yields_view (by rfl) _ rfl VB rfl C HCS.out (fun w0 h=>h)) hHeld ?_
  refine tk 1 hHeld ?_
  refine wpAnyH_ready (rs:=[2]) (by kernel_rfl) (by simp) ?_
  refine AllReadyH.cons rfl (fun K hK=>?_) AllReadyH.nil
  go_simp
  go_at_call 25
  refine(HV2.out _ (H4.out.later ((Below.refl _ _).drew))).mono ?_
  rintro e w7 ⟨m7,rfl,hr7,h7⟩
  have H7:Hid (OvIn w S [] S' L4 v m C VB B0 w7):=h7
  have HR7:Hid (RdV w7 v m7):=hr7
  clear hr7 h7
  obtain⟨D,hD⟩:∃ D,D=vcells v m7:=⟨_,rfl⟩
  have HD:Hid (VC v m7 D):=(hD ▸ vc v m7)
  rw [←hD]
  clear hD
  (try go_simp)
  refine hK.out _ _ H7.out.vb (fun hHeld=>?_)
  clear hK K
  refine pt ?_
  refine wpAnyH_ready (rs:=[3]) (by kernel_rfl) (by simp) ?_
  refine AllReadyH.cons rfl (fun K hK=>?_) AllReadyH.nil
  go_simp
  go_at_call 26
  refine(sameViewT_eq v m m7 C D HCV.out HD.out _ (H7.out.rv HOK.out) HR7.out).mono ?_
  rintro e w8 ⟨rfl,h8⟩
  have H8:Hid (OvIn w S [] S' L4 v m C VB B0 w8):=H7.out.later h8
  clear h8
  (try go_simp)
  refine hK.out _ _ H8.out.vb (fun hHeld=>?_)
  clear hK K
  refine pt ?_
  refine tk 4 hHeld ?_
  refine dn ?_
  go_wp2
  go_ret
  exact⟨rfl,H8.out.k.below⟩
 ·have HDO:Hid (∀ (L:Lay) (sb:Nat) m C VB B0 W,L.sb=sb→(∀ b,Mut S L b→b < B0)→OvIn w S [] S L v m C VB B0 W→Calls Tryz.prog 19 #[.pointer (some ⟨sb,0,none⟩),aval ⟨3,p,0,0,s⟩] W fun e w'=>e=.returned (.agg #[.int .i64 0,.int .i64 0,.string ⟨#[]⟩])∧∃ L',L'.sb=sb∧OvIn w S [] S' L' v m C VB B0 w'):=hDO 0 c1
  obtain⟨v',hve'⟩:∃ v',v'=S'.v:=⟨_,rfl⟩
  have HVE:Hid (v'=S'.v):=hve'
  rw [←hS', ←hve', ←hve] at c2
  rw [←hve] at c0
  obtain⟨P,hP⟩:=Int.eq_ofNat_of_zero_le (has_pane okv.t c0).1
  have hP6:P < 6:=by have:=(has_pane okv.t c0).2;omega
  subst hP
  rw [Int.toNat_natCast] at c2
  have e1:v'.wide=v.wide∧v'.high=v.high∧v'.focus=v.focus:=by rw [c2];exact⟨rfl,rfl,rfl⟩
  obtain⟨e1,e2,e3⟩:=e1
  have HG:Hid (∀ q:Nat,q≠P→v'.gs q=v.gs q):=fun q hq=>by rw [c2];exact upd_ne _ _ hq
  have HCT:Hid (∀ r c:Int,¬ Tl.inR (v.place P) r c→cellT v' r c=cellT v r c):=fun r c h=>by rw [c2];exact cell_apart v P z h
  obtain⟨H,hH⟩:=Int.eq_ofNat_of_zero_le (show 0≤v.high by have:=okv.h1;omega)
  obtain⟨Wd,hW⟩:=Int.eq_ofNat_of_zero_le (show 0≤v.wide by have:=okv.w1;omega)
  have hH10:H≤10:=by have:=okv.h2;omega
  have hW24:Wd≤24:=by have:=okv.w2;omega
  obtain⟨rc,hrc⟩:∃ rc,rc=v.place P:=⟨_,rfl⟩
  have hnum:=Pt.place_num v P
  rw [←hrc] at hnum HCT
  have HNUM:Hid (0≤rc.row∧0≤rc.col∧0≤rc.high∧0≤rc.wide∧rc.row≤24∧rc.col≤24∧rc.high≤24∧rc.wide≤24):=hnum
  have HWH:Hid (∀ W m,RdV W v m→Calls Tryz.prog 28 #[tval m.co m.its.length m.cap,.int .i64 Wd,.int .i64 H,.int .i64 P] W fun e w'=>e=.returned (rval rc)∧Below W.heap.size W w'):=fun W m hR=>by
   rw [hrc, ←hH, ←hW]
   exact Tl.where_any m.its m.co m.cap v.wide v.high P W hR.rd hR.m1 hR.m2 _ (by rw [←hR.cols];rfl)
  have HSD:Hid (v.wide=(Wd:Int)∧v.high=(H:Int)∧v'.wide=(Wd:Int)∧v'.high=(H:Int)∧v'.focus=v.focus):=⟨hW,hH,by rw [e1,hW],by rw [e2,hH],e3⟩
  clear hr hb hlen hs hx okx hve hS' ok' hf hDO c0 c1 c2 okv e1 e2 e3 hH hW hrc hnum hve'
  have hP6':(P:Int) < 6:=by omega
  go_enter Tryz.func7,Tryz.ntmps7
  go_wp2_with (first
   | (refine wpList_alloc_view rfl rfl ?_)
   | (refine wpList_code (by rfl) _ rfl _ _ _ rfl ?_)
   | (go_at_call 14;refine HP.out.mono ?_;rintro e w1 ⟨L,TB,rfl,h1⟩;have H1:Hid (SrvK w [] w1 S L):=h1;obtain⟨sb,hsb⟩:∃ sb,sb=L.sb:=⟨_,rfl⟩;have HSB:Hid (L.sb=sb):=hsb.symm;have HMU:Hid (∀ b,Mut S L b→b < w1.heap.size):=(fun b hb=>h1.srv.mut_lt hb);have HVW:Hid (Calls Tryz.prog 25 #[.pointer (some ⟨sb,0,none⟩)] w1 fun e w'=>∃ m,e=.returned (.agg (vcells v m))∧OvIn w S [] S L v m (vcells v m) w'.heap.size w1.heap.size (w'.alloc (Pt.cbox (vcells v m)))):=HVW0.out L sb w1 HSB.out h1;rw [←hsb];clear h1 hsb HP HVW0)
   | (go_at_call 25;refine HVW.out.mono ?_;rintro e w3 ⟨m,rfl,h3⟩;obtain⟨C,hC⟩:∃ C,C=vcells v m:=⟨_,rfl⟩;have HC:Hid (VC v m C∧C.size=58∧C.all (·.oneCell')=true):=(hC ▸ ⟨vc v m,rfl,Pt.vcells_one v m⟩);rw [←hC] at h3 ⊢;have H3:Hid (OvIn w S [] S L v m C w3.heap.size w1.heap.size (w3.alloc (Pt.cbox C))):=h3;clear h3 hC HVW)
   | (refine wpList_store_new 58 (vcells zv zl) C rfl _ _ rfl rfl rfl (by rw [HC.out.2.1];exact infoV) (by rw [HC.out.2.1];rfl) HC.out.2.2 ?_)
   | (go_at_call 19;refine(HDO.out L sb m C _ _ _ HSB.out HMU.out H3.out).mono ?_;rintro e w4 ⟨rfl,L4,hs4,h4⟩;have H4:Hid (OvIn w S [] S' L4 v m C w3.heap.size w1.heap.size w4):=h4;have HS4:Hid (L4.sb=sb):=hs4;clear hs4 h4 HDO)
   | (go_at_call 25;refine(HV20.out v' HVE.out L4 sb m C _ _ _ HS4.out H4.out).mono ?_;rintro e w5 ⟨m',rfl,hr5,h5⟩;obtain⟨D,hD⟩:∃ D,D=vcells v' m':=⟨_,rfl⟩;have HD:Hid (VC v' m' D∧D.size=58∧D.all (·.oneCell')=true):=(hD ▸ ⟨vc v' m',rfl,Pt.vcells_one v' m'⟩);rw [←hD];have H5:Hid (ApIn w S S' L4 v m C w3.heap.size w1.heap.size v' m' D w5.heap.size (w5.alloc (Pt.cbox D))):=⟨h5.later (below1 _ _),at_new _ _,hr5.below (below1 _ _)⟩;clear hr5 h5 hD HV20)
   | (refine wpList_store_new 58 (vcells zv zl) D rfl _ _ rfl rfl rfl (by rw [HD.out.2.1];exact infoV) (by rw [HD.out.2.1];rfl) HD.out.2.2 ?_))
  have HCS:Hid (C.size=58):=HC.out.2.1
  have HCV:Hid (VC v m C):=HC.out.1
  have HDS:Hid (D.size=58):=HD.out.2.1
  have HDV:Hid (VC v' m' D):=HD.out.1
  clear HC HD H3 H4
  generalize w3.heap.size=VB at*
  generalize w5.alloc (Pt.cbox D)=W5 at*
  generalize w5.heap.size=V2 at*
  generalize w1.heap.size=B0 at*
  go_loopw [40] (fun i wr=>∃ q:Nat,q≤6∧i=.int .i64 q∧ApIn w S S' L4 v m C VB B0 v' m' D V2 wr) (fun i _=>6 - (intOf i).toNat)
  case atStart=>exact⟨0,by omega,rfl,H5.out⟩
  case round=>
   obtain⟨q,hq,rfl,hi⟩:=hrel
   have HI:Hid (ApIn w S S' L4 v m C VB B0 v' m' D V2 wr):=hi
   clear hi H5
   by_cases hlt:q < 6
   ·have hlt':(q:Int) < 6:=by omega
    have hq0:(0:Int)≤(q:Int):=by omega
    by_cases hqp:q=P
    ·subst hqp
     go_wp2_with fail
     go_quiet (fail)
     go_wp2
     go_roundw
     case rel=>exact⟨q+1,by omega,by go_num,HI.out.later (below_drewN (Below.refl _ _) _)⟩
     case measure=>simp [intOf];omega
    ·have ep:((q:Int) !=(P:Int))=true:=by simpa using (by omega:¬ (q:Int)=(P:Int))
     have ep2:¬ (q:Int)=(P:Int):=by omega
     have ep3:¬ q=P:=hqp
     have HSG:Hid (∀ W,ApIn w S S' L4 v m C VB B0 v' m' D V2 W→Calls Tryz.prog 27 #[gval (v'.gs q) (m'.ga q) (m'.gc q),gval (v.gs q) (m.ga q) (m.gc q)] W fun e w'=>e=.returned (.bool true)∧ApIn w S S' L4 v m C VB B0 v' m' D V2 w'):=fun W hW=>by
      have r1:=hW.rv2.gs q hlt
      have r2:=(hW.o.rv HOK.out).gs q hlt
      have r3:=(hW.o.rv HOK.out).m3 q hlt
      rw [HG.out q hqp] at r1 ⊢
      refine(Pt.sameGridT_eq (v.gs q) _ _ _ _ W r1 r2 r3).mono ?_
      rintro e w' ⟨rfl,hb⟩
      exact⟨rfl,hW.later hb⟩
     go_wp2_with fail
     refine bg (fun w'=>w'.heap[V2]?=some (Pt.cbox D)∧w'.heap[VB]?=some (Pt.cbox C)) ⟨HI.out.vb2,HI.out.o.vb⟩ (fun hHeld=>?_)
     refine tk 0 hHeld ?_
     refine tk 1 hHeld ?_
     refine tk 2 hHeld ?_
     refine tk 3 hHeld ?_
     refine tk 4 hHeld ?_
     refine tk 5 hHeld ?_
     refine tk 6 hHeld ?_
     refine ty 7 rfl (gval (v'.gs q) (m'.ga q) (m'.gc q)) (yields_grid (by rfl) _ rfl V2 q hlt rfl v' m' D HDV.out (fun w0 h=>h.1)) hHeld ?_
     refine tk 8 hHeld ?_
     refine tk 9 hHeld ?_
     refine tk 10 hHeld ?_
     refine ty 11 rfl (gval (v.gs q) (m.ga q) (m.gc q)) (yields_grid (by rfl) _ rfl VB q hlt rfl v m C HCV.out (fun w0 h=>h.2)) hHeld ?_
     refine wpAnyH_ready (rs:=[12]) (by kernel_rfl) (by simp) ?_
     refine AllReadyH.cons rfl (fun K hK=>?_) AllReadyH.nil
     go_simp
     go_at_call 27
     refine(HSG.out _ (HI.out.later ((Below.refl _ _).drew))).mono ?_
     rintro e w8 ⟨rfl,h8⟩
     have H8:Hid (ApIn w S S' L4 v m C VB B0 v' m' D V2 w8):=h8
     clear h8
     (try go_simp)
     refine hK.out _ _ ⟨H8.out.vb2,H8.out.o.vb⟩ (fun hHeld=>?_)
     clear hK K
     refine pt ?_
     refine tk 13 hHeld ?_
     refine tk 14 hHeld ?_
     refine dn ?_
     go_wp2
     go_roundw
     case rel=>exact⟨q+1,by omega,by go_num,H8.out⟩
     case measure=>simp [intOf];omega
   ·have hge:(6:Int)≤(q:Int):=by omega
    obtain⟨⟨x0,x1,x2,x3⟩,xf⟩:=Pt.cbox_cells HCV.out HI.out.o.vb
    have xl:=(Array.getElem?_eq_some_iff.1 HI.out.o.vb).1
    rw [HSD.out.1] at x1
    rw [HSD.out.2.1] at x2
    clear HG
    go_wp2_with (go_at_call 28;refine(HWH.out _ m (HI.out.o.rv HOK.out)).mono ?_;rintro e w6 ⟨rfl,hb6⟩;have H6:Hid (ApIn w S S' L4 v m C VB B0 v' m' D V2 (w6.alloc (rbox rc))∧(w6.alloc (rbox rc)).heap[w6.heap.size]?=some (rbox rc)):=⟨(HI.out.later hb6).later (below1 _ _),at_new _ _⟩;clear x0 x1 x2 x3 xf xl;obtain⟨⟨x0,x1,x2,x3⟩,xf⟩:=Pt.cbox_cells HCV.out (HI.out.later hb6).o.vb;have xl:=(Array.getElem?_eq_some_iff.1 (HI.out.later hb6).o.vb).1;rw [HSD.out.1] at x1;rw [HSD.out.2.1] at x2;clear hb6 HWH)
    clear x0 x1 x2 x3 xf xl
    generalize w6.alloc (rbox rc)=W6 at*
    generalize w6.heap.size=RB at*
    go_loopw [69] (fun i wr=>∃ r:Nat,r≤H∧i=.int .i64 r∧(ApIn w S S' L4 v m C VB B0 v' m' D V2 wr∧wr.heap[RB]?=some (rbox rc))) (fun i _=>H - (intOf i).toNat)
    case atStart=>exact⟨0,by omega,rfl,H6.out⟩
    case round=>
     obtain⟨r,hr,rfl,hi⟩:=hrel
     have HI:Hid (ApIn w S S' L4 v m C VB B0 v' m' D V2 wr∧wr.heap[RB]?=some (rbox rc)):=hi
     clear hi H6
     by_cases hrl:r < H
     ·have hrl':(r:Int) < (H:Int):=by omega
      obtain⟨⟨x0,x1,x2,x3⟩,xf⟩:=Pt.cbox_cells HCV.out HI.out.1.o.vb
      have xl:=(Array.getElem?_eq_some_iff.1 HI.out.1.o.vb).1
      rw [HSD.out.1] at x1
      go_wp2
      clear x0 x1 x2 x3 xf xl
      go_loopw [74] (fun i wr=>∃ c:Nat,c≤Wd∧i=.int .i64 c∧(ApIn w S S' L4 v m C VB B0 v' m' D V2 wr∧wr.heap[RB]?=some (rbox rc))) (fun i _=>Wd - (intOf i).toNat)
      case atStart=>exact⟨0,by omega,rfl,HI.out⟩
      case round=>
       obtain⟨c,hc,rfl,hi⟩:=hrel
       have HI:Hid (ApIn w S S' L4 v m C VB B0 v' m' D V2 wr∧wr.heap[RB]?=some (rbox rc)):=hi
       clear hi
       by_cases hcl:c < Wd
       ·have hcl':(c:Int) < (Wd:Int):=by omega
        obtain⟨⟨y0,y1,y2,y3⟩,yf⟩:=rect_cells HI.out.2
        have yl:=(Array.getElem?_eq_some_iff.1 HI.out.2).1
        have hnum:=HNUM.out
        obtain⟨R0,hR0⟩:∃ x,x=rc.row:=⟨_,rfl⟩
        obtain⟨R1,hR1⟩:∃ x,x=rc.col:=⟨_,rfl⟩
        obtain⟨R2,hR2⟩:∃ x,x=rc.high:=⟨_,rfl⟩
        obtain⟨R3,hR3⟩:∃ x,x=rc.wide:=⟨_,rfl⟩
        rw [←hR0] at y0 hnum
        rw [←hR1] at y1 hnum
        rw [←hR2] at y2 hnum
        rw [←hR3] at y3 hnum
        obtain⟨n1,n2,n3,n4,n5,n6,n7,n8⟩:=hnum
        have HIN:Hid (Tl.inR rc r c↔(R0≤(r:Int)∧(r:Int) < R0+R2∧R1≤(c:Int)∧(c:Int) < R1+R3)):=by
         rw [hR0,hR1,hR2,hR3]
         exact Iff.rfl
        clear hR0 hR1 hR2 hR3
        by_cases hin:(R0≤(r:Int)∧(r:Int) < R0+R2∧R1≤(c:Int)∧(c:Int) < R1+R3)
        ·obtain⟨i1,i2,i3,i4⟩:=hin
         go_wp2_with fail
         go_quiet (fail)
         go_wp2
         go_roundw
         case rel=>exact⟨c+1,by omega,by go_num,HI.out.1.later (below_drewN (Below.refl _ _) _),below_block (below_drewN (Below.refl _ _) _) HI.out.2 yl⟩
         case measure=>simp [intOf];omega
        ·have hct:=HCT.out r c (fun h=>hin (HIN.out.1 h))
         have HC1:Hid (∀ W,ApIn w S S' L4 v m C VB B0 v' m' D V2 W→Calls Tryz.prog 29 #[.agg C,.int .i64 r,.int .i64 c] W fun e w'=>e=.returned (cval (cellT v r c))∧Below W.heap.size W w'):=fun W hW=>Pt.cell_any v m C HCV.out r c W (hW.o.rv HOK.out) _ rfl
         have HC2:Hid (∀ W,ApIn w S S' L4 v m C VB B0 v' m' D V2 W→Calls Tryz.prog 29 #[.agg D,.int .i64 r,.int .i64 c] W fun e w'=>e=.returned (cval (cellT v r c))∧Below W.heap.size W w'):=fun W hW=>Pt.cell_any v' m' D HDV.out r c W hW.rv2 _ hct.symm
         generalize cellT v r c=cc at HC1 HC2
         have hor:((r:Int) < R0)∨(R0≤(r:Int)∧R0+R2≤(r:Int))∨(R0≤(r:Int)∧(r:Int) < R0+R2∧(c:Int) < R1)∨(R0≤(r:Int)∧(r:Int) < R0+R2∧R1≤(c:Int)∧R1+R3≤(c:Int)):=by omega
         clear hct hin HIN
         rcases hor with i1 | ⟨i1,i2⟩ | ⟨i1,i2,i3⟩ | ⟨i1,i2,i3,i4⟩
         all_goals (
          go_wp2_with fail
          (try rw [decide_eq_false (show ¬ ((c:Int) < R1+R3) by omega)])
          refine bg (fun w'=>w'.heap[V2]?=some (Pt.cbox D)∧w'.heap[VB]?=some (Pt.cbox C)) ⟨HI.out.1.vb2,HI.out.1.o.vb⟩ (fun hHeld=>?_)
          refine tk 0 hHeld ?_
          refine tk 1 hHeld ?_
          refine tk 2 hHeld ?_
          refine ty 3 rfl (.agg D) (Pt.yields_view (by rfl) _ rfl V2 rfl D HDS.out (fun w0 h=>h.1)) hHeld ?_
          refine tk 4 hHeld ?_
          refine tk 5 hHeld ?_
          refine ty 7 rfl (.agg C) (Pt.yields_view (by rfl) _ rfl VB rfl C HCS.out (fun w0 h=>h.2)) hHeld ?_
          refine tk 8 hHeld ?_
          refine tk 9 hHeld ?_
          refine wpAnyH_ready (rs:=[6]) (by kernel_rfl) (by simp) ?_
          refine AllReadyH.cons rfl (fun K hK=>?_) AllReadyH.nil
          go_simp
          go_at_call 29
          refine(HC2.out _ (HI.out.1.later ((Below.refl _ _).drew))).mono ?_
          rintro e w8 ⟨rfl,h8⟩
          have H8:Hid (ApIn w S S' L4 v m C VB B0 v' m' D V2 w8∧w8.heap[RB]?=some (rbox rc)):=⟨HI.out.1.later (undrewS h8),below_block (undrewS h8) HI.out.2 (Array.getElem?_eq_some_iff.1 HI.out.2).1⟩
          clear h8
          (try go_simp)
          refine hK.out _ _ ⟨H8.out.1.vb2,H8.out.1.o.vb⟩ (fun hHeld=>?_)
          clear hK K
          refine pt ?_
          refine wpAnyH_ready (rs:=[10]) (by kernel_rfl) (by simp) ?_
          refine AllReadyH.cons rfl (fun K hK=>?_) AllReadyH.nil
          go_simp
          go_at_call 29
          refine(HC1.out _ H8.out.1).mono ?_
          rintro e w9 ⟨rfl,h9⟩
          have H9:Hid (ApIn w S S' L4 v m C VB B0 v' m' D V2 w9∧w9.heap[RB]?=some (rbox rc)):=⟨H8.out.1.later h9,below_block h9 H8.out.2 (Array.getElem?_eq_some_iff.1 H8.out.2).1⟩
          clear h9
          (try go_simp)
          refine hK.out _ _ ⟨H9.out.1.vb2,H9.out.1.o.vb⟩ (fun hHeld=>?_)
          clear hK K
          refine pt ?_
          refine tk 11 hHeld ?_
          refine tk 12 hHeld ?_
          refine dn ?_
          go_wp2
          go_roundw
          case rel=>exact⟨c+1,by omega,by go_num,H9.out⟩
          case measure=>(simp [intOf];omega))
       ·have hcg:(Wd:Int)≤(c:Int):=by omega
        go_wp2
        go_roundw
        case rel=>exact⟨r+1,by omega,by go_num,HI.out⟩
        case measure=>simp [intOf];omega
     ·have hrg:(H:Int)≤(r:Int):=by omega
      obtain⟨⟨x0,x1,x2,x3⟩,xf⟩:=Pt.cbox_cells HCV.out HI.out.1.o.vb
      have xl:=(Array.getElem?_eq_some_iff.1 HI.out.1.o.vb).1
      obtain⟨⟨y0,y1,y2,y3⟩,yf⟩:=Pt.cbox_cells HDV.out HI.out.1.vb2
      have yl:=(Array.getElem?_eq_some_iff.1 HI.out.1.vb2).1
      rw [HSD.out.1] at x1
      rw [HSD.out.2.1] at x2
      rw [HSD.out.2.2.1] at y1
      rw [HSD.out.2.2.2.1] at y2
      rw [HSD.out.2.2.2.2] at y3
      go_wp2
      go_ret
      exact⟨rfl,HI.out.1.o.k.below⟩
end Go.Proofs.YtjikokfjnbhngaaGreatDoor.Sv
