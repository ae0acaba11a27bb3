/- What 'play' answers, with the look fenestratop.quiet. -/
import Derived.Test.YtjikokfjnbhngaaGreatDoorZTake
import Derived.Test.YtjikokfjnbhngaaGreatDoorSPlayM
namespace Go.Proofs.YtjikokfjnbhngaaGreatDoor.Sv
open Go.RowKit
set_option maxRecDepth 100000
set_option maxHeartbeats 8000000 in
theorem playQuiet_any (M:Nat→Prop) (E:Nat→Srv→Lay→World→Prop) (l:List Ac) (lo:Option Addr) (lc:Nat) (w:World) (hr:RdA w lo l) (hM:∀ b off,lo=some ⟨b,off,none⟩→¬ M b) (hb:∀ a∈l,a.bytes.length≤140737488355328) (hlen:l.length≤4398046511104) (hE:EOk w E)
  (hE0:∀ L wr,SrvIn wr newS L→w.heap.size≤L.sb→Below w.heap.size w wr→E 0 newS L wr)
  (hlook:∀ (k:Nat) (hk:k < l.length),k < 100→∀ L TB T wr,PlIn M w (playP (l.take (k+1))) L TB T wr→E k (playP (l.take (k+1))).1 L wr→
   Calls Tryz.prog 18 #[.pointer (some ⟨L.sb,0,none⟩),.pointer (some ⟨TB,0,none⟩),aval l[k],rpval (doS (playP (l.take k)).1 l[k]).2] wr fun e w'=>e=.returned (.bool true)∧∃ L' T',L'.sb=L.sb∧PlIn M w (playP (l.take (k+1))) L' TB T' w'∧E (k+1) (playP (l.take (k+1))).1 L' w'):
  Calls Tryz.prog 14 #[.slice lo l.length lc,.func (.func 18) #[] #[]] w (PlayEnd M E l w):=by
 have HR:Hid (RdA w lo l∧(∀ b off,lo=some ⟨b,off,none⟩→¬ M b)∧(∀ a∈l,a.bytes.length≤140737488355328)):=⟨hr,hM,hb⟩
 have HE:Hid (EOk w E):=hE
 have HE0:Hid (∀ L wr,SrvIn wr newS L→w.heap.size≤L.sb→Below w.heap.size w wr→E 0 newS L wr):=hE0
 have HLOOK:Hid (∀ (k:Nat) (hk:k < l.length),k < 100→∀ L TB T wr,PlIn M w (playP (l.take (k+1))) L TB T wr→E k (playP (l.take (k+1))).1 L wr→
   Calls Tryz.prog 18 #[.pointer (some ⟨L.sb,0,none⟩),.pointer (some ⟨TB,0,none⟩),aval l[k],rpval (doS (playP (l.take k)).1 l[k]).2] wr fun e w'=>e=.returned (.bool true)∧∃ L' T',L'.sb=L.sb∧PlIn M w (playP (l.take (k+1))) L' TB T' w'∧E (k+1) (playP (l.take (k+1))).1 L' w'):=hlook
 clear hr hM hb hE hE0 hlook
 go_enter Tryz.func14,Tryz.ntmps14
 go_wp2_with (first
  | (go_at_call 22;refine(alive_any _).mono ?_;rintro e w1 ⟨rfl,hb1⟩;have HB1:Hid (Below w.heap.size w w1):=hb1;clear hb1)
  | (go_at_call 23;refine(new_any _).mono ?_;rintro e w2 ⟨L0,rfl,h1,h2,h3⟩;have H2:Hid (SrvIn w2 newS L0∧w.heap.size≤L0.sb∧Below w.heap.size w w2):=⟨h1,by have:=HB1.out.size;omega,HB1.out.trans (h3.mono HB1.out.size)⟩;clear h1 h2 h3)
  | (refine wpList_alloc_tm rfl rfl ?_))
 obtain⟨sb,hsb⟩:∃ sb,sb=L0.sb:=⟨_,rfl⟩
 have HI0:Hid (L0.sb=sb∧PlIn M w startP L0 w2.heap.size T0 (w2.alloc (tmbox (fun _=>zeroTm) T0))∧E 0 newS L0 (w2.alloc (tmbox (fun _=>zeroTm) T0))):=⟨hsb.symm,pl_start H2.out.1 H2.out.2.1 H2.out.2.2,HE.out.later _ _ _ _ _ (HE0.out _ _ H2.out.1 H2.out.2.1 H2.out.2.2) (below1 _ _)⟩
 rw [←hsb]
 clear HB1 H2 hsb HE0
 generalize w2.heap.size=TB at*
 generalize w2.alloc (tmbox (fun _=>zeroTm) T0)=W2 at*
 go_loopw [9] (fun i wr=>∃ (k:Nat) (L:Lay) (T:TL),k≤l.length∧k≤100∧i=.int .i64 k∧L.sb=sb∧PlIn M w (playP (l.take k)) L TB T wr∧E k (playP (l.take k)).1 L wr) (fun i _=>100 - (intOf i).toNat)
 case atStart=>exact⟨0,L0,T0,Nat.zero_le _,by omega,rfl,HI0.out.1,HI0.out.2.1,HI0.out.2.2⟩
 case round=>
  obtain⟨k,L,T,hkl,hk100,rfl,hLs,hpl,hee⟩:=hrel
  clear HI0
  by_cases hlt:k < l.length∧k < 100
  ·have okp:=okp_take l k (by omega) hkl
   have hlt1:(k:Int) < (l.length:Int):=by omega
   have hlt2:(k:Int) < 100:=by omega
   obtain⟨b,off,rfl,hbl,c0,c1,c2,c3,c4⟩:=(HR.out.1.kept hpl.kp HR.out.2.1).at hlt.1
   have HNX0:=take_succ_play l k hlt.1
   obtain⟨a,ha⟩:∃ a,a=l[k]:=⟨_,rfl⟩
   obtain⟨x,hx⟩:∃ x,x=playP (l.take k):=⟨_,rfl⟩
   rw [←ha] at c0 c1 c2 c3 c4 HNX0
   rw [←hx] at hpl hee HNX0 okp
   obtain⟨S,t⟩:=x
   obtain⟨S',hS'⟩:∃ S',S'=(doS S a).1:=⟨_,rfl⟩
   obtain⟨r,hrr⟩:∃ r,r=(doS S a).2:=⟨_,rfl⟩
   have HA:Hid (l[k]=a∧(doS (playP (l.take k)).1 a).2=r∧a∈l):=⟨ha.symm,by rw [←hx,hrr],by rw [ha];exact List.getElem_mem hlt.1⟩
   have HDO:Hid (Calls Tryz.prog 19 #[.pointer (some ⟨sb,0,none⟩),aval a] (wr.alloc (abox a)) fun e w'=>e=.returned (rpval r)∧∃ L2,L2.sb=sb∧RnIn M w E k S' t L2 TB T wr.heap.size a w'.heap.size r (w'.alloc (rpbox r))):=by
    have h1:=do_any a (HR.out.2.2 a HA.out.2.2) (wr.alloc (abox a)) S L (hpl.srv.alloc _) okp.ok
    rw [hLs] at h1
    refine h1.mono ?_
    rintro e w' ⟨rfl,L2,h2⟩
    exact⟨by rw [hrr],L2,h2.sb.trans hLs,by rw [hS'];exact rn_do HE.out hpl hee h2⟩
   have hps:=pure_step (S,t) a
   have hdc:=did_client okp.ok (a:=a)
   have hokt:=okp.okt
   dsimp only at hps hdc hokt
   rw [←hS', ←hrr] at hps
   rw [←hrr] at hdc
   rcases hps with ⟨q0,q6,q7⟩ | ⟨q0,q9,q7⟩ | ⟨n6,n9,q7⟩
   ·obtain⟨p1,p2,_⟩:=hdc q0 (.inl q6)
    obtain⟨P,hP⟩:=Int.eq_ofNat_of_zero_le p1
    rw [hP] at p2 q7
    have hP3:P < 3:=by omega
    have hP3':(P:Int) < 3:=by omega
    have hP0:(0:Int)≤(P:Int):=by omega
    obtain⟨g,hg⟩:∃ g,g=newG a.n a.m:=⟨_,rfl⟩
    have HNX:Hid (playP (l.take (k+1))=(S',upd t P ⟨Ps.ground,g⟩)):=by rw [HNX0,q7,Int.toNat_natCast,hg];exact rfl
    have HNW:Hid (∀ w,Calls Tryz.prog 36 #[.int .i64 a.n,.int .i64 a.m] w fun e w'=>∃ b,e=.returned (gval g (some ⟨b,0,none⟩) g.n)∧Scr w' b g.n g.f∧w.heap.size≤b∧Below w.heap.size w w'):=fun w=>Go.Proofs.YtjikokfjnbhngaaGreatDoor.new_any a.n a.m w g hg
    have HQ:Hid (r.code=0∧a.kind=6∧a.p=(P:Int)):=⟨q0,q6,hP⟩
    have e0:(r.code==0)=true:=by simpa using q0
    have e6:(a.kind==6)=true:=by simpa using q6
    have e9:(a.kind==9)=false:=by rw [q6];decide
    clear okp HNX0 ha hx hS' hrr hdc hokt hpl hee q0 q6 q7 hg p1 p2 hP
    go_wp2_with (go_at_call 19;refine HDO.out.mono ?_;rintro e w2 ⟨rfl,L2,hs2,h2⟩;have hsb2:Hid (L2.sb=sb):=hs2;have H3:Hid (RnIn M w E k S' t L2 TB T wr.heap.size a w2.heap.size r (w2.alloc (rpbox r))):=h2;clear hs2 h2;obtain⟨⟨a0,a1,a2,a3,a4⟩,af⟩:=fiveA H3.out.ba;obtain⟨⟨r0,r1,r2⟩,rf⟩:=three H3.out.br;have hla:=(Array.getElem?_eq_some_iff.1 H3.out.ba).1;have hlr:=(Array.getElem?_eq_some_iff.1 H3.out.br).1)
    rw [HQ.out.2.2] at a1
    generalize wr.heap.size=BA at*
    generalize w2.heap.size=BR at*
    generalize w2.alloc (rpbox r)=W3 at*
    refine bg (fun w'=>w'.cell? ⟨BA,0,none⟩=some (.int .i64 6)∧w'.cell? ⟨BA,1,none⟩=some (.int .i64 (P:Int))∧w'.cell? ⟨BA,2,none⟩=some (.int .i64 a.n)∧w'.cell? ⟨BA,3,none⟩=some (.int .i64 a.m)∧w'.cell? ⟨BR,0,none⟩=some (.int .i64 0)∧w'.cell? ⟨BR,2,none⟩=some (.string (bs r.out))) (H3.out.s HQ.out.1 HQ.out.2.1 HQ.out.2.2) (fun hHeld=>?_)
    refine tk 0 hHeld ?_
    refine tk 1 hHeld ?_
    refine tk 2 hHeld ?_
    refine tk 3 hHeld ?_
    refine tk 4 hHeld ?_
    refine tk 5 hHeld ?_
    refine wpAnyH_ready (rs:=[6]) (by kernel_rfl) (by simp) ?_
    refine AllReadyH.cons rfl (fun K hK=>?_) AllReadyH.nil
    go_simp
    go_at_call 36
    refine(HNW.out _).mono ?_
    rintro e w4 ⟨b4,rfl,hs4,_,hb4⟩
    have H4:Hid (w4.there TB (P*13) 13∧RnIn M w E k S' (upd t P ⟨Ps.ground,g⟩) L2 TB (T.put P none 0 (some ⟨b4,0,none⟩) g.n) BA a BR r (w4.setCells TB (P*13) (tmc ⟨Ps.ground,g⟩ none 0 (some ⟨b4,0,none⟩) g.n).toArray.toList)):=rn_new HE.out H3.out hP3 (undrewS hb4) hs4
    have hth4:Hid (w4.there TB (P*13) 13):=H4.out.1
    have HS4:=(H3.out.later HE.out (undrewS hb4)).s HQ.out.1 HQ.out.2.1 HQ.out.2.2
    clear hs4 hb4
    (try go_simp)
    refine hK.out _ _ HS4 (fun hHeld=>?_)
    clear hK K
    clear HS4
    refine pt ?_
    refine tk 7 hHeld ?_
    refine tk 8 hHeld ?_
    refine wpAnyH_ready (rs:=[9]) (by kernel_rfl) (by simp) ?_
    refine AllReadyH.cons rfl (fun K hK=>?_) AllReadyH.nil
    refine wanted_go (by kernel_rfl) ?_
    refine wp_store_mid 42 _ _ rfl TB (P*13) (tmc ⟨Ps.ground,g⟩ none 0 (some ⟨b4,0,none⟩) g.n).toArray rfl rfl hth4.out infoT13 (tone _ _ _ _ _) ?_
    refine hK.out _ _ (H4.out.2.s HQ.out.1 HQ.out.2.1 HQ.out.2.2) (fun hHeld=>?_)
    clear hK K
    have H5:Hid (RnIn M w E k S' (upd t P ⟨Ps.ground,g⟩) L2 TB (T.put P none 0 (some ⟨b4,0,none⟩) g.n) BA a BR r (w4.setCells TB (P*13) (tmc ⟨Ps.ground,g⟩ none 0 (some ⟨b4,0,none⟩) g.n).toArray.toList)):=H4.out.2
    generalize w4.setCells TB (P*13) (tmc ⟨Ps.ground,g⟩ none 0 (some ⟨b4,0,none⟩) g.n).toArray.toList=W5 at*
    refine pt ?_
    refine dn ?_
    clear hHeld
    clear a0 a1 a2 a3 a4 af r0 r1 r2 rf hla hlr
    have HLK:Hid (∀ n,Calls Tryz.prog 18 #[.pointer (some ⟨sb,0,none⟩),.pointer (some ⟨TB,0,none⟩),aval a,rpval r] (W5.drewN n) fun e w'=>e=.returned (.bool true)∧∃ L' T',L'.sb=sb∧PlIn M w (playP (l.take (k+1))) L' TB T' w'∧E (k+1) (playP (l.take (k+1))).1 L' w'):=fun n=>by
     have h6:=H5.out.later HE.out (below_drewN (Below.refl _ _) n)
     have h7:=HLOOK.out k hlt.1 hlt.2 L2 TB _ _ (by rw [HNX.out];exact h6.pl) (by rw [HNX.out];exact h6.e)
     rw [hsb2.out] at h7
     rw [HA.out.1,HA.out.2.1] at h7
     exact h7
    obtain⟨⟨a0,a1,a2,a3,a4⟩,af⟩:=fiveA H5.out.ba
    obtain⟨⟨r0,r1,r2⟩,rf⟩:=three H5.out.br
    have hla:=(Array.getElem?_eq_some_iff.1 H5.out.ba).1
    have hlr:=(Array.getElem?_eq_some_iff.1 H5.out.br).1
    clear HDO HNW H3 H4
    go_wp2_with fail
    go_quiet (fail)
    go_wp2_with (go_at_call 18;refine(HLK.out _).mono ?_;rintro e w6 ⟨rfl,L6,T6,hs6,h6,e6⟩;have H6:Hid (L6.sb=sb∧PlIn M w (playP (l.take (k+1))) L6 TB T6 w6∧E (k+1) (playP (l.take (k+1))).1 L6 w6):=⟨hs6,h6,e6⟩;clear hs6 h6 e6)
    go_roundw
    case rel=>exact⟨k+1,L6,T6,by omega,by omega,by go_num,H6.out.1,H6.out.2.1,H6.out.2.2⟩
    case measure=>simp [intOf];omega
   ·obtain⟨p1,p2,p3⟩:=hdc q0 (.inr q9)
    obtain⟨p3,p4⟩:=p3 q9
    obtain⟨P,hP⟩:=Int.eq_ofNat_of_zero_le p1
    rw [hP,Int.toNat_natCast] at p3
    rw [hP] at p2 q7
    have hP3:P < 3:=by omega
    have hP3':(P:Int) < 3:=by omega
    have hP0:(0:Int)≤(P:Int):=by omega
    have HNX:Hid (playP (l.take (k+1))=(S',upd t P (getT (t P) r.out))):=by rw [HNX0,q7,Int.toNat_natCast];exact rfl
    have HGT0:Hid (∀ W L2 BA BR,RnIn M w E k S' t L2 TB T BA a BR r W→Calls Tryz.prog 20 #[.pointer (some ⟨TB,P*13,none⟩),.string (bs r.out)] W fun e w'=>e=.returned (.bool true)∧∃ T',RnIn M w E k S' (upd t P (getT (t P) r.out)) L2 TB T' BA a BR r w'):=fun W L2 BA BR hW=>rn_get HE.out hW hP3 (hokt P hP3 p3) r.out (by omega)
    have HQ:Hid (r.code=0∧a.kind=9∧a.p=(P:Int)):=⟨q0,q9,hP⟩
    have e0:(r.code==0)=true:=by simpa using q0
    have e6:(a.kind==6)=false:=by rw [q9];decide
    have e9:(a.kind==9)=true:=by simpa using q9
    clear okp HNX0 ha hx hS' hrr hdc hokt hpl hee q0 q9 q7 p1 p2 p3 p4 hP
    go_wp2_with (go_at_call 19;refine HDO.out.mono ?_;rintro e w2 ⟨rfl,L2,hs2,h2⟩;have hsb2:Hid (L2.sb=sb):=hs2;have H3:Hid (RnIn M w E k S' t L2 TB T wr.heap.size a w2.heap.size r (w2.alloc (rpbox r))):=h2;clear hs2 h2;obtain⟨⟨a0,a1,a2,a3,a4⟩,af⟩:=fiveA H3.out.ba;obtain⟨⟨r0,r1,r2⟩,rf⟩:=three H3.out.br;have hla:=(Array.getElem?_eq_some_iff.1 H3.out.ba).1;have hlr:=(Array.getElem?_eq_some_iff.1 H3.out.br).1)
    rw [HQ.out.2.2] at a1
    generalize wr.heap.size=BA at*
    generalize w2.heap.size=BR at*
    generalize w2.alloc (rpbox r)=W3 at*
    have HGT:=HGT0
    refine bg (fun w'=>w'.cell? ⟨BA,0,none⟩=some (.int .i64 9)∧w'.cell? ⟨BA,1,none⟩=some (.int .i64 (P:Int))∧w'.cell? ⟨BA,2,none⟩=some (.int .i64 a.n)∧w'.cell? ⟨BA,3,none⟩=some (.int .i64 a.m)∧w'.cell? ⟨BR,0,none⟩=some (.int .i64 0)∧w'.cell? ⟨BR,2,none⟩=some (.string (bs r.out))) (H3.out.s HQ.out.1 HQ.out.2.1 HQ.out.2.2) (fun hHeld=>?_)
    refine tk 0 hHeld ?_
    refine tk 1 hHeld ?_
    refine tk 2 hHeld ?_
    refine tk 3 hHeld ?_
    refine tk 4 hHeld ?_
    refine tk 5 hHeld ?_
    refine tk 6 hHeld ?_
    refine tk 7 hHeld ?_
    refine tk 8 hHeld ?_
    refine tk 9 hHeld ?_
    refine tk 10 hHeld ?_
    refine tk 11 hHeld ?_
    refine tk 12 hHeld ?_
    refine tk 13 hHeld ?_
    refine wpAnyH_ready (rs:=[14]) (by kernel_rfl) (by simp) ?_
    refine AllReadyH.cons rfl (fun K hK=>?_) AllReadyH.nil
    go_simp
    go_at_call 20
    refine(HGT.out _ _ _ _ (H3.out.later HE.out ((Below.refl _ _).drew))).mono ?_
    rintro e w4 ⟨rfl,T4,h4⟩
    have H5:Hid (RnIn M w E k S' (upd t P (getT (t P) r.out)) L2 TB T4 BA a BR r w4):=h4
    clear h4
    (try go_simp)
    refine hK.out _ _ (H5.out.s HQ.out.1 HQ.out.2.1 HQ.out.2.2) (fun hHeld=>?_)
    clear hK K
    refine pt ?_
    refine tk 15 hHeld ?_
    refine tk 16 hHeld ?_
    refine dn ?_
    clear hHeld
    clear a0 a1 a2 a3 a4 af r0 r1 r2 rf hla hlr
    have HLK:Hid (Calls Tryz.prog 18 #[.pointer (some ⟨sb,0,none⟩),.pointer (some ⟨TB,0,none⟩),aval a,rpval r] (w4) fun e w'=>e=.returned (.bool true)∧∃ L' T',L'.sb=sb∧PlIn M w (playP (l.take (k+1))) L' TB T' w'∧E (k+1) (playP (l.take (k+1))).1 L' w'):=by
     have h6:=H5.out
     have h7:=HLOOK.out k hlt.1 hlt.2 L2 TB T4 _ (by rw [HNX.out];exact h6.pl) (by rw [HNX.out];exact h6.e)
     rw [hsb2.out] at h7
     rw [HA.out.1,HA.out.2.1] at h7
     exact h7
    obtain⟨⟨a0,a1,a2,a3,a4⟩,af⟩:=fiveA H5.out.ba
    obtain⟨⟨r0,r1,r2⟩,rf⟩:=three H5.out.br
    have hla:=(Array.getElem?_eq_some_iff.1 H5.out.ba).1
    have hlr:=(Array.getElem?_eq_some_iff.1 H5.out.br).1
    clear HDO H3 HGT HGT0
    go_wp2_with (go_at_call 18;refine HLK.out.mono ?_;rintro e w6 ⟨rfl,L6,T6,hs6,h6,e6⟩;have H6:Hid (L6.sb=sb∧PlIn M w (playP (l.take (k+1))) L6 TB T6 w6∧E (k+1) (playP (l.take (k+1))).1 L6 w6):=⟨hs6,h6,e6⟩;clear hs6 h6 e6)
    go_roundw
    case rel=>exact⟨k+1,L6,T6,by omega,by omega,by go_num,H6.out.1,H6.out.2.1,H6.out.2.2⟩
    case measure=>simp [intOf];omega
   ·have HNX:Hid (playP (l.take (k+1))=(S',t)):=HNX0.trans q7
    have hor:((r.code==0)=false)∨((r.code==0)=true∧(a.kind==6)=false∧(a.kind==9)=false):=by
     by_cases h0:r.code=0
     ·exact .inr ⟨by simpa using h0,by simpa using fun h=>n6 ⟨h0,h⟩,by simpa using fun h=>n9 ⟨h0,h⟩⟩
     ·exact .inl (by simpa using h0)
    clear okp HNX0 ha hx hS' hrr hdc hokt hpl hee q7 n6 n9
    rcases hor with e0 | ⟨e0,e6,e9⟩
    all_goals (
     go_wp2_with (go_at_call 19;refine HDO.out.mono ?_;rintro e w2 ⟨rfl,L2,hs2,h2⟩;have hsb2:Hid (L2.sb=sb):=hs2;have H3:Hid (RnIn M w E k S' t L2 TB T wr.heap.size a w2.heap.size r (w2.alloc (rpbox r))):=h2;clear hs2 h2;obtain⟨⟨a0,a1,a2,a3,a4⟩,af⟩:=fiveA H3.out.ba;obtain⟨⟨r0,r1,r2⟩,rf⟩:=three H3.out.br;have hla:=(Array.getElem?_eq_some_iff.1 H3.out.ba).1;have hlr:=(Array.getElem?_eq_some_iff.1 H3.out.br).1)
     generalize wr.heap.size=BA at*
     generalize w2.heap.size=BR at*
     generalize w2.alloc (rpbox r)=W3 at*
     have H5:=H3
     clear a0 a1 a2 a3 a4 af r0 r1 r2 rf hla hlr
     have HLK:Hid (∀ n,Calls Tryz.prog 18 #[.pointer (some ⟨sb,0,none⟩),.pointer (some ⟨TB,0,none⟩),aval a,rpval r] (W3.drewN n) fun e w'=>e=.returned (.bool true)∧∃ L' T',L'.sb=sb∧PlIn M w (playP (l.take (k+1))) L' TB T' w'∧E (k+1) (playP (l.take (k+1))).1 L' w'):=fun n=>by
      have h6:=H5.out.later HE.out (below_drewN (Below.refl _ _) n)
      have h7:=HLOOK.out k hlt.1 hlt.2 L2 TB T _ (by rw [HNX.out];exact h6.pl) (by rw [HNX.out];exact h6.e)
      rw [hsb2.out] at h7
      rw [HA.out.1,HA.out.2.1] at h7
      exact h7
     obtain⟨⟨a0,a1,a2,a3,a4⟩,af⟩:=fiveA H5.out.ba
     obtain⟨⟨r0,r1,r2⟩,rf⟩:=three H5.out.br
     have hla:=(Array.getElem?_eq_some_iff.1 H5.out.ba).1
     have hlr:=(Array.getElem?_eq_some_iff.1 H5.out.br).1
     go_quiet (fail)
     go_wp2_with (go_at_call 18;refine(HLK.out _).mono ?_;rintro e w6 ⟨rfl,L6,T6,hs6,h6,e6⟩;have H6:Hid (L6.sb=sb∧PlIn M w (playP (l.take (k+1))) L6 TB T6 w6∧E (k+1) (playP (l.take (k+1))).1 L6 w6):=⟨hs6,h6,e6⟩;clear hs6 h6 e6)
     go_roundw
     case rel=>exact⟨k+1,L6,T6,by omega,by omega,by go_num,H6.out.1,H6.out.2.1,H6.out.2.2⟩
     case measure=>simp [intOf];omega)
  ·have hend:l.take k=l.take 100∧k=min l.length 100:=by
    by_cases h1:k=100
    ·subst h1;exact⟨rfl,by omega⟩
    ·have h2:k=l.length:=by omega
     subst h2
     exact⟨by rw [List.take_of_length_le (Nat.le_refl _),List.take_of_length_le (by omega)],by omega⟩
   have HEN:Hid (∃ L T,L.sb=sb∧PlIn M w (playP (l.take 100)) L TB T wr∧E (min l.length 100) (playP (l.take 100)).1 L wr):=by
    rw [hend.1] at hpl hee
    rw [hend.2] at hee
    exact⟨L,T,hLs,hpl,hee⟩
   clear hpl hee
   have hor:(k:Int) < (l.length:Int)∧100≤(k:Int)∨(l.length:Int)≤(k:Int):=by omega
   rcases hor with ⟨g1,g2⟩ | g1
   all_goals (
    go_wp2
    go_ret3
    obtain⟨L',T',h1,h2,h3⟩:=HEN.out
    exact⟨L',TB,T',by rw [h1];rfl,h2,h3⟩)
end Go.Proofs.YtjikokfjnbhngaaGreatDoor.Sv
