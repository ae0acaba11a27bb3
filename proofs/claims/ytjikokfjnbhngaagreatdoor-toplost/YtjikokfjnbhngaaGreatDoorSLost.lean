/- The law TopLost. -/
import Derived.Test.YtjikokfjnbhngaaGreatDoorSPlayLost
import Derived.Test.YtjikokfjnbhngaaGreatDoorMSShown
import Derived.Test.YtjikokfjnbhngaaGreatDoorSLost0
namespace Go.Proofs.YtjikokfjnbhngaaGreatDoor.Sv
open Go.RowKit
set_option maxRecDepth 100000
structure LsIn (M:Nat→Prop) (w:World) (y:Srv×(Nat→Tm)) (L:Lay) (TB:Nat) (T:TL) (pw pg:Nat) (qo qn:Nat→List UInt8) (bo bn:Nat→Bool) (j BA:Nat) (a:Ac) (BR:Nat) (r:Rp) (wr:World):Prop where
 pl:PlIn M w y L TB T wr
 sw:wr.heap[pw]?=some (strbox (mix j qo qn))
 sg:wr.heap[pg]?=some (boolbox (mix j bo bn))
 ba:wr.heap[BA]?=some (abox a)
 br:wr.heap[BR]?=some (rpbox r)
theorem LsIn.later {M:Nat→Prop} {w:World} {y:Srv×(Nat→Tm)} {L:Lay} {TB:Nat} {T:TL} {pw pg:Nat} {qo qn:Nat→List UInt8} {bo bn:Nat→Bool} {j BA:Nat} {a:Ac} {BR:Nat} {r:Rp} {wr w':World} (h:LsIn M w y L TB T pw pg qo qn bo bn j BA a BR r wr) (hb:Below wr.heap.size wr w'):LsIn M w y L TB T pw pg qo qn bo bn j BA a BR r w':=
 ⟨h.pl.later hb,below_block hb h.sw (Array.getElem?_eq_some_iff.1 h.sw).1,below_block hb h.sg (Array.getElem?_eq_some_iff.1 h.sg).1,below_block hb h.ba (Array.getElem?_eq_some_iff.1 h.ba).1,below_block hb h.br (Array.getElem?_eq_some_iff.1 h.br).1⟩
theorem ne_block {w:World} {b B:Nat} {c d:Array Value} {s t:TypeId} (h1:w.heap[b]?=some (.cells c s (0,0))) (h2:w.heap[B]?=some (.cells d t (0,0))) (hst:s≠t):b≠B:=fun e=>by
 rw [e,h2] at h1
 simp only [Option.some.injEq,Obj.cells.injEq] at h1
 exact hst h1.2.1.symm
theorem ls_step {M:Nat→Prop} {w:World} {y:Srv×(Nat→Tm)} {L:Lay} {TB:Nat} {T:TL} {pw pg:Nat} {qo qn:Nat→List UInt8} {bo bn:Nat→Bool} {j BA:Nat} {a:Ac} {BR:Nat} {r:Rp} {wr:World} (h:LsIn M w y L TB T pw pg qo qn bo bn j BA a BR r wr) (hj:j < 3) (m1:M pw) (m2:M pg) {q:List UInt8} {b:Bool} (hq:q=qn j) (hb:b=bn j):
  LsIn M w y L TB T pw pg qo qn bo bn (j+1) BA a BR r ((wr.setCell ⟨pw,j,none⟩ (.string (bs q))).setCell ⟨pg,j,none⟩ (.bool b)):=by
 rw [hq,hb]
 have h1:=h.pl.put h.sw str_foreign (by decide) m1 j (.string (bs (qn j)))
 have n1:pg≠pw:=ne_block h.sg h.sw (by decide)
 have n2:BA≠pw:=ne_block h.ba h.sw (by decide)
 have n3:BR≠pw:=ne_block h.br h.sw (by decide)
 have n4:BA≠pg:=ne_block h.ba h.sg (by decide)
 have n5:BR≠pg:=ne_block h.br h.sg (by decide)
 have g1:(wr.setCell ⟨pw,j,none⟩ (.string (bs (qn j)))).heap[pg]?=some (boolbox (mix j bo bn)):=by rw [Below.heap_setCell _ _ _ _ (by simpa using n1)];exact h.sg
 refine⟨h1.put g1 bool_foreign (by decide) m2 j _,?_,?_,?_,?_⟩
 ·rw [Below.heap_setCell _ _ _ _ (by simpa using fun e=>n1 e.symm),set_cells h.sw,scs_put qo qn j hj]
 ·rw [set_cells g1,bcs_put bo bn j hj]
 ·rw [Below.heap_setCell _ _ _ _ (by simpa using n4),Below.heap_setCell _ _ _ _ (by simpa using n2)];exact h.ba
 ·rw [Below.heap_setCell _ _ _ _ (by simpa using n5),Below.heap_setCell _ _ _ _ (by simpa using n3)];exact h.br
set_option maxHeartbeats 8000000 in
theorem lost_look (l:List Ac) (w:World) (pw pg:Nat) (M:Nat→Prop) (m1:M pw) (m2:M pg) (k:Nat) (hk:k < l.length) (h100:k < 100) (L:Lay) (TB:Nat) (T:TL) (w0:World) (h:PlIn M w (playP (l.take (k+1))) L TB T w0)
  (hsw:w0.heap[pw]?=some (strbox (qv (playP (l.take k)).1))) (hsg:w0.heap[pg]?=some (boolbox (lv (playP (l.take k)).1))):
  Calls Tryz.prog 21 #[.pointer (some ⟨L.sb,0,none⟩),.pointer (some ⟨TB,0,none⟩),aval l[k],rpval (doS (playP (l.take k)).1 l[k]).2,.pointer (some ⟨pw,0,none⟩),.pointer (some ⟨pg,0,none⟩)] w0 fun e w'=>e=.returned (.bool true)∧
   PlIn M w (playP (l.take (k+1))) L TB T w'∧w'.heap[pw]?=some (strbox (qv (playP (l.take (k+1))).1))∧w'.heap[pg]?=some (boolbox (lv (playP (l.take (k+1))).1)):=by
 have okp:=okp_take l k (by omega) (by omega)
 have hst:=take_succ_play l k hk
 obtain⟨a,ha⟩:∃ a,a=l[k]:=⟨_,rfl⟩
 obtain⟨x,hx⟩:∃ x,x=playP (l.take k):=⟨_,rfl⟩
 obtain⟨y,hy⟩:∃ y,y=playP (l.take (k+1)):=⟨_,rfl⟩
 obtain⟨r,hr⟩:∃ r,r=(doS x.1 a).2:=⟨_,rfl⟩
 rw [←hy, ←hx, ←ha] at hst
 rw [←hy] at h
 rw [←hx] at okp hsw hsg
 rw [←ha, ←hx, ←hr, ←hy]
 obtain⟨sb,hsb⟩:∃ sb,sb=L.sb:=⟨_,rfl⟩
 have hy1:y.1=(doS x.1 a).1:=by rw [hst];rfl
 obtain⟨qo,hqo⟩:∃ q,q=qv x.1:=⟨_,rfl⟩
 obtain⟨bo,hbo⟩:∃ q,q=lv x.1:=⟨_,rfl⟩
 have HWY:Hid (∀ i,i < 3→Way a r (qo i) (bo i) (y.1.cl i)):=fun i hi=>by rw [hqo,hbo,hr,hy1];exact way_any okp (by omega) a i hi
 have H0:Hid (LsIn M w y L TB T pw pg qo (qv y.1) bo (lv y.1) 0 w0.heap.size a (w0.heap.size+1) r ((w0.alloc (abox a)).alloc (rpbox r))):=by
  have hb:Below w0.heap.size w0 ((w0.alloc (abox a)).alloc (rpbox r)):=(below1 _ _).alloc (by simp) _
  refine⟨h.later hb,?_,?_,at_old (at_new w0 _) _,at_new1 w0 _ _⟩
  ·rw [mix_zero,hqo];exact below_block hb hsw (Array.getElem?_eq_some_iff.1 hsw).1
  ·rw [mix_zero,hbo];exact below_block hb hsg (Array.getElem?_eq_some_iff.1 hsg).1
 have HCL:Hid (∀ (j i BA BR:Nat) W,i < 3→LsIn M w y L TB T pw pg qo (qv y.1) bo (lv y.1) j BA a BR r W→Calls Tryz.prog 16 #[.pointer (some ⟨sb,0,none⟩),.int .i64 i] W fun e w'=>e=.returned (.tuple (clR (y.1.cl i)))∧LsIn M w y L TB T pw pg qo (qv y.1) bo (lv y.1) j BA a BR r w'):=fun j i BA BR W hi hW=>by
  rw [hsb]
  refine(client_any i W y.1 L hW.pl.srv).mono ?_
  rintro e w' ⟨rfl,n,rfl⟩
  refine⟨?_,hW.later (below_drewN (Below.refl _ _) n)⟩
  have:hereS y.1 (i:Int)=y.1.cl i:=by
   unfold hereS
   rw [if_pos (by unfold isCl;simp;omega)]
   rfl
  rw [this]
 have HM:Hid (M pw∧M pg):=⟨m1,m2⟩
 rw [←hsb]
 clear h okp hst hy1 ha hx hy hr hsb hk h100 hsw hsg hqo hbo m1 m2
 go_enter Tryz.func21,Tryz.ntmps21
 go_wp2
 generalize w0.heap.size+1=BR at*
 generalize w0.heap.size=BA at*
 generalize (w0.alloc (abox a)).alloc (rpbox r)=W0 at*
 go_loopw [15] (fun i wr=>∃ j:Nat,j≤3∧i=.int .i64 j∧LsIn M w y L TB T pw pg qo (qv y.1) bo (lv y.1) j BA a BR r wr) (fun i _=>3 - (intOf i).toNat)
 case atStart=>exact⟨0,by omega,rfl,H0.out⟩
 case round=>
  obtain⟨j,hj,rfl,hi⟩:=hrel
  have HI:Hid (LsIn M w y L TB T pw pg qo (qv y.1) bo (lv y.1) j BA a BR r wr):=hi
  clear hi H0
  by_cases hlt:j < 3
  ·have hlt':(j:Int) < 3:=by omega
   have hj0:(0:Int)≤(j:Int):=by omega
   have HC1:Hid (Calls Tryz.prog 16 #[.pointer (some ⟨sb,0,none⟩),.int .i64 j] wr fun e w'=>e=.returned (.tuple (clR (y.1.cl j)))∧LsIn M w y L TB T pw pg qo (qv y.1) bo (lv y.1) j BA a BR r w'):=HCL.out j j BA BR wr hlt HI.out
   have hw:=HWY.out j hlt
   have hqj:qv y.1 j=(match y.1.cl j with | none=>[] | some c=>c.q):=rfl
   have hlj:lv y.1 j=(match y.1.cl j with | none=>false | some c=>c.lost):=rfl
   have HCE:Hid (∀ W,LsIn M w y L TB T pw pg qo (qv y.1) bo (lv y.1) j BA a BR r W→(W.cell? ⟨pw,j,none⟩=some (.string (bs (qo j)))∧(∀ i,W.frozen? ⟨pw,i,none⟩=false)∧pw < W.heap.size)∧(W.cell? ⟨pg,j,none⟩=some (.bool (bo j))∧(∀ i,W.frozen? ⟨pg,i,none⟩=false)∧pg < W.heap.size)):=fun W hW=>
    ⟨⟨(cell_of_row W pw j _ _ _ hW.sw).trans ((scs_at _ j hlt).trans (by rw [mix_here])),fun i=>frozen_of_row W pw i _ _ hW.sw,(Array.getElem?_eq_some_iff.1 hW.sw).1⟩,⟨(cell_of_row W pg j _ _ _ hW.sg).trans ((bcs_at _ j hlt).trans (by rw [mix_here])),fun i=>frozen_of_row W pg i _ _ hW.sg,(Array.getElem?_eq_some_iff.1 hW.sg).1⟩⟩
   have hne1:pg≠pw:=ne_block HI.out.sg HI.out.sw (by decide)
   have hne2:pw≠pg:=fun e=>hne1 e.symm
   clear HCL HWY
   obtain⟨Q,hQ⟩:∃ Q,Q=qo j:=⟨_,rfl⟩
   obtain⟨b0,hb0⟩:∃ b,b=bo j:=⟨_,rfl⟩
   obtain⟨oc,hoc⟩:∃ oc,oc=y.1.cl j:=⟨_,rfl⟩
   rw [←hoc] at HC1 hw hqj hlj
   rw [←hQ, ←hb0] at hw HCE
   clear hQ hb0
   rcases hw with rfl | ⟨c,rfl,hs,e8⟩ | ⟨c,rfl,hs,e8,h0,hl,hne,hq⟩ | ⟨c,rfl,hs,e8,h0,hl,hb⟩ | ⟨c,m,rfl,hs,e8,h0,hl,hb,hq⟩
   ·unfold clR at HC1
    dsimp only at HC1 hqj hlj
    have HQN:Hid (([]:List UInt8)=qv y.1 j∧false=lv y.1 j):=⟨hqj.symm,hlj.symm⟩
    clear hqj hlj hoc
    go_wp2_with (go_at_call 16;refine HC1.out.mono ?_;rintro e w2 ⟨rfl,h2⟩;have H2:Hid (LsIn M w y L TB T pw pg qo (qv y.1) bo (lv y.1) j BA a BR r w2):=h2;obtain⟨⟨s1,sf,sl⟩,⟨g1,gf,gl⟩⟩:=HCE.out w2 h2;obtain⟨⟨a0,_,_,_,_⟩,af⟩:=fiveA h2.ba;obtain⟨⟨r0,_,_⟩,rf⟩:=three h2.br;have hla:=(Array.getElem?_eq_some_iff.1 h2.ba).1;have hlr:=(Array.getElem?_eq_some_iff.1 h2.br).1;clear h2 HC1)
    go_quiet (fail)
    go_wp2
    go_roundw
    case rel=>exact⟨j+1,by omega,by go_num,ls_step (H2.out.later (below_drewN (Below.refl _ _) _)) hlt HM.out.1 HM.out.2 HQN.out.1 HQN.out.2⟩
    case measure=>simp [intOf];omega
   ·unfold clR at HC1
    dsimp only at HC1 hqj hlj
    have hs4:(c.q.length:Int)≤4000:=by omega
    generalize c.q=q1 at*
    generalize c.lost=b1 at*
    have HQN:Hid (q1=qv y.1 j∧b1=lv y.1 j):=⟨hqj.symm,hlj.symm⟩
    clear hqj hlj hoc
    go_wp2_with (go_at_call 16;refine HC1.out.mono ?_;rintro e w2 ⟨rfl,h2⟩;have H2:Hid (LsIn M w y L TB T pw pg qo (qv y.1) bo (lv y.1) j BA a BR r w2):=h2;obtain⟨⟨s1,sf,sl⟩,⟨g1,gf,gl⟩⟩:=HCE.out w2 h2;obtain⟨⟨a0,_,_,_,_⟩,af⟩:=fiveA h2.ba;obtain⟨⟨r0,_,_⟩,rf⟩:=three h2.br;have hla:=(Array.getElem?_eq_some_iff.1 h2.ba).1;have hlr:=(Array.getElem?_eq_some_iff.1 h2.br).1;clear h2 HC1)
    go_quiet (fail)
    go_wp2
    go_roundw
    case rel=>exact⟨j+1,by omega,by go_num,ls_step (H2.out.later (below_drewN (Below.refl _ _) _)) hlt HM.out.1 HM.out.2 HQN.out.1 HQN.out.2⟩
    case measure=>simp [intOf];omega
   ·unfold clR at HC1
    dsimp only at HC1 hqj hlj
    rw [hq,hl] at HC1
    rw [hq] at hqj hs
    rw [hl] at hlj
    have hs4:(Q.length:Int)≤4000:=by omega
    have e0:(r.code==0)=true:=by simpa using h0
    have hie:Q.isEmpty=false:=by simpa using hne
    clear hq hl h0
    have HQN:Hid (Q=qv y.1 j∧true=lv y.1 j):=⟨hqj.symm,hlj.symm⟩
    clear hqj hlj hoc
    go_wp2_with (go_at_call 16;refine HC1.out.mono ?_;rintro e w2 ⟨rfl,h2⟩;have H2:Hid (LsIn M w y L TB T pw pg qo (qv y.1) bo (lv y.1) j BA a BR r w2):=h2;obtain⟨⟨s1,sf,sl⟩,⟨g1,gf,gl⟩⟩:=HCE.out w2 h2;obtain⟨⟨a0,_,_,_,_⟩,af⟩:=fiveA h2.ba;obtain⟨⟨r0,_,_⟩,rf⟩:=three h2.br;have hla:=(Array.getElem?_eq_some_iff.1 h2.ba).1;have hlr:=(Array.getElem?_eq_some_iff.1 h2.br).1;clear h2 HC1)
    go_quiet (fail)
    go_wp2
    go_roundw
    case rel=>exact⟨j+1,by omega,by go_num,ls_step (H2.out.later (below_drewN (Below.refl _ _) _)) hlt HM.out.1 HM.out.2 HQN.out.1 HQN.out.2⟩
    case measure=>simp [intOf];omega
   ·unfold clR at HC1
    dsimp only at HC1 hqj hlj
    rw [hl] at HC1 hlj
    subst hb
    have hs4:(c.q.length:Int)≤4000:=by omega
    have e0:(r.code==0)=true:=by simpa using h0
    generalize c.q=q1 at*
    clear hl h0
    have HQN:Hid (q1=qv y.1 j∧false=lv y.1 j):=⟨hqj.symm,hlj.symm⟩
    clear hqj hlj hoc
    go_wp2_with (go_at_call 16;refine HC1.out.mono ?_;rintro e w2 ⟨rfl,h2⟩;have H2:Hid (LsIn M w y L TB T pw pg qo (qv y.1) bo (lv y.1) j BA a BR r w2):=h2;obtain⟨⟨s1,sf,sl⟩,⟨g1,gf,gl⟩⟩:=HCE.out w2 h2;obtain⟨⟨a0,_,_,_,_⟩,af⟩:=fiveA h2.ba;obtain⟨⟨r0,_,_⟩,rf⟩:=three h2.br;have hla:=(Array.getElem?_eq_some_iff.1 h2.ba).1;have hlr:=(Array.getElem?_eq_some_iff.1 h2.br).1;clear h2 HC1)
    go_quiet (fail)
    go_wp2
    go_roundw
    case rel=>exact⟨j+1,by omega,by go_num,ls_step (H2.out.later (below_drewN (Below.refl _ _) _)) hlt HM.out.1 HM.out.2 HQN.out.1 HQN.out.2⟩
    case measure=>simp [intOf];omega
   ·unfold clR at HC1
    dsimp only at HC1 hqj hlj
    rw [hl] at HC1 hlj
    subst hb
    have hs4:(c.q.length:Int)≤4000:=by omega
    have e0:(r.code==0)=true:=by simpa using h0
    have hxt:(bs c.q).extract 0 Q.length=bs Q:=by rw [bs_take,hq,List.take_left]
    have hln:(Q.length:Int)≤(c.q.length:Int):=by rw [hq,List.length_append];omega
    have hln2:Q.length≤c.q.length:=by omega
    generalize c.q=q1 at*
    clear hl h0 hq
    have HQN:Hid (q1=qv y.1 j∧false=lv y.1 j):=⟨hqj.symm,hlj.symm⟩
    clear hqj hlj hoc
    go_wp2_with (go_at_call 16;refine HC1.out.mono ?_;rintro e w2 ⟨rfl,h2⟩;have H2:Hid (LsIn M w y L TB T pw pg qo (qv y.1) bo (lv y.1) j BA a BR r w2):=h2;obtain⟨⟨s1,sf,sl⟩,⟨g1,gf,gl⟩⟩:=HCE.out w2 h2;obtain⟨⟨a0,_,_,_,_⟩,af⟩:=fiveA h2.ba;obtain⟨⟨r0,_,_⟩,rf⟩:=three h2.br;have hla:=(Array.getElem?_eq_some_iff.1 h2.ba).1;have hlr:=(Array.getElem?_eq_some_iff.1 h2.br).1;clear h2 HC1)
    go_quiet (fail)
    go_wp2
    go_roundw
    case rel=>exact⟨j+1,by omega,by go_num,ls_step (H2.out.later (below_drewN (Below.refl _ _) _)) hlt HM.out.1 HM.out.2 HQN.out.1 HQN.out.2⟩
    case measure=>simp [intOf];omega
  ·have hge:(3:Int)≤(j:Int):=by omega
   have HE:Hid (PlIn M w y L TB T wr∧wr.heap[pw]?=some (strbox (qv y.1))∧wr.heap[pg]?=some (boolbox (lv y.1))):=by
    obtain rfl:j=3:=by omega
    have h1:=HI.out.sw
    have h2:=HI.out.sg
    exact⟨HI.out.pl,h1,h2⟩
   clear HCL HWY HM
   go_wp2
   go_ret
   exact⟨rfl,HE.out⟩
def LostE (l:List Ac) (pw pg:Nat) (k:Nat) (_:Srv) (_:Lay) (wr:World):Prop:=wr.heap[pw]?=some (strbox (qv (playP (l.take k)).1))∧wr.heap[pg]?=some (boolbox (lv (playP (l.take k)).1))
theorem lost_eok (w:World) (l:List Ac) (pw pg:Nat):EOk w (LostE l pw pg):=by
 refine⟨fun k S L S' L' wr wr' hs _ he ht=>⟨ht.keeps hs he.1 (by decide) (by decide),ht.keeps hs he.2 (by decide) (by decide)⟩,fun k S L wr wr' he hb=>⟨below_block hb he.1 (Array.getElem?_eq_some_iff.1 he.1).1,below_block hb he.2 (Array.getElem?_eq_some_iff.1 he.2).1⟩,fun k S L wr wr' TB t T ht _ he hk=>?_⟩
 have key:∀ (b:Nat) (y:Array Value) (ty:TypeId),ty≠76→wr.heap[b]?=some (.cells y ty (0,0))→wr'.heap[b]?=some (.cells y ty (0,0)):=fun b y ty hty hy=>hk.at hy (fun e=>by
  subst e
  rw [ht.box] at hy
  simp only [Option.some.injEq,Obj.cells.injEq] at hy
  exact hty hy.2.1.symm)
 exact⟨key _ _ _ (by decide) he.1,key _ _ _ (by decide) he.2⟩
theorem topLost_any (l:List Ac) (lo:Option Addr) (lc:Nat) (w:World) (hr:RdA w lo l) (hb:∀ a∈l,a.bytes.length≤140737488355328) (hlen:l.length≤4398046511104):
  Calls Tryz.prog 5 #[.slice lo l.length lc] w fun e w'=>e=.returned (.bool true)∧Below w.heap.size w w':=by
 have hmf:∀ (fn:Fn) (first cap:Array Value) (w:World),(Instr.makeFunc fn first cap).run Tryz.prog w=.ok (.func fn first cap) w:=fun _ _ _ _=>rfl
 obtain⟨w2,hw2⟩:∃ w2,w2=(w.alloc (strbox (qv newS))).alloc (boolbox (lv newS)):=⟨_,rfl⟩
 have hb2:Below w.heap.size w w2:=by rw [hw2];exact(below1 _ _).alloc (by simp) _
 have hx1:w2.heap[w.heap.size]?=some (strbox (qv newS)):=by rw [hw2];exact at_old (at_new w _) _
 have hx2:w2.heap[w.heap.size+1]?=some (boolbox (lv newS)):=by rw [hw2];exact at_new1 w _ _
 have HP:Hid (Calls Tryz.prog 14 #[.slice lo l.length lc,.func (.func 21) #[] #[.pointer (some ⟨w.heap.size,0,none⟩),.pointer (some ⟨w.heap.size+1,0,none⟩)]] w2 fun e w'=>∃ sb TB:Nat,e=.returned (.tuple #[.pointer (some ⟨sb,0,none⟩),.pointer (some ⟨TB,0,none⟩),.bool true])∧Below w.heap.size w w'):=by
  refine(playLost_any w.heap.size (w.heap.size+1) (fun b=>b=w.heap.size∨b=w.heap.size+1) (LostE l w.heap.size (w.heap.size+1)) l lo lc w2 (hr.below hb2) (fun b off hne e hm=>?_) hb hlen (lost_eok w2 l _ _) (fun L wr hs hsz hbw=>?_) (fun k hk h100 L TB T wr h he=>?_)).mono ?_
  ·obtain⟨b',off',e1,e2,_⟩:=hr.at (k:=0) (List.length_pos_iff.2 hne)
   rw [e] at e1
   simp only [Option.some.injEq,Addr.mk.injEq] at e1
   rcases hm with hm | hm <;>omega
  ·exact⟨below_block hbw hx1 (Array.getElem?_eq_some_iff.1 hx1).1,below_block hbw hx2 (Array.getElem?_eq_some_iff.1 hx2).1⟩
  ·refine(lost_look l w2 w.heap.size (w.heap.size+1) _ (.inl rfl) (.inr rfl) k hk h100 L TB T wr h he.1 he.2).mono ?_
   rintro e w' ⟨rfl,h6,h7,h8⟩
   exact⟨rfl,L,T,rfl,h6,h7,h8⟩
  ·rintro e w' ⟨L,TB,T,he,h6,_⟩
   have hk:=h6.kp
   have hsz:=hb2.size
   exact⟨L.sb,TB,he,⟨hk.os.trans hb2.os,hk.tape.trans hb2.tape,hk.output.trans hb2.output,Nat.le_trans hsz hk.size,fun b hbl=>by rw [hk.block b (by omega) (by rintro(e | e) <;>omega),hb2.block b hbl]⟩⟩
 rw [hw2] at HP
 clear hr hb hw2 hb2 hx1 hx2
 go_enter Tryz.func5,Tryz.ntmps5
 go_wp2_with (go_at_call 14;refine HP.out.mono ?_;rintro e w3 ⟨sb,TB,rfl,h3⟩;have H3:Hid (Below w.heap.size w w3):=h3;clear h3)
 go_ret
 exact⟨rfl,H3.out⟩
end Go.Proofs.YtjikokfjnbhngaaGreatDoor.Sv
