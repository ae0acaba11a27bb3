/- Several texts in one, each as it was: SShow, STick, SClone, SView0. -/
import Derived.Test.YtjikokfjnbhngaaGreatDoorMSTurn
import Derived.Test.YtjikokfjnbhngaaGreatDoorMTGood
import Derived.Test.YtjikokfjnbhngaaGreatDoorMSClient

/- A client is shown what it is to see, whatever it was. -/
namespace Go.Proofs.YtjikokfjnbhngaaGreatDoor.Sv
open Go.RowKit
open Go.Proofs.YtjikokfjnbhngaaGreatDoor.Pt (Vw VC RdV screenV)
theorem show_any (c:Cl) (okc:OkC c) (B:Nat) (ca:Option Addr) (cc:Nat) (v:Vw) (l:Pt.Lay) (C:Array Value) (hC:VC v l C) (okv:OkV v) (w:World) (hb:w.heap[B]?=some (clbox c ca cc)) (hg:Gl w ca cc c.g) (hv:RdV w v l):
  Calls Tryz.prog 92 #[.pointer (some ⟨B,0,none⟩),.agg C] w fun e w'=>e=.returned (.tuple #[])∧ShowEnd w B (showC v c) w':=by
 cases hl:c.lost with
 | false=>exact show_turns c okc hl B ca cc v l C hC okv w hb hg hv
 | true=>
  by_cases hq:c.q=[]
  ·exact show_anew c okc hl hq B ca cc v l C hC okv w hb hg hv
  ·have e:showC v c=c:=by unfold showC;rw [if_pos ⟨hl,hq⟩]
   rw [e]
   exact show_stays c B ca cc C hl hq w hb hg
end Go.Proofs.YtjikokfjnbhngaaGreatDoor.Sv

/- A tick: each client is shown what it is to see. -/
namespace Go.Proofs.YtjikokfjnbhngaaGreatDoor.Sv
open Go.RowKit
open Go.Proofs.YtjikokfjnbhngaaGreatDoor.Pt (Vw VC RdV screenV vlist vcells vc infoV)
set_option maxRecDepth 100000
def showS (S:Srv) (i:Nat):Srv:=match S.cl i with
 | none=>S
 | some c=>{S with cl:=upd S.cl i (some (showC S.v c))}
def showK (S:Srv):Nat→Srv
 | 0=>S
 | k+1=>showS (showK S k) k
theorem showS_v (S:Srv) (i:Nat):(showS S i).v=S.v:=by unfold showS;cases S.cl i <;>rfl
theorem showS_ps (S:Srv) (i:Nat):(showS S i).ps=S.ps:=by unfold showS;cases S.cl i <;>rfl
theorem showS_acts (S:Srv) (i:Nat):(showS S i).acts=S.acts:=by unfold showS;cases S.cl i <;>rfl
theorem showS_at (S:Srv) (i:Nat):(showS S i).cl i=(S.cl i).map (showC S.v):=by
 unfold showS
 cases h:S.cl i with
 | none=>exact h
 | some c=>exact upd_at _ _ _
theorem showS_ne (S:Srv) (i:Nat) {j:Nat} (hj:j≠i):(showS S i).cl j=S.cl j:=by
 unfold showS
 cases h:S.cl i with
 | none=>rfl
 | some c=>exact upd_ne _ _ hj
theorem showK_v (S:Srv) (k:Nat):(showK S k).v=S.v:=by
 induction k with
 | zero=>rfl
 | succ k ih=>exact(showS_v _ _).trans ih
theorem showK_ps (S:Srv) (k:Nat):(showK S k).ps=S.ps:=by
 induction k with
 | zero=>rfl
 | succ k ih=>exact(showS_ps _ _).trans ih
theorem showK_acts (S:Srv) (k:Nat):(showK S k).acts=S.acts:=by
 induction k with
 | zero=>rfl
 | succ k ih=>exact(showS_acts _ _).trans ih
theorem showK_ge (S:Srv) (k j:Nat) (h:k≤j):(showK S k).cl j=S.cl j:=by
 induction k with
 | zero=>rfl
 | succ k ih=>exact(showS_ne _ _ (by omega)).trans (ih (by omega))
theorem showK_lt (S:Srv) (k j:Nat) (h:j < k):(showK S k).cl j=(S.cl j).map (showC S.v):=by
 induction k with
 | zero=>omega
 | succ k ih=>
  by_cases e:j=k
  ·subst e
   exact(showS_at _ _).trans (by rw [showK_ge S j j (Nat.le_refl _),showK_v])
  ·exact(showS_ne _ _ e).trans (ih (by omega))
theorem SrvIn.congr {w:World} {S T:Srv} {L:Lay} (h:SrvIn w S L) (hv:T.v=S.v) (hp:T.ps=S.ps) (ha:T.acts=S.acts) (hc:∀ i,i < 3→T.cl i=S.cl i):SrvIn w T L:=by
 have hcad:∀ i,i < 3→cad T L i=cad S L i:=fun i hi=>by unfold cad;rw [hc i hi]
 refine⟨⟨by rw [hv];exact h.ok.t,by rw [hv];exact h.ok.w1,by rw [hv];exact h.ok.w2,by rw [hv];exact h.ok.h1,by rw [hv];exact h.ok.h2,by rw [hv];exact h.ok.grid,by rw [hp];exact h.ok.par,fun i hi c e=>h.ok.cl i hi c (by rw [←hc i hi];exact e)⟩,?_,by rw [hv];exact h.cols,h.rd,h.ty,by rw [hv];exact h.gs,by rw [hp];exact h.ps,fun i hi c e=>h.cl i hi c (by rw [←hc i hi];exact e),fun i j hi hj hne h1 h2=>h.apart i j hi hj hne (by rw [←hc i hi];exact h1) (by rw [←hc j hj];exact h2)⟩
 have e:sbox T L=sbox S L:=by
  unfold sbox scells slist pall
  rw [hcad 0 (by omega),hcad 1 (by omega),hcad 2 (by omega),hv,hp,ha]
 rw [e]
 exact h.box
theorem SrvTo.congr {w w':World} {S T U:Srv} {L L':Lay} (h:SrvTo w S L T L' w') (hv:U.v=T.v) (hp:U.ps=T.ps) (ha:U.acts=T.acts) (hc:∀ i,i < 3→U.cl i=T.cl i):SrvTo w S L U L' w':=
 ⟨h.srv.congr hv hp ha hc,h.sb,h.kp,fun i hi hs=>h.cb i hi (by rw [←hc i hi];exact hs)⟩
def TickInv (w:World) (S:Srv) (L:Lay) (k:Nat) (wr:World):Prop:=∃ L',SrvTo w S L (showK S k) L' wr∧L'.cb=L.cb∧L'.l=L.l
theorem tick_end {w wr:World} {S:Srv} {L:Lay} (h:TickInv w S L 3 wr):∃ L',SrvTo w S L (tickS S) L' wr:=by
 obtain⟨L',h1,_,_⟩:=h
 exact⟨L',h1.congr (showK_v S 3).symm (showK_ps S 3).symm (showK_acts S 3).symm fun i hi=>(showK_lt S 3 i hi).symm⟩
theorem tick_step {w:World} {S:Srv} {L:Lay} (okv:OkV S.v) {k:Nat} (hk:k < 3) (W:World) (h:TickInv w S L k W):
  Calls Tryz.prog 92 #[.pointer (cad S L k),.agg (vcells S.v L.l)] W fun e w'=>e=.returned (.tuple #[])∧TickInv w S L (k+1) w':=by
 obtain⟨L',h1,hcb,hl⟩:=h
 have e0:(showK S k).cl k=S.cl k:=showK_ge S k k (Nat.le_refl _)
 cases hc:S.cl k with
 | none=>
  have e1:cad S L k=none:=by unfold cad;rw [hc];rfl
  have e2:showK S (k+1)=showK S k:=by show showS (showK S k) k=_;unfold showS;rw [e0,hc]
  rw [e1]
  refine(show_nil (vcells S.v L.l) W).mono ?_
  rintro e w' ⟨rfl,hb⟩
  exact⟨rfl,L',by rw [e2];exact h1.later hb,hcb,hl⟩
 | some c=>
  have e1:cad S L k=some ⟨L.cb k,0,none⟩:=by unfold cad;rw [hc];rfl
  have hc':(showK S k).cl k=some c:=e0.trans hc
  have okc:=h1.srv.ok.cl k hk c hc'
  have e2:showK S (k+1)={showK S k with cl:=upd (showK S k).cl k (some (showC S.v c))}:=by
   show showS (showK S k) k=_
   unfold showS
   rw [hc']
   exact congrArg (fun u=>{showK S k with cl:=upd (showK S k).cl k (some (showC u c))}) (showK_v S k)
  obtain⟨hb,hg⟩:=h1.srv.cl k hk c hc'
  have hv:=h1.srv.rdV
  rw [showK_v,hl] at hv
  rw [hcb] at hb
  rw [e1]
  refine(show_any c okc (L.cb k) (L'.ca k) (L'.cc k) S.v L.l (vcells S.v L.l) (vc _ _) okv W hb hg hv).mono ?_
  rintro e w' ⟨rfl,ca,cc,hkp,hb',hg'⟩
  refine⟨rfl,{L' with ca:=upd L'.ca k ca,cc:=upd L'.cc k cc},?_,hcb,hl⟩
  rw [e2]
  rw [←hcb] at hkp hb'
  exact h1.trans (cl_set h1.srv hk hc' _ ca cc (ok_show okv okc) hkp hb' hg')
theorem info3:(Tryz.prog.info? 84).map (·.size)=some 3:=by kernel_rfl
theorem SrvIn.ptrs {w:World} {S:Srv} {L:Lay} (h:SrvIn w S L):w.rangeAt L.sb 82 [.pointer (cad S L 0),.pointer (cad S L 1),.pointer (cad S L 2)]:=fun j x hx=>by
 match j,hx with
 | 0,hx=>exact(h.ptr 0 (by omega)).trans hx
 | 1,hx=>exact(h.ptr 1 (by omega)).trans hx
 | 2,hx=>exact(h.ptr 2 (by omega)).trans hx
theorem wpList_load_sv {ops:Array Oper} {rest:List Oper} {op:Oper} {a:Act} {w:World} {Q:Exit→Act→World→Prop} (C:Array Value) (hs:C.size=58) (hgd:op.guard=none) (x:Operand) (ho:op.op=.load 58 x)
  (b:Nat) (hx:a.eval x=.pointer (some ⟨b,0,none⟩)) (hb:w.rangeAt b 0 C.toList) (h:wpList Tryz.prog ops Q rest (a.put op.dst (.agg C)) w):wpList Tryz.prog ops Q (op::rest) a w:=
 wpList_load_mid hgd 58 x ho b 0 hx C.toList _ hb Tryz.underlying58 rfl (by rw [Array.length_toList,hs];exact infoV) (by simpa using h)
theorem run_index_ptr (A:Nat→Option Addr) (p:Nat) (hp:p < 3) (w:World):(Instr.index 84 (.agg #[.pointer (A 0),.pointer (A 1),.pointer (A 2)]) (.int .i64 p)).run Tryz.prog w=.ok (.pointer (A p)) w:=by
 have h1:p=0∨p=1∨p=2:=by omega
 rcases h1 with rfl | rfl | rfl <;>simp [Instr.index,asIntOf,part,go_sem]
theorem wpList_index_ptr {ops:Array Oper} {rest:List Oper} {op:Oper} {a:Act} {w:World} {Q:Exit→Act→World→Prop} (A:Nat→Option Addr) (hgd:op.guard=none) (x ix:Operand) (ho:op.op=.index 84 x ix)
  (hx:a.eval x=.agg #[.pointer (A 0),.pointer (A 1),.pointer (A 2)]) (p:Nat) (hi:a.eval ix=.int .i64 p) (hp:p < 3) (h:wpList Tryz.prog ops Q rest (a.put op.dst (.pointer (A p))) w):wpList Tryz.prog ops Q (op::rest) a w:=
 wpList_plain hgd fun K hK=>by
  unfold Oper.wp execOp
  simp only [ho,hx,hi,Sem.run_bind,run_index_ptr A p hp,Result.andThen_ok,Sem.run_pure]
  exact hK _ _ h
set_option maxHeartbeats 1000000 in
theorem tick_any (w:World) (S:Srv) (L:Lay) (h:SrvIn w S L) (okv:OkV S.v):
  Calls Tryz.prog 74 #[.pointer (some ⟨L.sb,0,none⟩)] w fun e w'=>e=.returned (.int .i64 0)∧∃ L',SrvTo w S L (tickS S) L' w':=by
 have HI:Hid (TickInv w S L 0 w):=⟨L,SrvTo.refl h,rfl,rfl⟩
 obtain⟨C,hC⟩:∃ C,C=vcells S.v L.l:=⟨_,rfl⟩
 obtain⟨A,hA⟩:∃ A,A=cad S L:=⟨_,rfl⟩
 have HZ:Hid (C.size=58):=by rw [hC];exact(vc S.v L.l).size
 have HP:Hid (w.rangeAt L.sb 82 [.pointer (A 0),.pointer (A 1),.pointer (A 2)]):=by rw [hA];exact h.ptrs
 have HV:Hid (∀ k W,TickInv w S L k W→W.rangeAt L.sb 0 C.toList):=fun k W hW=>by
  obtain⟨L',h1,_,hl⟩:=hW
  have:=h1.srv.view
  rw [showK_v,hl,h1.sb] at this
  rw [hC]
  exact this
 have HSB:Hid (∀ k W,TickInv w S L k W→L.sb < W.heap.size):=fun k W hW=>by
  obtain⟨L',h1,_,_⟩:=hW
  have:=(Array.getElem?_eq_some_iff.1 h1.srv.box).1
  rwa [h1.sb] at this
 have HST:Hid (∀ k W,k < 3→TickInv w S L k W→Calls Tryz.prog 92 #[.pointer (A k),.agg C] W fun e w'=>e=.returned (.tuple #[])∧TickInv w S L (k+1) w'):=fun k W hk hW=>by
  rw [hA,hC]
  exact tick_step okv hk W hW
 have hlt:=(Array.getElem?_eq_some_iff.1 h.box).1
 clear h okv hC hA
 go_enter Tryz.func74,Tryz.ntmps74
 go_wp2_with (refine wpList_load_mid rfl 84 _ rfl L.sb 82 rfl [.pointer (A 0),.pointer (A 1),.pointer (A 2)] _ HP.out Tryz.underlying84 rfl info3 ?_)
 go_loopw [9] (fun i wr=>∃ k:Nat,k≤3∧i=.int .i64 k∧TickInv w S L k wr) (fun i _=>3 - (intOf i).toNat)
 case atStart=>exact⟨0,by omega,rfl,HI.out⟩
 case round=>
  obtain⟨k,hk,rfl,hin⟩:=hrel
  have HK:Hid (TickInv w S L k wr):=hin
  have hltk:=HSB.out k wr hin
  clear hin HI HP
  by_cases hk3:k < 3
  ·have HS1:Hid (Calls Tryz.prog 92 #[.pointer (A k),.agg C] wr fun e w'=>e=.returned (.tuple #[])∧TickInv w S L (k+1) w'):=HST.out k wr hk3 HK.out
   have hk':(k:Int) < 3:=by omega
   go_wp2_with first
    | (refine wpList_index_ptr A rfl _ _ rfl rfl k rfl hk3 ?_)
    | (refine wpList_load_sv C HZ.out rfl _ rfl L.sb rfl (HV.out _ _ HK.out) ?_)
    | (go_at_call 92;refine HS1.out.mono ?_;rintro e w3 ⟨rfl,h3⟩;have H3:Hid (TickInv w S L (k+1) w3):=h3;clear h3)
   go_roundw
   case rel=>exact⟨k+1,by omega,by go_num,H3.out⟩
   case measure=>simp [intOf];omega
  ·obtain rfl:k=3:=by omega
   have HE:Hid (∃ L',SrvTo w S L (tickS S) L' wr):=tick_end HK.out
   go_wp2
   go_ret
   exact⟨rfl,HE.out⟩
end Go.Proofs.YtjikokfjnbhngaaGreatDoor.Sv

/- What 'slices.Clone' makes of the columns. -/
namespace Go.Proofs.YtjikokfjnbhngaaGreatDoor.Tl
open Go.RowKit
theorem nilC (w:World) (a:Option Addr) (n c:Nat):(binOp .eql 53 (.slice a n c) (.slice none 0 0)).run Tryz.prog w=.ok (.bool a.isNone) w:=Lib.run_eql_slice_nil w 53 35 a n c 0 0 Tryz.underlying53
theorem cvs_one (its:List CIt):∀ v∈its.map cv,v.oneCell'=true:=by
 intro v hv
 obtain⟨x,_,rfl⟩:=List.mem_map.1 hv
 rfl
theorem rdc_src {w:World} {a:Addr} {its:List CIt} (hr:RdT w (some a) its) (j:Nat) (u:Value) (hu:(its.map cv)[j]?=some u):w.cell? (a.add j)=some u:=by
 have hj:j < its.length:=by have:=(List.getElem?_eq_some_iff.1 hu).1;simpa using this
 rcases hr.row with h | ⟨b,off,ha,hc⟩
 ·subst h;simp at hj
 ·simp only [Option.some.injEq] at ha
  subst ha
  rw [add_at,hc j hj]
  simp [hj] at hu
  simp [hu]
set_option maxHeartbeats 400000 in
theorem cloneC_some (a:Addr) (cap:Nat) (its:List CIt) (w:World) (hr:RdT w (some a) its) (hm:its.length≤5864062014805):
  Calls Tryz.prog 46 #[.slice (some a) its.length cap] w fun e w'=>∃ ao' cap',e=.returned (.slice ao' its.length cap')∧w'.ownsRow w.heap.size 35 1 (.slice ao' its.length cap') its.length (its.map cv)∧Below w.heap.size w w':=by
 obtain⟨i0,hi,hz0,hz1,hz2⟩:=info_parts infoL
 have hn:=nilC
 have HR:Hid (∀ j u,(its.map cv)[j]?=some u→(w.alloc (.cells #[] 35)).cell? (a.add j)=some u):=fun j u hu=>rdc_src (hr.below (below1 w _)) j u hu
 clear hr
 go_enter Tryz.func46,Tryz.ntmps46
 go_wp2_with (first | (at_builtin;refine wpList_append_own _ rfl _ _ 53 rfl w.heap.size 35 i0 (.slice none 0 0) 1 24 Tryz.underlying53 hi hz0 hz1 hz2 rfl (by decide) _ 0 [] rfl (World.ownsRow_made w #[] 0 (Nat.le_refl _) (by decide) rfl) a its.length cap (its.map cv) rfl (by simp) HR.out (cvs_one its) (by unfold maxLen;omega) (by omega) (by simp) ?_) | go_in)
 intro v' w1 hown hgrow _
 obtain⟨ao,c,rfl⟩:=row_shape hown
 have HB:Hid (Below w.heap.size w w1):=((Below.refl _ _).alloc (Nat.le_refl _) _).grown hgrow (by simp) (fun k hk=>by simp [Value.ownBlock] at hk;omega)
 have HO:Hid (w1.ownsRow w.heap.size 35 1 (.slice ao its.length c) its.length (its.map cv)):=hown
 clear hown hgrow
 go_wp2
 go_ret
 exact⟨ao,c,rfl,HO.out,HB.out⟩
end Go.Proofs.YtjikokfjnbhngaaGreatDoor.Tl

/- A view of its own memory: what holds in the midst of its making. -/
namespace Go.Proofs.YtjikokfjnbhngaaGreatDoor.Sv
open Go.RowKit
open Go.Proofs.YtjikokfjnbhngaaGreatDoor.Tl (CIt colsOf RdT RdL cv ints)
open Go.Proofs.YtjikokfjnbhngaaGreatDoor.Pt (Vw VC RdV vcells vlist zv zl)
set_option maxRecDepth 100000
theorem row_keep {w w':World} {base sz n:Nat} {e:TypeId} {v:Value} {xs:List Value} (h:w.ownsRow base e sz v n xs) (hk:∀ b,base≤b→b < w.heap.size→w'.heap[b]?=w.heap[b]?):w'.ownsRow base e sz v n xs:=by
 refine⟨h.1,?_⟩
 rcases h.2 with h0 | ⟨g,c,cur,hv,hbb,hg,rest⟩
 ·exact .inl h0
 ·exact .inr ⟨g,c,cur,hv,hbb,by rw [hk g hbb (Array.getElem?_eq_some_iff.1 hg).1];exact hg,rest⟩
theorem row_put {w:World} {base g n cap k:Nat} {e:TypeId} {u:Value} {xs:List Value} (h:w.ownsRow base e 1 (.slice (some ⟨g,0,none⟩) n cap) n xs):(w.setCell ⟨g,k,none⟩ u).ownsRow base e 1 (.slice (some ⟨g,0,none⟩) n cap) n (xs.set k u):=by
 refine⟨by rw [List.length_set];exact h.1,?_⟩
 rcases h.2 with ⟨hv,_⟩ | ⟨g',c',cur,hv,hb,hg,h1,h2,hs,ht⟩
 ·cases hv
 ·simp only [Value.slice.injEq,Option.some.injEq,Addr.mk.injEq,and_true,true_and] at hv
  obtain⟨rfl,rfl⟩:=hv
  refine .inr ⟨g,cap,cur.setIfInBounds k u,rfl,hb,heap_setCell_same w g k _ _ _ hg,h1,h2,by simpa using hs,?_⟩
  rw [Array.toList_setIfInBounds,List.take_set,ht]
theorem row_cell {w:World} {base g n cap k:Nat} {e:TypeId} {u:Value} {xs:List Value} (h:w.ownsRow base e 1 (.slice (some ⟨g,0,none⟩) n cap) n xs) (hk:xs[k]?=some u):w.cell? ⟨g,k,none⟩=some u∧w.frozen? ⟨g,k,none⟩=false:=by
 rcases h.2 with ⟨hv,_⟩ | ⟨g',c',cur,hv,hb,hg,h1,h2,hs,ht⟩
 ·cases hv
 ·simp only [Value.slice.injEq,Option.some.injEq,Addr.mk.injEq,and_true,true_and] at hv
  obtain⟨rfl,rfl⟩:=hv
  refine⟨?_,frozen_of_row w g k _ _ hg⟩
  rw [cell_of_row w g k _ _ _ hg]
  have hlt:=(List.getElem?_eq_some_iff.1 hk).1
  rw [h.1] at hlt
  rw [←ht,List.getElem?_take_of_lt hlt] at hk
  simpa using hk
theorem row_some {w:World} {base n cap:Nat} {e:TypeId} {ao:Option Addr} {xs:List Value} (h:w.ownsRow base e 1 (.slice ao n cap) n xs) (hn:0 < n):∃ g,ao=some ⟨g,0,none⟩∧base≤g∧g < w.heap.size:=by
 rcases h.2 with ⟨_,h0⟩ | ⟨g',c',cur,hv,hb,hg,_⟩
 ·omega
 ·simp only [Value.slice.injEq] at hv
  exact⟨g',hv.1,hb,(Array.getElem?_eq_some_iff.1 hg).1⟩
def GOwn (base:Nat) (w:World) (ao:Option Addr) (cap:Nat) (g:Gr):Prop:=g.n=0∨∃ b,ao=some ⟨b,0,none⟩∧base≤b∧g.n≤cap∧Scr w b g.n g.f
theorem GOwn.keep {base:Nat} {w w':World} {ao:Option Addr} {cap:Nat} {g:Gr} (h:GOwn base w ao cap g) (hk:∀ b,base≤b→b < w.heap.size→w'.heap[b]?=w.heap[b]?):GOwn base w' ao cap g:=by
 rcases h with h | ⟨b,h1,h2,h3,h4⟩
 ·exact .inl h
 ·exact .inr ⟨b,h1,h2,h3,h4.move (hk b h2 h4.lt)⟩
theorem GOwn.rd {base:Nat} {w:World} {ao:Option Addr} {cap:Nat} {g:Gr} (h:GOwn base w ao cap g):RdS w ao g.n g.f:=by
 rcases h with h | ⟨b,h1,_,_,h4⟩
 ·exact .inl h
 ·rw [h1];exact h4.rd
structure VOwn (base:Nat) (w:World) (v:Vw) (l:Pt.Lay):Prop where
 cols:v.cols=colsOf l.its
 row:w.ownsRow base 35 1 (.slice l.co l.its.length l.cap) l.its.length (l.its.map cv)
 each:∀ x∈l.its,w.ownsRow base 3 1 (cv x) x.1.length (ints x.1)
 gs:∀ p,p < 6→GOwn base w (l.ga p) (l.gc p) (v.gs p)
theorem VOwn.keep {base:Nat} {w w':World} {v:Vw} {l:Pt.Lay} (h:VOwn base w v l) (hk:∀ b,base≤b→b < w.heap.size→w'.heap[b]?=w.heap[b]?):VOwn base w' v l:=
 ⟨h.cols,row_keep h.row hk,fun x hx=>row_keep (h.each x hx) hk,fun p hp=>(h.gs p hp).keep hk⟩
theorem VOwn.later {base:Nat} {w w':World} {v:Vw} {l:Pt.Lay} (h:VOwn base w v l) (hb:Below w.heap.size w w'):VOwn base w' v l:=h.keep fun b _ hb2=>hb.block b hb2
theorem VOwn.rdT {base:Nat} {w:World} {v:Vw} {l:Pt.Lay} (h:VOwn base w v l):RdT w l.co l.its:=by
 refine⟨fun x hx=>Tl.row_rd (h.each x hx),?_⟩
 by_cases h0:l.its=[]
 ·exact .inl h0
 ·have hpos:0 < l.its.length:=List.length_pos_iff.2 h0
  obtain⟨g,e,_,_⟩:=row_some h.row hpos
  refine .inr ⟨g,0,e,fun k hk=>?_⟩
  have hr:=h.row
  rw [e] at hr
  rw [Nat.zero_add]
  exact(row_cell hr (k:=k) (by simp [hk])).1
theorem VOwn.rdV {base:Nat} {w:World} {v:Vw} {l:Pt.Lay} (h:VOwn base w v l) (ok:OkV v):RdV w v l:=by
 have h6:=Tl.good_len ok.t
 have hl:l.its.length≤6:=by rw [h.cols] at h6;simpa using h6
 have h3:∀ x∈l.its,x.1.length≤3:=fun x hx=>(ok.t.tall x.1 (by rw [h.cols];exact List.mem_map.2 ⟨x,hx,rfl⟩)).2
 refine⟨h.cols,h.rdT,fun p hp=>(h.gs p hp).rd,by omega,fun x hx=>by have:=h3 x hx;omega,fun p hp=>?_,?_⟩
 ·rcases ok.grid p hp with e | e
  ·rw [e];show 0≤_;omega
  ·obtain⟨q1,q2,_⟩:=e.nums
   omega
 ·have:=Tl.nodup_le v.cols.flatten [0,1,2,3,4,5] ok.t.once (fun p hp=>by
   have:=ok.t.pane p hp
   simp only [Tl.paneB,decide_eq_true_eq] at this
   have:p=0∨p=1∨p=2∨p=3∨p=4∨p=5:=by omega
   simpa using this)
  simp only [List.length_cons,List.length_nil] at this
  omega
theorem wpList_store_new {ops:Array Oper} {rest:List Oper} {op:Oper} {a:Act} {W:World} {Q:Exit→Act→World→Prop} (ty:TypeId) (old new:Array Value) (hgd:op.guard=none) (x y:Operand) (ho:op.op=.store ty x y)
  (hx:a.eval x=.pointer (some ⟨W.heap.size,0,none⟩)) (hy:a.eval y=.agg new) (hi:(Tryz.prog.info? ty).map (·.size)=some new.size) (hs:old.size=new.size) (h1:new.all (·.oneCell')=true)
  (h:wpList Tryz.prog ops Q rest (a.put op.dst undef) (W.alloc (.cells new ty))):wpList Tryz.prog ops Q (op::rest) a (W.alloc (.cells old ty)):=
 wpList_plain hgd fun K hK=>by
  unfold Oper.wp execOp
  simp only [ho,hx,hy,Sem.run_bind,run_storeAt_new (P:=Tryz.prog) W ty old new hi hs h1,Result.andThen_ok,Sem.run_pure]
  exact hK _ _ h
structure VInv (w:World) (v:Vw) (l:Pt.Lay) (g cap k:Nat) (done:List CIt) (wr:World):Prop where
 len:done.length=k
 same:colsOf done=(colsOf l.its).take k
 row:wr.ownsRow (w.heap.size+2) 35 1 (.slice (some ⟨g,0,none⟩) l.its.length cap) l.its.length ((done++l.its.drop k).map cv)
 own:∀ x∈done,wr.ownsRow (w.heap.size+2) 3 1 (cv x) x.1.length (ints x.1)
 box:wr.heap[w.heap.size+1]?=some (Pt.cbox (vcells v {l with co:=some ⟨g,0,none⟩,cap:=cap}))
 res:wr.heap[w.heap.size]?=some (Pt.cbox (vcells zv zl))
 ty:∃ c,wr.heap[g]?=some (.cells c 35 (0,0))
 below:Below w.heap.size w wr
theorem VInv.gbase {w:World} {v:Vw} {l:Pt.Lay} {g cap k:Nat} {done:List CIt} {wr:World} (h:VInv w v l g cap k done wr):w.heap.size+2≤g∧g < wr.heap.size:=Tl.own_lt h.row
theorem vinv_step {w:World} {v:Vw} {l:Pt.Lay} {g cap k:Nat} {done:List CIt} {wr w1:World} (h:VInv w v l g cap k done wr) (hk:k < l.its.length) {ao:Option Addr} {c:Nat}
  (ho:w1.ownsRow wr.heap.size 3 1 (.slice ao l.its[k].1.length c) l.its[k].1.length (ints l.its[k].1)) (hb:Below wr.heap.size wr w1):
  VInv w v l g cap (k+1) (done++[(l.its[k].1,ao,c)]) (w1.setCell ⟨g,k,none⟩ (.slice ao l.its[k].1.length c)):=by
 obtain⟨hg1,hg2⟩:=h.gbase
 obtain⟨gc,hgc⟩:=h.ty
 have hgc1:w1.heap[g]?=some (.cells gc 35 (0,0)):=below_block hb hgc hg2
 have hint:∀ (b:Nat) (cur:Array Value),w1.heap[b]?=some (.cells cur 3 (0,0))→b≠g:=fun b cur hcur e=>by
  rw [e,hgc1] at hcur
  simp only [Option.some.injEq,Obj.cells.injEq] at hcur
  exact absurd hcur.2.1 (by decide)
 have hown:∀ (base:Nat) (x:Value) (n:Nat) (xs:List Value),w1.ownsRow base 3 1 x n xs→(w1.setCell ⟨g,k,none⟩ (.slice ao l.its[k].1.length c)).ownsRow base 3 1 x n xs:=fun base x n xs hx=>by
  refine⟨hx.1,?_⟩
  rcases hx.2 with h0 | ⟨g',c',cur,hv,hbb,hg,rest⟩
  ·exact .inl h0
  ·exact .inr ⟨g',c',cur,hv,hbb,by rw [Below.heap_setCell _ _ _ _ (by simpa using hint g' cur hg)];exact hg,rest⟩
 refine⟨by simp [h.len],?_,?_,?_,?_,?_,?_,?_⟩
 ·rw [List.take_succ_eq_append_getElem (by simpa using hk)]
  simp [colsOf, ←h.same]
 ·have:=row_put (k:=k) (u:=.slice ao l.its[k].1.length c) (Tl.row_below h.row hb)
  have e:((done++l.its.drop k).map cv).set k (.slice ao l.its[k].1.length c)=(done++[(l.its[k].1,ao,c)]++l.its.drop (k+1)).map cv:=by
   rw [List.map_append,List.set_append_right _ _ (by simp [h.len]),List.length_map,h.len,Nat.sub_self,List.drop_eq_getElem_cons hk,List.map_cons,List.set_cons_zero,List.append_assoc,List.map_append]
   rfl
  rw [e] at this
  exact this
 ·intro x hx
  rcases List.mem_append.1 hx with hx | hx
  ·exact hown _ _ _ _ (Tl.row_below (h.own x hx) hb)
  ·simp only [List.mem_singleton] at hx
   subst hx
   have:=(Array.getElem?_eq_some_iff.1 h.box).1
   exact hown _ _ _ _ (Tl.row_less ho (by omega))
 ·rw [Below.heap_setCell _ _ _ _ (by simp;omega)];exact below_block hb h.box (Array.getElem?_eq_some_iff.1 h.box).1
 ·rw [Below.heap_setCell _ _ _ _ (by simp;omega)];exact below_block hb h.res (Array.getElem?_eq_some_iff.1 h.res).1
 ·exact⟨_,set_cells hgc1 _⟩
 ·exact(h.below.trans (hb.mono h.below.size)).setCell (by simp;omega) _
structure WInv (w:World) (v:Vw) (l:Pt.Lay) (k:Nat) (m:Pt.Lay) (wr:World):Prop where
 cols:v.cols=colsOf m.its
 row:wr.ownsRow (w.heap.size+2) 35 1 (.slice m.co m.its.length m.cap) m.its.length (m.its.map cv)
 each:∀ x∈m.its,wr.ownsRow (w.heap.size+2) 3 1 (cv x) x.1.length (ints x.1)
 new:∀ p,p < k→GOwn (w.heap.size+2) wr (m.ga p) (m.gc p) (v.gs p)
 old:∀ p,k≤p→m.ga p=l.ga p∧m.gc p=l.gc p
 box:wr.heap[w.heap.size+1]?=some (Pt.cbox (vcells v m))
 res:wr.heap[w.heap.size]?=some (Pt.cbox (vcells zv zl))
 below:Below w.heap.size w wr
theorem put_list (v:Vw) (m:Pt.Lay) (p:Nat) (hp:p < 6) (ao:Option Addr) (cap:Nat):(vcells v m).setIfInBounds (1+p*9+2) (.slice ao (v.gs p).n cap)=vcells v {m with ga:=upd m.ga p ao,gc:=upd m.gc p cap}:=by
 have h1:p=0∨p=1∨p=2∨p=3∨p=4∨p=5:=by omega
 refine congrArg (fun c:Array Value=>c) ?_
 rcases h1 with rfl | rfl | rfl | rfl | rfl | rfl <;>kernel_rfl
theorem winv_step {w:World} {v:Vw} {l:Pt.Lay} {k:Nat} {m:Pt.Lay} {wr w1 w2:World} (h:WInv w v l k m wr) (hk:k < 6) (h1:Below wr.heap.size wr w1) {ao:Option Addr} {cap:Nat} (hc:Copied w1 (v.gs k).n (v.gs k).f ao cap w2):
  WInv w v l (k+1) {m with ga:=upd m.ga k ao,gc:=upd m.gc k cap} (w2.setCell ⟨w.heap.size+1,1+k*9+2,none⟩ (.slice ao (v.gs k).n cap)):=by
 have hlt:=(Array.getElem?_eq_some_iff.1 h.box).1
 have hb:Below wr.heap.size wr w2:=h1.trans (hc.2.2.mono h1.size)
 have hkp:∀ b,w.heap.size+2≤b→b < wr.heap.size→(w2.setCell ⟨w.heap.size+1,1+k*9+2,none⟩ (.slice ao (v.gs k).n cap)).heap[b]?=wr.heap[b]?:=fun b h2 h3=>by
  rw [Below.heap_setCell _ _ _ _ (by simp;omega)]
  exact hb.block b h3
 refine⟨h.cols,row_keep h.row hkp,fun x hx=>row_keep (h.each x hx) hkp,fun p hp=>?_,fun p hp=>?_,?_,?_,?_⟩
 ·show GOwn _ _ (upd m.ga k ao p) (upd m.gc k cap p) (v.gs p)
  by_cases e:p=k
  ·subst e
   rw [upd_at,upd_at]
   rcases Nat.eq_zero_or_pos (v.gs p).n with h0 | h0
   ·exact .inl h0
   ·obtain⟨b,e1,e2,e3,e4⟩:=hc.2.1 h0
    refine .inr ⟨b,e1,by have:=h1.size;omega,e3,e4.move ?_⟩
    rw [Below.heap_setCell _ _ _ _ (by have:=h1.size;simp;omega)]
  ·rw [upd_ne _ _ e,upd_ne _ _ e]
   exact(h.new p (by omega)).keep hkp
 ·show upd m.ga k ao p=_∧upd m.gc k cap p=_
  rw [upd_ne _ _ (by omega),upd_ne _ _ (by omega)]
  exact h.old p (by omega)
 ·rw [set_cells (below_block hb h.box hlt),put_list v m k hk]
 ·rw [Below.heap_setCell _ _ _ _ (by simp)];exact below_block hb h.res (Array.getElem?_eq_some_iff.1 h.res).1
 ·exact(h.below.trans (hb.mono h.below.size)).setCell (by simp) _
theorem vinv_winv {w:World} {v:Vw} {l:Pt.Lay} (hc:v.cols=colsOf l.its) {g cap k:Nat} {done:List CIt} {wr:World} (h:VInv w v l g cap k done wr) (hk:k=l.its.length):WInv w v l 0 {l with co:=some ⟨g,0,none⟩,cap:=cap,its:=done} wr:=by
 have hl:done.length=l.its.length:=h.len.trans hk
 have hr:=h.row
 rw [hk,List.drop_length,List.append_nil, ←hl] at hr
 have hb:=h.box
 refine⟨?_,hr,h.own,fun p hp=>by omega,fun p _=>⟨rfl,rfl⟩,?_,h.res,h.below⟩
 ·show v.cols=colsOf done
  rw [h.same,hk,hc,List.take_of_length_le (by simp)]
 ·rw [hb]
  have:vlist v {l with co:=some ⟨g,0,none⟩,cap:=cap}=vlist v {l with co:=some ⟨g,0,none⟩,cap:=cap,its:=done}:=by
   unfold vlist
   dsimp only
   rw [hl]
   rfl
  unfold vcells
  rw [this]
theorem winv_own {w:World} {v:Vw} {l m:Pt.Lay} {wr w':World} (h:WInv w v l 6 m wr) (hk:∀ b,w.heap.size+2≤b→b < wr.heap.size→w'.heap[b]?=wr.heap[b]?):VOwn w.heap.size w' v m:=by
 have:VOwn (w.heap.size+2) w' v m:=⟨h.cols,row_keep h.row hk,fun x hx=>row_keep (h.each x hx) hk,fun p hp=>(h.new p hp).keep hk⟩
 exact⟨this.cols,Tl.row_less this.row (by omega),fun x hx=>Tl.row_less (this.each x hx) (by omega),fun p hp=>by
  rcases this.gs p hp with e | ⟨b,e1,e2,e3,e4⟩
  ·exact .inl e
  ·exact .inr ⟨b,e1,by omega,e3,e4⟩⟩
end Go.Proofs.YtjikokfjnbhngaaGreatDoor.Sv
