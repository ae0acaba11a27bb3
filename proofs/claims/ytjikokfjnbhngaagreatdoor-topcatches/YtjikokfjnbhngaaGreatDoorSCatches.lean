/- The law TopCatches. -/
import Derived.Test.YtjikokfjnbhngaaGreatDoorZTake
import Derived.Test.YtjikokfjnbhngaaGreatDoorMSShown
import Derived.Test.YtjikokfjnbhngaaGreatDoorMSQuiet
import Derived.Test.YtjikokfjnbhngaaGreatDoorSEnds
namespace Go.Proofs.YtjikokfjnbhngaaGreatDoor.Sv
open Go.RowKit
set_option maxRecDepth 100000
structure CtIn (w:World) (TB k:Nat) (x:Srv×(Nat→Tm)) (n:Nat) (L:Lay) (T:TL) (wr:World):Prop where
 pl:PlIn (fun _=>False) w x L TB T wr
 ok:OkP x n
 le:n≤100+k
 emp:∀ j,j < k→∀ c,x.1.cl j=some c→c.q=[]
theorem CtIn.later {w:World} {TB k:Nat} {x:Srv×(Nat→Tm)} {n:Nat} {L:Lay} {T:TL} {wr w':World} (h:CtIn w TB k x n L T wr) (hb:Below wr.heap.size wr w'):CtIn w TB k x n L T w':=⟨h.pl.later hb,h.ok,h.le,h.emp⟩
@[reducible] def drainA (k:Nat):Ac:=⟨9,k,4000,0,[]⟩
theorem drain_step {x:Srv×(Nat→Tm)} {n:Nat} (h:OkP x n) (hn:n < 300) {k:Nat} (hk:k < 3) {c:Cl} (hc:x.1.cl k=some c):
  (doS x.1 (drainA k)).2=⟨0,c.q.length,c.q⟩∧stepP x (drainA k)=((doS x.1 (drainA k)).1,upd x.2 k (getT (x.2 k) c.q))∧(doS x.1 (drainA k)).1.cl k=some {c with q:=[]}∧∀ j,j≠k→(doS x.1 (drainA k)).1.cl j=x.1.cl j:=by
 have e:=drain_all h.ok (by have:=h.acts;omega) hk hc
 refine⟨by rw [e],?_,by rw [e];exact upd_at _ _ _,fun j hj=>by rw [e];exact upd_ne _ _ hj⟩
 unfold stepP stepT
 rw [e]
 rw [if_neg (fun h=>absurd (show (9:Int)=6 from h.2) (by decide)),if_pos ⟨rfl,rfl⟩]
 rfl
theorem ct_next {x:Srv×(Nat→Tm)} {n:Nat} (h:OkP x n) (hn:n < 300) {k:Nat} (hk:k < 3) {c:Cl} (hc:x.1.cl k=some c) (he:∀ j,j < k→∀ c,x.1.cl j=some c→c.q=[]):∀ j,j < k+1→∀ c,(stepP x (drainA k)).1.cl j=some c→c.q=[]:=fun j hj d hd=>by
 obtain⟨_,e2,e3,e4⟩:=drain_step h hn hk hc
 rw [e2] at hd
 by_cases e:j=k
 ·rw [e,e3] at hd
  cases hd
  rfl
 ·exact he j (by omega) d (by rw [←e4 j e];exact hd)
theorem pl_get {M:Nat→Prop} {w:World} {S:Srv} {t:Nat→Tm} {L:Lay} {TB:Nat} {T:TL} {wr:World} (h:PlIn M w (S,t) L TB T wr) {P:Nat} (hP:P < 3) (ok:OkTm (t P)) (l:List UInt8) (hl:l.length≤1048576):
  Calls Tryz.prog 20 #[.pointer (some ⟨TB,P*13,none⟩),.string (bs l)] wr fun e w'=>e=.returned (.bool true)∧(∃ T',PlIn M w (S,upd t P (getT (t P) l)) L TB T' w')∧Kp (fun b=>b=TB) wr w':=by
 refine(get_any (t P) ok TB (P*13) _ _ _ _ l hl wr (h.tms.at P hP) _ _ h.tms.box (by rw [tall_size];omega) tm_foreign _ rfl).mono ?_
 rintro e w' ⟨rfl,pa,pc,ga,gc,hk,hb,hp,hg⟩
 rw [tall_put t T P hP] at hb
 exact⟨rfl,⟨_,h.term hk (h.tms.set P _ pa pc ga gc hk hb hp hg)⟩,hk⟩
structure CeIn (w:World) (TB:Nat) (y:Srv×(Nat→Tm)) (L:Lay) (T:TL) (wr:World):Prop where
 pl:PlIn (fun _=>False) w y L TB T wr
theorem CeIn.later {w:World} {TB:Nat} {y:Srv×(Nat→Tm)} {L:Lay} {T:TL} {wr w':World} (h:CeIn w TB y L T wr) (hb:Below wr.heap.size wr w'):CeIn w TB y L T w':=⟨h.pl.later hb⟩
set_option maxHeartbeats 4000000 in
theorem topCatches_any (l:List Ac) (lo:Option Addr) (lc:Nat) (w:World) (hr:RdA w lo l) (hb:∀ a∈l,a.bytes.length≤140737488355328) (hlen:l.length≤4398046511104):
  Calls Tryz.prog 4 #[.slice lo l.length lc] w fun e w'=>e=.returned (.bool true)∧Below w.heap.size w w':=by
 have HP:Hid (Calls Tryz.prog 14 #[.slice lo l.length lc,.func (.func 18) #[] #[]] w fun e w'=>∃ sb TB:Nat,e=.returned (.tuple #[.pointer (some ⟨sb,0,none⟩),.pointer (some ⟨TB,0,none⟩),.bool true])∧∃ x n L T,L.sb=sb∧CtIn w TB 0 x n L T w'):=by
  refine(quiet_any l lo lc w hr hb hlen).mono ?_
  rintro e w' ⟨L,TB,T,he,h1⟩
  have:=okp_play (l.take 100) (by simp;omega)
  exact⟨L.sb,TB,he,_,_,L,T,rfl,h1,this,by simp;omega,fun j hj=>by omega⟩
 clear hr hb hlen
 go_enter Tryz.func4,Tryz.ntmps4
 go_wp2_with (go_at_call 14;refine HP.out.mono ?_;rintro e w1 ⟨sb,TB,rfl,h1⟩;have H1:Hid (∃ x n L T,L.sb=sb∧CtIn w TB 0 x n L T w1):=h1;clear h1 HP)
 go_loopw [26] (fun i wr=>∃ (k:Nat) (x:Srv×(Nat→Tm)) (n:Nat) (L:Lay) (T:TL),k≤3∧i=.int .i64 k∧L.sb=sb∧CtIn w TB k x n L T wr) (fun i _=>3 - (intOf i).toNat)
 case atStart=>
  obtain⟨x,n,L,T,e1,e2⟩:=H1.out
  exact⟨0,x,n,L,T,by omega,rfl,e1,e2⟩
 case round=>
  obtain⟨k,x,n,L,T,hk,rfl,hsb,hi⟩:=hrel
  have HI:Hid (CtIn w TB k x n L T wr):=hi
  have HSB:Hid (L.sb=sb):=hsb
  clear H1
  by_cases hlt:k < 3
  ·have hlt':(k:Int) < 3:=by omega
   have hk0:(0:Int)≤(k:Int):=by omega
   have hn:n < 300:=by have:=hi.le;omega
   have HC1:Hid (Calls Tryz.prog 16 #[.pointer (some ⟨sb,0,none⟩),.int .i64 k] wr fun e w'=>e=.returned (.tuple (clR (x.1.cl k)))∧CtIn w TB k x n L T w'):=by
    have h0:=client_any k wr x.1 L hi.pl.srv
    rw [hsb] at h0
    refine h0.mono ?_
    rintro e w' ⟨rfl,m,rfl⟩
    refine⟨?_,hi.later (below_drewN (Below.refl _ _) m)⟩
    rw [here_lt x.1 k hlt]
   cases hc:x.1.cl k with
   | none=>
    rw [hc] at HC1
    unfold clR at HC1
    dsimp only at HC1
    have hemp:Hid (∀ j,j < k+1→∀ c,x.1.cl j=some c→c.q=[]):=fun j hj c e=>by
     by_cases ej:j=k
     ·rw [ej,hc] at e;cases e
     ·exact HI.out.emp j (by omega) c e
    clear hc hi hsb
    go_wp2_with (go_at_call 16;refine HC1.out.mono ?_;rintro e w2 ⟨rfl,h2⟩;have H2:Hid (CtIn w TB k x n L T w2):=h2;clear h2 HC1)
    go_roundw
    case rel=>exact⟨k+1,x,n,L,T,by omega,by go_num,HSB.out,⟨H2.out.pl,H2.out.ok,by have:=H2.out.le;omega,hemp.out⟩⟩
    case measure=>simp [intOf];omega
   | some c=>
    rw [hc] at HC1
    unfold clR at HC1
    dsimp only at HC1
    obtain⟨d1,d2,d3,d4⟩:=drain_step hi.ok hn hlt hc
    obtain⟨q,hq⟩:∃ q,q=c.q:=⟨_,rfl⟩
    obtain⟨y,hy⟩:∃ y,y=stepP x (drainA k):=⟨_,rfl⟩
    obtain⟨S',hS'⟩:∃ S',S'=(doS x.1 (drainA k)).1:=⟨_,rfl⟩
    have okc:=hi.ok.ok.cl k hlt c hc
    have oky:=okp_step hi.ok hn (drainA k)
    have hemp:=ct_next hi.ok hn hlt hc hi.emp
    have hok1:OkTm (x.2 k):=hi.ok.okt k hlt (by rw [hc];rfl)
    rw [←hy] at oky hemp
    rw [←hS', ←hq] at d2
    rw [←hy] at d2
    rw [←hS'] at d3 d4
    have HDO:Hid (∀ W,CtIn w TB k x n L T W→Calls Tryz.prog 19 #[.pointer (some ⟨sb,0,none⟩),aval (drainA k)] W fun e w'=>e=.returned (rpval ⟨0,q.length,q⟩)∧∃ L4,L4.sb=sb∧PlIn (fun _=>False) w (S',x.2) L4 TB T w'):=fun W hW=>by
     have h0:=do_any (drainA k) (by simp) W x.1 L hW.pl.srv hW.ok.ok
     rw [hsb] at h0
     refine h0.mono ?_
     rintro e w' ⟨rfl,L',h'⟩
     refine⟨by rw [d1,hq],L',h'.sb.trans hsb,?_⟩
     rw [hS']
     exact PlIn.to (S:=x.1) (t:=x.2) hW.pl h'
    have HC2:Hid (∀ (L4:Lay) W,L4.sb=sb→PlIn (fun _=>False) w (S',x.2) L4 TB T W→Calls Tryz.prog 16 #[.pointer (some ⟨sb,0,none⟩),.int .i64 k] W fun e w'=>e=.returned (.tuple #[.string ⟨#[]⟩,.bool c.lost,.bool true])∧Below W.heap.size W w'):=fun L4 W hs hW=>by
     have h0:=client_any k W S' L4 hW.srv
     rw [hs] at h0
     refine h0.mono ?_
     rintro e w' ⟨rfl,m,rfl⟩
     refine⟨?_,below_drewN (Below.refl _ _) m⟩
     rw [here_lt S' k hlt,d3]
     rfl
    have HG0:Hid (∀ (L4:Lay) (W:World) (BR:Nat) (o:Array Value),L4.sb=sb→PlIn (fun _=>False) w (S',x.2) L4 TB T W→W.heap[BR]?=some (.cells o 31 (0,0))→∀ W':World,Below W.heap.size W W'→Calls Tryz.prog 20 #[.pointer (some ⟨TB,k*13,none⟩),.string (bs q)] W' fun e w'=>e=.returned (.bool true)∧∃ T',CtIn w TB (k+1) y (n+1) L4 T' w'∧w'.heap[BR]?=some (.cells o 31 (0,0))):=fun L4 W BR o hs hW hBR W' hb=>by
     refine(pl_get (hW.later hb) hlt hok1 q (by rw [hq];have:=okc.short;omega)).mono ?_
     rintro e w' ⟨rfl,⟨T',h1⟩,hk2⟩
     refine⟨rfl,T',⟨by rw [d2];exact h1,oky,by have:=hi.le;omega,hemp⟩,hk2.at (below_block hb hBR (Array.getElem?_eq_some_iff.1 hBR).1) (fun e=>?_)⟩
     subst e
     have:=below_block hb hBR (Array.getElem?_eq_some_iff.1 hBR).1
     rw [(hW.later hb).tms.box] at this
     simp only [Option.some.injEq,Obj.cells.injEq] at this
     exact absurd this.2.1 (by decide)
    clear hc hi hsb d1 d2 d3 d4 hq hy hS' okc oky hemp hok1 hn
    go_wp2_with (first
     | (go_at_call 16;refine HC1.out.mono ?_;rintro e w2 ⟨rfl,h2⟩;have H2:Hid (CtIn w TB k x n L T w2):=h2;clear h2 HC1)
     | (go_at_call 19;refine(HDO.out _ H2.out).mono ?_;rintro e w3 ⟨rfl,L4,hs4,h4⟩;have H4:Hid (L4.sb=sb∧PlIn (fun _=>False) w (S',x.2) L4 TB T (w3.alloc (rpbox ⟨0,q.length,q⟩))):=⟨hs4,h4.later (below1 _ _)⟩;clear hs4 h4 HDO)
     | (go_at_call 16;refine(HC2.out L4 _ H4.out.1 H4.out.2).mono ?_;rintro e w5 ⟨rfl,h5⟩;have H5:Hid (PlIn (fun _=>False) w (S',x.2) L4 TB T w5∧w5.heap[w3.heap.size]?=some (rpbox ⟨0,q.length,q⟩)):=⟨H4.out.2.later h5,below_block h5 (at_new w3 _) (by simp)⟩;clear h5 HC2))
    have HGT:Hid (∀ W',Below w5.heap.size w5 W'→Calls Tryz.prog 20 #[.pointer (some ⟨TB,k*13,none⟩),.string (bs q)] W' fun e w'=>e=.returned (.bool true)∧∃ T',CtIn w TB (k+1) y (n+1) L4 T' w'∧w'.cell? ⟨w3.heap.size,0,none⟩=some (.int .i64 0)∧w'.cell? ⟨w3.heap.size,2,none⟩=some (.string (bs q))):=fun W' hW'=>by
     refine(HG0.out L4 w5 w3.heap.size _ H4.out.1 H5.out.1 H5.out.2 W' hW').mono ?_
     rintro e w' ⟨rfl,T',h1,h2⟩
     exact⟨rfl,T',h1,cell_of_row w' _ 0 _ _ _ h2,cell_of_row w' _ 2 _ _ _ h2⟩
    obtain⟨⟨r0,_,r2⟩,rf⟩:=three H5.out.2
    have hrl:=(Array.getElem?_eq_some_iff.1 H5.out.2).1
    generalize w3.heap.size=BR at*
    clear HG0
    ·skip
     refine bg (fun w'=>w'.cell? ⟨BR,0,none⟩=some (.int .i64 0)∧w'.cell? ⟨BR,2,none⟩=some (.string (bs q))) ⟨r0,r2⟩ (fun hHeld=>?_)
     refine tk 0 hHeld ?_
     refine tk 1 hHeld ?_
     refine tk 2 hHeld ?_
     refine tk 3 hHeld ?_
     refine tk 4 hHeld ?_
     refine tk 5 hHeld ?_
     refine tk 6 hHeld ?_
     refine tk 7 hHeld ?_
     refine tk 8 hHeld ?_
     refine tk 9 hHeld ?_
     refine tk 10 hHeld ?_
     refine tk 11 hHeld ?_
     refine tk 12 hHeld ?_
     refine tk 13 hHeld ?_
     refine wpAnyH_ready (rs:=[14]) (by kernel_rfl) (by simp) ?_
     refine AllReadyH.cons rfl (fun K hK=>?_) AllReadyH.nil
     go_simp
     go_at_call 20
     refine(HGT.out _ ((Below.refl _ _).drew)).mono ?_
     rintro e w6 ⟨rfl,T6,h6,z0,z2⟩
     have H6:Hid (CtIn w TB (k+1) y (n+1) L4 T6 w6):=h6
     clear h6
     (try go_simp)
     refine hK.out _ _ ⟨z0,z2⟩ (fun hHeld=>?_)
     clear hK K
     refine pt ?_
     refine tk 15 hHeld ?_
     refine tk 16 hHeld ?_
     refine dn ?_
     go_wp2
     go_roundw
     case rel=>exact⟨k+1,y,n+1,L4,T6,by omega,by go_num,H4.out.1,H6.out⟩
     case measure=>simp [intOf];omega
  ·obtain rfl:k=3:=by omega
   have hn:n < 300:=by have:=hi.le;omega
   have oky:=okp_step hi.ok hn al3
   obtain⟨y,hy⟩:∃ y,y=stepP x al3:=⟨_,rfl⟩
   have htk:=do_tick (S:=x.1) (by have:=hi.ok.acts;omega) 0 0 0 []
   have hy1:y=((doS x.1 al3).1,x.2):=by
    rw [hy]
    unfold stepP stepT
    rw [if_neg (fun h=>absurd h.2 (by decide)),if_neg (fun h=>absurd h.2 (by decide))]
   have hcl:∀ i c,i < 3→y.1.cl i=some c→c.lost=false:=fun i c hi3 hc=>by
    rw [hy1] at hc
    unfold al3 at hc
    rw [htk] at hc
    have hc':(x.1.cl i).map (showC x.1.v)=some c:=hc
    cases e:x.1.cl i with
    | none=>rw [e] at hc';cases hc'
    | some d=>
     rw [e] at hc'
     cases hc'
     exact show_empty hi.ok.ok.v (hi.ok.ok.cl i hi3 d e) (hi.emp i hi3 d e)
   rw [←hy] at oky
   have HDO:Hid (Calls Tryz.prog 19 #[.pointer (some ⟨sb,0,none⟩),aval al3] wr fun e w'=>e=.returned (.agg #[.int .i64 0,.int .i64 0,.string ⟨#[]⟩])∧∃ L',L'.sb=sb∧CeIn w TB y L' T w'):=by
    have h0:=do_any al3 (by simp) wr x.1 L hi.pl.srv hi.ok.ok
    rw [hsb] at h0
    refine h0.mono ?_
    rintro e w' ⟨rfl,L',h'⟩
    refine⟨?_,L',h'.sb.trans hsb,?_⟩
    ·unfold al3
     rw [htk]
     rfl
    ·rw [hy1]
     exact⟨PlIn.to (S:=x.1) (t:=x.2) hi.pl h'⟩
   have HX:Hid (∀ i:Nat,i < 3→y.1.cl i=none∨∃ c,y.1.cl i=some c∧c.lost=false):=fun i hi3=>by
    cases e:y.1.cl i with
    | none=>exact .inl rfl
    | some c=>exact .inr ⟨c,rfl,hcl i c hi3 e⟩
   have HCL:Hid (∀ (L':Lay) (i:Nat) W,i < 3→L'.sb=sb→CeIn w TB y L' T W→Calls Tryz.prog 16 #[.pointer (some ⟨sb,0,none⟩),.int .i64 i] W fun e w'=>e=.returned (.tuple (clR (y.1.cl i)))∧CeIn w TB y L' T w'):=fun L' i W hi3 hs hW=>by
    have h0:=client_any i W y.1 L' hW.pl.srv
    rw [hs] at h0
    refine h0.mono ?_
    rintro e w' ⟨rfl,m,rfl⟩
    refine⟨?_,hW.later (below_drewN (Below.refl _ _) m)⟩
    rw [here_lt y.1 i hi3]
   have HSH:Hid (∀ (L':Lay) (i:Nat) W c,i < 3→L'.sb=sb→y.1.cl i=some c→CeIn w TB y L' T W→Calls Tryz.prog 17 #[.pointer (some ⟨sb,0,none⟩),.agg (tmc (y.2 i) (T.pa i) (T.pc i) (T.ga i) (T.gc i)).toArray,.int .i64 i] W fun e w'=>e=.returned (.bool true)∧CeIn w TB y L' T w'):=fun L' i W c hi3 hs hc hW=>by
    have hc':=hc
    rw [hy1] at hc'
    obtain⟨e1,e2,e3,e4,e5⟩:=tick_shown hi.ok hn (a:=al3) rfl hi3 hc' (hcl i c hi3 hc)
    rw [show (doS x.1 al3).1=y.1 by rw [hy1]] at e1 e2 e3 e4 e5
    have h0:=shown_any W y.1 L' hW.pl.srv oky.ok.v i hi3 c hc (oky.ok.cl i hi3 c hc) (y.2 i) (oky.okt i hi3 (by rw [hc];rfl)) (oky.tm i hi3 c hc) _ _ _ _ (hW.pl.tms.pl i hi3) (hW.pl.tms.gl i hi3) _ rfl e1 e2 e3 e4 e5
    rw [hs] at h0
    refine h0.mono ?_
    rintro e w' ⟨rfl,hb⟩
    exact⟨rfl,hW.later hb⟩
   clear hi hsb hn oky hy htk hy1 hcl HI HSB
   go_wp2_with (first
    | (refine wpList_code (by rfl) _ rfl _ _ _ rfl ?_)
    | (go_at_call 19;refine HDO.out.mono ?_;rintro e w3 ⟨rfl,L3,hs3,h3⟩;have H3:Hid (L3.sb=sb∧CeIn w TB y L3 T w3):=⟨hs3,h3⟩;clear hs3 h3 HDO))
   go_loopw [72] (fun i wr=>∃ k:Nat,k≤3∧i=.int .i64 k∧CeIn w TB y L3 T wr) (fun i _=>3 - (intOf i).toNat)
   case atStart=>exact⟨0,by omega,rfl,H3.out.2⟩
   case round=>
    obtain⟨k,hk,rfl,hi⟩:=hrel
    have HI:Hid (CeIn w TB y L3 T wr):=hi
    clear hi
    by_cases hlt:k < 3
    ·have hlt':(k:Int) < 3:=by omega
     have hk0:(0:Int)≤(k:Int):=by omega
     have HC1:Hid (∀ W,CeIn w TB y L3 T W→Calls Tryz.prog 16 #[.pointer (some ⟨sb,0,none⟩),.int .i64 k] W fun e w'=>e=.returned (.tuple (clR (y.1.cl k)))∧CeIn w TB y L3 T w'):=fun W hW=>HCL.out L3 k W hlt H3.out.1 hW
     rcases HX.out k hlt with e | ⟨c,e,hl⟩
     ·rw [e] at HC1
      unfold clR at HC1
      dsimp only at HC1
      clear e HX HCL HSH
      go_wp2_with (go_at_call 16;refine(HC1.out _ HI.out).mono ?_;rintro e w2 ⟨rfl,h2⟩;have H2:Hid (CeIn w TB y L3 T w2):=h2;clear h2 HC1)
      go_roundw
      case rel=>exact⟨k+1,by omega,by go_num,H2.out⟩
      case measure=>simp [intOf];omega
     ·have HS1:Hid (∀ W,CeIn w TB y L3 T W→Calls Tryz.prog 17 #[.pointer (some ⟨sb,0,none⟩),.agg (tmc (y.2 k) (T.pa k) (T.pc k) (T.ga k) (T.gc k)).toArray,.int .i64 k] W fun e w'=>e=.returned (.bool true)∧CeIn w TB y L3 T w'):=fun W hW=>HSH.out L3 k W c hlt H3.out.1 e hW
      rw [e] at HC1
      unfold clR at HC1
      dsimp only at HC1
      rw [hl] at HC1
      have HTR:Hid (∀ W,CeIn w TB y L3 T W→W.rangeAt TB (k*13) (tmc (y.2 k) (T.pa k) (T.pc k) (T.ga k) (T.gc k))):=fun W hW=>tm_range hW.pl.tms k hlt
      have HVN:Hid ((tmc (y.2 k) (T.pa k) (T.pc k) (T.ga k) (T.gc k)).length=13):=rfl
      generalize tmc (y.2 k) (T.pa k) (T.pc k) (T.ga k) (T.gc k)=VL at*
      clear e HX HCL HSH hl
      go_wp2_with (first
       | (go_at_call 16;refine(HC1.out _ HI.out).mono ?_;rintro e w2 ⟨rfl,h2⟩;have H2:Hid (CeIn w TB y L3 T w2):=h2;have HR2:Hid (w2.rangeAt TB (k*13) VL):=HTR.out w2 h2;clear h2 HC1)
       | (refine wpList_load_on (by rfl) 42 _ rfl TB (k*13) rfl VL _ HR2.out Tryz.underlying42 rfl (by rw [HVN.out];exact infoT13) ?_)
       | (go_at_call 17;refine(HS1.out _ H2.out).mono ?_;rintro e w4 ⟨rfl,h4⟩;have H4:Hid (CeIn w TB y L3 T w4):=h4;clear h4 HS1))
      go_roundw
      case rel=>exact⟨k+1,by omega,by go_num,H4.out⟩
      case measure=>simp [intOf];omega
    ·have hge:(3:Int)≤(k:Int):=by omega
     clear HX HCL HSH
     go_wp2
     go_ret
     exact⟨rfl,kp_below HI.out.pl.kp⟩
end Go.Proofs.YtjikokfjnbhngaaGreatDoor.Sv
