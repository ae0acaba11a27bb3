/- Several texts in one, each as it was: SAlive, STerm. -/
import Derived.Test.YtjikokfjnbhngaaGreatDoorMSDo
import Derived.Test.YtjikokfjnbhngaaGreatDoorMSTell
import Derived.Test.YtjikokfjnbhngaaGreatDoorMSClient

/- A new server answers: what the laws' 'alive' says. -/
namespace Go.Proofs.YtjikokfjnbhngaaGreatDoor.Sv
open Go.RowKit
set_option maxRecDepth 100000
theorem anew_some {t:Gr} (okt:OkG t) (hc:t.col < t.wide):(anewP t).out≠[]:=by
 obtain⟨n1,n2,_⟩:=new_sides okt
 have s:=shown (p:=⟨[27,99],newG t.wide t.high⟩) (ok_new t.wide t.high) t okt n1.symm n2.symm hc
 obtain⟨m,m1,_,_⟩:=s.adds.more
 have hm:(anewP t).out=[27,99]++m:=m1
 rw [hm]
 simp
theorem anew_waits {v:Pt.Vw} (h:OkV v) {c:Cl} (k:OkC c) (hq:c.q=[]) (hl:c.lost=true):(showC v c).q≠[]:=by
 have:=more_short h k.g
 obtain⟨s1,s2,_,_⟩:=screen_ok h c.g.wide c.g.high
 have hn:=anew_some s1 s2
 unfold showC
 rw [if_neg (fun e=>e.2 hq),if_neg (by rw [hq];show ¬ 4000 < 0+_;omega)]
 show c.q++(moreC v c).out≠[]
 unfold moreC
 rw [hl,hq]
 exact hn
@[reducible] def al1:Ac:=⟨6,1,10,3,[]⟩
@[reducible] def al2:Ac:=⟨3,0,0,0,[120]⟩
@[reducible] def al3:Ac:=⟨8,0,0,0,[]⟩
theorem alive_s1:doS newS al1=(withA {newS with cl:=upd newS.cl 1 (some ⟨[],true,newG 10 3⟩)} 1,err 0):=rfl
theorem alive_pure:(doS newS al1).2.code=0∧(doS (doS newS al1).1 al2).2.code=0∧(doS (doS (doS newS al1).1 al2).1 al3).2.code=0∧∃ c,hereS (doS (doS (doS newS al1).1 al2).1 al3).1 1=some c∧c.q≠[]∧c.lost=false:=by
 have ok1:=ok_do ok_newS al1
 have ok2:=ok_do ok1 al2
 have a1:(doS newS al1).1.acts=1:=do_acts (by decide) al1
 have a2:(doS (doS newS al1).1 al2).1.acts=2:=by rw [do_acts (by rw [a1];decide),a1]
 have c1:(doS newS al1).1.cl 1=some ⟨[],true,newG 10 3⟩:=by rw [alive_s1];rfl
 have hh:Tl.hasT (doS newS al1).1.v.cols 0=true:=by rw [alive_s1];decide
 have e2:doS (doS newS al1).1 al2=(withA (tellS (doS newS al1).1 0 [120]) 2,err 0):=by
  rw [do_eq (by rw [a1];decide),act_out _ (a:=al2) rfl,a1]
  unfold outputS al2
  dsimp only
  rw [if_pos hh]
  rfl
 have c2:(doS (doS newS al1).1 al2).1.cl 1=some ⟨[],true,newG 10 3⟩:=by rw [e2];exact c1
 have e3:=do_tick (S:=(doS (doS newS al1).1 al2).1) (by rw [a2];decide) 0 0 0 []
 have okc:=ok2.cl 1 (by omega) _ c2
 refine⟨by rw [alive_s1];rfl,by rw [e2];rfl,by unfold al3;rw [e3];rfl,showC (doS (doS newS al1).1 al2).1.v ⟨[],true,newG 10 3⟩,?_,anew_waits ok2.v okc rfl rfl,show_empty ok2.v okc rfl⟩
 unfold al3
 rw [e3]
 show (if isCl 1=true then ((doS (doS newS al1).1 al2).1.cl 1).map (showC (doS (doS newS al1).1 al2).1.v) else none)=_
 rw [if_pos (by decide),c2]
 rfl
set_option maxHeartbeats 2000000 in
theorem alive_any (w:World):Calls Tryz.prog 22 #[] w fun e w'=>e=.returned (.bool true)∧Below w.heap.size w w':=by
 obtain⟨p1,p2,p3,c,p4,p5,p6⟩:=alive_pure
 have ok1:=ok_do ok_newS al1
 have ok2:=ok_do ok1 al2
 obtain⟨S1,hS1⟩:∃ S,S=doS newS al1:=⟨_,rfl⟩
 rw [←hS1] at p1 p2 p3 p4 ok1 ok2
 obtain⟨S2,hS2⟩:∃ S,S=doS S1.1 al2:=⟨_,rfl⟩
 rw [←hS2] at p2 p3 p4 ok2
 obtain⟨S3,hS3⟩:∃ S,S=doS S2.1 al3:=⟨_,rfl⟩
 rw [←hS3] at p3 p4
 have HN:Hid (Calls Tryz.prog 23 #[] w fun e w'=>∃ L,e=.returned (.pointer (some ⟨L.sb,0,none⟩))∧w.heap.size≤L.sb∧SrvK w [] w' newS L∧Below w.heap.size w w'):=newK (Below.refl _ _) (fun _ h=>by simp at h)
 have HD1:Hid (∀ (W:World) (L:Lay) (ks:List Bx) (sb:Nat),L.sb=sb→SrvK w ks W newS L→Calls Tryz.prog 19 #[.pointer (some ⟨sb,0,none⟩),aval al1] W fun e w'=>e=.returned (rpval S1.2)∧∃ L',L'.sb=sb∧SrvK w ks w' S1.1 L'):=fun W L ks sb e h=>by
  subst e
  rw [hS1]
  exact doK al1 (by decide) h ok_newS
 have HD2:Hid (∀ (W:World) (L:Lay) (ks:List Bx) (sb:Nat),L.sb=sb→SrvK w ks W S1.1 L→Calls Tryz.prog 19 #[.pointer (some ⟨sb,0,none⟩),aval al2] W fun e w'=>e=.returned (rpval S2.2)∧∃ L',L'.sb=sb∧SrvK w ks w' S2.1 L'):=fun W L ks sb e h=>by
  subst e
  rw [hS2]
  exact doK al2 (by decide) h ok1
 have HD3:Hid (∀ (W:World) (L:Lay) (ks:List Bx) (sb:Nat),L.sb=sb→SrvK w ks W S2.1 L→Calls Tryz.prog 19 #[.pointer (some ⟨sb,0,none⟩),aval al3] W fun e w'=>e=.returned (rpval S3.2)∧∃ L',L'.sb=sb∧SrvK w ks w' S3.1 L'):=fun W L ks sb e h=>by
  subst e
  rw [hS3]
  exact doK al3 (by decide) h ok2
 have HC:Hid (∀ (W:World) (L:Lay) (ks:List Bx) (sb:Nat),L.sb=sb→SrvK w ks W S3.1 L→Calls Tryz.prog 16 #[.pointer (some ⟨sb,0,none⟩),.int .i64 1] W fun e w'=>e=.returned (.tuple #[.string (bs c.q),.bool false,.bool true])∧SrvK w ks w' S3.1 L):=fun W L ks sb e h=>by
  subst e
  have hcl:clR (some c)=#[.string (bs c.q),.bool false,.bool true]:=by
   show #[Value.string (bs c.q),.bool c.lost,.bool true]=_
   rw [p6]
  have:=clientK 1 h
  rw [p4,hcl] at this
  exact this
 have d1:(S1.2.code==0)=true:=by simpa using p1
 have d2:(S2.2.code==0)=true:=by simpa using p2
 have d3:(S3.2.code==0)=true:=by simpa using p3
 have hq:0 < c.q.length:=List.length_pos_iff.2 p5
 clear hS1 hS2 hS3 ok1 ok2 p1 p2 p3 p4 p5 p6
 go_enter Tryz.func22,Tryz.ntmps22
 go_wp2_with (first
  | (go_at_call 23;refine HN.out.mono ?_;rintro e w1 ⟨L1,rfl,h1,h2,h3⟩;obtain⟨sb,hsb⟩:∃ sb,sb=L1.sb:=⟨_,rfl⟩;have H1:Hid (L1.sb=sb∧SrvK w [] w1 newS L1):=⟨hsb.symm,h2⟩;rw [←hsb];clear h1 h2 h3 hsb HN)
  | (go_at_call 19;refine(HD1.out _ L1 [] sb H1.out.1 H1.out.2).mono ?_;rintro e w2 ⟨rfl,L2,h1,h2⟩;have H2:Hid (L2.sb=sb∧SrvK w [] w2 S1.1 L2):=⟨h1,h2⟩;clear h1 h2 HD1)
  | (go_at_call 19;refine(HD2.out _ L2 _ sb H2.out.1 (H2.out.2.add (rpcells S1.2) 31 rep_foreign)).mono ?_;rintro e w3 ⟨rfl,L3,h1,h2⟩;have H3:Hid (L3.sb=sb∧SrvK w [(w2.heap.size,rpcells S1.2,31)] w3 S2.1 L3):=⟨h1,h2⟩;clear h1 h2 HD2)
  | (go_at_call 19;refine(HD3.out _ L3 _ sb H3.out.1 (H3.out.2.add (rpcells S2.2) 31 rep_foreign)).mono ?_;rintro e w4 ⟨rfl,L4,h1,h2⟩;have H4:Hid (L4.sb=sb∧SrvK w [(w3.heap.size,rpcells S2.2,31),(w2.heap.size,rpcells S1.2,31)] w4 S3.1 L4):=⟨h1,h2⟩;clear h1 h2 HD3)
  | (go_at_call 16;refine(HC.out _ L4 _ sb H4.out.1 (H4.out.2.add (rpcells S3.2) 31 rep_foreign)).mono ?_;rintro e w5 ⟨rfl,h5⟩;have H5:Hid (Below w.heap.size w w5):=h5.below;obtain⟨⟨x0,_,_⟩,xf⟩:=three (h5.ks (w2.heap.size,rpcells S1.2,31) (by simp)).1;obtain⟨⟨y0,_,_⟩,yf⟩:=three (h5.ks (w3.heap.size,rpcells S2.2,31) (by simp)).1;obtain⟨⟨z0,_,_⟩,zf⟩:=three (h5.ks (w4.heap.size,rpcells S3.2,31) (by simp)).1;have l1:=(Array.getElem?_eq_some_iff.1 (h5.ks (w2.heap.size,rpcells S1.2,31) (by simp)).1).1;have l2:=(Array.getElem?_eq_some_iff.1 (h5.ks (w3.heap.size,rpcells S2.2,31) (by simp)).1).1;have l3:=(Array.getElem?_eq_some_iff.1 (h5.ks (w4.heap.size,rpcells S3.2,31) (by simp)).1).1;dsimp only at l1 l2 l3;clear h5 HC))
 go_ret
 exact⟨rfl,H5.out⟩
end Go.Proofs.YtjikokfjnbhngaaGreatDoor.Sv

/- Three terminals in memory; what holds in the midst of 'play'. -/
namespace Go.Proofs.YtjikokfjnbhngaaGreatDoor.Sv
open Go.RowKit
set_option maxRecDepth 100000
structure TL where
 pa:Nat→Option Addr
 pc:Nat→Nat
 ga:Nat→Option Addr
 gc:Nat→Nat
@[reducible] def tmc (t:Tm) (pa:Option Addr) (pc:Nat) (ga:Option Addr) (gc:Nat):List Value:=pcells t.p pa pc++(gcells t.g ga gc).toList
def tall (t:Nat→Tm) (T:TL):List Value:=tmc (t 0) (T.pa 0) (T.pc 0) (T.ga 0) (T.gc 0)++tmc (t 1) (T.pa 1) (T.pc 1) (T.ga 1) (T.gc 1)++tmc (t 2) (T.pa 2) (T.pc 2) (T.ga 2) (T.gc 2)
@[reducible] def tmbox (t:Nat→Tm) (T:TL):Obj:=.cells (tall t T).toArray 76
structure TmIn (w:World) (t:Nat→Tm) (TB:Nat) (T:TL):Prop where
 box:w.heap[TB]?=some (tmbox t T)
 pl:∀ i,i < 3→Pl w (T.pa i) (T.pc i) (t i).p.ps
 gl:∀ i,i < 3→Gl w (T.ga i) (T.gc i) (t i).g
theorem tm_foreign:¬ Ours 76:=by unfold Ours;decide
theorem tall_size (t:Nat→Tm) (T:TL):(tall t T).toArray.size=39:=rfl
theorem tall_at (t:Nat→Tm) (T:TL) (i:Nat) (hi:i < 3) (j:Nat) (hj:j < 13):(tall t T).toArray[i*13+j]?=(tmc (t i) (T.pa i) (T.pc i) (T.ga i) (T.gc i))[j]?:=by
 have h1:i=0∨i=1∨i=2:=by omega
 have h2:j=0∨j=1∨j=2∨j=3∨j=4∨j=5∨j=6∨j=7∨j=8∨j=9∨j=10∨j=11∨j=12:=by omega
 rcases h1 with rfl | rfl | rfl <;>rcases h2 with rfl | rfl | rfl | rfl | rfl | rfl | rfl | rfl | rfl | rfl | rfl | rfl | rfl <;>rfl
theorem TmIn.at {w:World} {t:Nat→Tm} {TB:Nat} {T:TL} (h:TmIn w t TB T) (i:Nat) (hi:i < 3):TmAt w TB (i*13) (t i) (T.pa i) (T.pc i) (T.ga i) (T.gc i):=by
 refine⟨fun j x hx=>?_,fun j x hx=>?_,there_row h.box (by rw [tall_size];omega),h.pl i hi,h.gl i hi⟩
 ·have hj:j < 4:=(List.getElem?_eq_some_iff.1 hx).1
  rw [cell_of_row w TB _ _ _ _ h.box,tall_at t T i hi j (by omega),List.getElem?_append_left hj]
  exact hx
 ·have hj:j < 9:=by have:=(List.getElem?_eq_some_iff.1 hx).1;simpa using this
  rw [cell_of_row w TB _ _ _ _ h.box,show i*13+4+j=i*13+(4+j) by omega,tall_at t T i hi (4+j) (by omega),List.getElem?_append_right (by show 4≤4+j;omega),show 4+j - (pcells (t i).p (T.pa i) (T.pc i)).length=j from Nat.add_sub_cancel_left 4 j]
  exact hx
def TL.put (T:TL) (i:Nat) (pa:Option Addr) (pc:Nat) (ga:Option Addr) (gc:Nat):TL:=⟨upd T.pa i pa,upd T.pc i pc,upd T.ga i ga,upd T.gc i gc⟩
theorem tall_put (t:Nat→Tm) (T:TL) (i:Nat) (hi:i < 3) (x:Tm) (pa:Option Addr) (pc:Nat) (ga:Option Addr) (gc:Nat):setTm (tall t T).toArray (i*13) x pa pc ga gc=(tall (upd t i x) (T.put i pa pc ga gc)).toArray:=by
 have h1:i=0∨i=1∨i=2:=by omega
 refine congrArg (fun c:Array Value=>c) ?_
 rcases h1 with rfl | rfl | rfl <;>kernel_rfl
theorem tall_put' (t:Nat→Tm) (T:TL) (i:Nat) (hi:i < 3) (x:Tm) (pa:Option Addr) (pc:Nat) (ga:Option Addr) (gc:Nat):setL (tall t T).toArray (i*13) (tmc x pa pc ga gc)=(tall (upd t i x) (T.put i pa pc ga gc)).toArray:=by
 have h1:i=0∨i=1∨i=2:=by omega
 refine congrArg (fun c:Array Value=>c) ?_
 rcases h1 with rfl | rfl | rfl <;>kernel_rfl
theorem TmIn.keep {w w':World} {t:Nat→Tm} {TB:Nat} {T:TL} (h:TmIn w t TB T) (hk:∀ (b:Nat) (y:Array Value) (ty:TypeId),86≠ty→81≠ty→w.heap[b]?=some (.cells y ty (0,0))→w'.heap[b]?=w.heap[b]?):TmIn w' t TB T:=
 ⟨by rw [hk _ _ _ (by decide) (by decide) h.box];exact h.box,fun i hi=>(h.pl i hi).keep fun b y hy=>hk b y _ (by decide) (by decide) hy,fun i hi=>(h.gl i hi).keep fun b y hy=>hk b y _ (by decide) (by decide) hy⟩
theorem TmIn.below {w w':World} {t:Nat→Tm} {TB:Nat} {T:TL} (h:TmIn w t TB T) (hb:Below w.heap.size w w'):TmIn w' t TB T:=h.keep fun b _ _ _ _ hy=>hb.block b (Array.getElem?_eq_some_iff.1 hy).1
theorem TmIn.set {w w':World} {t:Nat→Tm} {TB:Nat} {T:TL} (h:TmIn w t TB T) (i:Nat) (x:Tm) (pa:Option Addr) (pc:Nat) (ga:Option Addr) (gc:Nat) (hk:Kp (fun b=>b=TB) w w') (hb:w'.heap[TB]?=some (tmbox (upd t i x) (T.put i pa pc ga gc))) (hp:Pl w' pa pc x.p.ps) (hg:Gl w' ga gc x.g):TmIn w' (upd t i x) TB (T.put i pa pc ga gc):=by
 have hkk:∀ (b:Nat) (y:Array Value) (ty:TypeId),Ours ty→w.heap[b]?=some (.cells y ty (0,0))→w'.heap[b]?=w.heap[b]?:=fun b y ty ho hy=>hk.block b (Array.getElem?_eq_some_iff.1 hy).1 (fun e=>by
  subst e
  rw [h.box] at hy
  simp only [Option.some.injEq,Obj.cells.injEq] at hy
  exact tm_foreign (hy.2.1 ▸ ho))
 refine⟨hb,fun j hj=>?_,fun j hj=>?_⟩
 ·show Pl w' (upd T.pa i pa j) (upd T.pc i pc j) (upd t i x j).p.ps
  by_cases e:j=i
  ·rw [e,upd_at,upd_at,upd_at];exact hp
  ·rw [upd_ne _ _ e,upd_ne _ _ e,upd_ne _ _ e]
   exact(h.pl j hj).keep fun b y hy=>hkk b y 3 (.inr (.inr (.inr (.inr rfl)))) hy
 ·show Gl w' (upd T.ga i ga j) (upd T.gc i gc j) (upd t i x j).g
  by_cases e:j=i
  ·rw [e,upd_at,upd_at,upd_at];exact hg
  ·rw [upd_ne _ _ e,upd_ne _ _ e,upd_ne _ _ e]
   exact(h.gl j hj).keep fun b y hy=>hkk b y _ (.inr (.inr (.inl rfl))) hy
structure PlIn (M:Nat→Prop) (w:World) (x:Srv×(Nat→Tm)) (L:Lay) (TB:Nat) (T:TL) (wr:World):Prop where
 srv:SrvIn wr x.1 L
 mine:∀ b,Mut x.1 L b→w.heap.size≤b
 tms:TmIn wr x.2 TB T
 tb:w.heap.size≤TB
 kp:Kp M w wr
theorem Kp.more {M N:Nat→Prop} {a b:World} (h:Kp M a b) (hm:∀ i,M i→N i):Kp N a b:=⟨h.os,h.tape,h.output,h.size,fun i hi hn=>h.block i hi (fun e=>hn (hm i e))⟩
theorem kp_below {w w':World} (h:Kp (fun _=>False) w w'):Below w.heap.size w w':=⟨h.os,h.tape,h.output,h.size,fun b hb=>h.block b hb (fun e=>e)⟩
theorem PlIn.later {M:Nat→Prop} {w:World} {x:Srv×(Nat→Tm)} {L:Lay} {TB:Nat} {T:TL} {wr w':World} (h:PlIn M w x L TB T wr) (hb:Below wr.heap.size wr w'):PlIn M w x L TB T w':=
 ⟨h.srv.below hb,h.mine,h.tms.below hb,h.tb,h.kp.trans (N:=fun _=>False) (Kp.of_below _ hb) (fun _ e=>e.elim)⟩
theorem PlIn.to {M:Nat→Prop} {w:World} {S:Srv} {t:Nat→Tm} {L:Lay} {TB:Nat} {T:TL} {wr w':World} {S':Srv} {L':Lay} (h:PlIn M w (S,t) L TB T wr) (k:SrvTo wr S L S' L' w'):PlIn M w (S',t) L' TB T w':=by
 have hsz:=h.kp.size
 refine⟨k.srv,fun b hb=>(k.mut hb).elim (h.mine b) (fun e=>by omega),h.tms.keep fun b y ty h1 h2 hy=>k.kp.block b (Array.getElem?_eq_some_iff.1 hy).1 (SrvIn.other (fr:=(0,0)) h.srv hy h1 h2),h.tb,h.kp.trans k.kp (fun i hi=>.inr (h.mine i hi))⟩
theorem PlIn.term {M:Nat→Prop} {w:World} {S:Srv} {t:Nat→Tm} {L:Lay} {TB:Nat} {T:TL} {wr w':World} (h:PlIn M w (S,t) L TB T wr) {t':Nat→Tm} {T':TL} (hk:Kp (fun b=>b=TB) wr w') (ht:TmIn w' t' TB T'):PlIn M w (S,t') L TB T' w':=by
 refine⟨h.srv.same fun b y ty ho hy=>hk.block b (Array.getElem?_eq_some_iff.1 hy).1 (fun e=>?_),h.mine,ht,h.tb,h.kp.trans hk (fun i hi=>.inr (by rw [hi];exact h.tb))⟩
 subst e
 rw [h.tms.box] at hy
 simp only [Option.some.injEq,Obj.cells.injEq] at hy
 exact tm_foreign (hy.2.1 ▸ ho)
theorem RdA.at {w:World} {lo:Option Addr} {l:List Ac} (h:RdA w lo l) {k:Nat} (hk:k < l.length):∃ b off,lo=some ⟨b,off,none⟩∧b < w.heap.size∧w.cell? ⟨b,off+k*5,none⟩=some (.int .i64 l[k].kind)∧w.cell? ⟨b,off+k*5+1,none⟩=some (.int .i64 l[k].p)∧w.cell? ⟨b,off+k*5+2,none⟩=some (.int .i64 l[k].n)∧w.cell? ⟨b,off+k*5+3,none⟩=some (.int .i64 l[k].m)∧w.cell? ⟨b,off+k*5+4,none⟩=some (.string (bs l[k].bytes)):=by
 rcases h with h | ⟨b,off,ha,hc⟩
 ·rw [h] at hk;simp at hk
 ·exact⟨b,off,ha,World.block_lt_of_cell? _ _ (hc k hk).1,hc k hk⟩
theorem RdA.kept {M:Nat→Prop} {w w':World} {lo:Option Addr} {l:List Ac} (h:RdA w lo l) (hk:Kp M w w') (hm:∀ b off,lo=some ⟨b,off,none⟩→¬ M b):RdA w' lo l:=by
 rcases h with h | ⟨b,off,ha,hc⟩
 ·exact .inl h
 ·refine .inr ⟨b,off,ha,fun k hk2=>?_⟩
  have h0:=hc k hk2
  have hlt:=World.block_lt_of_cell? _ _ h0.1
  have e:∀ o,w'.cell? ⟨b,o,none⟩=w.cell? ⟨b,o,none⟩:=fun o=>World.cell?_of_block (hk.block b hlt (hm b off ha))
  simp only [e]
  exact h0
theorem pure_step (x:Srv×(Nat→Tm)) (a:Ac):
  ((doS x.1 a).2.code=0∧a.kind=6∧stepP x a=((doS x.1 a).1,upd x.2 a.p.toNat ⟨Ps.ground,newG a.n a.m⟩))∨
  ((doS x.1 a).2.code=0∧a.kind=9∧stepP x a=((doS x.1 a).1,upd x.2 a.p.toNat (getT (x.2 a.p.toNat) (doS x.1 a).2.out)))∨
  (¬ ((doS x.1 a).2.code=0∧a.kind=6)∧¬ ((doS x.1 a).2.code=0∧a.kind=9)∧stepP x a=((doS x.1 a).1,x.2)):=by
 unfold stepP stepT
 by_cases h6:(doS x.1 a).2.code=0∧a.kind=6
 ·exact .inl ⟨h6.1,h6.2,by rw [if_pos h6]⟩
 ·by_cases h9:(doS x.1 a).2.code=0∧a.kind=9
  ·exact .inr (.inl ⟨h9.1,h9.2,by rw [if_neg h6,if_pos h9]⟩)
  ·exact .inr (.inr ⟨h6,h9,by rw [if_neg h6,if_neg h9]⟩)
theorem did_client {S:Srv} (ok:OkS S) {a:Ac} (h0:(doS S a).2.code=0) (hk:a.kind=6∨a.kind=9):0≤a.p∧a.p < 3∧(a.kind=9→(S.cl a.p.toNat).isSome=true∧(doS S a).2.out.length≤4000):=by
 by_cases hf:S.acts=300
 ·unfold doS at h0
  rw [if_pos hf] at h0
  exact absurd (show (5:Int)=0 from h0) (by decide)
 rw [do_eq hf] at h0 ⊢
 unfold actS at h0 ⊢
 rw [if_neg (by omega)] at h0 ⊢
 by_cases h9:a.kind=9
 ·rw [if_pos h9] at h0 ⊢
  unfold drainS at h0 ⊢
  cases hc:hereS S a.p with
  | none=>rw [hc] at h0;exact absurd (show (3:Int)=0 from h0) (by decide)
  | some c=>
   obtain⟨q1,q2,q3,q4⟩:=here_ok ok hc
   refine⟨q1,q2,fun _=>⟨by rw [q3];rfl,?_⟩⟩
   show (c.q.take _).length≤4000
   have:=q4.short
   simp only [List.length_take]
   omega
 ·rw [if_neg h9] at h0
  have h6:a.kind=6:=by omega
  unfold changeS at h0
  rw [if_neg (by omega),if_neg (by omega),if_neg (by omega),if_neg (by omega),if_pos h6] at h0
  unfold attachS at h0
  have h0':(if isCl a.p then (if (S.cl a.p.toNat).isSome then (S,(4:Int)) else if sidesS a.n a.m then ({S with cl:=upd S.cl a.p.toNat (some ⟨[],true,newG a.n a.m⟩)},0) else (S,1)) else (S,3)).2=0:=h0
  cases hi:isCl a.p
  ·rw [hi] at h0';exact absurd (show (3:Int)=0 from h0') (by decide)
  ·have:=cl_num hi
   exact⟨this.1,this.2,fun e=>absurd e h9⟩
end Go.Proofs.YtjikokfjnbhngaaGreatDoor.Sv
