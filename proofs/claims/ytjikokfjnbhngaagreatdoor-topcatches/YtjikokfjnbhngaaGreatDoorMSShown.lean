/- Several texts in one, each as it was: SShown, SShownL. -/
import Derived.Test.YtjikokfjnbhngaaGreatDoorZTake
import Derived.Test.YtjikokfjnbhngaaGreatDoorMSTell
import Derived.Test.YtjikokfjnbhngaaGreatDoorMSView
import Derived.Test.YtjikokfjnbhngaaGreatDoorSPlayShown

/- What the laws' 'shown' answers of a client that shows what it is to see. -/
namespace Go.Proofs.YtjikokfjnbhngaaGreatDoor.Sv
open Go.RowKit
open Go.Proofs.YtjikokfjnbhngaaGreatDoor.Pt (Vw VC RdV vcells screenV vc)
set_option maxRecDepth 100000
@[reducible] def t1box (t:Tm) (pa:Option Addr) (pc:Nat) (ga:Option Addr) (gc:Nat):Obj:=.cells (pcells t.p pa pc++(gcells t.g ga gc).toList).toArray 42
theorem t1_foreign:¬ Ours 42:=by unfold Ours;decide
theorem t1_put (t x:Tm) (pa:Option Addr) (pc:Nat) (ga:Option Addr) (gc:Nat) (pa':Option Addr) (pc':Nat) (ga':Option Addr) (gc':Nat):setTm (pcells t.p pa pc++(gcells t.g ga gc).toList).toArray 0 x pa' pc' ga' gc'=(pcells x.p pa' pc'++(gcells x.g ga' gc').toList).toArray:=by kernel_rfl
theorem t1_at {w:World} {B:Nat} {t:Tm} {pa:Option Addr} {pc:Nat} {ga:Option Addr} {gc:Nat} (h:w.heap[B]?=some (t1box t pa pc ga gc)) (hp:Pl w pa pc t.p.ps) (hg:Gl w ga gc t.g):TmAt w B 0 t pa pc ga gc:=by
 refine⟨fun j x hx=>?_,fun j x hx=>?_,there_row h (by show 0+13≤13;omega),hp,hg⟩
 ·have hj:j < 4:=(List.getElem?_eq_some_iff.1 hx).1
  rw [cell_of_row w B _ _ _ _ h,Nat.zero_add,List.getElem?_toArray,List.getElem?_append_left hj]
  exact hx
 ·have hj:j < 9:=by have:=(List.getElem?_eq_some_iff.1 hx).1;simpa using this
  rw [cell_of_row w B _ _ _ _ h,List.getElem?_toArray,List.getElem?_append_right (by show 4≤0+4+j;omega),show 0+4+j - (pcells t.p pa pc).length=j from by show 0+4+j - 4=j;omega]
  exact hx
structure ShIn (w:World) (S:Srv) (L:Lay) (B:Nat) (g:Gr) (pa:Option Addr) (pc:Nat) (ga:Option Addr) (gc:Nat) (wr:World):Prop where
 srv:SrvIn wr S L
 box:wr.heap[B]?=some (t1box ⟨Ps.ground,g⟩ pa pc ga gc)
 gl:Gl wr ga gc g
 below:Below w.heap.size w wr
theorem ShIn.later {w:World} {S:Srv} {L:Lay} {B:Nat} {g:Gr} {pa:Option Addr} {pc:Nat} {ga:Option Addr} {gc:Nat} {wr w':World} (h:ShIn w S L B g pa pc ga gc wr) (hb:Below wr.heap.size wr w'):ShIn w S L B g pa pc ga gc w':=
 ⟨h.srv.below hb,below_block hb h.box (Array.getElem?_eq_some_iff.1 h.box).1,h.gl.below hb,h.below.trans (hb.mono h.below.size)⟩
theorem ShIn.sides {w:World} {S:Srv} {L:Lay} {B:Nat} {g:Gr} {pa:Option Addr} {pc:Nat} {ga:Option Addr} {gc:Nat} {wr:World} (h:ShIn w S L B g pa pc ga gc wr):wr.cell? ⟨B,4,none⟩=some (.int .i64 g.wide)∧wr.cell? ⟨B,5,none⟩=some (.int .i64 g.high):=
 ⟨(cell_of_row wr B 4 _ _ _ h.box).trans rfl,(cell_of_row wr B 5 _ _ _ h.box).trans rfl⟩
theorem ShIn.rc {w:World} {S:Srv} {L:Lay} {B:Nat} {g:Gr} {pa:Option Addr} {pc:Nat} {ga:Option Addr} {gc:Nat} {wr:World} (h:ShIn w S L B g pa pc ga gc wr):(wr.cell? ⟨B,7,none⟩=some (.int .i64 g.row)∧wr.cell? ⟨B,8,none⟩=some (.int .i64 g.col))∧∀ j,wr.frozen? ⟨B,j,none⟩=false:=
 ⟨⟨(cell_of_row wr B 7 _ _ _ h.box).trans rfl,(cell_of_row wr B 8 _ _ _ h.box).trans rfl⟩,fun j=>frozen_of_row wr B j _ _ h.box⟩
theorem ShIn.grid {w:World} {S:Srv} {L:Lay} {B:Nat} {g:Gr} {pa:Option Addr} {pc:Nat} {ga:Option Addr} {gc:Nat} {wr:World} (h:ShIn w S L B g pa pc ga gc wr):wr.rangeAt B 4 (gcells g ga gc).toList:=fun j x hx=>by
 have hj:j < 9:=by have:=(List.getElem?_eq_some_iff.1 hx).1;simpa using this
 rw [cell_of_row wr B _ _ _ _ h.box,List.getElem?_toArray,List.getElem?_append_right (by show 4≤4+j;omega),show 4+j - (pcells Ps.ground pa pc).length=j from by show 4+j - 4=j;omega]
 exact hx
structure ShOut (w:World) (S:Srv) (L:Lay) (B:Nat) (g:Gr) (pa:Option Addr) (pc:Nat) (ga:Option Addr) (gc:Nat) (T:Nat) (x:Gr) (b:Nat) (wr:World):Prop where
 i:ShIn w S L B g pa pc ga gc wr
 tb:wr.heap[T]?=some (gbox x (some ⟨b,0,none⟩) x.n)
 scr:Scr wr b x.n x.f
theorem ShOut.later {w:World} {S:Srv} {L:Lay} {B:Nat} {g:Gr} {pa:Option Addr} {pc:Nat} {ga:Option Addr} {gc:Nat} {T:Nat} {x:Gr} {b:Nat} {wr w':World} (h:ShOut w S L B g pa pc ga gc T x b wr) (hb:Below wr.heap.size wr w'):ShOut w S L B g pa pc ga gc T x b w':=
 ⟨h.i.later hb,below_block hb h.tb (Array.getElem?_eq_some_iff.1 h.tb).1,h.scr.move (hb.block b h.scr.lt)⟩
theorem sh_store {w:World} {S:Srv} {L:Lay} {B:Nat} {g:Gr} {pa:Option Addr} {pc:Nat} {ga:Option Addr} {gc:Nat} {T:Nat} {x:Gr} {b:Nat} {wr w6:World} {c:Array Value} (h:ShIn w S L B g pa pc ga gc wr) (hs:Scr wr b x.n x.f) (hT:wr.heap[T]?=some (.cells c 40 (0,0))) (h6:w6.heap[T]?=some (gbox x (some ⟨b,0,none⟩) x.n)) (hg:wr.grownBy w6 (some T)) (hl:w.heap.size≤T):ShOut w S L B g pa pc ga gc T x b w6:=by
 have hk:∀ (k:Nat) (y:Array Value) (ty:TypeId),ty≠40→wr.heap[k]?=some (.cells y ty (0,0))→w6.heap[k]?=wr.heap[k]?:=fun k y ty hty hy=>hg.block k (Array.getElem?_eq_some_iff.1 hy).1 (fun e=>by
  simp only [Option.some.injEq] at e
  rw [e,hT] at hy
  simp only [Option.some.injEq,Obj.cells.injEq] at hy
  exact hty hy.2.1.symm)
 refine⟨⟨h.srv.same fun k y ty ho hy=>hk k y ty (by rintro rfl;revert ho;unfold Ours;decide) hy,by rw [hk _ _ _ (by decide) h.box];exact h.box,h.gl.keep fun k y hy=>hk k y _ (by decide) hy,below_grown h.below hl hg⟩,h6,hs.move ?_⟩
 obtain⟨cur,h1,_⟩:=hs
 exact hk b cur _ (by decide) h1
theorem RdS.alike {w:World} {ao:Option Addr} {n:Nat} {f f':Nat→Cel} (h:RdS w ao n f) (he:∀ i,i < n→f' i=f i):RdS w ao n f':=by
 rcases h with h | ⟨b,off,ha,hc⟩
 ·exact .inl h
 ·exact .inr ⟨b,off,ha,fun i hi=>by rw [he i hi];exact hc i hi⟩
set_option maxHeartbeats 8000000 in
theorem shown_any (w:World) (S:Srv) (L:Lay) (h:SrvIn w S L) (okv:OkV S.v) (i:Nat) (hi:i < 3) (c:Cl) (hc:S.cl i=some c) (okc:OkC c) (t:Tm) (okt:OkTm t) (tm:TmC t c) (pa0:Option Addr) (pc0:Nat) (ga0:Option Addr) (gc0:Nat) (hp:Pl w pa0 pc0 t.p.ps) (hg:Gl w ga0 gc0 t.g)
  (x:Gr) (hx:x=screenV S.v c.g.wide c.g.high) (e1:c.g.row=x.row) (e2:c.g.col=x.col) (e3:c.g.wide=x.wide) (e4:c.g.high=x.high) (e5:∀ i,i < x.n→c.g.f i=x.f i):
  Calls Tryz.prog 17 #[.pointer (some ⟨L.sb,0,none⟩),.agg (pcells t.p pa0 pc0++(gcells t.g ga0 gc0).toList).toArray,.int .i64 i] w fun e w'=>e=.returned (.bool true)∧Below w.heap.size w w':=by
 obtain⟨sb,hsb⟩:∃ sb,sb=L.sb:=⟨_,rfl⟩
 obtain⟨g,hge⟩:∃ g,g=c.g:=⟨_,rfl⟩
 have hlow:Pt.LowV S.v:=fun p hp=>by
  rcases okv.grid p hp with e | e
  ·rw [e];exact⟨by show (-9223372036854775808:Int)≤0;omega,by show (-9223372036854775808:Int)≤0;omega⟩
  ·have:=e.r1
   have:=e.c1
   exact⟨by omega,by omega⟩
 have sok:=(screen_ok okv c.g.wide c.g.high).1
 rw [←hx] at sok
 have hnn:g.n=x.n:=by rw [hge,size_nat okc.g,size_nat sok,e3,e4]
 obtain⟨nx1,nx2,_⟩:=sok.nums
 rw [←hge] at e1 e2 e3 e4 e5
 have HSAME:Hid (∀ (W:World) (oa:Option Addr) (ca:Nat) (ob:Option Addr),RdS W oa g.n g.f→RdS W ob x.n x.f→Calls Tryz.prog 39 #[gval g oa ca,gval x ob x.n] W fun e w'=>e=.returned (.bool true)∧Below W.heap.size W w'):=fun W oa ca ob h1 h2=>by
  have key:=Pt.sameCellsT_eq g x.row x.col x.ink x.bold x.top x.bottom oa ob ca x.n W h1 (by rw [hnn];exact RdS.alike h2 e5) (by rw [hnn];omega)
  have e:gval ⟨g.wide,g.high,g.n,g.f,x.row,x.col,x.ink,x.bold,x.top,x.bottom⟩ ob x.n=gval x ob x.n:=by
   simp only [e3,e4,hnn]
  rw [e] at key
  exact key
 have HCL:Hid (∀ W:World,SrvIn W S L→Calls Tryz.prog 16 #[.pointer (some ⟨sb,0,none⟩),.int .i64 i] W fun e w'=>e=.returned (.tuple #[.string (bs c.q),.bool c.lost,.bool true])∧Below W.heap.size W w'):=fun W hW=>by
  rw [hsb]
  refine(client_any i W S L hW).mono ?_
  rintro e w' ⟨rfl,n,rfl⟩
  refine⟨?_,below_drewN (Below.refl _ _) n⟩
  have:hereS S (i:Int)=some c:=by
   unfold hereS
   rw [if_pos (by unfold isCl;simp;omega)]
   exact hc
  rw [this]
  rfl
 have HGT:Hid (∀ W:World,Below (w.alloc (t1box t pa0 pc0 ga0 gc0)).heap.size (w.alloc (t1box t pa0 pc0 ga0 gc0)) W→Calls Tryz.prog 20 #[.pointer (some ⟨w.heap.size,0,none⟩),.string (bs c.q)] W fun e w'=>e=.returned (.bool true)∧∃ pa pc ga gc,ShIn w S L w.heap.size g pa pc ga gc w'):=fun W hW=>by
  have hbox:=below_block hW (at_new w (t1box t pa0 pc0 ga0 gc0)) (by simp)
  have hp':=(hp.below (below1 w (t1box t pa0 pc0 ga0 gc0))).below hW
  have hg':=(hg.below (below1 w (t1box t pa0 pc0 ga0 gc0))).below hW
  have hs':=(h.alloc (t1box t pa0 pc0 ga0 gc0)).below hW
  have hsz:=hW.size
  refine(get_any t okt w.heap.size 0 pa0 pc0 ga0 gc0 c.q (by have:=okc.short;omega) W (t1_at hbox hp' hg') _ _ hbox (by show 0+13≤13;omega) t1_foreign ⟨Ps.ground,g⟩ (by rw [hge];exact tm.symm)).mono ?_
  rintro e w' ⟨rfl,pa,pc,ga,gc,hk,hb,_,hgl⟩
  refine⟨rfl,pa,pc,ga,gc,hs'.same fun b y ty ho hy=>hk.block b (Array.getElem?_eq_some_iff.1 hy).1 (fun e=>?_),?_,hgl,?_⟩
  ·subst e
   rw [hbox] at hy
   simp only [Option.some.injEq,Obj.cells.injEq] at hy
   exact t1_foreign (hy.2.1 ▸ ho)
  ·rw [t1_put] at hb
   exact hb
  ·have hb0:=(below1 w (t1box t pa0 pc0 ga0 gc0)).trans (hW.mono (by simp))
   exact⟨hk.os.trans hb0.os,hk.tape.trans hb0.tape,hk.output.trans hb0.output,Nat.le_trans hb0.size hk.size,fun b hbl=>by rw [hk.block b (Nat.lt_of_lt_of_le hbl hb0.size) (by show ¬ b=_;omega),hb0.block b hbl]⟩
 have HVW:Hid (∀ (W:World),(∃ B pa pc ga gc,ShIn w S L B g pa pc ga gc W)→True):=fun _ _=>trivial
 have HVW0:Hid (∀ (B:Nat) pa pc ga gc (W:World),ShIn w S L B g pa pc ga gc W→Calls Tryz.prog 25 #[.pointer (some ⟨sb,0,none⟩)] W fun e w'=>∃ l,e=.returned (.agg (vcells S.v l))∧RdV w' S.v l∧ShIn w S L B g pa pc ga gc w'∧Below W.heap.size W w'):=fun B pa pc ga gc W hW=>by
  rw [hsb]
  refine(view_any W S L hW.srv).mono ?_
  rintro e w' ⟨l,rfl,h3,h4⟩
  exact⟨l,rfl,h3.rdV okv,hW.later h4,h4⟩
 have HSC:Hid (∀ (W:World) l,RdV W S.v l→Calls Tryz.prog 38 #[.agg (vcells S.v l),.int .i64 g.wide,.int .i64 g.high] W fun e w'=>∃ b,e=.returned (gval x (some ⟨b,0,none⟩) x.n)∧Scr w' b x.n x.f∧Below W.heap.size W w'):=fun W l hW=>Pt.screen_any S.v l _ (vc _ _) g.wide g.high W hW hlow x (by rw [hge];exact hx)
 have HS:Hid (SrvIn (w.alloc (t1box t pa0 pc0 ga0 gc0)) S L):=h.alloc _
 have d1:(g.row==x.row)=true:=by simpa using e1
 have d2:(g.col==x.col)=true:=by simpa using e2
 rw [←hsb]
 clear HVW h okv hc okc okt tm hp hg hx e3 e4 e5 hsb hge hlow sok hnn nx1 nx2 e1 e2
 go_enter Tryz.func17,Tryz.ntmps17
 go_wp2_with (first
  | (go_at_call 16;refine(HCL.out _ HS.out).mono ?_;rintro e w1 ⟨rfl,hb1⟩;have HB1:Hid (Below (w.alloc (t1box t pa0 pc0 ga0 gc0)).heap.size (w.alloc (t1box t pa0 pc0 ga0 gc0)) w1):=hb1;clear hb1 HCL HS)
  | (go_at_call 20;refine(HGT.out _ HB1.out).mono ?_;rintro e W0 ⟨rfl,pa,pc,ga,gc,h0⟩;have H0:Hid (ShIn w S L w.heap.size g pa pc ga gc W0):=h0;have z0:W0.cell? ⟨w.heap.size,0,none⟩=some (.int .i64 0):=(cell_of_row W0 w.heap.size 0 _ _ _ h0.box).trans rfl;have zf0:∀ j,W0.frozen? ⟨w.heap.size,j,none⟩=false:=fun j=>frozen_of_row W0 w.heap.size j _ _ h0.box;have hl0:=(Array.getElem?_eq_some_iff.1 h0.box).1;clear h0 HGT HB1))
 have HVW:Hid (∀ (W:World),ShIn w S L w.heap.size g pa pc ga gc W→Calls Tryz.prog 25 #[.pointer (some ⟨sb,0,none⟩)] W fun e w'=>∃ l,e=.returned (.agg (vcells S.v l))∧RdV w' S.v l∧ShIn w S L w.heap.size g pa pc ga gc w'∧Below W.heap.size W w'):=fun W hW=>HVW0.out _ _ _ _ _ W hW
 clear z0 zf0 hl0 HVW0
 obtain⟨B,hB⟩:∃ B,B=w.heap.size:=⟨_,rfl⟩
 rw [←hB] at HVW H0
 rw [←hB]
 clear hB
 refine bg (fun w'=>w'.cell? ⟨B,4,none⟩=some (.int .i64 g.wide)∧w'.cell? ⟨B,5,none⟩=some (.int .i64 g.high)) H0.out.sides (fun hHeld=>?_)
 refine tk 0 hHeld ?_
 refine tk 2 hHeld ?_
 refine tk 3 hHeld ?_
 refine tk 4 hHeld ?_
 refine tk 5 hHeld ?_
 refine tk 6 hHeld ?_
 refine tk 7 hHeld ?_
 refine wpAnyH_ready (rs:=[1,9]) (by kernel_rfl) (by simp) ?_
 refine AllReadyH.cons rfl (fun K hK=>?_) (AllReadyH.cons rfl (fun K hK=>?_) AllReadyH.nil)
 ·go_simp
  go_at_call 25
  refine(HVW.out _ (H0.out.later ((Below.refl _ _).drew))).mono ?_
  rintro e w2 ⟨l2,rfl,hr2,h2,hb2⟩
  have H2:Hid (ShIn w S L B g pa pc ga gc w2):=h2
  have HV2:Hid (RdV w2 S.v l2):=hr2
  clear hr2 h2 hb2
  (try go_simp)
  refine hK.out _ _ H2.out.sides (fun hHeld=>?_)
  clear hK K
  refine pt ?_
  refine wpAnyH_ready (rs:=[8,9]) (by kernel_rfl) (by simp) ?_
  refine AllReadyH.cons rfl (fun K hK=>?_) (AllReadyH.cons rfl (fun K hK=>?_) AllReadyH.nil)
  ·go_simp
   go_at_call 38
   refine(HSC.out _ l2 HV2.out).mono ?_
   rintro e w3 ⟨b3,rfl,hs3,hb3⟩
   have H3:Hid (ShIn w S L B g pa pc ga gc w3):=H2.out.later hb3
   have HS3:Hid (Scr w3 b3 x.n x.f):=hs3
   clear hs3 hb3
   (try go_simp)
   refine hK.out _ _ H3.out.sides (fun hHeld=>?_)
   clear hK K
   refine pt ?_
   refine wpAnyH_ready (rs:=[9]) (by kernel_rfl) (by simp) ?_
   refine AllReadyH.cons rfl (fun K hK=>?_) AllReadyH.nil
   go_simp
   have H5:Hid (ShIn w S L B g pa pc ga gc (w3.alloc gzero)):=H3.out.later (below1 _ _)
   have HS5:Hid (Scr (w3.alloc gzero) b3 x.n x.f):=HS3.out.alloc _
   have HT5:Hid ((w3.alloc gzero).heap[w3.heap.size]?=some gzero):=at_new _ _
   have HL5:Hid (w.heap.size≤w3.heap.size):=H3.out.below.size
   refine hK.out _ _ H5.out.sides (fun hHeld=>?_)
   clear hK K
   refine pt ?_
   generalize w3.alloc gzero=W5 at*
   refine wpAnyH_ready (rs:=[10]) (by kernel_rfl) (by simp) ?_
   refine AllReadyH.cons rfl (fun K hK=>?_) AllReadyH.nil
   refine wanted_go (by kernel_rfl) ?_
   refine wp_gbox _ _ rfl w3.heap.size x (some ⟨b3,0,none⟩) x.n rfl rfl _ HT5.out rfl ?_
   intro w6 hw6
   have H6:Hid (ShOut w S L B g pa pc ga gc w3.heap.size x b3 w6):=sh_store H5.out HS5.out HT5.out hw6.out.1 hw6.out.2 HL5.out
   have H6a:Hid (ShIn w S L B g pa pc ga gc w6):=H6.out.i
   clear hw6
   refine hK.out _ _ H6a.out.sides (fun hHeld=>?_)
   clear hK K
   refine pt ?_
   refine dn ?_
   generalize w3.heap.size=TT at*
   have HG1:Hid (w6.rangeAt B 4 (gcells g ga gc).toList):=H6.out.i.grid
   have HSM:Hid (Calls Tryz.prog 39 #[gval g ga gc,gval x (some ⟨b3,0,none⟩) x.n] w6 fun e w'=>e=.returned (.bool true)∧Below w6.heap.size w6 w'):=HSAME.out w6 _ _ _ H6.out.i.gl.rd H6.out.scr.rd
   obtain⟨⟨y0,y1,y2,y3,y4,y5,y6,y7,y8⟩,yf⟩:=nine H6.out.tb
   obtain⟨⟨z3,z4⟩,zf⟩:=H6.out.i.rc
   have hzl:=(Array.getElem?_eq_some_iff.1 H6.out.i.box).1
   have hyl:=(Array.getElem?_eq_some_iff.1 H6.out.tb).1
   clear HVW HSC HSAME
   go_wp2_with (first
    | (refine wpList_load_mid rfl 40 _ rfl B 4 rfl (gcells g ga gc).toList _ HG1.out Tryz.underlying40 rfl Pt.infoG ?_)
    | (go_at_call 39;refine HSM.out.mono ?_;rintro e w7 ⟨rfl,hb7⟩;have H7:Hid (ShOut w S L B g pa pc ga gc TT x b3 w7):=H6.out.later hb7;clear hb7 y0 y1 y2 y3 y4 y5 y6 y7 y8 yf z3 z4 zf hzl hyl;obtain⟨⟨y0,y1,y2,y3,y4,y5,y6,y7,y8⟩,yf⟩:=nine H7.out.tb;obtain⟨⟨z3,z4⟩,zf⟩:=H7.out.i.rc;have hzl:=(Array.getElem?_eq_some_iff.1 H7.out.i.box).1;have hyl:=(Array.getElem?_eq_some_iff.1 H7.out.tb).1))
   go_ret
   exact⟨rfl,H7.out.i.below⟩
  ·go_simp
   have H5:Hid (ShIn w S L B g pa pc ga gc (w2.alloc gzero)):=H2.out.later (below1 _ _)
   have HV5:Hid (RdV (w2.alloc gzero) S.v l2):=HV2.out.below (below1 _ _)
   have HT5:Hid ((w2.alloc gzero).heap[w2.heap.size]?=some gzero):=at_new _ _
   have HL5:Hid (w.heap.size≤w2.heap.size):=H2.out.below.size
   refine hK.out _ _ H5.out.sides (fun hHeld=>?_)
   clear hK K
   refine pt ?_
   generalize w2.alloc gzero=W5 at*
   refine wpAnyH_ready (rs:=[8]) (by kernel_rfl) (by simp) ?_
   refine AllReadyH.cons rfl (fun K hK=>?_) AllReadyH.nil
   go_simp
   go_at_call 38
   refine(HSC.out _ l2 HV5.out).mono ?_
   rintro e w3 ⟨b3,rfl,hs3,hb3⟩
   have H3:Hid (ShIn w S L B g pa pc ga gc w3):=H5.out.later hb3
   have HS3:Hid (Scr w3 b3 x.n x.f):=hs3
   have HT6:Hid (w3.heap[w2.heap.size]?=some gzero):=below_block hb3 HT5.out (Array.getElem?_eq_some_iff.1 HT5.out).1
   clear hs3 hb3
   (try go_simp)
   refine hK.out _ _ H3.out.sides (fun hHeld=>?_)
   clear hK K
   refine pt ?_
   refine wpAnyH_ready (rs:=[10]) (by kernel_rfl) (by simp) ?_
   refine AllReadyH.cons rfl (fun K hK=>?_) AllReadyH.nil
   refine wanted_go (by kernel_rfl) ?_
   refine wp_gbox _ _ rfl w2.heap.size x (some ⟨b3,0,none⟩) x.n rfl rfl _ HT6.out rfl ?_
   intro w6 hw6
   have H6:Hid (ShOut w S L B g pa pc ga gc w2.heap.size x b3 w6):=sh_store H3.out HS3.out HT6.out hw6.out.1 hw6.out.2 HL5.out
   have H6a:Hid (ShIn w S L B g pa pc ga gc w6):=H6.out.i
   clear hw6
   refine hK.out _ _ H6a.out.sides (fun hHeld=>?_)
   clear hK K
   refine pt ?_
   refine dn ?_
   generalize w2.heap.size=TT at*
   have HG1:Hid (w6.rangeAt B 4 (gcells g ga gc).toList):=H6.out.i.grid
   have HSM:Hid (Calls Tryz.prog 39 #[gval g ga gc,gval x (some ⟨b3,0,none⟩) x.n] w6 fun e w'=>e=.returned (.bool true)∧Below w6.heap.size w6 w'):=HSAME.out w6 _ _ _ H6.out.i.gl.rd H6.out.scr.rd
   obtain⟨⟨y0,y1,y2,y3,y4,y5,y6,y7,y8⟩,yf⟩:=nine H6.out.tb
   obtain⟨⟨z3,z4⟩,zf⟩:=H6.out.i.rc
   have hzl:=(Array.getElem?_eq_some_iff.1 H6.out.i.box).1
   have hyl:=(Array.getElem?_eq_some_iff.1 H6.out.tb).1
   clear HVW HSC HSAME
   go_wp2_with (first
    | (refine wpList_load_mid rfl 40 _ rfl B 4 rfl (gcells g ga gc).toList _ HG1.out Tryz.underlying40 rfl Pt.infoG ?_)
    | (go_at_call 39;refine HSM.out.mono ?_;rintro e w7 ⟨rfl,hb7⟩;have H7:Hid (ShOut w S L B g pa pc ga gc TT x b3 w7):=H6.out.later hb7;clear hb7 y0 y1 y2 y3 y4 y5 y6 y7 y8 yf z3 z4 zf hzl hyl;obtain⟨⟨y0,y1,y2,y3,y4,y5,y6,y7,y8⟩,yf⟩:=nine H7.out.tb;obtain⟨⟨z3,z4⟩,zf⟩:=H7.out.i.rc;have hzl:=(Array.getElem?_eq_some_iff.1 H7.out.i.box).1;have hyl:=(Array.getElem?_eq_some_iff.1 H7.out.tb).1))
   go_ret
   exact⟨rfl,H7.out.i.below⟩
 ·go_simp
  have H1:Hid (ShIn w S L B g pa pc ga gc ((W0.alloc gzero).drew)):=(H0.out.later (below1 _ _)).later ((Below.refl _ _).drew)
  have HT1:Hid (((W0.alloc gzero).drew).heap[W0.heap.size]?=some gzero):=at_new _ _
  have HL5:Hid (w.heap.size≤W0.heap.size):=H0.out.below.size
  refine hK.out _ _ H1.out.sides (fun hHeld=>?_)
  clear hK K
  refine pt ?_
  generalize (W0.alloc gzero).drew=W1 at*
  generalize W0.heap.size=TB at*
  refine wpAnyH_ready (rs:=[1]) (by kernel_rfl) (by simp) ?_
  refine AllReadyH.cons rfl (fun K hK=>?_) AllReadyH.nil
  go_simp
  go_at_call 25
  refine(HVW.out _ H1.out).mono ?_
  rintro e w2 ⟨l2,rfl,hr2,h2,hb2⟩
  have H2:Hid (ShIn w S L B g pa pc ga gc w2):=h2
  have HV2:Hid (RdV w2 S.v l2):=hr2
  have HT2:Hid (w2.heap[TB]?=some gzero):=below_block hb2 HT1.out (Array.getElem?_eq_some_iff.1 HT1.out).1
  clear hr2 h2 hb2
  (try go_simp)
  refine hK.out _ _ H2.out.sides (fun hHeld=>?_)
  clear hK K
  refine pt ?_
  refine wpAnyH_ready (rs:=[8]) (by kernel_rfl) (by simp) ?_
  refine AllReadyH.cons rfl (fun K hK=>?_) AllReadyH.nil
  go_simp
  go_at_call 38
  refine(HSC.out _ l2 HV2.out).mono ?_
  rintro e w3 ⟨b3,rfl,hs3,hb3⟩
  have H3:Hid (ShIn w S L B g pa pc ga gc w3):=H2.out.later hb3
  have HS3:Hid (Scr w3 b3 x.n x.f):=hs3
  have HT6:Hid (w3.heap[TB]?=some gzero):=below_block hb3 HT2.out (Array.getElem?_eq_some_iff.1 HT2.out).1
  clear hs3 hb3
  (try go_simp)
  refine hK.out _ _ H3.out.sides (fun hHeld=>?_)
  clear hK K
  refine pt ?_
  refine wpAnyH_ready (rs:=[10]) (by kernel_rfl) (by simp) ?_
  refine AllReadyH.cons rfl (fun K hK=>?_) AllReadyH.nil
  refine wanted_go (by kernel_rfl) ?_
  refine wp_gbox _ _ rfl TB x (some ⟨b3,0,none⟩) x.n rfl rfl _ HT6.out rfl ?_
  intro w6 hw6
  have H6:Hid (ShOut w S L B g pa pc ga gc TB x b3 w6):=sh_store H3.out HS3.out HT6.out hw6.out.1 hw6.out.2 HL5.out
  have H6a:Hid (ShIn w S L B g pa pc ga gc w6):=H6.out.i
  clear hw6
  refine hK.out _ _ H6a.out.sides (fun hHeld=>?_)
  clear hK K
  refine pt ?_
  refine dn ?_
  obtain⟨TT,hTT⟩:∃ TT,TT=TB:=⟨_,rfl⟩
  rw [←hTT] at H6
  rw [←hTT]
  clear hTT
  have HG1:Hid (w6.rangeAt B 4 (gcells g ga gc).toList):=H6.out.i.grid
  have HSM:Hid (Calls Tryz.prog 39 #[gval g ga gc,gval x (some ⟨b3,0,none⟩) x.n] w6 fun e w'=>e=.returned (.bool true)∧Below w6.heap.size w6 w'):=HSAME.out w6 _ _ _ H6.out.i.gl.rd H6.out.scr.rd
  obtain⟨⟨y0,y1,y2,y3,y4,y5,y6,y7,y8⟩,yf⟩:=nine H6.out.tb
  obtain⟨⟨z3,z4⟩,zf⟩:=H6.out.i.rc
  have hzl:=(Array.getElem?_eq_some_iff.1 H6.out.i.box).1
  have hyl:=(Array.getElem?_eq_some_iff.1 H6.out.tb).1
  clear HVW HSC HSAME
  go_wp2_with (first
   | (refine wpList_load_mid rfl 40 _ rfl B 4 rfl (gcells g ga gc).toList _ HG1.out Tryz.underlying40 rfl Pt.infoG ?_)
   | (go_at_call 39;refine HSM.out.mono ?_;rintro e w7 ⟨rfl,hb7⟩;have H7:Hid (ShOut w S L B g pa pc ga gc TT x b3 w7):=H6.out.later hb7;clear hb7 y0 y1 y2 y3 y4 y5 y6 y7 y8 yf z3 z4 zf hzl hyl;obtain⟨⟨y0,y1,y2,y3,y4,y5,y6,y7,y8⟩,yf⟩:=nine H7.out.tb;obtain⟨⟨z3,z4⟩,zf⟩:=H7.out.i.rc;have hzl:=(Array.getElem?_eq_some_iff.1 H7.out.i.box).1;have hyl:=(Array.getElem?_eq_some_iff.1 H7.out.tb).1))
  go_ret
  exact⟨rfl,H7.out.i.below⟩
end Go.Proofs.YtjikokfjnbhngaaGreatDoor.Sv

/- The law TopShown. -/
namespace Go.Proofs.YtjikokfjnbhngaaGreatDoor.Sv
open Go.RowKit
open Go.Proofs.YtjikokfjnbhngaaGreatDoor.Pt (screenV)
set_option maxRecDepth 100000
theorem tick_shown {x:Srv×(Nat→Tm)} {n:Nat} (h:OkP x n) (hn:n < 300) {a:Ac} (hk:a.kind=8) {i:Nat} (hi:i < 3) {c:Cl} (hc:(doS x.1 a).1.cl i=some c) (hl:c.lost=false):
  c.g.row=(screenV (doS x.1 a).1.v c.g.wide c.g.high).row∧c.g.col=(screenV (doS x.1 a).1.v c.g.wide c.g.high).col∧c.g.wide=(screenV (doS x.1 a).1.v c.g.wide c.g.high).wide∧c.g.high=(screenV (doS x.1 a).1.v c.g.wide c.g.high).high∧
   ∀ j,j < (screenV (doS x.1 a).1.v c.g.wide c.g.high).n→c.g.f j=(screenV (doS x.1 a).1.v c.g.wide c.g.high).f j:=by
 obtain⟨kind,p,m,q,bytes⟩:=a
 simp only at hk
 subst hk
 have hf:x.1.acts≠300:=by have:=h.acts;omega
 rw [do_tick hf] at hc ⊢
 have hc':(x.1.cl i).map (showC x.1.v)=some c:=hc
 cases e:x.1.cl i with
 | none=>rw [e] at hc';cases hc'
 | some d=>
  rw [e] at hc'
  cases hc'
  exact shown_is h.ok.v (h.ok.cl i hi d e) hl
structure LkIn (w:World) (x:Srv×(Nat→Tm)) (L:Lay) (TB:Nat) (T:TL) (w0 wr:World):Prop where
 pl:PlIn (fun _=>False) w x L TB T wr
 bel:Below w0.heap.size w0 wr
theorem LkIn.later {w:World} {x:Srv×(Nat→Tm)} {L:Lay} {TB:Nat} {T:TL} {w0 wr w':World} (h:LkIn w x L TB T w0 wr) (hb:Below wr.heap.size wr w'):LkIn w x L TB T w0 w':=⟨h.pl.later hb,h.bel.trans (hb.mono h.bel.size)⟩
theorem tm_range {w:World} {t:Nat→Tm} {TB:Nat} {T:TL} (h:TmIn w t TB T) (i:Nat) (hi:i < 3):w.rangeAt TB (i*13) (tmc (t i) (T.pa i) (T.pc i) (T.ga i) (T.gc i)):=fun j x hx=>by
 have hj:j < 13:=(List.getElem?_eq_some_iff.1 hx).1
 rw [cell_of_row w TB _ _ _ _ h.box,tall_at t T i hi j hj]
 exact hx
theorem wpList_load_on {ops:Array Oper} {rest:List Oper} {op:Oper} {a:Act} {w:World} {Q:Exit→Act→World→Prop} (hw:Region.wanted op (yielded ops a.tmps)=true) (ty:TypeId) (x:Operand) (ho:op.op=.load ty x)
  (b o:Nat) (hx:a.eval x=.pointer (some ⟨b,o,none⟩)) (cs:List Value) (d:TypeDesc) (hc:w.rangeAt b o cs) (hu:Tryz.prog.underlying ty=some d) (hd:d.isRow=true) (hi:(Tryz.prog.info? ty).map (·.size)=some cs.length)
  (h:wpList Tryz.prog ops Q rest (a.put op.dst (.agg cs.toArray)) w):wpList Tryz.prog ops Q (op::rest) a w:=
 wpList_step fun _ hK=>by
  rw [if_pos hw]
  exact wp_load_mid ty x ho b o hx cs d hc hu hd hi (hK _ _ h)
set_option maxHeartbeats 2000000 in
theorem shown_look (l:List Ac) (w:World) (k:Nat) (hk:k < l.length) (h100:k < 100) (L:Lay) (TB:Nat) (T:TL) (w0:World) (h:PlIn (fun _=>False) w (playP (l.take (k+1))) L TB T w0):
  Calls Tryz.prog 15 #[.pointer (some ⟨L.sb,0,none⟩),.pointer (some ⟨TB,0,none⟩),aval l[k],rpval (doS (playP (l.take k)).1 l[k]).2] w0 fun e w'=>e=.returned (.bool true)∧Below w0.heap.size w0 w':=by
 have okp:=okp_take l k (by omega) (by omega)
 have okp':=okp_take l (k+1) (by omega) (by omega)
 have hst:=take_succ_play l k hk
 obtain⟨a,ha⟩:∃ a,a=l[k]:=⟨_,rfl⟩
 obtain⟨x,hx⟩:∃ x,x=playP (l.take k):=⟨_,rfl⟩
 obtain⟨y,hy⟩:∃ y,y=playP (l.take (k+1)):=⟨_,rfl⟩
 obtain⟨r,hr⟩:∃ r,r=(doS x.1 a).2:=⟨_,rfl⟩
 rw [←hy, ←hx, ←ha] at hst
 rw [←hy] at h okp'
 rw [←hx] at okp
 rw [←ha, ←hx, ←hr]
 obtain⟨sb,hsb⟩:∃ sb,sb=L.sb:=⟨_,rfl⟩
 have hy1:y.1=(doS x.1 a).1:=by rw [hst];rfl
 have H0:Hid (LkIn w y L TB T w0 ((w0.alloc (abox a)).alloc (rpbox r))):=by
  have hb:Below w0.heap.size w0 ((w0.alloc (abox a)).alloc (rpbox r)):=(below1 _ _).alloc (by simp) _
  exact⟨h.later hb,hb⟩
 have HCL:Hid (∀ (i:Nat) W,i < 3→LkIn w y L TB T w0 W→Calls Tryz.prog 16 #[.pointer (some ⟨sb,0,none⟩),.int .i64 i] W fun e w'=>e=.returned (.tuple (clR (y.1.cl i)))∧LkIn w y L TB T w0 w'):=fun i W hi hW=>by
  rw [hsb]
  refine(client_any i W y.1 L hW.pl.srv).mono ?_
  rintro e w' ⟨rfl,n,rfl⟩
  refine⟨?_,hW.later (below_drewN (Below.refl _ _) n)⟩
  have:hereS y.1 (i:Int)=y.1.cl i:=by
   unfold hereS
   rw [if_pos (by unfold isCl;simp;omega)]
   rfl
  rw [this]
 have HSH:Hid (a.kind=8→∀ (i:Nat) W c,i < 3→y.1.cl i=some c→c.lost=false→LkIn w y L TB T w0 W→Calls Tryz.prog 17 #[.pointer (some ⟨sb,0,none⟩),.agg (tmc (y.2 i) (T.pa i) (T.pc i) (T.ga i) (T.gc i)).toArray,.int .i64 i] W fun e w'=>e=.returned (.bool true)∧LkIn w y L TB T w0 w'):=fun h8 i W c hi hc hl hW=>by
  rw [hsb]
  have hc':=hc
  rw [hy1] at hc'
  obtain⟨e1,e2,e3,e4,e5⟩:=tick_shown okp (by omega) h8 hi hc' hl
  rw [←hy1] at e1 e2 e3 e4 e5
  refine(shown_any W y.1 L hW.pl.srv okp'.ok.v i hi c hc (okp'.ok.cl i hi c hc) (y.2 i) (okp'.okt i hi (by rw [hc];rfl)) (okp'.tm i hi c hc) _ _ _ _ (hW.pl.tms.pl i hi) (hW.pl.tms.gl i hi) _ rfl e1 e2 e3 e4 e5).mono ?_
  rintro e w' ⟨rfl,hb⟩
  exact⟨rfl,hW.later hb⟩
 have HX:Hid (∀ i:Nat,y.1.cl i=none∨(∃ c,y.1.cl i=some c∧c.lost=true)∨∃ c,y.1.cl i=some c∧c.lost=false):=fun i=>by
  cases e:y.1.cl i with
  | none=>exact .inl rfl
  | some c=>cases hl:c.lost with
   | true=>exact .inr (.inl ⟨c,rfl,hl⟩)
   | false=>exact .inr (.inr ⟨c,rfl,hl⟩)
 obtain⟨⟨a0,_,_,_,_⟩,af⟩:=fiveA (at_old (at_new w0 (abox a)) (rpbox r))
 obtain⟨⟨r0,_,_⟩,rf⟩:=three (at_new1 w0 (abox a) (rpbox r))
 rw [←hsb]
 clear h okp okp' hst hy1 ha hx hy hr hsb hk h100
 have hor:(a.kind !=8)=true∨(a.kind=8∧(a.kind !=8)=false∧((r.code !=0)=true∨(r.code !=0)=false)):=by
  by_cases h8:a.kind=8
  ·refine .inr ⟨h8,by simp [h8],?_⟩
   cases (r.code !=0) <;>simp
  ·exact .inl (by simpa using h8)
 rcases hor with e8 | ⟨h8,e8,e0 | e0⟩
 ·go_enter Tryz.func15,Tryz.ntmps15
  go_wp2
  go_ret
  exact⟨rfl,H0.out.bel⟩
 ·go_enter Tryz.func15,Tryz.ntmps15
  go_wp2
  go_ret
  exact⟨rfl,H0.out.bel⟩
 ·have HS8:=HSH.out h8
  go_enter Tryz.func15,Tryz.ntmps15
  go_wp2
  clear a0 af r0 rf HSH h8
  have HSI:Hid (∀ (i:Nat) W c,i < 3→y.1.cl i=some c→c.lost=false→LkIn w y L TB T w0 W→Calls Tryz.prog 17 #[.pointer (some ⟨sb,0,none⟩),.agg (tmc (y.2 i) (T.pa i) (T.pc i) (T.ga i) (T.gc i)).toArray,.int .i64 i] W fun e w'=>e=.returned (.bool true)∧LkIn w y L TB T w0 w'):=HS8
  clear HS8
  go_loopw [21] (fun i wr=>∃ k:Nat,k≤3∧i=.int .i64 k∧LkIn w y L TB T w0 wr) (fun i _=>3 - (intOf i).toNat)
  case atStart=>exact⟨0,by omega,rfl,H0.out⟩
  case round=>
   obtain⟨k,hk,rfl,hi⟩:=hrel
   have HI:Hid (LkIn w y L TB T w0 wr):=hi
   clear hi H0
   by_cases hlt:k < 3
   ·have hlt':(k:Int) < 3:=by omega
    have hk0:(0:Int)≤(k:Int):=by omega
    have HC1:Hid (∀ W,LkIn w y L TB T w0 W→Calls Tryz.prog 16 #[.pointer (some ⟨sb,0,none⟩),.int .i64 k] W fun e w'=>e=.returned (.tuple (clR (y.1.cl k)))∧LkIn w y L TB T w0 w'):=fun W hW=>HCL.out k W hlt hW
    rcases HX.out k with e | ⟨c,e,hl⟩ | ⟨c,e,hl⟩
    ·rw [e] at HC1
     unfold clR at HC1
     dsimp only at HC1
     clear e HX HCL HSI
     go_wp2_with (go_at_call 16;refine(HC1.out _ HI.out).mono ?_;rintro e w2 ⟨rfl,h2⟩;have H2:Hid (LkIn w y L TB T w0 w2):=h2;clear h2 HC1)
     go_roundw
     case rel=>exact⟨k+1,by omega,by go_num,H2.out⟩
     case measure=>simp [intOf];omega
    ·rw [e] at HC1
     unfold clR at HC1
     dsimp only at HC1
     rw [hl] at HC1
     clear e HX HCL HSI hl
     go_wp2_with (go_at_call 16;refine(HC1.out _ HI.out).mono ?_;rintro e w2 ⟨rfl,h2⟩;have H2:Hid (LkIn w y L TB T w0 w2):=h2;clear h2 HC1)
     go_roundw
     case rel=>exact⟨k+1,by omega,by go_num,H2.out⟩
     case measure=>simp [intOf];omega
    ·have HS1:Hid (∀ W,LkIn w y L TB T w0 W→Calls Tryz.prog 17 #[.pointer (some ⟨sb,0,none⟩),.agg (tmc (y.2 k) (T.pa k) (T.pc k) (T.ga k) (T.gc k)).toArray,.int .i64 k] W fun e w'=>e=.returned (.bool true)∧LkIn w y L TB T w0 w'):=fun W hW=>HSI.out k W c hlt e hl hW
     rw [e] at HC1
     unfold clR at HC1
     dsimp only at HC1
     rw [hl] at HC1
     have HTR:Hid (∀ W,LkIn w y L TB T w0 W→W.rangeAt TB (k*13) (tmc (y.2 k) (T.pa k) (T.pc k) (T.ga k) (T.gc k))):=fun W hW=>tm_range hW.pl.tms k hlt
     have HVN:Hid ((tmc (y.2 k) (T.pa k) (T.pc k) (T.ga k) (T.gc k)).length=13):=rfl
     generalize tmc (y.2 k) (T.pa k) (T.pc k) (T.ga k) (T.gc k)=VL at*
     clear e HX HCL HSI hl
     go_wp2_with (first
      | (go_at_call 16;refine(HC1.out _ HI.out).mono ?_;rintro e w2 ⟨rfl,h2⟩;have H2:Hid (LkIn w y L TB T w0 w2):=h2;have HR2:Hid (w2.rangeAt TB (k*13) VL):=HTR.out w2 h2;clear h2 HC1)
      | (refine wpList_load_on (by rfl) 42 _ rfl TB (k*13) rfl VL _ HR2.out Tryz.underlying42 rfl (by rw [HVN.out];exact infoT13) ?_)
      | (go_at_call 17;refine(HS1.out _ H2.out).mono ?_;rintro e w3 ⟨rfl,h3⟩;have H3:Hid (LkIn w y L TB T w0 w3):=h3;clear h3 HS1))
     go_roundw
     case rel=>exact⟨k+1,by omega,by go_num,H3.out⟩
     case measure=>simp [intOf];omega
   ·have hge:(3:Int)≤(k:Int):=by omega
    clear HX HCL HSI
    go_wp2
    go_ret
    exact⟨rfl,HI.out.bel⟩
theorem topShown_any (l:List Ac) (lo:Option Addr) (lc:Nat) (w:World) (hr:RdA w lo l) (hb:∀ a∈l,a.bytes.length≤140737488355328) (hlen:l.length≤4398046511104):
  Calls Tryz.prog 3 #[.slice lo l.length lc] w fun e w'=>e=.returned (.bool true)∧Below w.heap.size w w':=by
 have HP:Hid (Calls Tryz.prog 14 #[.slice lo l.length lc,.func (.func 15) #[] #[]] w fun e w'=>∃ sb TB:Nat,e=.returned (.tuple #[.pointer (some ⟨sb,0,none⟩),.pointer (some ⟨TB,0,none⟩),.bool true])∧Below w.heap.size w w'):=by
  refine(playShown_any (fun _=>False) (fun _ _ _ _=>True) l lo lc w hr (fun _ _ _ e=>e) hb hlen (eok_true w) (fun _ _ _ _ _=>trivial) (fun k hk h100 L TB T wr h _=>?_)).mono ?_
  ·refine(shown_look l w k hk h100 L TB T wr h).mono ?_
   rintro e w' ⟨rfl,hb'⟩
   exact⟨rfl,L,T,rfl,h.later hb',trivial⟩
  ·rintro e w' ⟨L,TB,T,he,h1,_⟩
   exact⟨L.sb,TB,he,kp_below h1.kp⟩
 clear hr hb
 go_enter Tryz.func3,Tryz.ntmps3
 go_wp2_with (go_at_call 14;refine HP.out.mono ?_;rintro e w1 ⟨sb,TB,rfl,h1⟩;have H1:Hid (Below w.heap.size w w1):=h1;clear h1)
 go_ret
 exact⟨rfl,H1.out⟩
end Go.Proofs.YtjikokfjnbhngaaGreatDoor.Sv
