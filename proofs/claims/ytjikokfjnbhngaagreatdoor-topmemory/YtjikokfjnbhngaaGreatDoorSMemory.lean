/- The law TopMemory. -/
import Derived.Test.YtjikokfjnbhngaaGreatDoorZTake
import Derived.Test.YtjikokfjnbhngaaGreatDoorSPlayMem
import Derived.Test.YtjikokfjnbhngaaGreatDoorMSTwo
namespace Go.Proofs.YtjikokfjnbhngaaGreatDoor.Sv
open Go.RowKit
open Go.Proofs.YtjikokfjnbhngaaGreatDoor.Tl (CIt cv ints)
open Go.Proofs.YtjikokfjnbhngaaGreatDoor.Pt (Vw VC RdV vcells vc zv zl gall infoV wpList_alloc_view)
set_option maxRecDepth 100000
structure OtIn (w:World) (po ob:Nat) (O:Srv) (M:Lay) (S:Srv) (L:Lay) (wr:World):Prop where
 box:wr.heap[po]?=some (.cells #[.pointer (some ⟨ob,0,none⟩)] 23 (0,0))
 sb:M.sb=ob
 srv:SrvIn wr O M
 mine:∀ b,Mut O M b→b=ob∨w.heap.size≤b
 apart:∀ b,Mut S L b→¬ Mut O M b
theorem OtIn.later {w:World} {po ob:Nat} {O:Srv} {M:Lay} {S:Srv} {L:Lay} {wr w':World} (h:OtIn w po ob O M S L wr) (hb:Below wr.heap.size wr w'):OtIn w po ob O M S L w':=
 ⟨below_block hb h.box (Array.getElem?_eq_some_iff.1 h.box).1,h.sb,h.srv.below hb,h.mine,h.apart⟩
theorem OtIn.onto {w:World} {po ob:Nat} {O:Srv} {M:Lay} {S:Srv} {L:Lay} {wr:World} (h:OtIn w po ob O M S L wr) (hs:SrvIn wr S L) {S':Srv} {L':Lay} {w':World} (k:SrvTo wr S L S' L' w'):OtIn w po ob O M S' L' w':=by
 refine⟨k.keeps hs h.box (by decide) (by decide),h.sb,h.srv.keep k.kp (fun x hx _=>⟨mut_block hs hx,h.apart x hx⟩),h.mine,fun b h1 h2=>?_⟩
 rcases k.mut h1 with e | e
 ·exact h.apart b e h2
 ·have:=h.srv.mut_lt h2
  omega
theorem OtIn.term {w:World} {po ob:Nat} {O:Srv} {M:Lay} {S:Srv} {L:Lay} {wr:World} (h:OtIn w po ob O M S L wr) {t:Nat→Tm} {TB:Nat} {T:TL} (ht:TmIn wr t TB T) {w':World} (hk:Kp (fun b=>b=TB) wr w'):OtIn w po ob O M S L w':=by
 have key:∀ (b:Nat) (y:Array Value) (ty:TypeId),ty≠76→wr.heap[b]?=some (.cells y ty (0,0))→w'.heap[b]?=wr.heap[b]?:=fun b y ty hty hy=>hk.block b (Array.getElem?_eq_some_iff.1 hy).1 (fun e=>by
  subst e
  rw [ht.box] at hy
  simp only [Option.some.injEq,Obj.cells.injEq] at hy
  exact hty hy.2.1.symm)
 exact⟨by rw [key _ _ _ (by decide) h.box];exact h.box,h.sb,h.srv.same fun b y ty ho hy=>key b y ty (fun e=>tm_foreign (e ▸ ho)) hy,h.mine,h.apart⟩
theorem pl_other {w:World} {po ob:Nat} {O:Srv} {M:Lay} {y:Srv×(Nat→Tm)} {L:Lay} {TB:Nat} {T:TL} {wr:World} (h:PlIn (fun b=>b=ob) w y L TB T wr) (ot:OtIn w po ob O M y.1 L wr) {O':Srv} {M':Lay} {w':World} (k:SrvTo wr O M O' M' w'):
  PlIn (fun b=>b=ob) w y L TB T w'∧OtIn w po ob O' M' y.1 L w':=by
 have hsz:=h.kp.size
 refine⟨⟨h.srv.keep k.kp (fun x hx _=>⟨mut_block ot.srv hx,fun hm=>ot.apart x hm hx⟩),h.mine,h.tms.keep fun b c ty h1 h2 hy=>k.kp.block b (Array.getElem?_eq_some_iff.1 hy).1 (SrvIn.other (fr:=(0,0)) ot.srv hy h1 h2),h.tb,h.kp.trans k.kp (fun i hi=>ot.mine i hi)⟩,⟨k.keeps ot.srv ot.box (by decide) (by decide),k.sb.trans ot.sb,k.srv,fun b hb=>(k.mut hb).elim (ot.mine b) (fun e=>.inr (by omega)),fun b h1 h2=>?_⟩⟩
 rcases k.mut h2 with e | e
 ·exact ot.apart b h1 e
 ·have:=h.srv.mut_lt h1
  omega
structure MkIn (w:World) (l:List Ac) (y:Srv×(Nat→Tm)) (L:Lay) (TB:Nat) (T:TL) (po ob k BA:Nat) (a:Ac) (BR:Nat) (r:Rp) (wr:World):Prop where
 pl:PlIn (fun b=>b=ob) w y L TB T wr
 ot:∃ M,OtIn w po ob (playP (l.take k)).1 M y.1 L wr
 ba:wr.heap[BA]?=some (abox a)
 br:wr.heap[BR]?=some (rpbox r)
theorem MkIn.later {w:World} {l:List Ac} {y:Srv×(Nat→Tm)} {L:Lay} {TB:Nat} {T:TL} {po ob k BA:Nat} {a:Ac} {BR:Nat} {r:Rp} {wr w':World} (h:MkIn w l y L TB T po ob k BA a BR r wr) (hb:Below wr.heap.size wr w'):MkIn w l y L TB T po ob k BA a BR r w':=by
 obtain⟨M,hM⟩:=h.ot
 exact⟨h.pl.later hb,⟨M,hM.later hb⟩,below_block hb h.ba (Array.getElem?_eq_some_iff.1 h.ba).1,below_block hb h.br (Array.getElem?_eq_some_iff.1 h.br).1⟩
theorem MkIn.s {w:World} {l:List Ac} {y:Srv×(Nat→Tm)} {L:Lay} {TB:Nat} {T:TL} {po ob k BA:Nat} {a:Ac} {BR:Nat} {r:Rp} {wr:World} (h:MkIn w l y L TB T po ob k BA a BR r wr):wr.cell? ⟨po,0,none⟩=some (.pointer (some ⟨ob,0,none⟩))∧wr.heap[BA]?=some (abox a)∧wr.heap[BR]?=some (rpbox r):=by
 obtain⟨M,hM⟩:=h.ot
 exact⟨cell_of_row wr po 0 _ _ _ hM.box,h.ba,h.br⟩
theorem yields_act {ops:Array Oper} {T:World→Prop} {op:Oper} {a:Act} (hw:Region.wanted op (yielded ops a.tmps)=true) (x:Operand) (ho:op.op=.load 28 x) (b:Nat) (hx:a.eval x=.pointer (some ⟨b,0,none⟩)) (c:Ac) (hS:∀ w,T w→w.heap[b]?=some (abox c)):YieldsIf Tryz.prog ops T op (aval c) a:=
 yieldsIf_load_mid (P:=Tryz.prog) hw 28 x ho b 0 hx (acells c).toList _ (fun w h j v hv=>by rw [Nat.zero_add,cell_of_row w b j _ _ _ (hS w h)];simpa using hv) Tryz.underlying28 rfl infoAc
theorem yields_rep {ops:Array Oper} {T:World→Prop} {op:Oper} {a:Act} (hw:Region.wanted op (yielded ops a.tmps)=true) (x:Operand) (ho:op.op=.load 31 x) (b:Nat) (hx:a.eval x=.pointer (some ⟨b,0,none⟩)) (c:Rp) (hS:∀ w,T w→w.heap[b]?=some (rpbox c)):YieldsIf Tryz.prog ops T op (rpval c) a:=
 yieldsIf_load_mid (P:=Tryz.prog) hw 31 x ho b 0 hx (rpcells c).toList _ (fun w h j v hv=>by rw [Nat.zero_add,cell_of_row w b j _ _ _ (hS w h)];simpa using hv) Tryz.underlying31 rfl infoRp
structure WrIn (Wb:World) (v:Vw) (m:Pt.Lay) (C:Array Value) (VB:Nat) (wr:World):Prop where
 bel:Below Wb.heap.size Wb wr
 vb:wr.heap[VB]?=some (Pt.cbox C)
 row:m.its=[]∨∃ g,m.co=some ⟨g,0,none⟩∧∃ c,wr.heap[g]?=some (.cells c 35 (0,0))∧∀ k (hk:k < m.its.length),c[k]?=some (cv m.its[k])
 ints:∀ x∈m.its,x.1=[]∨∃ b,x.2.1=some ⟨b,0,none⟩∧Wb.heap.size≤b∧∃ c,wr.heap[b]?=some (.cells c 3 (0,0))∧x.1.length≤c.size
 gs:∀ p,p < 6→(v.gs p).n=0∨∃ b,m.ga p=some ⟨b,0,none⟩∧Wb.heap.size≤b∧∃ c,wr.heap[b]?=some (.cells c 66 (0,0))∧(v.gs p).n*4≤c.size
theorem set_same {wr:World} {b B:Nat} {c d:Array Value} {t s:TypeId} (hb:wr.heap[b]?=some (.cells c t (0,0))) (hB:wr.heap[B]?=some (.cells d s (0,0))) (j:Nat) (u:Value):∃ c',(wr.setCell ⟨B,j,none⟩ u).heap[b]?=some (.cells c' t (0,0))∧c'.size=c.size∧(t≠s→c'=c):=by
 by_cases e:b=B
 ·subst e
  exact⟨_,set_cells hb u,by simp,fun h=>by
   rw [hb] at hB
   simp only [Option.some.injEq,Obj.cells.injEq] at hB
   exact absurd hB.2.1 h⟩
 ·exact⟨c,by rw [Below.heap_setCell _ _ _ _ (by simpa using e)];exact hb,rfl,fun _=>rfl⟩
theorem WrIn.set {Wb:World} {v:Vw} {m:Pt.Lay} {C:Array Value} {VB:Nat} {wr:World} (h:WrIn Wb v m C VB wr) {B:Nat} {d:Array Value} {s:TypeId} (hB:wr.heap[B]?=some (.cells d s (0,0))) (hs:s=3∨s=66) (hl:Wb.heap.size≤B) (j:Nat) (u:Value):WrIn Wb v m C VB (wr.setCell ⟨B,j,none⟩ u):=by
 refine⟨h.bel.setCell (p:=⟨B,j,none⟩) hl u,?_,?_,fun x hx=>?_,fun p hp=>?_⟩
 ·obtain⟨c',h1,_,h3⟩:=set_same h.vb hB j u
  rw [h1,h3 (by rcases hs with rfl | rfl <;>decide)]
 ·rcases h.row with e | ⟨g,e1,c,e2,e3⟩
  ·exact .inl e
  ·obtain⟨c',h1,_,h3⟩:=set_same e2 hB j u
   have:=h3 (by rcases hs with rfl | rfl <;>decide)
   subst this
   exact .inr ⟨g,e1,_,h1,e3⟩
 ·rcases h.ints x hx with e | ⟨b,e1,e2,c,e3,e4⟩
  ·exact .inl e
  ·obtain⟨c',h1,h2,_⟩:=set_same e3 hB j u
   exact .inr ⟨b,e1,e2,c',h1,by omega⟩
 ·rcases h.gs p hp with e | ⟨b,e1,e2,c,e3,e4⟩
  ·exact .inl e
  ·obtain⟨c',h1,h2,_⟩:=set_same e3 hB j u
   exact .inr ⟨b,e1,e2,c',h1,by omega⟩
theorem wr_start {Wb w3:World} {v:Vw} {m:Pt.Lay} (h:VOwn Wb.heap.size w3 v m) (hb:Below Wb.heap.size Wb w3):WrIn Wb v m (vcells v m) w3.heap.size (w3.alloc (Pt.cbox (vcells v m))):=by
 have h':=h.later (below1 w3 (Pt.cbox (vcells v m)))
 refine⟨hb.alloc hb.size _,at_new _ _,?_,fun x hx=>?_,fun p hp=>?_⟩
 ·by_cases e:m.its=[]
  ·exact .inl e
  ·rcases h'.row.2 with ⟨_,e0⟩ | ⟨g,cap,cur,hv,_,hg,_,_,hs,ht⟩
   ·exact absurd (List.length_eq_zero_iff.1 e0) e
   ·simp only [Value.slice.injEq] at hv
    refine .inr ⟨g,hv.1,cur,hg,fun k hk=>?_⟩
    have e1:(m.its.map cv)[k]?=some (cv m.its[k]):=by simp [hk]
    rw [←ht,List.getElem?_take_of_lt (by omega)] at e1
    simpa using e1
 ·rcases(h'.each x hx).2 with ⟨_,e0⟩ | ⟨g,cap,cur,hv,hbg,hg,hle,_,hs,_⟩
  ·exact .inl (List.length_eq_zero_iff.1 e0)
  ·simp only [cv,Value.slice.injEq] at hv
   exact .inr ⟨g,hv.1,hbg,cur,hg,by omega⟩
 ·rcases h'.gs p hp with e | ⟨b,e1,e2,e3,cur,e4,e5,_⟩
  ·exact .inl e
  ·exact .inr ⟨b,e1,e2,cur,e4,e5⟩
set_option maxHeartbeats 8000000 in
theorem mem_look (l:List Ac) (hbl:∀ a∈l,a.bytes.length≤140737488355328) (w:World) (po ob:Nat) (k:Nat) (hk:k < l.length) (h100:k < 100) (L:Lay) (TB:Nat) (T:TL) (w0:World) (h:PlIn (fun b=>b=ob) w (playP (l.take (k+1))) L TB T w0) (ho:∃ M,OtIn w po ob (playP (l.take k)).1 M (playP (l.take (k+1))).1 L w0):
  Calls Tryz.prog 35 #[.pointer (some ⟨L.sb,0,none⟩),.pointer (some ⟨TB,0,none⟩),aval l[k],rpval (doS (playP (l.take k)).1 l[k]).2,.pointer (some ⟨po,0,none⟩)] w0 fun e w'=>e=.returned (.bool true)∧
   PlIn (fun b=>b=ob) w (playP (l.take (k+1))) L TB T w'∧∃ M,OtIn w po ob (playP (l.take (k+1))).1 M (playP (l.take (k+1))).1 L w':=by
 have okp:=okp_take l k (by omega) (by omega)
 have okp':=okp_take l (k+1) (by omega) (by omega)
 have hst:=take_succ_play l k hk
 have hmem:l[k]∈l:=List.getElem_mem hk
 obtain⟨a,ha⟩:∃ a,a=l[k]:=⟨_,rfl⟩
 obtain⟨y,hy⟩:∃ y,y=playP (l.take (k+1)):=⟨_,rfl⟩
 obtain⟨r,hr⟩:∃ r,r=(doS (playP (l.take k)).1 a).2:=⟨_,rfl⟩
 rw [←hy, ←ha] at hst
 rw [←hy] at h ho okp'
 rw [←ha] at hmem
 rw [←ha, ←hr, ←hy]
 obtain⟨sb,hsb⟩:∃ sb,sb=L.sb:=⟨_,rfl⟩
 have hy1:(doS (playP (l.take k)).1 a).1=y.1:=by rw [hst];rfl
 obtain⟨v,hv⟩:∃ v,v=y.1.v:=⟨_,rfl⟩
 have H0:Hid (MkIn w l y L TB T po ob k w0.heap.size a (w0.heap.size+1) r ((w0.alloc (abox a)).alloc (rpbox r))):=by
  have hb:Below w0.heap.size w0 ((w0.alloc (abox a)).alloc (rpbox r)):=(below1 _ _).alloc (by simp) _
  obtain⟨M,hM⟩:=ho
  exact⟨h.later hb,⟨M,hM.later hb⟩,at_old (at_new w0 _) _,at_new1 w0 _ _⟩
 have HDO0:Hid (∀ BA BR W,MkIn w l y L TB T po ob k BA a BR r W→Calls Tryz.prog 19 #[.pointer (some ⟨ob,0,none⟩),aval a] W fun e w'=>e=.returned (rpval r)∧MkIn w l y L TB T po ob (k+1) BA a BR r w'):=fun BA BR W hW=>by
  obtain⟨M,hM⟩:=hW.ot
  have h0:=do_any a (hbl a hmem) W _ M hM.srv okp.ok
  rw [hM.sb] at h0
  refine h0.mono ?_
  rintro e w' ⟨rfl,M',h'⟩
  obtain⟨p1,p2⟩:=pl_other hW.pl hM h'
  refine⟨by rw [hr],p1,⟨M',?_⟩,h'.keeps hM.srv hW.ba (by decide) (by decide),h'.keeps hM.srv hW.br (by decide) (by decide)⟩
  rw [hy1] at p2
  rw [←hy]
  exact p2
 have HSM:Hid (∀ BA BR W,MkIn w l y L TB T po ob (k+1) BA a BR r W→Calls Tryz.prog 24 #[.pointer (some ⟨sb,0,none⟩),.pointer (some ⟨ob,0,none⟩)] W fun e w'=>e=.returned (.bool true)∧MkIn w l y L TB T po ob (k+1) BA a BR r w'):=fun BA BR W hW=>by
  obtain⟨M,hM⟩:=hW.ot
  have hM':=hM
  rw [←hy] at hM
  have h0:=same_eq W y.1 L y.1 M hW.pl.srv hM.srv okp'.ok.v rfl (fun _ _=>rfl)
  rw [hM.sb, ←hsb] at h0
  refine h0.mono ?_
  rintro e w' ⟨rfl,hb⟩
  exact⟨rfl,hW.later hb⟩
 have HVW:Hid (∀ BA BR W,MkIn w l y L TB T po ob (k+1) BA a BR r W→Calls Tryz.prog 25 #[.pointer (some ⟨sb,0,none⟩)] W fun e w'=>∃ m,e=.returned (.agg (vcells v m))∧WrIn W v m (vcells v m) w'.heap.size (w'.alloc (Pt.cbox (vcells v m)))∧m.its.length≤6∧(∀ x∈m.its,x.1.length≤3)∧(∀ p,p < 6→(v.gs p).n≤240)):=fun BA BR W hW=>by
  have h0:=view_any W y.1 L hW.pl.srv
  rw [←hsb] at h0
  refine h0.mono ?_
  rintro e w' ⟨m,rfl,h1,h2⟩
  have okv:=okp'.ok.v
  have h6:=Tl.good_len okv.t
  have hc:=h1.cols
  rw [←hv] at h1 okv ⊢
  refine⟨m,rfl,wr_start h1 h2,by rw [hc] at h6;simpa using h6,fun x hx=>(okv.t.tall x.1 (by rw [h1.cols];exact List.mem_map.2 ⟨x,hx,rfl⟩)).2,fun p hp=>?_⟩
  rcases okv.grid p hp with e | e
  ·rw [e];show 0≤_;omega
  ·obtain⟨q1,q2,_⟩:=e.nums
   omega
 have HFIN:Hid (∀ BA BR W W',MkIn w l y L TB T po ob (k+1) BA a BR r W→Below W.heap.size W W'→PlIn (fun b=>b=ob) w y L TB T W'∧∃ M,OtIn w po ob y.1 M y.1 L W'):=fun BA BR W W' hW hb=>by
  have h1:=hW.later hb
  obtain⟨M,hM⟩:=h1.ot
  rw [←hy] at hM
  exact⟨h1.pl,M,hM⟩
 rw [←hsb]
 clear h ho okp okp' hst hy1 ha hr hsb hk h100 hbl hmem hv
 go_enter Tryz.func35,Tryz.ntmps35
 go_wp2_with fail
 have HDO:=HDO0.out w0.heap.size (w0.heap.size+1)
 have HDO:Hid (∀ W,MkIn w l y L TB T po ob k w0.heap.size a (w0.heap.size+1) r W→Calls Tryz.prog 19 #[.pointer (some ⟨ob,0,none⟩),aval a] W fun e w'=>e=.returned (rpval r)∧MkIn w l y L TB T po ob (k+1) w0.heap.size a (w0.heap.size+1) r w'):=HDO
 have HSM:Hid (∀ W,MkIn w l y L TB T po ob (k+1) w0.heap.size a (w0.heap.size+1) r W→Calls Tryz.prog 24 #[.pointer (some ⟨sb,0,none⟩),.pointer (some ⟨ob,0,none⟩)] W fun e w'=>e=.returned (.bool true)∧MkIn w l y L TB T po ob (k+1) w0.heap.size a (w0.heap.size+1) r w'):=fun W hW=>HSM.out _ _ W hW
 have HVW:Hid (∀ W,MkIn w l y L TB T po ob (k+1) w0.heap.size a (w0.heap.size+1) r W→Calls Tryz.prog 25 #[.pointer (some ⟨sb,0,none⟩)] W fun e w'=>∃ m,e=.returned (.agg (vcells v m))∧WrIn W v m (vcells v m) w'.heap.size (w'.alloc (Pt.cbox (vcells v m)))∧m.its.length≤6∧(∀ x∈m.its,x.1.length≤3)∧(∀ p,p < 6→(v.gs p).n≤240)):=fun W hW=>HVW.out _ _ W hW
 have HFIN:Hid (∀ W W',MkIn w l y L TB T po ob (k+1) w0.heap.size a (w0.heap.size+1) r W→Below W.heap.size W W'→PlIn (fun b=>b=ob) w y L TB T W'∧∃ M,OtIn w po ob y.1 M y.1 L W'):=fun W W' hW hb=>HFIN.out _ _ W W' hW hb
 clear HDO0
 generalize w0.heap.size+1=BR at*
 generalize w0.heap.size=BA at*
 generalize (w0.alloc (abox a)).alloc (rpbox r)=W0 at*
 refine bg (fun w'=>w'.cell? ⟨po,0,none⟩=some (.pointer (some ⟨ob,0,none⟩))∧w'.heap[BA]?=some (abox a)∧w'.heap[BR]?=some (rpbox r)) H0.out.s (fun hHeld=>?_)
 refine tk 0 hHeld ?_
 refine Go.Proofs.YtjikokfjnbhngaaGreatDoor.ty 1 rfl (aval a) (yields_act (by rfl) _ rfl BA rfl a (fun w0 h=>h.2.1)) hHeld ?_
 refine Go.Proofs.YtjikokfjnbhngaaGreatDoor.ty 3 rfl (rpval r) (yields_rep (by rfl) _ rfl BR rfl r (fun w0 h=>h.2.2)) hHeld ?_
 refine wpAnyH_ready (rs:=[2]) (by kernel_rfl) (by simp) ?_
 refine AllReadyH.cons rfl (fun K hK=>?_) AllReadyH.nil
 go_simp
 go_at_call 19
 refine(HDO.out _ (H0.out.later ((Below.refl _ _).drew))).mono ?_
 rintro e w2 ⟨rfl,h2⟩
 have H2:Hid (MkIn w l y L TB T po ob (k+1) BA a BR r w2):=h2
 clear h2
 (try go_simp)
 refine hK.out _ _ H2.out.s (fun hHeld=>?_)
 clear hK K
 refine pt ?_
 refine tk 4 hHeld ?_
 refine tk 5 hHeld ?_
 refine tk 6 hHeld ?_
 refine tk 7 hHeld ?_
 refine wpAnyH_ready (rs:=[8]) (by kernel_rfl) (by simp) ?_
 refine AllReadyH.cons rfl (fun K hK=>?_) AllReadyH.nil
 go_simp
 go_at_call 24
 refine(HSM.out _ H2.out).mono ?_
 rintro e w3 ⟨rfl,h3⟩
 have H3:Hid (MkIn w l y L TB T po ob (k+1) BA a BR r w3):=h3
 clear h3
 (try go_simp)
 refine hK.out _ _ H3.out.s (fun hHeld=>?_)
 clear hK K
 refine pt ?_
 refine tk 9 hHeld ?_
 refine tk 10 hHeld ?_
 refine dn ?_
 clear hHeld HDO HSM H0 H2
 go_wp2_with (first
  | (refine wpList_alloc_view rfl rfl ?_)
  | (go_at_call 25;refine(HVW.out _ H3.out).mono ?_;rintro e w4 ⟨m,rfl,h4,b1,b2,b3⟩;obtain⟨C,hC⟩:∃ C,C=vcells v m:=⟨_,rfl⟩;have HC:Hid (VC v m C∧C.size=58∧C.all (·.oneCell')=true):=(hC ▸ ⟨vc v m,rfl,Pt.vcells_one v m⟩);rw [←hC] at h4 ⊢;have H4:Hid (WrIn w3 v m C w4.heap.size (w4.alloc (Pt.cbox C))):=h4;have HB:Hid ((∀ x∈m.its,x.1.length≤3)∧(∀ p,p < 6→(v.gs p).n≤240)):=⟨b2,b3⟩;clear h4 b2 b3 hC HVW)
  | (refine wpList_store_new 58 (vcells zv zl) C rfl _ _ rfl rfl rfl (by rw [HC.out.2.1];exact infoV) (by rw [HC.out.2.1];rfl) HC.out.2.2 ?_))
 have HVC:Hid (VC v m C):=HC.out.1
 clear HC
 generalize w4.heap.size=VB at*
 have HCB:Hid (∀ W,WrIn w3 v m C VB W→W.heap[VB]?=some (Pt.cbox C)):=fun W hW=>hW.vb
 generalize w4.alloc (Pt.cbox C)=W4 at*
 go_loopw [28] (fun i wr=>∃ p:Nat,p≤6∧i=.int .i64 p∧WrIn w3 v m C VB wr) (fun i _=>6 - (intOf i).toNat)
 case atStart=>exact⟨0,by omega,rfl,H4.out⟩
 case round=>
  obtain⟨p,hp,rfl,hi⟩:=hrel
  clear H4
  by_cases hlt:p < 6
  ·have hlt':(p:Int) < 6:=by omega
   have hp0:(0:Int)≤(p:Int):=by omega
   obtain⟨n,hn⟩:∃ n,n=(v.gs p).n:=⟨_,rfl⟩
   obtain⟨ga,hga⟩:∃ ga,ga=m.ga p:=⟨_,rfl⟩
   obtain⟨gc,hgc⟩:∃ gc,gc=m.gc p:=⟨_,rfl⟩
   have hn240:n≤240:=by rw [hn];exact HB.out.2 p hlt
   have HLS:Hid (∀ W,WrIn w3 v m C VB W→W.cell? ⟨VB,1+p*9+2,none⟩=some (.slice ga n gc)∧(∀ j,W.frozen? ⟨VB,j,none⟩=false)∧VB < W.heap.size):=fun W hW=>by
    rw [hga,hn,hgc]
    exact⟨Pt.cbox_grid HVC.out hW.vb p hlt 2 _ rfl,fun j=>frozen_of_row W VB j _ _ hW.vb,(Array.getElem?_eq_some_iff.1 hW.vb).1⟩
   have HGS:Hid (∀ W,WrIn w3 v m C VB W→n=0∨∃ b,ga=some ⟨b,0,none⟩∧w3.heap.size≤b∧∃ c,W.heap[b]?=some (.cells c 66 (0,0))∧n*4≤c.size):=fun W hW=>by
    rw [hga,hn]
    exact hW.gs p hlt
   have HI:Hid (WrIn w3 v m C VB wr):=hi
   obtain⟨y0,yf,yl⟩:=HLS.out wr hi
   clear hn hga hgc hi
   go_wp2
   clear y0 yf yl
   go_loopw [37] (fun i wr=>∃ q:Nat,q≤n∧i=.int .i64 q∧WrIn w3 v m C VB wr) (fun i _=>n - (intOf i).toNat)
   case atStart=>exact⟨0,by omega,rfl,HI.out⟩
   case round=>
    obtain⟨q,hq,rfl,hi⟩:=hrel
    clear HI
    by_cases hql:q < n
    ·have hql':(q:Int) < (n:Int):=by omega
     have hq0:(0:Int)≤(q:Int):=by omega
     obtain⟨b,rfl,hb0,c,hb,hcs⟩:=(HGS.out wr hi).resolve_left (by omega)
     have g0:wr.cell? ⟨b,q*4,none⟩=some c[q*4]:=(cell_of_row wr b (q*4) _ _ _ hb).trans (Array.getElem?_eq_getElem (by omega))
     have g1:wr.cell? ⟨b,q*4+1,none⟩=some c[q*4+1]:=(cell_of_row wr b (q*4+1) _ _ _ hb).trans (Array.getElem?_eq_getElem (by omega))
     have g2:wr.cell? ⟨b,q*4+2,none⟩=some c[q*4+2]:=(cell_of_row wr b (q*4+2) _ _ _ hb).trans (Array.getElem?_eq_getElem (by omega))
     have g3:wr.cell? ⟨b,q*4+3,none⟩=some c[q*4+3]:=(cell_of_row wr b (q*4+3) _ _ _ hb).trans (Array.getElem?_eq_getElem (by omega))
     have gf:∀ j,wr.frozen? ⟨b,j,none⟩=false:=fun j=>frozen_of_row wr b j _ _ hb
     have gl:=(Array.getElem?_eq_some_iff.1 hb).1
     obtain⟨y0,yf,yl⟩:=HLS.out wr hi
     have HS:Hid (∀ u0 u1 u2 u3:Value,WrIn w3 v m C VB ((((wr.setCell ⟨b,q*4,none⟩ u0).setCell ⟨b,q*4+1,none⟩ u1).setCell ⟨b,q*4+2,none⟩ u2).setCell ⟨b,q*4+3,none⟩ u3)):=fun u0 u1 u2 u3=>
      (((hi.set hb (.inr rfl) hb0 _ u0).set (set_cells hb u0) (.inr rfl) hb0 _ u1).set (set_cells (set_cells hb u0) u1) (.inr rfl) hb0 _ u2).set (set_cells (set_cells (set_cells hb u0) u1) u2) (.inr rfl) hb0 _ u3
     generalize c[q*4]=z0 at*
     generalize c[q*4+1]=z1 at*
     generalize c[q*4+2]=z2 at*
     generalize c[q*4+3]=z3 at*
     clear hi hb hb0 hcs
     go_wp2
     go_roundw
     case rel=>exact⟨q+1,by omega,by go_num,HS.out _ _ _ _⟩
     case measure=>simp [intOf];omega
    ·have hqg:(n:Int)≤(q:Int):=by omega
     have HI:Hid (WrIn w3 v m C VB wr):=hi
     clear hi
     go_wp2
     go_roundw
     case rel=>exact⟨p+1,by omega,by go_num,HI.out⟩
     case measure=>simp [intOf];omega
  ·have hge:(6:Int)≤(p:Int):=by omega
   obtain⟨N,hN⟩:∃ N,N=m.its.length:=⟨_,rfl⟩
   have HN:Hid (N=m.its.length):=hN
   have hN6:N≤6:=by omega
   have HL0:Hid (∀ W,WrIn w3 v m C VB W→W.cell? ⟨VB,0,none⟩=some (.slice m.co N m.cap)∧(∀ j,W.frozen? ⟨VB,j,none⟩=false)∧VB < W.heap.size):=fun W hW=>by
    rw [hN]
    exact⟨(cell_of_row W VB 0 _ _ _ hW.vb).trans HVC.out.cells.1,fun j=>frozen_of_row W VB j _ _ hW.vb,(Array.getElem?_eq_some_iff.1 hW.vb).1⟩
   have HI:Hid (WrIn w3 v m C VB wr):=hi
   obtain⟨y0,yf,yl⟩:=HL0.out wr hi
   clear hi hN b1
   go_wp2
   clear y0 yf yl
   go_loopw [54] (fun i wr=>∃ q:Nat,q≤N∧i=.int .i64 q∧WrIn w3 v m C VB wr) (fun i _=>N - (intOf i).toNat)
   case atStart=>exact⟨0,by omega,rfl,HI.out⟩
   case round=>
    obtain⟨q,hq,rfl,hi⟩:=hrel
    clear HI
    by_cases hql:q < N
    ·have hql':(q:Int) < (N:Int):=by omega
     have hq0:(0:Int)≤(q:Int):=by omega
     have hqm:q < m.its.length:=by rw [←HN.out];exact hql
     obtain⟨x,hx⟩:∃ x,x=m.its[q]:=⟨_,rfl⟩
     have hxm:x∈m.its:=by rw [hx];exact List.getElem_mem hqm
     have hx3:x.1.length≤3:=HB.out.1 x hxm
     obtain⟨g,hg,c0,hgb,hgc⟩:=hi.row.resolve_left (by intro h;rw [h] at hqm;simp at hqm)
     have HLG:Hid (∀ W,WrIn w3 v m C VB W→(W.cell? ⟨VB,0,none⟩=some (.slice (some ⟨g,0,none⟩) N m.cap)∧(∀ j,W.frozen? ⟨VB,j,none⟩=false)∧VB < W.heap.size)∧(W.cell? ⟨g,q,none⟩=some (.slice x.2.1 x.1.length x.2.2)∧(∀ j,W.frozen? ⟨g,j,none⟩=false)∧g < W.heap.size)):=fun W hW=>by
      obtain⟨e1,e2,e3⟩:=HL0.out W hW
      obtain⟨g',hg',c',hgb',hgc'⟩:=hW.row.resolve_left (by intro h;rw [h] at hqm;simp at hqm)
      obtain rfl:g'=g:=by rw [hg] at hg';simpa using hg'.symm
      rw [hg] at e1
      exact⟨⟨e1,e2,e3⟩,(cell_of_row W g' q _ _ _ hgb').trans (by rw [hgc' q hqm, ←hx]),fun j=>frozen_of_row W g' j _ _ hgb',(Array.getElem?_eq_some_iff.1 hgb').1⟩
     have HIN:Hid (∀ W,WrIn w3 v m C VB W→x.1=[]∨∃ b,x.2.1=some ⟨b,0,none⟩∧w3.heap.size≤b∧∃ c,W.heap[b]?=some (.cells c 3 (0,0))∧x.1.length≤c.size):=fun W hW=>hW.ints x hxm
     have HI:Hid (WrIn w3 v m C VB wr):=hi
     obtain⟨x1,x2,x3⟩:=x
     dsimp only at hx3 HLG HIN
     have HX1:Hid (x1=[]↔x1.length=0):=List.length_eq_zero_iff.symm
     obtain⟨n,hn⟩:∃ n,n=x1.length:=⟨_,rfl⟩
     rw [←hn] at hx3 HLG
     have HNX:Hid (n=x1.length):=hn
     obtain⟨⟨y0,yf,yl⟩,⟨z0,zf,zl⟩⟩:=HLG.out wr hi
     clear hi hx hxm hg hgb hgc hqm hn
     go_wp2
     clear y0 yf yl z0 zf zl
     go_loopw [64] (fun i wr=>∃ j:Nat,j≤n∧i=.int .i64 j∧WrIn w3 v m C VB wr) (fun i _=>n - (intOf i).toNat)
     case atStart=>exact⟨0,by omega,rfl,HI.out⟩
     case round=>
      obtain⟨j,hj,rfl,hi⟩:=hrel
      clear HI
      by_cases hjl:j < n
      ·have hjl':(j:Int) < (n:Int):=by omega
       have hj0:(0:Int)≤(j:Int):=by omega
       obtain⟨b,rfl,hb0,c,hb,hcs⟩:=(HIN.out wr hi).resolve_left (by intro h;have:=HX1.out.1 h;have:=HNX.out;omega)
       have hjc:j < c.size:=by have:=HNX.out;omega
       have g0:wr.cell? ⟨b,j,none⟩=some c[j]:=(cell_of_row wr b j _ _ _ hb).trans (Array.getElem?_eq_getElem hjc)
       have gf:∀ i,wr.frozen? ⟨b,i,none⟩=false:=fun i=>frozen_of_row wr b i _ _ hb
       have gl:=(Array.getElem?_eq_some_iff.1 hb).1
       obtain⟨⟨y0,yf,yl⟩,⟨z0,zf,zl⟩⟩:=HLG.out wr hi
       have HS:Hid (∀ u0:Value,WrIn w3 v m C VB (wr.setCell ⟨b,j,none⟩ u0)):=fun u0=>hi.set hb (.inl rfl) hb0 _ u0
       generalize c[j]=cj at*
       clear hi hb hb0 hcs hjc
       go_wp2
       go_roundw
       case rel=>exact⟨j+1,by omega,by go_num,HS.out _⟩
       case measure=>simp [intOf];omega
      ·have hjg:(n:Int)≤(j:Int):=by omega
       have HI:Hid (WrIn w3 v m C VB wr):=hi
       clear hi
       go_wp2
       go_roundw
       case rel=>exact⟨q+1,by omega,by go_num,HI.out⟩
       case measure=>simp [intOf];omega
    ·have hqg:(N:Int)≤(q:Int):=by omega
     have HE:Hid (PlIn (fun b=>b=ob) w y L TB T wr∧∃ M,OtIn w po ob y.1 M y.1 L wr):=HFIN.out _ _ H3.out hi.bel
     clear hi
     go_wp2
     go_ret
     exact⟨rfl,HE.out.1,HE.out.2⟩
def MemE (w:World) (l:List Ac) (po ob:Nat) (k:Nat) (S:Srv) (L:Lay) (wr:World):Prop:=∃ M,OtIn w po ob (playP (l.take k)).1 M S L wr
theorem mem_eok (w:World) (l:List Ac) (po ob:Nat):EOk w (MemE w l po ob):=by
 refine⟨fun k S L S' L' wr wr' hs _ he ht=>?_,fun k S L wr wr' he hb=>?_,fun k S L wr wr' TB t T ht _ he hk=>?_⟩
 ·obtain⟨M,hM⟩:=he
  exact⟨M,hM.onto hs ht⟩
 ·obtain⟨M,hM⟩:=he
  exact⟨M,hM.later hb⟩
 ·obtain⟨M,hM⟩:=he
  exact⟨M,hM.term ht hk⟩
theorem topMemory_any (l:List Ac) (lo:Option Addr) (lc:Nat) (w:World) (hr:RdA w lo l) (hb:∀ a∈l,a.bytes.length≤140737488355328) (hlen:l.length≤4398046511104):
  Calls Tryz.prog 12 #[.slice lo l.length lc] w fun e w'=>e=.returned (.bool true)∧Below w.heap.size w w':=by
 have hmf:∀ (fn:Fn) (first cap:Array Value) (w:World),(Instr.makeFunc fn first cap).run Tryz.prog w=.ok (.func fn first cap) w:=fun _ _ _ _=>rfl
 have HP:Hid (∀ (w1:World) (M:Lay),SrvIn w1 newS M→w.heap.size≤M.sb→Below w.heap.size w w1→Calls Tryz.prog 14 #[.slice lo l.length lc,.func (.func 35) #[] #[.pointer (some ⟨w1.heap.size,0,none⟩)]] (w1.alloc (.cells #[.pointer (some ⟨M.sb,0,none⟩)] 23)) fun e w'=>∃ sb TB:Nat,e=.returned (.tuple #[.pointer (some ⟨sb,0,none⟩),.pointer (some ⟨TB,0,none⟩),.bool true])∧Below w.heap.size w w'):=fun w1 M h1 h2 h3=>by
  obtain⟨w2,hw2⟩:∃ w2,w2=w1.alloc (.cells #[.pointer (some ⟨M.sb,0,none⟩)] 23):=⟨_,rfl⟩
  have hb2:Below w.heap.size w w2:=by rw [hw2];exact h3.alloc h3.size _
  have hs2:SrvIn w2 newS M:=by rw [hw2];exact h1.alloc _
  have hx2:w2.heap[w1.heap.size]?=some (.cells #[.pointer (some ⟨M.sb,0,none⟩)] 23 (0,0)):=by rw [hw2];exact at_new w1 _
  have hmut:∀ b,Mut newS M b→b=M.sb:=by
   rintro b (e | ⟨i,_,hc,_⟩)
   ·exact e
   ·cases hc
  rw [←hw2]
  refine(playMem_any w1.heap.size (fun b=>b=M.sb) (MemE w2 l w1.heap.size M.sb) l lo lc w2 (hr.kept (Kp.of_below (fun _=>False) hb2) (fun _ _ _ e=>e)) (fun b off hne e hm=>?_) hb hlen (mem_eok w2 l _ _) (fun L wr hs hsz hbw=>?_) (fun k hk h100 L TB T wr h he=>?_)).mono ?_
  ·obtain⟨b',off',e1,e2,_⟩:=hr.at (k:=0) (List.length_pos_iff.2 hne)
   rw [e] at e1
   simp only [Option.some.injEq,Addr.mk.injEq] at e1
   have:b=M.sb:=hm
   omega
  ·exact⟨M,below_block hbw hx2 (Array.getElem?_eq_some_iff.1 hx2).1,rfl,hs2.below hbw,fun b hb'=>.inl (hmut b hb'),fun b h4 h5=>by
    have e1:=hmut b h5
    have e2:=hs2.mut_lt h5
    rcases h4 with e | ⟨i,_,hc,_⟩
    ·omega
    ·cases hc⟩
  ·refine(mem_look l hb w2 w1.heap.size M.sb k hk h100 L TB T wr h he).mono ?_
   rintro e w' ⟨rfl,h6,h7⟩
   exact⟨rfl,L,T,rfl,h6,h7⟩
  ·rintro e w' ⟨L,TB,T,he,h6,_⟩
   have hk:=h6.kp
   have hsz:=hb2.size
   exact⟨L.sb,TB,he,⟨hk.os.trans hb2.os,hk.tape.trans hb2.tape,hk.output.trans hb2.output,Nat.le_trans hsz hk.size,fun b hbl=>by rw [hk.block b (by omega) (by show ¬ b=_;omega),hb2.block b hbl]⟩⟩
 clear hr hb
 go_enter Tryz.func12,Tryz.ntmps12
 go_wp2_with (first
  | (go_at_call 23;refine(new_any _).mono ?_;rintro e w1 ⟨M,rfl,h1,h2,h3⟩;have H1:Hid (SrvIn w1 newS M∧w.heap.size≤M.sb∧Below w.heap.size w w1):=⟨h1,h2,h3⟩;clear h1 h2 h3)
  | (go_at_call 14;refine(HP.out _ M H1.out.1 H1.out.2.1 H1.out.2.2).mono ?_;rintro e w2 ⟨sb,TB,rfl,h2⟩;have H2:Hid (Below w.heap.size w w2):=h2;clear h2))
 go_ret
 exact⟨rfl,H2.out⟩
end Go.Proofs.YtjikokfjnbhngaaGreatDoor.Sv
