/- In the midst of a round of 'play'. -/
import Derived.Test.YtjikokfjnbhngaaGreatDoorMSAlive
namespace Go.Proofs.YtjikokfjnbhngaaGreatDoor.Sv
open Go.RowKit
set_option maxRecDepth 100000
structure EOk (w:World) (E:Nat→Srv→Lay→World→Prop):Prop where
 onto:∀ k S L S' L' wr wr',SrvIn wr S L→(∀ b,Mut S L b→w.heap.size≤b)→E k S L wr→SrvTo wr S L S' L' wr'→E k S' L' wr'
 later:∀ k S L wr wr',E k S L wr→Below wr.heap.size wr wr'→E k S L wr'
 term:∀ k S L wr wr' TB t T,TmIn wr t TB T→w.heap.size≤TB→E k S L wr→Kp (fun b=>b=TB) wr wr'→E k S L wr'
theorem eok_true (w:World):EOk w (fun _ _ _ _=>True):=⟨fun _ _ _ _ _ _ _ _ _ _ _=>trivial,fun _ _ _ _ _ _ _=>trivial,fun _ _ _ _ _ _ _ _ _ _ _ _=>trivial⟩
structure RnIn (M:Nat→Prop) (w:World) (E:Nat→Srv→Lay→World→Prop) (k:Nat) (S:Srv) (t:Nat→Tm) (L:Lay) (TB:Nat) (T:TL) (BA:Nat) (a:Ac) (BR:Nat) (r:Rp) (wr:World):Prop where
 pl:PlIn M w (S,t) L TB T wr
 e:E k S L wr
 ba:wr.heap[BA]?=some (abox a)
 br:wr.heap[BR]?=some (rpbox r)
theorem RnIn.later {M:Nat→Prop} {w:World} {E:Nat→Srv→Lay→World→Prop} (hE:EOk w E) {k:Nat} {S:Srv} {t:Nat→Tm} {L:Lay} {TB:Nat} {T:TL} {BA:Nat} {a:Ac} {BR:Nat} {r:Rp} {wr w':World} (h:RnIn M w E k S t L TB T BA a BR r wr) (hb:Below wr.heap.size wr w'):RnIn M w E k S t L TB T BA a BR r w':=
 ⟨h.pl.later hb,hE.later _ _ _ _ _ h.e hb,below_block hb h.ba (Array.getElem?_eq_some_iff.1 h.ba).1,below_block hb h.br (Array.getElem?_eq_some_iff.1 h.br).1⟩
theorem RnIn.term {M:Nat→Prop} {w:World} {E:Nat→Srv→Lay→World→Prop} (hE:EOk w E) {k:Nat} {S:Srv} {t:Nat→Tm} {L:Lay} {TB:Nat} {T:TL} {BA:Nat} {a:Ac} {BR:Nat} {r:Rp} {wr w':World} (h:RnIn M w E k S t L TB T BA a BR r wr) {t':Nat→Tm} {T':TL} (hk:Kp (fun b=>b=TB) wr w') (ht:TmIn w' t' TB T'):RnIn M w E k S t' L TB T' BA a BR r w':=by
 have ne:∀ (B:Nat) (c:Array Value) (ty:TypeId),ty≠76→wr.heap[B]?=some (.cells c ty (0,0))→w'.heap[B]?=some (.cells c ty (0,0)):=fun B c ty hty hB=>hk.at hB (fun e=>by
  subst e
  rw [h.pl.tms.box] at hB
  simp only [Option.some.injEq,Obj.cells.injEq] at hB
  exact hty hB.2.1.symm)
 exact⟨h.pl.term hk ht,hE.term _ _ _ _ _ _ _ _ h.pl.tms h.pl.tb h.e hk,ne _ _ _ (by decide) h.ba,ne _ _ _ (by decide) h.br⟩
theorem rn_do {M:Nat→Prop} {w:World} {E:Nat→Srv→Lay→World→Prop} (hE:EOk w E) {k:Nat} {S:Srv} {t:Nat→Tm} {L:Lay} {TB:Nat} {T:TL} {a:Ac} {r:Rp} {wr w':World} {S':Srv} {L':Lay} (h:PlIn M w (S,t) L TB T wr) (he:E k S L wr)
  (hs:SrvTo (wr.alloc (abox a)) S L S' L' w'):RnIn M w E k S' t L' TB T wr.heap.size a w'.heap.size r (w'.alloc (rpbox r)):=by
 have h1:=h.later (below1 wr (abox a))
 have he1:=hE.later _ _ _ _ _ he (below1 wr (abox a))
 have h2:=h1.to hs
 have he2:=hE.onto _ _ _ _ _ _ _ h1.srv h1.mine he1 hs
 exact⟨h2.later (below1 _ _),hE.later _ _ _ _ _ he2 (below1 _ _),at_old (hs.keeps h1.srv (at_new wr _) (by decide) (by decide)) _,at_new _ _⟩
theorem RnIn.s {M:Nat→Prop} {w:World} {E:Nat→Srv→Lay→World→Prop} {k:Nat} {S:Srv} {t:Nat→Tm} {L:Lay} {TB:Nat} {T:TL} {BA:Nat} {a:Ac} {BR:Nat} {r:Rp} {wr:World} (h:RnIn M w E k S t L TB T BA a BR r wr) {c0 k0 P:Int} (h0:r.code=c0) (hk:a.kind=k0) (hP:a.p=P):
  wr.cell? ⟨BA,0,none⟩=some (.int .i64 k0)∧wr.cell? ⟨BA,1,none⟩=some (.int .i64 P)∧wr.cell? ⟨BA,2,none⟩=some (.int .i64 a.n)∧wr.cell? ⟨BA,3,none⟩=some (.int .i64 a.m)∧wr.cell? ⟨BR,0,none⟩=some (.int .i64 c0)∧wr.cell? ⟨BR,2,none⟩=some (.string (bs r.out)):=by
 rw [←h0, ←hk, ←hP]
 exact⟨cell_of_row wr BA 0 _ _ _ h.ba,cell_of_row wr BA 1 _ _ _ h.ba,cell_of_row wr BA 2 _ _ _ h.ba,cell_of_row wr BA 3 _ _ _ h.ba,cell_of_row wr BR 0 _ _ _ h.br,cell_of_row wr BR 2 _ _ _ h.br⟩
theorem infoT13:(Tryz.prog.info? 42).map (·.size)=some 13:=by kernel_rfl
theorem tone (t:Tm) (pa:Option Addr) (pc:Nat) (ga:Option Addr) (gc:Nat):(tmc t pa pc ga gc).toArray.all (·.oneCell')=true:=by simp [Value.oneCell']
theorem rn_new {M:Nat→Prop} {w:World} {E:Nat→Srv→Lay→World→Prop} (hE:EOk w E) {k:Nat} {S:Srv} {t:Nat→Tm} {L:Lay} {TB:Nat} {T:TL} {BA:Nat} {a:Ac} {BR:Nat} {r:Rp} {wr w4:World} (h:RnIn M w E k S t L TB T BA a BR r wr) {P:Nat} (hP:P < 3) (hb:Below wr.heap.size wr w4) {b:Nat} {g:Gr} (hs:Scr w4 b g.n g.f):
  w4.there TB (P*13) 13∧RnIn M w E k S (upd t P ⟨Ps.ground,g⟩) L TB (T.put P none 0 (some ⟨b,0,none⟩) g.n) BA a BR r (w4.setCells TB (P*13) (tmc ⟨Ps.ground,g⟩ none 0 (some ⟨b,0,none⟩) g.n).toArray.toList):=by
 have h4:=h.later hE hb
 have hk:=setCells_kp TB (tmc ⟨Ps.ground,g⟩ none 0 (some ⟨b,0,none⟩) g.n).toArray.toList (P*13) w4
 have hbx:=setL_heap (tmc ⟨Ps.ground,g⟩ none 0 (some ⟨b,0,none⟩) g.n) (P*13) w4 _ h4.pl.tms.box
 rw [tall_put' t T P hP] at hbx
 refine⟨there_row h4.pl.tms.box (by rw [tall_size];omega),h4.term hE hk (h4.pl.tms.set P ⟨Ps.ground,g⟩ none 0 (some ⟨b,0,none⟩) g.n hk hbx (Ps.own_nil _ _) (.inr ⟨b,rfl,hs.move ?_,Nat.le_refl _⟩))⟩
 refine hk.block b hs.lt (fun e=>?_)
 subst e
 obtain⟨cur,h1,_⟩:=hs
 rw [h4.pl.tms.box] at h1
 simp only [Option.some.injEq,Obj.cells.injEq] at h1
 exact absurd h1.2.1 (by decide)
theorem rn_get {M:Nat→Prop} {w:World} {E:Nat→Srv→Lay→World→Prop} (hE:EOk w E) {k:Nat} {S:Srv} {t:Nat→Tm} {L:Lay} {TB:Nat} {T:TL} {BA:Nat} {a:Ac} {BR:Nat} {r:Rp} {wr:World} (h:RnIn M w E k S t L TB T BA a BR r wr) {P:Nat} (hP:P < 3) (ok:OkTm (t P)) (l:List UInt8) (hl:l.length≤1048576):
  Calls Tryz.prog 20 #[.pointer (some ⟨TB,P*13,none⟩),.string (bs l)] wr fun e w'=>e=.returned (.bool true)∧∃ T',RnIn M w E k S (upd t P (getT (t P) l)) L TB T' BA a BR r w':=by
 refine(get_any (t P) ok TB (P*13) _ _ _ _ l hl wr (h.pl.tms.at P hP) _ _ h.pl.tms.box (by rw [tall_size];omega) tm_foreign _ rfl).mono ?_
 rintro e w' ⟨rfl,pa,pc,ga,gc,hk,hb,hp,hg⟩
 rw [tall_put t T P hP] at hb
 exact⟨rfl,_,h.term hE hk (h.pl.tms.set P _ pa pc ga gc hk hb hp hg)⟩
def T0:TL:=⟨fun _=>none,fun _=>0,fun _=>none,fun _=>0⟩
theorem zero_tm (w:World):(zeroValue 76).run Tryz.prog w=.ok (.agg (tall (fun _=>zeroTm) T0).toArray) w:=Tryz.zeroValue76 w
theorem run_alloc_tm (w:World):(Instr.alloc 76 true (.tuple #[])).run Tryz.prog w=.ok (.pointer (some ⟨w.heap.size,0,none⟩)) (w.alloc (tmbox (fun _=>zeroTm) T0)):=by
 simp only [Instr.alloc,Sem.run_bind,zero_tm,Result.andThen_ok]
 rfl
theorem wpList_alloc_tm {ops:Array Oper} {rest:List Oper} {op:Oper} {a:Act} {w:World} {Q:Exit→Act→World→Prop} (hgd:op.guard=none) (ho:op.op=.alloc 76)
  (h:wpList Tryz.prog ops Q rest (a.put op.dst (.pointer (some ⟨w.heap.size,0,none⟩))) (w.alloc (tmbox (fun _=>zeroTm) T0))):wpList Tryz.prog ops Q (op::rest) a w:=
 Pt.wpList_run hgd (by unfold execOp;simp only [ho,Sem.run_bind,run_alloc_tm,Result.andThen_ok,Sem.run_pure]) h
theorem tm_start (w:World):TmIn (w.alloc (tmbox (fun _=>zeroTm) T0)) (fun _=>zeroTm) w.heap.size T0:=⟨at_new _ _,fun _ _=>Ps.own_nil _ _,fun _ _=>.inl ⟨rfl,rfl,rfl⟩⟩
theorem pl_start {M:Nat→Prop} {w w2:World} {L:Lay} (h1:SrvIn w2 newS L) (h2:w.heap.size≤L.sb) (h3:Below w.heap.size w w2):PlIn M w startP L w2.heap.size T0 (w2.alloc (tmbox (fun _=>zeroTm) T0)):=by
 refine⟨h1.alloc _,?_,tm_start w2,h3.size,Kp.of_below _ (h3.alloc h3.size _)⟩
 rintro b (e | ⟨i,_,hc,_⟩)
 ·rw [e];exact h2
 ·cases hc
theorem fiveA {w:World} {b:Nat} {a:Ac} (h:w.heap[b]?=some (abox a)):
  (w.cell? ⟨b,0,none⟩=some (.int .i64 a.kind)∧w.cell? ⟨b,1,none⟩=some (.int .i64 a.p)∧w.cell? ⟨b,2,none⟩=some (.int .i64 a.n)∧w.cell? ⟨b,3,none⟩=some (.int .i64 a.m)∧w.cell? ⟨b,4,none⟩=some (.string (bs a.bytes)))∧(∀ j,w.frozen? ⟨b,j,none⟩=false):=
 ⟨⟨cell_of_row w b 0 _ _ _ h,cell_of_row w b 1 _ _ _ h,cell_of_row w b 2 _ _ _ h,cell_of_row w b 3 _ _ _ h,cell_of_row w b 4 _ _ _ h⟩,fun j=>frozen_of_row w b j _ _ h⟩
theorem take_succ_play (l:List Ac) (k:Nat) (hk:k < l.length):playP (l.take (k+1))=stepP (playP (l.take k)) l[k]:=by
 rw [List.take_succ_eq_append_getElem hk,playP_succ]
theorem okp_take (l:List Ac) (k:Nat) (hk:k≤300) (hl:k≤l.length):OkP (playP (l.take k)) k:=by
 have:=okp_play (l.take k) (by simp;omega)
 rwa [List.length_take,Nat.min_eq_left hl] at this
def PlayEnd (M:Nat→Prop) (E:Nat→Srv→Lay→World→Prop) (l:List Ac) (w:World) (e:Ending) (w':World):Prop:=∃ L TB T,e=.returned (.tuple #[.pointer (some ⟨L.sb,0,none⟩),.pointer (some ⟨TB,0,none⟩),.bool true])∧PlIn M w (playP (l.take 100)) L TB T w'∧E (min l.length 100) (playP (l.take 100)).1 L w'
end Go.Proofs.YtjikokfjnbhngaaGreatDoor.Sv
