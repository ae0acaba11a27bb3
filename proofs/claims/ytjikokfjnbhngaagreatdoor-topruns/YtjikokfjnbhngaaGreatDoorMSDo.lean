/- Several texts in one, each as it was: SDo, SNew0, SNew, SKeep. -/
import Derived.Test.YtjikokfjnbhngaaGreatDoorMSView
import Derived.Test.YtjikokfjnbhngaaGreatDoorMSClient
import Derived.Test.YtjikokfjnbhngaaGreatDoorMSPut
import Derived.Test.YtjikokfjnbhngaaGreatDoorMSTell

/- An act is done. -/
namespace Go.Proofs.YtjikokfjnbhngaaGreatDoor.Sv
open Go.RowKit
set_option maxRecDepth 100000
def DoEnd (w:World) (S:Srv) (L:Lay) (X:Srv×Rp) (e:Ending) (w':World):Prop:=e=.returned (rpval X.2)∧∃ L',SrvTo w S L X.1 L' w'
structure DoIn (w:World) (S:Srv) (L:Lay) (a:Ac) (T:Srv) (L2:Lay) (w':World):Prop where
 via:SrvTo w S L T L2 w'
 rp:w'.heap[w.heap.size+1]?=some (rpbox (err 0))
 act:w'.heap[w.heap.size]?=some (abox a)
theorem do_in {w:World} {S:Srv} {L:Lay} (h:SrvIn w S L) (a:Ac):DoIn w S L a (countS S) L (((w.setCell ⟨L.sb,85,none⟩ (.int .i64 ((S.acts:Int)+1))).alloc (abox a)).alloc (rpbox (err 0))):=by
 have hk:=set_kp w L.sb 85 (.int .i64 ((S.acts:Int)+1))
 have ok:WkS (countS S):=⟨h.ok.t,h.ok.w1,h.ok.w2,h.ok.h1,h.ok.h2,h.ok.grid,h.ok.par,h.ok.cl⟩
 have h1:=sb_nums h hk ok (put_acts h) rfl rfl rfl rfl
 have hsz:(w.setCell ⟨L.sb,85,none⟩ (.int .i64 ((S.acts:Int)+1))).heap.size=w.heap.size:=by simp
 generalize w.setCell ⟨L.sb,85,none⟩ (.int .i64 ((S.acts:Int)+1))=W at*
 refine⟨h1.later ((below1 _ _).alloc (by simp) _),?_,?_⟩
 ·have:=at_new (W.alloc (abox a)) (rpbox (err 0))
  rw [←hsz]
  simpa using this
 ·rw [←hsz]
  exact at_old (at_new W _) _
theorem DoIn.next {w:World} {S:Srv} {L:Lay} {a:Ac} {T U:Srv} {L2 L3:Lay} {W W':World} (h:DoIn w S L a T L2 W) (k:SrvTo W T L2 U L3 W'):DoIn w S L a U L3 W':=
 ⟨h.via.trans k,k.kp.at h.rp (h.via.srv.other h.rp (by decide) (by decide)),k.kp.at h.act (h.via.srv.other h.act (by decide) (by decide))⟩
theorem DoIn.reply {w:World} {S:Srv} {L:Lay} {a:Ac} {T:Srv} {L2:Lay} {W:World} (h:DoIn w S L a T L2 W) (u0 u1 u2:Value):SrvTo w S L T L2 (((W.setCell ⟨w.heap.size+1,0,none⟩ u0).setCell ⟨w.heap.size+1,1,none⟩ u1).setCell ⟨w.heap.size+1,2,none⟩ u2):=
 h.via.reply h.rp (by omega) u0 u1 u2
theorem beq_one (n:Int):(n==1)=decide (n=1):=by
 by_cases h:n=1
 ·rw [h];rfl
 ·rw [decide_eq_false h];exact beq_false_of_ne h
theorem do_full (a:Ac) (w:World) (S:Srv) (L:Lay) (h:SrvIn w S L) (hf:S.acts=300):
  Calls Tryz.prog 19 #[.pointer (some ⟨L.sb,0,none⟩),aval a] w (DoEnd w S L (S,err 5)):=by
 have HE:Hid (∀ o1 o2:Obj,SrvTo w S L S L ((w.alloc o1).alloc o2)):=fun o1 o2=>(SrvTo.refl h).later ((below1 _ _).alloc (by simp) _)
 have ha:=h.acts
 rw [hf] at ha
 have hlt:=(Array.getElem?_eq_some_iff.1 h.box).1
 clear h hf
 go_enter Tryz.func19,Tryz.ntmps19
 go_wp2
 exact bodyPost_ret (v:=rpval (err 5)) (by simp [results,Tryz.results19,go_sem, *];exact⟨rfl,rfl,rfl⟩) rfl ⟨rfl,L,HE.out _ _⟩
set_option maxHeartbeats 1000000 in
theorem do_split (p n m:Int) (bytes:List UInt8) (w:World) (S:Srv) (L:Lay) (h:SrvIn w S L) (hf:S.acts < 300):
  Calls Tryz.prog 19 #[.pointer (some ⟨L.sb,0,none⟩),aval ⟨1,p,n,m,bytes⟩] w (DoEnd w S L (splitS (countS S) p (decide (n=1)))):=by
 have HI:Hid (DoIn w S L ⟨1,p,n,m,bytes⟩ (countS S) L (((w.setCell ⟨L.sb,85,none⟩ (.int .i64 ((S.acts:Int)+1))).alloc (abox ⟨1,p,n,m,bytes⟩)).alloc (rpbox (err 0)))):=do_in h _
 obtain⟨X,hX⟩:∃ X:Srv×Rp,X=splitS (countS S) p (decide (n=1)):=⟨_,rfl⟩
 have HC:Hid (∀ (W:World) (b:Bool),b=decide (n=1)→DoIn w S L ⟨1,p,n,m,bytes⟩ (countS S) L W→Calls Tryz.prog 40 #[.pointer (some ⟨L.sb,0,none⟩),.int .i64 p,.bool b] W fun e w'=>e=.returned (rpval X.2)∧∃ L',DoIn w S L ⟨1,p,n,m,bytes⟩ X.1 L' w'):=fun W b hb hW=>by
  rw [hb,hX]
  refine(split_srv p (decide (n=1)) W (countS S) L hW.via.srv).mono ?_
  rintro e w' ⟨rfl,L',h2⟩
  exact⟨rfl,L',hW.next h2⟩
 rw [←hX]
 have ha:=h.acts
 have hlt:=(Array.getElem?_eq_some_iff.1 h.box).1
 have hfz:=h.frozen
 have hne:¬ (S.acts:Int)=300:=by omega
 have hlo:(S.acts:Int) < 300:=by omega
 have hlo2:0≤(S.acts:Int):=by omega
 clear h hX hf
 generalize (S.acts:Int)=N at*
 go_enter Tryz.func19,Tryz.ntmps19
 go_wp2_with (go_at_call 40;refine(HC.out _ (n==1) (beq_one n) HI.out).mono ?_;rintro e w2 ⟨rfl,L2,h2⟩;have H2:Hid (DoIn w S L ⟨1,p,n,m,bytes⟩ X.1 L2 w2):=h2;obtain⟨⟨r0,r1,r2⟩,rf⟩:=three h2.rp;have hl2:=(Array.getElem?_eq_some_iff.1 h2.rp).1;clear h2)
 refine bodyPost_ret (v:=rpval X.2) (by simp [results,Tryz.results19,go_sem, *]) rfl ?_
 exact⟨rfl,L2,H2.out.reply _ _ _⟩
set_option maxHeartbeats 1000000 in
theorem do_drain (p n m:Int) (bytes:List UInt8) (w:World) (S:Srv) (L:Lay) (h:SrvIn w S L) (hf:S.acts < 300):
  Calls Tryz.prog 19 #[.pointer (some ⟨L.sb,0,none⟩),aval ⟨9,p,n,m,bytes⟩] w (DoEnd w S L (drainS (countS S) p n)):=by
 have HI:Hid (DoIn w S L ⟨9,p,n,m,bytes⟩ (countS S) L (((w.setCell ⟨L.sb,85,none⟩ (.int .i64 ((S.acts:Int)+1))).alloc (abox ⟨9,p,n,m,bytes⟩)).alloc (rpbox (err 0)))):=do_in h _
 obtain⟨X,hX⟩:∃ X:Srv×Rp,X=drainS (countS S) p n:=⟨_,rfl⟩
 have HC:Hid (∀ (W:World),DoIn w S L ⟨9,p,n,m,bytes⟩ (countS S) L W→Calls Tryz.prog 41 #[.pointer (some ⟨L.sb,0,none⟩),.int .i64 p,.int .i64 n] W fun e w'=>e=.returned (rpval X.2)∧∃ L',DoIn w S L ⟨9,p,n,m,bytes⟩ X.1 L' w'):=fun W hW=>by
  rw [hX]
  refine(drain_any p n W (countS S) L hW.via.srv).mono ?_
  rintro e w' ⟨rfl,L',h2⟩
  exact⟨rfl,L',hW.next h2⟩
 rw [←hX]
 have ha:=h.acts
 have hlt:=(Array.getElem?_eq_some_iff.1 h.box).1
 have hfz:=h.frozen
 have hne:¬ (S.acts:Int)=300:=by omega
 have hlo:(S.acts:Int) < 300:=by omega
 have hlo2:0≤(S.acts:Int):=by omega
 clear h hX hf
 generalize (S.acts:Int)=N at*
 go_enter Tryz.func19,Tryz.ntmps19
 go_wp2_with (go_at_call 41;refine(HC.out _ HI.out).mono ?_;rintro e w2 ⟨rfl,L2,h2⟩;have H2:Hid (DoIn w S L ⟨9,p,n,m,bytes⟩ X.1 L2 w2):=h2;obtain⟨⟨r0,r1,r2⟩,rf⟩:=three h2.rp;have hl2:=(Array.getElem?_eq_some_iff.1 h2.rp).1;clear h2)
 refine bodyPost_ret (v:=rpval X.2) (by simp [results,Tryz.results19,go_sem, *]) rfl ?_
 exact⟨rfl,L2,H2.out.reply _ _ _⟩
set_option maxHeartbeats 1000000 in
theorem do_change (a:Ac) (hl:a.bytes.length≤140737488355328) (w:World) (S:Srv) (L:Lay) (h:SrvIn w S L) (okv:OkV S.v) (hf:S.acts < 300) (k1:¬ a.kind=1) (k9:¬ a.kind=9):
  Calls Tryz.prog 19 #[.pointer (some ⟨L.sb,0,none⟩),aval a] w (DoEnd w S L ((changeS (countS S) a).1,err (changeS (countS S) a).2)):=by
 have HI:Hid (DoIn w S L a (countS S) L (((w.setCell ⟨L.sb,85,none⟩ (.int .i64 ((S.acts:Int)+1))).alloc (abox a)).alloc (rpbox (err 0)))):=do_in h _
 obtain⟨X,hX⟩:∃ X:Srv×Int,X=changeS (countS S) a:=⟨_,rfl⟩
 have HC:Hid (∀ (W:World),DoIn w S L a (countS S) L W→Calls Tryz.prog 42 #[.pointer (some ⟨L.sb,0,none⟩),aval a] W fun e w'=>e=.returned (.int .i64 X.2)∧∃ L',DoIn w S L a X.1 L' w'):=fun W hW=>by
  rw [hX]
  refine(change_any a hl W (countS S) L hW.via.srv okv).mono ?_
  rintro e w' ⟨rfl,L',h2⟩
  exact⟨rfl,L',hW.next h2⟩
 rw [←hX]
 have ha:=h.acts
 have hlt:=(Array.getElem?_eq_some_iff.1 h.box).1
 have hfz:=h.frozen
 have hne:¬ (S.acts:Int)=300:=by omega
 have hlo:(S.acts:Int) < 300:=by omega
 have hlo2:0≤(S.acts:Int):=by omega
 clear h hX hf hl okv
 generalize (S.acts:Int)=N at*
 go_enter Tryz.func19,Tryz.ntmps19
 go_wp2_with (go_at_call 42;refine(HC.out _ HI.out).mono ?_;rintro e w2 ⟨rfl,L2,h2⟩;have H2:Hid (DoIn w S L a X.1 L2 w2):=h2;obtain⟨⟨r0,r1,r2⟩,rf⟩:=three h2.rp;have hl2:=(Array.getElem?_eq_some_iff.1 h2.rp).1;clear h2)
 refine bodyPost_ret (v:=rpval (err X.2)) (by simp [results,Tryz.results19,go_sem, *];exact⟨rfl,rfl,rfl⟩) rfl ?_
 exact⟨rfl,L2,H2.out.reply _ _ _⟩
theorem do_any (a:Ac) (hl:a.bytes.length≤140737488355328) (w:World) (S:Srv) (L:Lay) (h:SrvIn w S L) (ok:OkS S):
  Calls Tryz.prog 19 #[.pointer (some ⟨L.sb,0,none⟩),aval a] w (DoEnd w S L (doS S a)):=by
 unfold doS
 by_cases hf:S.acts=300
 ·rw [if_pos hf]
  exact do_full a w S L h hf
 rw [if_neg hf]
 have hf':S.acts < 300:=by have:=ok.acts;omega
 unfold actS
 by_cases k1:a.kind=1
 ·rw [if_pos k1]
  obtain⟨kind,p,n,m,bytes⟩:=a
  simp only at k1
  subst k1
  exact do_split p n m bytes w S L h hf'
 rw [if_neg k1]
 by_cases k9:a.kind=9
 ·rw [if_pos k9]
  obtain⟨kind,p,n,m,bytes⟩:=a
  simp only at k9
  subst k9
  exact do_drain p n m bytes w S L h hf'
 rw [if_neg k9]
 exact do_change a hl w S L h ok.v hf' k1 k9
end Go.Proofs.YtjikokfjnbhngaaGreatDoor.Sv

/- A new server, before its pane has a screen: what is built. -/
namespace Go.Proofs.YtjikokfjnbhngaaGreatDoor.Sv
open Go.RowKit
open Go.Proofs.YtjikokfjnbhngaaGreatDoor.Tl (CIt colsOf RdT TyT cv)
open Go.Proofs.YtjikokfjnbhngaaGreatDoor.Pt (Vw vlist vcells)
set_option maxRecDepth 100000
def newS0:Srv:=⟨⟨[[0]],fun _=>noG,20,7,0⟩,fun _=>Ps.ground,fun _=>none,0⟩
def newL (a b s:Nat):Lay:=⟨s,⟨some ⟨b,0,none⟩,1,[([0],some ⟨a,0,none⟩,1)],fun _=>none,fun _=>0⟩,fun _=>none,fun _=>0,fun _=>0,fun _=>none,fun _=>0⟩
theorem newS_eq:newS={newS0 with v:=fitV newS0.v}:=rfl
theorem wk_new0:WkS newS0:=⟨ok_newS.v.t,ok_newS.v.w1,ok_newS.v.w2,ok_newS.v.h1,ok_newS.v.h2,fun _ _=>.inl rfl,ok_newS.par,fun _ _ _ hc=>(by cases hc)⟩
@[reducible] def nbox:Obj:=.cells #[.int .i64 0] 3
@[reducible] def cobox (a:Nat):Obj:=.cells #[.slice (some ⟨a,0,none⟩) 1 1] 35
theorem new_in {w:World} {a b s:Nat} (ha:w.heap[a]?=some nbox) (hb:w.heap[b]?=some (cobox a)) (hs:w.heap[s]?=some (sbox newS0 (newL a b s))):SrvIn w newS0 (newL a b s):=by
 refine⟨wk_new0,hs,rfl,⟨?_,?_⟩,⟨?_,?_⟩,fun p _=>.inl ⟨rfl,rfl,rfl⟩,fun p _=>Ps.own_nil _ _,fun _ _ _ hc=>(by cases hc),fun _ _ _ _ _ h1 _=>(by cases h1)⟩
 ·intro x hx
  simp only [newL,List.mem_singleton] at hx
  subst hx
  refine⟨.inr ⟨a,0,rfl,fun j hj=>?_⟩,fun h=>by cases h⟩
  have:j=0:=by simpa using hj
  subst this
  exact cell_of_row w a 0 _ _ _ ha
 ·refine .inr ⟨b,0,rfl,fun k hk=>?_⟩
  have:k=0:=by simpa [newL] using hk
  subst this
  exact cell_of_row w b 0 _ _ _ hb
 ·intro x hx
  cases hx
  exact⟨_,hb⟩
 ·intro x hx y hy
  simp only [newL,List.mem_singleton] at hx
  subst hx
  cases hy
  exact⟨_,ha⟩
theorem run_build_nv (a b s:Nat) (w:World):(Instr.build 58 #[(0,.agg #[.slice (some ⟨b,0,none⟩) 1 1]),(2,.int .i64 20),(3,.int .i64 7)]).run Tryz.prog w=.ok (.agg (vcells newS0.v (newL a b s).l)) w:=by
 simp only [Instr.build,Sem.run_bind,Pt.zero_view,Result.andThen_ok]
 kernel_rfl
theorem run_build_ns (a b s:Nat) (w:World):(Instr.build 86 #[(0,.agg (vcells newS0.v (newL a b s).l))]).run Tryz.prog w=.ok (.agg (scells newS0 (newL a b s))) w:=by
 simp only [Instr.build,Sem.run_bind,Tryz.zeroValue86,Result.andThen_ok]
 kernel_rfl
theorem wpList_build_nv {ops:Array Oper} {rest:List Oper} {op:Oper} {ac:Act} {w:World} {Q:Exit→Act→World→Prop} (a b s:Nat) (hgd:op.guard=none) (x0 x1 x2:Operand) (ho:op.op=.build 58 #[(0,x0),(2,x1),(3,x2)])
  (h0:ac.eval x0=.agg #[.slice (some ⟨b,0,none⟩) 1 1]) (h1:ac.eval x1=.int .i64 20) (h2:ac.eval x2=.int .i64 7)
  (h:wpList Tryz.prog ops Q rest (ac.put op.dst (.agg (vcells newS0.v (newL a b s).l))) w):wpList Tryz.prog ops Q (op::rest) ac w:=
 Pt.wpList_run hgd (by
  have hp:((#[(0,x0),(2,x1),(3,x2)]:Array (Nat×Operand)).map fun(i,x)=>(i,ac.eval x))=#[(0,.agg #[.slice (some ⟨b,0,none⟩) 1 1]),(2,.int .i64 20),(3,.int .i64 7)]:=by simp [h0,h1,h2]
  unfold execOp
  simp only [ho,hp,Sem.run_bind,run_build_nv a b s,Result.andThen_ok,Sem.run_pure]) h
theorem wpList_build_ns {ops:Array Oper} {rest:List Oper} {op:Oper} {ac:Act} {w:World} {Q:Exit→Act→World→Prop} (a b s:Nat) (hgd:op.guard=none) (x0:Operand) (ho:op.op=.build 86 #[(0,x0)])
  (h0:ac.eval x0=.agg (vcells newS0.v (newL a b s).l))
  (h:wpList Tryz.prog ops Q rest (ac.put op.dst (.agg (scells newS0 (newL a b s)))) w):wpList Tryz.prog ops Q (op::rest) ac w:=
 Pt.wpList_run hgd (by
  have hp:((#[(0,x0)]:Array (Nat×Operand)).map fun(i,x)=>(i,ac.eval x))=#[(0,.agg (vcells newS0.v (newL a b s).l))]:=by simp [h0]
  unfold execOp
  simp only [ho,hp,Sem.run_bind,run_build_ns a b s,Result.andThen_ok,Sem.run_pure]) h
end Go.Proofs.YtjikokfjnbhngaaGreatDoor.Sv

/- A new server. -/
namespace Go.Proofs.YtjikokfjnbhngaaGreatDoor.Sv
open Go.RowKit
set_option maxRecDepth 100000
theorem new_mem (w:World) (a b s:Nat) (ha:a=w.heap.size) (hb:b=w.heap.size+1) (hs:s=w.heap.size+2):SrvIn (((w.alloc nbox).alloc (cobox a)).alloc (sbox newS0 (newL a b s))) newS0 (newL a b s):=by
 subst ha
 subst hb
 subst hs
 refine new_in (at_old (at_old (at_new w _) _) _) (at_old ?_ _) ?_
 ·have:=at_new (w.alloc nbox) (cobox w.heap.size)
  simpa using this
 ·have:=at_new ((w.alloc nbox).alloc (cobox w.heap.size)) (sbox newS0 (newL w.heap.size (w.heap.size+1) (w.heap.size+2)))
  simpa using this
theorem new_any (w:World):Calls Tryz.prog 23 #[] w fun e w'=>∃ L,e=.returned (.pointer (some ⟨L.sb,0,none⟩))∧SrvIn w' newS L∧w.heap.size≤L.sb∧Below w.heap.size w w':=by
 have HM:Hid (SrvIn (((w.alloc nbox).alloc (cobox w.heap.size)).alloc (sbox newS0 (newL w.heap.size (w.heap.size+1) (w.heap.size+2)))) newS0 (newL w.heap.size (w.heap.size+1) (w.heap.size+2))):=new_mem w _ _ _ rfl rfl rfl
 have HB:Hid (∀ o1 o2 o3:Obj,Below w.heap.size w (((w.alloc o1).alloc o2).alloc o3)):=fun o1 o2 o3=>((below1 _ _).alloc (by simp) _).alloc (by simp;omega) _
 have HF:Hid (∀ W,SrvIn W newS0 (newL w.heap.size (w.heap.size+1) (w.heap.size+2))→Below w.heap.size w W→Calls Tryz.prog 45 #[.pointer (some ⟨w.heap.size+2,0,none⟩)] W fun e w'=>e=.returned (.tuple #[])∧∃ L,L.sb=w.heap.size+2∧SrvIn w' newS L∧Below w.heap.size w w'):=fun W hW hb=>by
  refine(fit_any W newS0 _ hW).mono ?_
  rintro e w' ⟨rfl,L',h'⟩
  have hsz:=hb.size
  refine⟨rfl,L',h'.sb,h'.srv,⟨h'.kp.os.trans hb.os,h'.kp.tape.trans hb.tape,h'.kp.output.trans hb.output,Nat.le_trans hb.size h'.kp.size,fun i hi=>?_⟩⟩
  rw [h'.kp.block i (by omega) ?_,hb.block i hi]
  rintro(e | ⟨j,_,hj,_⟩)
  ·have e':i=w.heap.size+2:=e
   omega
  ·cases hj
 go_enter Tryz.func23,Tryz.ntmps23
 go_wp2_with (first
  | (refine wpList_build_nv w.heap.size (w.heap.size+1) (w.heap.size+2) rfl _ _ _ rfl rfl rfl rfl ?_)
  | (refine wpList_build_ns w.heap.size (w.heap.size+1) (w.heap.size+2) rfl _ rfl rfl ?_)
  | (go_at_call 45;refine(HF.out _ HM.out (HB.out _ _ _)).mono ?_;rintro e w1 ⟨rfl,L1,h1,h2,h3⟩;have H1:Hid (L1.sb=w.heap.size+2∧SrvIn w1 newS L1∧Below w.heap.size w w1):=⟨h1,h2,h3⟩;clear h1 h2 h3))
 go_ret
 exact⟨L1,by rw [H1.out.1];rfl,H1.out.2.1,by rw [H1.out.1];omega,H1.out.2.2⟩
end Go.Proofs.YtjikokfjnbhngaaGreatDoor.Sv

/- A server behind a base, and boxes that it never writes. -/
namespace Go.Proofs.YtjikokfjnbhngaaGreatDoor.Sv
open Go.RowKit
open Go.Proofs.YtjikokfjnbhngaaGreatDoor.Pt (Vw VC RdV vcells)
set_option maxRecDepth 100000
abbrev Bx:=Nat×Array Value×TypeId
structure SrvK (w0:World) (ks:List Bx) (w:World) (S:Srv) (L:Lay):Prop where
 srv:SrvIn w S L
 mine:∀ b,Mut S L b→w0.heap.size≤b
 below:Below w0.heap.size w0 w
 ks:∀ k∈ks,w.heap[k.1]?=some (.cells k.2.1 k.2.2 (0,0))∧¬ Ours k.2.2
theorem SrvTo.keeps {w:World} {S:Srv} {L:Lay} {S':Srv} {L':Lay} {w':World} (h:SrvTo w S L S' L' w') (hs:SrvIn w S L) {b:Nat} {c:Array Value} {t:TypeId} (hb:w.heap[b]?=some (.cells c t (0,0))) (h1:86≠t) (h2:81≠t):w'.heap[b]?=some (.cells c t (0,0)):=
 h.kp.at hb (hs.other hb h1 h2)
theorem SrvK.to {w0:World} {ks:List Bx} {w:World} {S:Srv} {L:Lay} {S':Srv} {L':Lay} {w':World} (h:SrvK w0 ks w S L) (k:SrvTo w S L S' L' w'):SrvK w0 ks w' S' L':=by
 have hsz:=h.below.size
 refine⟨k.srv,fun b hb=>(k.mut hb).elim (h.mine b) (fun e=>by omega),⟨k.kp.os.trans h.below.os,k.kp.tape.trans h.below.tape,k.kp.output.trans h.below.output,Nat.le_trans hsz k.kp.size,fun i hi=>?_⟩,fun x hx=>?_⟩
 ·rw [k.kp.block i (by omega) (fun e=>by have:=h.mine i e;omega),h.below.block i hi]
 ·obtain⟨h1,h2⟩:=h.ks x hx
  exact⟨k.keeps h.srv h1 (fun e=>h2 (.inl e.symm)) (fun e=>h2 (.inr (.inl e.symm))),h2⟩
theorem SrvK.later {w0:World} {ks:List Bx} {w w':World} {S:Srv} {L:Lay} (h:SrvK w0 ks w S L) (hb:Below w.heap.size w w'):SrvK w0 ks w' S L:=
 ⟨h.srv.below hb,h.mine,h.below.trans (hb.mono h.below.size),fun x hx=>⟨below_block hb (h.ks x hx).1 (Array.getElem?_eq_some_iff.1 (h.ks x hx).1).1,(h.ks x hx).2⟩⟩
theorem SrvK.add {w0:World} {ks:List Bx} {w:World} {S:Srv} {L:Lay} (h:SrvK w0 ks w S L) (c:Array Value) (t:TypeId) (ht:¬ Ours t):SrvK w0 ((w.heap.size,c,t)::ks) (w.alloc (.cells c t)) S L:=by
 have h2:=h.later (below1 w (.cells c t))
 refine⟨h2.srv,h2.mine,h2.below,fun x hx=>?_⟩
 rcases List.mem_cons.1 hx with e | e
 ·rw [e];exact⟨at_new w _,ht⟩
 ·exact h2.ks x e
theorem SrvK.less {w0:World} {ks js:List Bx} {w:World} {S:Srv} {L:Lay} (h:SrvK w0 ks w S L) (hk:∀ x∈js,x∈ks):SrvK w0 js w S L:=⟨h.srv,h.mine,h.below,fun x hx=>h.ks x (hk x hx)⟩
theorem SrvK.new {w0 w w':World} {ks:List Bx} {L:Lay} (hb0:Below w0.heap.size w0 w) (hks:∀ k∈ks,w.heap[k.1]?=some (.cells k.2.1 k.2.2 (0,0))∧¬ Ours k.2.2) (h1:SrvIn w' newS L) (h2:w.heap.size≤L.sb) (hb:Below w.heap.size w w'):SrvK w0 ks w' newS L:=by
 have hsz:=hb0.size
 refine⟨h1,?_,hb0.trans (hb.mono hsz),fun x hx=>⟨below_block hb (hks x hx).1 (Array.getElem?_eq_some_iff.1 (hks x hx).1).1,(hks x hx).2⟩⟩
 rintro b (e | ⟨i,_,hc,_⟩)
 ·rw [e];omega
 ·cases hc
theorem act_foreign:¬ Ours 28:=by unfold Ours;decide
theorem rep_foreign:¬ Ours 31:=by unfold Ours;decide
theorem infoRp:(Tryz.prog.info? 31).map (·.size)=some 3:=by kernel_rfl
theorem infoAc:(Tryz.prog.info? 28).map (·.size)=some 5:=by kernel_rfl
theorem rp_one (r:Rp):(rpcells r).all (·.oneCell')=true:=by simp [Value.oneCell']
theorem ac_one (a:Ac):(acells a).all (·.oneCell')=true:=by simp [Value.oneCell']
theorem doK (a:Ac) (hl:a.bytes.length≤140737488355328) {w0:World} {ks:List Bx} {w:World} {S:Srv} {L:Lay} (h:SrvK w0 ks w S L) (ok:OkS S):
  Calls Tryz.prog 19 #[.pointer (some ⟨L.sb,0,none⟩),aval a] w fun e w'=>e=.returned (rpval (doS S a).2)∧∃ L',L'.sb=L.sb∧SrvK w0 ks w' (doS S a).1 L':=by
 refine(do_any a hl w S L h.srv ok).mono ?_
 rintro e w' ⟨rfl,L',h'⟩
 exact⟨rfl,L',h'.sb,h.to h'⟩
theorem clientK (i:Int) {w0:World} {ks:List Bx} {w:World} {S:Srv} {L:Lay} (h:SrvK w0 ks w S L):
  Calls Tryz.prog 16 #[.pointer (some ⟨L.sb,0,none⟩),.int .i64 i] w fun e w'=>e=.returned (.tuple (clR (hereS S i)))∧SrvK w0 ks w' S L:=by
 refine(client_any i w S L h.srv).mono ?_
 rintro e w' ⟨rfl,n,rfl⟩
 exact⟨rfl,h.later (below_drewN (Below.refl _ _) n)⟩
theorem viewK {w0:World} {ks:List Bx} {w:World} {S:Srv} {L:Lay} (h:SrvK w0 ks w S L):
  Calls Tryz.prog 25 #[.pointer (some ⟨L.sb,0,none⟩)] w fun e w'=>∃ l,e=.returned (.agg (vcells S.v l))∧VOwn w.heap.size w' S.v l∧SrvK w0 ks w' S L∧Below w.heap.size w w':=by
 refine(view_any w S L h.srv).mono ?_
 rintro e w' ⟨l,rfl,h1,h2⟩
 exact⟨l,rfl,h1,h.later h2,h2⟩
theorem newK {w0 w:World} {ks:List Bx} (hb0:Below w0.heap.size w0 w) (hks:∀ k∈ks,w.heap[k.1]?=some (.cells k.2.1 k.2.2 (0,0))∧¬ Ours k.2.2):
  Calls Tryz.prog 23 #[] w fun e w'=>∃ L,e=.returned (.pointer (some ⟨L.sb,0,none⟩))∧w.heap.size≤L.sb∧SrvK w0 ks w' newS L∧Below w.heap.size w w':=by
 refine(new_any w).mono ?_
 rintro e w' ⟨L,rfl,h1,h2,h3⟩
 exact⟨L,rfl,h2,SrvK.new hb0 hks h1 h2 h3,h3⟩
end Go.Proofs.YtjikokfjnbhngaaGreatDoor.Sv
