/- The law TopOthers. -/
import Derived.Test.YtjikokfjnbhngaaGreatDoorZTake
import Derived.Test.YtjikokfjnbhngaaGreatDoorMSTwo
import Derived.Test.YtjikokfjnbhngaaGreatDoorSLost0
namespace Go.Proofs.YtjikokfjnbhngaaGreatDoor.Sv
open Go.RowKit
open Go.Proofs.YtjikokfjnbhngaaGreatDoor.Pt (Vw VC RdV vcells vc zv zl gall infoV wpList_alloc_view)
set_option maxRecDepth 100000
def hv (S:Srv) (i:Nat):Bool:=(S.cl i).isSome
theorem clR_v (S:Srv) (i:Nat):clR (S.cl i)=#[.string (bs (qv S i)),.bool (lv S i),.bool (hv S i)]:=by
 unfold qv lv hv
 cases S.cl i <;>rfl
theorem SrvK.put {w0:World} {ks:List Bx} {w:World} {S:Srv} {L:Lay} (h:SrvK w0 ks w S L) {B:Nat} {c:Array Value} {t:TypeId} (hB:(B,c,t)∈ks) (hl:w0.heap.size≤B) (j:Nat) (u:Value) {js:List Bx} (hj:∀ k∈js,(k.1≠B∧k∈ks)∨k=(B,c.setIfInBounds j u,t)):SrvK w0 js (w.setCell ⟨B,j,none⟩ u) S L:=by
 obtain⟨h1,h2⟩:=h.ks _ hB
 refine⟨h.srv.set h1 h2 j u,h.mine,h.below.setCell (p:=⟨B,j,none⟩) hl u,fun k hk=>?_⟩
 rcases hj k hk with ⟨e1,e2⟩ | e
 ·obtain⟨h3,h4⟩:=h.ks k e2
  exact⟨by rw [Below.heap_setCell _ _ _ _ (by simpa using e1)];exact h3,h4⟩
 ·rw [e]
  exact⟨set_cells h1 u,h2⟩
@[reducible] def obox (BA:Nat) (a:Ac) (B:Nat) (f:Nat→List UInt8) (g h:Nat→Bool):List Bx:=[(BA,acells a,28),(B,scs f,47),(B+1,bcs g,48),(B+1+1,bcs h,48)]
theorem oh_step {w0:World} {BA:Nat} {a:Ac} {B:Nat} {S:Srv} {L:Lay} {w:World} {k:Nat} (hk:k < 3) {f0 f1:Nat→List UInt8} {g0 g1 h0 h1:Nat→Bool} (h:SrvK w0 (obox BA a B (mix k f0 f1) (mix k g0 g1) (mix k h0 h1)) w S L) (hA:BA < B) (hl:w0.heap.size≤B):
  SrvK w0 (obox BA a B (mix (k+1) f0 f1) (mix (k+1) g0 g1) (mix (k+1) h0 h1)) (((w.setCell ⟨B,k,none⟩ (.string (bs (f1 k)))).setCell ⟨B+1,k,none⟩ (.bool (g1 k))).setCell ⟨B+1+1,k,none⟩ (.bool (h1 k))) S L:=by
 have s1:SrvK w0 (obox BA a B (mix (k+1) f0 f1) (mix k g0 g1) (mix k h0 h1)) (w.setCell ⟨B,k,none⟩ (.string (bs (f1 k)))) S L:=h.put (B:=B) (c:=scs (mix k f0 f1)) (t:=47) (by simp) hl k _ (fun x hx=>by
  simp only [List.mem_cons,List.not_mem_nil,or_false] at hx
  rcases hx with e | e | e | e
  ·left;rw [e];exact⟨by dsimp only;omega,by simp⟩
  ·right;rw [e,scs_put f0 f1 k hk]
  ·left;rw [e];exact⟨by dsimp only;omega,by simp⟩
  ·left;rw [e];exact⟨by dsimp only;omega,by simp⟩)
 have s2:SrvK w0 (obox BA a B (mix (k+1) f0 f1) (mix (k+1) g0 g1) (mix k h0 h1)) ((w.setCell ⟨B,k,none⟩ (.string (bs (f1 k)))).setCell ⟨B+1,k,none⟩ (.bool (g1 k))) S L:=s1.put (B:=B+1) (c:=bcs (mix k g0 g1)) (t:=48) (by simp) (by omega) k _ (fun x hx=>by
  simp only [List.mem_cons,List.not_mem_nil,or_false] at hx
  rcases hx with e | e | e | e
  ·left;rw [e];exact⟨by dsimp only;omega,by simp⟩
  ·left;rw [e];exact⟨by dsimp only;omega,by simp⟩
  ·right;rw [e,bcs_put g0 g1 k hk]
  ·left;rw [e];exact⟨by dsimp only;omega,by simp⟩)
 exact s2.put (B:=B+1+1) (c:=bcs (mix k h0 h1)) (t:=48) (by simp) (by omega) k _ (fun x hx=>by
  simp only [List.mem_cons,List.not_mem_nil,or_false] at hx
  rcases hx with e | e | e | e
  ·left;rw [e];exact⟨by dsimp only;omega,by simp⟩
  ·left;rw [e];exact⟨by dsimp only;omega,by simp⟩
  ·left;rw [e];exact⟨by dsimp only;omega,by simp⟩
  ·right;rw [e,bcs_put h0 h1 k hk])
structure OvIn (w:World) (S0:Srv) (ks:List Bx) (S:Srv) (L:Lay) (v:Vw) (m:Pt.Lay) (C:Array Value) (VB B0:Nat) (wr:World):Prop where
 k:SrvK w ks wr S L
 vb:wr.heap[VB]?=some (Pt.cbox C)
 ow:VOwn B0 wr v m
 sv:S0.v=v
theorem OvIn.later {w:World} {S0:Srv} {ks:List Bx} {S:Srv} {L:Lay} {v:Vw} {m:Pt.Lay} {C:Array Value} {VB B0:Nat} {wr w':World} (h:OvIn w S0 ks S L v m C VB B0 wr) (hb:Below wr.heap.size wr w'):OvIn w S0 ks S L v m C VB B0 w':=⟨h.k.later hb,below_block hb h.vb (Array.getElem?_eq_some_iff.1 h.vb).1,h.ow.later hb,h.sv⟩
theorem OvIn.rv {w:World} {S0:Srv} {ks:List Bx} {S:Srv} {L:Lay} {v:Vw} {m:Pt.Lay} {C:Array Value} {VB B0:Nat} {wr:World} (h:OvIn w S0 ks S L v m C VB B0 wr) (ok:OkV v):RdV wr v m:=h.ow.rdV ok
set_option maxHeartbeats 8000000 in
theorem topOthers_any (l:List Ac) (lo:Option Addr) (lc:Nat) (a:Ac) (w:World) (hr:RdA w lo l) (hb:∀ a∈l,a.bytes.length≤140737488355328) (hlen:l.length≤4398046511104) (ha:a.bytes.length≤140737488355328):
  Calls Tryz.prog 9 #[.slice lo l.length lc,aval a] w fun e w'=>e=.returned (.bool true)∧Below w.heap.size w w':=by
 obtain⟨x,hx⟩:∃ x,x=playP (l.take 100):=⟨_,rfl⟩
 have okx:OkP x (min 100 l.length):=by
  have:=okp_play (l.take 100) (by simp;omega)
  rwa [List.length_take, ←hx] at this
 obtain⟨S,t⟩:=x
 have HP1:Hid (Calls Tryz.prog 14 #[.slice lo l.length lc,.func (.func 18) #[] #[]] (w.alloc (abox a)) fun e w'=>∃ L TB,e=.returned (.tuple #[.pointer (some ⟨L.sb,0,none⟩),.pointer (some ⟨TB,0,none⟩),.bool true])∧SrvK w (obox w.heap.size a w'.heap.size (mix 0 (fun _=>[]) (qv S)) (mix 0 (fun _=>false) (lv S)) (mix 0 (fun _=>false) (hv S))) (((w'.alloc (strbox (fun _=>[]))).alloc (boolbox (fun _=>false))).alloc (boolbox (fun _=>false))) S L∧w.heap.size < w'.heap.size):=by
  refine(quiet_any l lo lc _ (hr.below (below1 w (abox a))) hb hlen).mono ?_
  rintro e w' ⟨L,TB,T,he,h1⟩
  rw [←hx] at h1
  have b1:=kp_below h1.kp
  have hsz:=b1.size
  have hsz':w.heap.size < w'.heap.size:=by simp at hsz;omega
  have hk0:SrvK w [(w.heap.size,acells a,28)] w' S L:=⟨h1.srv,fun b hm=>by have:=h1.mine b hm;simp at this;omega,(below1 w (abox a)).trans (b1.mono (by simp)),fun k hk=>by
   obtain⟨e1,e2⟩:=abox_ks w a k hk
   exact⟨below_block b1 e1 (Array.getElem?_eq_some_iff.1 e1).1,e2⟩⟩
  have hk3:=((hk0.add (scs (fun _=>[])) 47 str_foreign).add (bcs (fun _=>false)) 48 bool_foreign).add (bcs (fun _=>false)) 48 bool_foreign
  refine⟨L,TB,he,hk3.less (fun z hz=>?_),hsz'⟩
  rw [mix_zero,mix_zero,mix_zero] at hz
  simp only [List.mem_cons,List.not_mem_nil,or_false] at hz
  rcases hz with e | e | e | e <;>rw [e] <;>simp
 obtain⟨S',hS'⟩:∃ S',S'=(doS S a).1:=⟨_,rfl⟩
 obtain⟨rp,hrp⟩:∃ rp,rp=(doS S a).2:=⟨_,rfl⟩
 have HCL:Hid (∀ (ks:List Bx) (L:Lay) (k sb:Nat) W,k < 3→L.sb=sb→SrvK w ks W S L→Calls Tryz.prog 16 #[.pointer (some ⟨sb,0,none⟩),.int .i64 k] W fun e w'=>e=.returned (.tuple #[.string (bs (qv S k)),.bool (lv S k),.bool (hv S k)])∧SrvK w ks w' S L):=fun ks L k sb W hk hs hW=>by
  have h0:=clientK k hW
  rw [here_lt S k hk,clR_v,hs] at h0
  exact h0
 have HVW:Hid (∀ (ks:List Bx) (L:Lay) (sb:Nat) W,L.sb=sb→SrvK w ks W S L→Calls Tryz.prog 25 #[.pointer (some ⟨sb,0,none⟩)] W fun e w'=>∃ m,e=.returned (.agg (vcells S.v m))∧OvIn w S ks S L S.v m (vcells S.v m) w'.heap.size W.heap.size (w'.alloc (Pt.cbox (vcells S.v m)))):=fun ks L sb W hs hW=>by
  have h0:=viewK hW
  rw [hs] at h0
  refine h0.mono ?_
  rintro e w' ⟨m,rfl,h1,h2,h3⟩
  exact⟨m,rfl,h2.later (below1 _ _),at_new _ _,h1.later (below1 _ _),rfl⟩
 have HDO:Hid (∀ (ks:List Bx) (L:Lay) (sb:Nat) v m C VB B0 W,L.sb=sb→(∀ b,Mut S L b→b < B0)→OvIn w S ks S L v m C VB B0 W→Calls Tryz.prog 19 #[.pointer (some ⟨sb,0,none⟩),aval a] W fun e w'=>e=.returned (rpval rp)∧∃ L',L'.sb=sb∧OvIn w S ks S' L' v m C VB B0 w'):=fun ks L sb v m C VB B0 W hs hB hW=>by
  have h0:=do_any a ha W S L hW.k.srv okx.ok
  rw [hs] at h0
  refine h0.mono ?_
  rintro e w' ⟨rfl,L',h'⟩
  refine⟨by rw [hrp],L',h'.sb.trans hs,by rw [hS'];exact hW.k.to h',h'.keeps hW.k.srv hW.vb (by decide) (by decide),hW.ow.keep (fun b h1 h2=>h'.kp.block b h2 (fun hm=>by have:=hB b hm;omega)),hW.sv⟩
 have HCL2:Hid (∀ (ks:List Bx) (L:Lay) (k sb:Nat) v m C VB B0 W,k < 3→L.sb=sb→OvIn w S ks S' L v m C VB B0 W→Calls Tryz.prog 16 #[.pointer (some ⟨sb,0,none⟩),.int .i64 k] W fun e w'=>e=.returned (.tuple #[.string (bs (qv S' k)),.bool (lv S' k),.bool (hv S' k)])∧OvIn w S ks S' L v m C VB B0 w'):=fun ks L k sb v m C VB B0 W hk hs hW=>by
  have h0:=client_any k W S' L hW.k.srv
  rw [here_lt S' k hk,clR_v,hs] at h0
  refine h0.mono ?_
  rintro e w' ⟨rfl,n,rfl⟩
  exact⟨rfl,hW.later (below_drewN (Below.refl _ _) n)⟩
 have ok':OkV S'.v:=by rw [hS'];exact(ok_do okx.ok a).v
 have HOT:Hid ((a.kind=6∨a.kind=7∨a.kind=9)→S'.v=S.v∧∀ k:Nat,k < 3→(k:Int)≠a.p→qv S' k=qv S k∧lv S' k=lv S k∧hv S' k=hv S k):=fun hk=>by
  obtain⟨e1,e2⟩:=others_do (S:=S) hk
  rw [←hS'] at e1 e2
  refine⟨e1,fun k _ hne=>?_⟩
  unfold qv lv hv
  rw [e2 k hne]
  exact⟨rfl,rfl,rfl⟩
 have HV2:Hid (S'.v=S.v→∀ (ks:List Bx) (L:Lay) (sb:Nat) v m C VB B0 W,L.sb=sb→v=S.v→OvIn w S ks S' L v m C VB B0 W→Calls Tryz.prog 25 #[.pointer (some ⟨sb,0,none⟩)] W fun e w'=>∃ m7,e=.returned (.agg (vcells v m7))∧RdV w' v m7∧OvIn w S ks S' L v m C VB B0 w'):=fun hsv ks L sb v m C VB B0 W hs hv hW=>by
  have h0:=view_any W S' L hW.k.srv
  rw [hs] at h0
  refine h0.mono ?_
  rintro e w' ⟨m7,rfl,h1,h2⟩
  have ok2:=ok'
  rw [hsv, ←hv] at h1 ok2
  rw [hsv, ←hv]
  exact⟨m7,rfl,h1.rdV ok2,hW.later h2⟩
 have okv:OkV S.v:=okx.ok.v
 have HOK0:Hid (OkV S.v):=okv
 have hkind:(¬ (a.kind=6∨a.kind=7∨a.kind=9)∧(a.kind !=6)=true∧(a.kind !=7)=true∧(a.kind !=9)=true)∨((a.kind=6∨a.kind=7∨a.kind=9)∧((a.kind !=6)=false∨((a.kind !=6)=true∧(a.kind !=7)=false)∨((a.kind !=6)=true∧(a.kind !=7)=true∧(a.kind !=9)=false))):=by
  by_cases h6:a.kind=6
  ·exact .inr ⟨.inl h6,.inl (by simp [h6])⟩
  ·by_cases h7:a.kind=7
   ·exact .inr ⟨.inr (.inl h7),.inr (.inl ⟨by simpa using h6,by simp [h7]⟩)⟩
   ·by_cases h9:a.kind=9
    ·exact .inr ⟨.inr (.inr h9),.inr (.inr ⟨by simpa using h6,by simpa using h7,by simp [h9]⟩)⟩
    ·exact .inl ⟨by omega,by simpa using h6,by simpa using h7,by simpa using h9⟩
 have HKD:Hid ((¬ (a.kind=6∨a.kind=7∨a.kind=9)∧(a.kind !=6)=true∧(a.kind !=7)=true∧(a.kind !=9)=true)∨((a.kind=6∨a.kind=7∨a.kind=9)∧((a.kind !=6)=false∨((a.kind !=6)=true∧(a.kind !=7)=false)∨((a.kind !=6)=true∧(a.kind !=7)=true∧(a.kind !=9)=false)))):=hkind
 clear hr hb hlen ha hx okx hS' hrp ok' okv hkind
 go_enter Tryz.func9,Tryz.ntmps9
 go_wp2_with (go_at_call 14;refine HP1.out.mono ?_;rintro e w1 ⟨L,TB,rfl,h1,hl1⟩;have H1:Hid (SrvK w (obox w.heap.size a w1.heap.size (mix 0 (fun _=>[]) (qv S)) (mix 0 (fun _=>false) (lv S)) (mix 0 (fun _=>false) (hv S))) (((w1.alloc (strbox (fun _=>[]))).alloc (boolbox (fun _=>false))).alloc (boolbox (fun _=>false))) S L):=h1;obtain⟨sb,hsb⟩:∃ sb,sb=L.sb:=⟨_,rfl⟩;have HSB:Hid (L.sb=sb):=hsb.symm;rw [←hsb];clear h1 hsb HP1)
 have hB:w.heap.size < w1.heap.size:=hl1
 generalize hBB:w1.heap.size=B at*
 generalize ((w1.alloc (strbox (fun _=>[]))).alloc (boolbox (fun _=>false))).alloc (boolbox (fun _=>false))=W1 at*
 clear hBB hl1
 have HCE:Hid (∀ k,k < 3→∀ (f:Nat→List UInt8) (g h:Nat→Bool) W S L,SrvK w (obox w.heap.size a B f g h) W S L→(W.cell? ⟨B,k,none⟩=some (.string (bs (f k)))∧(∀ i,W.frozen? ⟨B,i,none⟩=false)∧B < W.heap.size)∧(W.cell? ⟨B+1,k,none⟩=some (.bool (g k))∧(∀ i,W.frozen? ⟨B+1,i,none⟩=false)∧B+1 < W.heap.size)∧(W.cell? ⟨B+1+1,k,none⟩=some (.bool (h k))∧(∀ i,W.frozen? ⟨B+1+1,i,none⟩=false)∧B+1+1 < W.heap.size)):=fun k hk f g h W S L hW=>by
  have e1:=(hW.ks (B,scs f,47) (by simp)).1
  have e2:=(hW.ks (B+1,bcs g,48) (by simp)).1
  have e3:=(hW.ks (B+1+1,bcs h,48) (by simp)).1
  exact⟨⟨(cell_of_row W B k _ _ _ e1).trans (scs_at f k hk),fun i=>frozen_of_row W B i _ _ e1,(Array.getElem?_eq_some_iff.1 e1).1⟩,⟨(cell_of_row W (B+1) k _ _ _ e2).trans (bcs_at g k hk),fun i=>frozen_of_row W (B+1) i _ _ e2,(Array.getElem?_eq_some_iff.1 e2).1⟩,⟨(cell_of_row W (B+1+1) k _ _ _ e3).trans (bcs_at h k hk),fun i=>frozen_of_row W (B+1+1) i _ _ e3,(Array.getElem?_eq_some_iff.1 e3).1⟩⟩
 have HBA:Hid (∀ (f:Nat→List UInt8) (g h:Nat→Bool) W S L,SrvK w (obox w.heap.size a B f g h) W S L→W.heap[w.heap.size]?=some (abox a)):=fun f g h W S L hW=>(hW.ks (w.heap.size,acells a,28) (by simp)).1
 go_loopw [25] (fun i wr=>∃ k:Nat,k≤3∧i=.int .i64 k∧SrvK w (obox w.heap.size a B (mix k (fun _=>[]) (qv S)) (mix k (fun _=>false) (lv S)) (mix k (fun _=>false) (hv S))) wr S L) (fun i _=>3 - (intOf i).toNat)
 case atStart=>exact⟨0,by omega,rfl,H1.out⟩
 case round=>
  obtain⟨k,hk,rfl,hi⟩:=hrel
  have HI:Hid (SrvK w (obox w.heap.size a B (mix k (fun _=>[]) (qv S)) (mix k (fun _=>false) (lv S)) (mix k (fun _=>false) (hv S))) wr S L):=hi
  clear hi H1
  by_cases hlt:k < 3
  ·have hlt':(k:Int) < 3:=by omega
   have hk0:(0:Int)≤(k:Int):=by omega
   have HC1:=HCL.out _ L k sb wr hlt HSB.out HI.out
   have HC1:Hid (Calls Tryz.prog 16 #[.pointer (some ⟨sb,0,none⟩),.int .i64 k] wr fun e w'=>e=.returned (.tuple #[.string (bs (qv S k)),.bool (lv S k),.bool (hv S k)])∧SrvK w (obox w.heap.size a B (mix k (fun _=>[]) (qv S)) (mix k (fun _=>false) (lv S)) (mix k (fun _=>false) (hv S))) w' S L):=HC1
   have HST:Hid (∀ W,SrvK w (obox w.heap.size a B (mix k (fun _=>[]) (qv S)) (mix k (fun _=>false) (lv S)) (mix k (fun _=>false) (hv S))) W S L→SrvK w (obox w.heap.size a B (mix (k+1) (fun _=>[]) (qv S)) (mix (k+1) (fun _=>false) (lv S)) (mix (k+1) (fun _=>false) (hv S))) (((W.setCell ⟨B,k,none⟩ (.string (bs (qv S k)))).setCell ⟨B+1,k,none⟩ (.bool (lv S k))).setCell ⟨B+1+1,k,none⟩ (.bool (hv S k))) S L):=fun W hW=>oh_step hlt hW hB (by omega)
   have HCK:=HCE.out k hlt
   have HCK:Hid (∀ (f:Nat→List UInt8) (g h:Nat→Bool) W S L,SrvK w (obox w.heap.size a B f g h) W S L→(W.cell? ⟨B,k,none⟩=some (.string (bs (f k)))∧(∀ i,W.frozen? ⟨B,i,none⟩=false)∧B < W.heap.size)∧(W.cell? ⟨B+1,k,none⟩=some (.bool (g k))∧(∀ i,W.frozen? ⟨B+1,i,none⟩=false)∧B+1 < W.heap.size)∧(W.cell? ⟨B+1+1,k,none⟩=some (.bool (h k))∧(∀ i,W.frozen? ⟨B+1+1,i,none⟩=false)∧B+1+1 < W.heap.size)):=HCK
   clear HCL HVW HDO HCL2 HOT HV2 HOK0 HKD HBA HCE
   go_wp2_with (go_at_call 16;refine HC1.out.mono ?_;rintro e w2 ⟨rfl,h2⟩;have H2:Hid (SrvK w (obox w.heap.size a B (mix k (fun _=>[]) (qv S)) (mix k (fun _=>false) (lv S)) (mix k (fun _=>false) (hv S))) w2 S L):=h2;obtain⟨⟨s1,sf,sl⟩,⟨g1,gf,gl⟩,⟨h1,hf,hl⟩⟩:=HCK.out _ _ _ w2 S L h2;clear h2 HC1)
   go_roundw
   case rel=>exact⟨k+1,by omega,by go_num,HST.out _ H2.out⟩
   case measure=>simp [intOf];omega
  ·obtain rfl:k=3:=by omega
   obtain⟨⟨a0,a1,a2,a3,a4⟩,af⟩:=fiveA (HBA.out _ _ _ _ _ _ HI.out)
   have al:=(Array.getElem?_eq_some_iff.1 (HBA.out _ _ _ _ _ _ HI.out)).1
   have hmut:∀ b,Mut S L b→b < wr.heap.size:=fun b hb=>HI.out.srv.mut_lt hb
   have HMU:Hid (∀ b,Mut S L b→b < wr.heap.size):=hmut
   obtain⟨ks,hks⟩:∃ ks,ks=obox w.heap.size a B (mix 3 (fun _=>[]) (qv S)) (mix 3 (fun _=>false) (lv S)) (mix 3 (fun _=>false) (hv S)):=⟨_,rfl⟩
   have HI':Hid (SrvK w ks wr S L):=by rw [hks];exact HI.out
   have HBK:Hid (∀ W S L,SrvK w ks W S L→W.heap[w.heap.size]?=some (abox a)):=fun W S L hW=>by rw [hks] at hW;exact HBA.out _ _ _ _ _ _ hW
   have HCK:Hid (∀ k,k < 3→∀ W S1 L,SrvK w ks W S1 L→(W.cell? ⟨B,k,none⟩=some (.string (bs (qv S k)))∧(∀ i,W.frozen? ⟨B,i,none⟩=false)∧B < W.heap.size)∧(W.cell? ⟨B+1,k,none⟩=some (.bool (lv S k))∧(∀ i,W.frozen? ⟨B+1,i,none⟩=false)∧B+1 < W.heap.size)∧(W.cell? ⟨B+1+1,k,none⟩=some (.bool (hv S k))∧(∀ i,W.frozen? ⟨B+1+1,i,none⟩=false)∧B+1+1 < W.heap.size)):=fun k hk W S1 L hW=>by
    rw [hks] at hW
    have:=HCE.out k hk _ _ _ W S1 L hW
    have e:∀ {α:Type} (f g:Nat→α),mix 3 f g k=g k:=fun f g=>if_pos hk
    rw [e,e,e] at this
    exact this
   obtain⟨v,hve⟩:∃ v,v=S.v:=⟨_,rfl⟩
   have HVE:Hid (v=S.v):=hve
   have HOK:Hid (OkV v):=by rw [hve];exact HOK0.out
   have HVW1:Hid (Calls Tryz.prog 25 #[.pointer (some ⟨sb,0,none⟩)] wr fun e w'=>∃ m,e=.returned (.agg (vcells v m))∧OvIn w S ks S L v m (vcells v m) w'.heap.size wr.heap.size (w'.alloc (Pt.cbox (vcells v m)))):=by rw [hve];exact HVW.out ks L sb wr HSB.out HI'.out
   rw [show obox w.heap.size a B (mix 3 (fun _=>[]) (qv S)) (mix 3 (fun _=>false) (lv S)) (mix 3 (fun _=>false) (hv S))=ks from hks.symm] at HI
   clear hks hve hmut HVW HCL HCE HBA HOK0 HI'
   have hor:=HKD.out
   clear HKD
   rcases hor with ⟨_,e6,e7,e9⟩ | ⟨hkk,hor⟩
   ·clear HCL2 HOT HV2 HCK
    go_wp2_with (first
     | (refine wpList_alloc_view rfl rfl ?_)
     | (go_at_call 25;refine HVW1.out.mono ?_;rintro e w3 ⟨m,rfl,h3⟩;obtain⟨C,hC⟩:∃ C,C=vcells v m:=⟨_,rfl⟩;have HC:Hid (VC v m C∧C.size=58∧C.all (·.oneCell')=true):=(hC ▸ ⟨vc v m,rfl,Pt.vcells_one v m⟩);rw [←hC] at h3 ⊢;have H3:Hid (OvIn w S ks S L v m C w3.heap.size wr.heap.size (w3.alloc (Pt.cbox C))):=h3;clear a0 a1 a2 a3 a4 af al;obtain⟨⟨a0,a1,a2,a3,a4⟩,af⟩:=fiveA (HBK.out _ _ _ h3.k);have al:=(Array.getElem?_eq_some_iff.1 (HBK.out _ _ _ h3.k)).1;clear h3 hC HVW1)
     | (refine wpList_store_new 58 (vcells zv zl) C rfl _ _ rfl rfl rfl (by rw [HC.out.2.1];exact infoV) (by rw [HC.out.2.1];rfl) HC.out.2.2 ?_)
     | (go_at_call 19;refine(HDO.out ks L sb v m C _ _ _ HSB.out HMU.out H3.out).mono ?_;rintro e w4 ⟨rfl,L4,hs4,h4⟩;have H4:Hid (OvIn w S ks S' L4 v m C w3.heap.size wr.heap.size w4):=h4;clear a0 a1 a2 a3 a4 af al;obtain⟨⟨a0,a1,a2,a3,a4⟩,af⟩:=fiveA (HBK.out _ _ _ h4.k);have al:=(Array.getElem?_eq_some_iff.1 (HBK.out _ _ _ h4.k)).1;clear hs4 h4))
    go_ret
    exact⟨rfl,H4.out.k.below⟩
   ·have hot:=HOT.out hkk
    have HSV:Hid (S'.v=S.v):=hot.1
    have HSC:Hid (∀ k:Nat,k < 3→(k:Int)≠a.p→qv S' k=qv S k∧lv S' k=lv S k∧Sv.hv S' k=Sv.hv S k):=hot.2
    clear hot HOT hkk
    have hor':((a.kind !=6)=false)∨((a.kind !=6)=true∧(a.kind !=7)=false)∨((a.kind !=6)=true∧(a.kind !=7)=true∧(a.kind !=9)=false):=hor
    rcases hor with e6 | ⟨e6,e7⟩ | ⟨e6,e7,e9⟩
    all_goals (
     clear hor'
     go_wp2_with (first
      | (refine wpList_alloc_view rfl rfl ?_)
      | (go_at_call 25;refine HVW1.out.mono ?_;rintro e w3 ⟨m,rfl,h3⟩;obtain⟨C,hC⟩:∃ C,C=vcells v m:=⟨_,rfl⟩;have HC:Hid (VC v m C∧C.size=58∧C.all (·.oneCell')=true):=(hC ▸ ⟨vc v m,rfl,Pt.vcells_one v m⟩);rw [←hC] at h3 ⊢;have H3:Hid (OvIn w S ks S L v m C w3.heap.size wr.heap.size (w3.alloc (Pt.cbox C))):=h3;clear a0 a1 a2 a3 a4 af al;obtain⟨⟨a0,a1,a2,a3,a4⟩,af⟩:=fiveA (HBK.out _ _ _ h3.k);have al:=(Array.getElem?_eq_some_iff.1 (HBK.out _ _ _ h3.k)).1;clear h3 hC HVW1)
      | (refine wpList_store_new 58 (vcells zv zl) C rfl _ _ rfl rfl rfl (by rw [HC.out.2.1];exact infoV) (by rw [HC.out.2.1];rfl) HC.out.2.2 ?_)
      | (go_at_call 19;refine(HDO.out ks L sb v m C _ _ _ HSB.out HMU.out H3.out).mono ?_;rintro e w4 ⟨rfl,L4,hs4,h4⟩;have H4:Hid (OvIn w S ks S' L4 v m C w3.heap.size wr.heap.size w4):=h4;have HS4:Hid (L4.sb=sb):=hs4;clear a0 a1 a2 a3 a4 af al;obtain⟨⟨a0,a1,a2,a3,a4⟩,af⟩:=fiveA (HBK.out _ _ _ h4.k);have al:=(Array.getElem?_eq_some_iff.1 (HBK.out _ _ _ h4.k)).1;clear hs4 h4))
     have HCS:Hid (C.size=58):=HC.out.2.1
     have HCV:Hid (VC v m C):=HC.out.1
     have HV2':Hid (∀ W,OvIn w S ks S' L4 v m C w3.heap.size wr.heap.size W→Calls Tryz.prog 25 #[.pointer (some ⟨sb,0,none⟩)] W fun e w'=>∃ m7,e=.returned (.agg (vcells v m7))∧RdV w' v m7∧OvIn w S ks S' L4 v m C w3.heap.size wr.heap.size w'):=fun W hW=>HV2.out HSV.out ks L4 sb v m C _ _ W HS4.out HVE.out hW
     have HC2':Hid (∀ (k:Nat) W,k < 3→OvIn w S ks S' L4 v m C w3.heap.size wr.heap.size W→Calls Tryz.prog 16 #[.pointer (some ⟨sb,0,none⟩),.int .i64 k] W fun e w'=>e=.returned (.tuple #[.string (bs (qv S' k)),.bool (lv S' k),.bool (Sv.hv S' k)])∧OvIn w S ks S' L4 v m C w3.heap.size wr.heap.size w'):=fun k W hk hW=>HCL2.out ks L4 k sb v m C _ _ W hk HS4.out hW
     clear HC HV2 HCL2 HDO H3 a0 a1 a2 a3 a4 af al HMU HI
     generalize w3.heap.size=VB at*
     generalize wr.heap.size=B0 at*
     go_loopw [60] (fun i wr=>∃ k:Nat,k≤3∧i=.int .i64 k∧OvIn w S ks S' L4 v m C VB B0 wr) (fun i _=>3 - (intOf i).toNat)
     case atStart=>exact⟨0,by omega,rfl,H4.out⟩
     case round=>
      obtain⟨k,hk,rfl,hi⟩:=hrel
      have HI:Hid (OvIn w S ks S' L4 v m C VB B0 wr):=hi
      clear hi H4
      by_cases hlt:k < 3
      ·have hlt':(k:Int) < 3:=by omega
       have hk0:(0:Int)≤(k:Int):=by omega
       have HC1:Hid (Calls Tryz.prog 16 #[.pointer (some ⟨sb,0,none⟩),.int .i64 k] wr fun e w'=>e=.returned (.tuple #[.string (bs (qv S' k)),.bool (lv S' k),.bool (Sv.hv S' k)])∧OvIn w S ks S' L4 v m C VB B0 w'):=HC2'.out k wr hlt HI.out
       by_cases hp:(k:Int)=a.p
       ·have ep:((k:Int) !=a.p)=false:=by simp [hp]
        clear hp HC2' HV2' HSC HSV
        go_wp2_with (go_at_call 16;refine HC1.out.mono ?_;rintro e w5 ⟨rfl,h5⟩;have H5:Hid (OvIn w S ks S' L4 v m C VB B0 w5):=h5;obtain⟨⟨a0,a1,a2,a3,a4⟩,af⟩:=fiveA (HBK.out _ _ _ h5.k);have al:=(Array.getElem?_eq_some_iff.1 (HBK.out _ _ _ h5.k)).1;clear h5 HC1)
        go_roundw
        case rel=>exact⟨k+1,by omega,by go_num,H5.out⟩
        case measure=>(simp [intOf];omega)
       ·have ep:((k:Int) !=a.p)=true:=by simpa using hp
        obtain⟨q1,q2,q3⟩:=HSC.out k hlt hp
        rw [q1,q2,q3] at HC1
        clear hp HC2' HV2' HSC HSV q1 q2 q3
        go_wp2_with (go_at_call 16;refine HC1.out.mono ?_;rintro e w5 ⟨rfl,h5⟩;have H5:Hid (OvIn w S ks S' L4 v m C VB B0 w5):=h5;obtain⟨⟨a0,a1,a2,a3,a4⟩,af⟩:=fiveA (HBK.out _ _ _ h5.k);have al:=(Array.getElem?_eq_some_iff.1 (HBK.out _ _ _ h5.k)).1;obtain⟨⟨s1,sf,sl⟩,⟨g1,gf,gl⟩,⟨h1,hf,hl⟩⟩:=HCK.out k hlt w5 S' L4 h5.k;clear h5 HC1)
        go_roundw
        case rel=>exact⟨k+1,by omega,by go_num,H5.out⟩
        case measure=>(simp [intOf];omega)
      ·have hge:(3:Int)≤(k:Int):=by omega
       have HV2:=HV2'
       clear HC2' HSC HCK HBK
       go_wp2_with fail
       refine bg (fun w'=>w'.heap[VB]?=some (Pt.cbox C)) HI.out.vb (fun hHeld=>?_)
       refine ty 0 rfl (.agg C) (Pt.yields_view (by rfl) _ rfl VB rfl C HCS.out (fun w0 h=>h)) hHeld ?_
       refine tk 1 hHeld ?_
       refine wpAnyH_ready (rs:=[2]) (by kernel_rfl) (by simp) ?_
       refine AllReadyH.cons rfl (fun K hK=>?_) AllReadyH.nil
       go_simp
       go_at_call 25
       refine(HV2.out _ (HI.out.later ((Below.refl _ _).drew))).mono ?_
       rintro e w7 ⟨m7,rfl,hr7,h7⟩
       have H7:Hid (OvIn w S ks S' L4 v m C VB B0 w7):=h7
       have HR7:Hid (RdV w7 v m7):=hr7
       clear hr7 h7
       obtain⟨D,hD⟩:∃ D,D=vcells v m7:=⟨_,rfl⟩
       have HD:Hid (VC v m7 D):=(hD ▸ vc v m7)
       rw [←hD]
       clear hD
       (try go_simp)
       refine hK.out _ _ H7.out.vb (fun hHeld=>?_)
       clear hK K
       refine pt ?_
       refine wpAnyH_ready (rs:=[3]) (by kernel_rfl) (by simp) ?_
       refine AllReadyH.cons rfl (fun K hK=>?_) AllReadyH.nil
       go_simp
       go_at_call 26
       refine(sameViewT_eq v m m7 C D HCV.out HD.out _ (H7.out.rv HOK.out) HR7.out).mono ?_
       rintro e w8 ⟨rfl,h8⟩
       have H8:Hid (OvIn w S ks S' L4 v m C VB B0 w8):=H7.out.later h8
       clear h8
       (try go_simp)
       refine hK.out _ _ H8.out.vb (fun hHeld=>?_)
       clear hK K
       refine pt ?_
       refine tk 4 hHeld ?_
       refine dn ?_
       go_wp2
       go_ret
       exact⟨rfl,H8.out.k.below⟩)
end Go.Proofs.YtjikokfjnbhngaaGreatDoor.Sv
