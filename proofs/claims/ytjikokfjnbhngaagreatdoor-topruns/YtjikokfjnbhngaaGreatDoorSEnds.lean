/- The law TopEnds. -/
import Derived.Test.YtjikokfjnbhngaaGreatDoorMSTwo
import Derived.Lib.MinMax
namespace Go.Proofs.YtjikokfjnbhngaaGreatDoor.Sv
open Go.RowKit
set_option maxRecDepth 100000
@[reducible] def noAct:Ac:=⟨0,0,0,0,[]⟩
theorem zero_do {S:Srv} (h:S.acts≠300):doS S noAct=(withA S (S.acts+1),⟨2,0,[]⟩):=do_eq h noAct
theorem full_do {S:Srv} (h:S.acts=300) (a:Ac):doS S a=(S,⟨5,0,[]⟩):=by unfold doS;rw [if_pos h];rfl
theorem run_code (v0 v1 v2:Value) (w:World):(Instr.field 31 (.agg #[v0,v1,v2]) 0).run Tryz.prog w=.ok v0 w:=by kernel_rfl
theorem wpList_code {ops:Array Oper} {rest:List Oper} {op:Oper} {a:Act} {w:World} {Q:Exit→Act→World→Prop} (hw:Region.wanted op (yielded ops a.tmps)=true) (x:Operand) (ho:op.op=.field 31 x 0) (v0 v1 v2:Value) (hx:a.eval x=.agg #[v0,v1,v2])
  (h:wpList Tryz.prog ops Q rest (a.put op.dst v0) w):wpList Tryz.prog ops Q (op::rest) a w:=
 wpList_step fun _ hK=>by
  rw [if_pos hw]
  unfold Oper.wp execOp
  simp only [ho,hx,Sem.run_bind,run_code,Result.andThen_ok,Sem.run_pure]
  exact hK _ _ h
def EndIn (w:World) (ks:List Bx) (k sa sb:Nat) (wr:World):Prop:=∃ A L M,TwoS w ks wr A L A M∧OkS A∧A.acts=k∧L.sb=sa∧M.sb=sb
def EndMid (w:World) (ks:List Bx) (k sa sb:Nat) (wr:World):Prop:=∃ A L M,TwoS w ks wr (withA A (k+1)) L A M∧OkS A∧A.acts=k∧L.sb=sa∧M.sb=sb
theorem end_one {w:World} {ks:List Bx} {k sa sb:Nat} {wr:World} (h:EndIn w ks k sa sb wr) (hk:k < 300):
  Calls Tryz.prog 19 #[.pointer (some ⟨sa,0,none⟩),aval noAct] wr fun e w'=>e=.returned (.agg #[.int .i64 2,.int .i64 0,.string ⟨#[]⟩])∧EndMid w ks k sa sb w':=by
 obtain⟨A,L,M,h1,h2,h3,h4,h5⟩:=h
 have:=two_do noAct (by decide) h1 h2
 rw [zero_do (by omega),h4,h3] at this
 refine this.mono ?_
 rintro e w' ⟨rfl,L',h6,h7⟩
 exact⟨rfl,A,L',M,h7,h2,h3,h6,h5⟩
theorem end_two {w:World} {ks:List Bx} {k sa sb:Nat} {wr:World} (h:EndMid w ks k sa sb wr) (hk:k < 300):
  Calls Tryz.prog 19 #[.pointer (some ⟨sb,0,none⟩),aval noAct] wr fun e w'=>e=.returned (.agg #[.int .i64 2,.int .i64 0,.string ⟨#[]⟩])∧EndIn w ks (k+1) sa sb w':=by
 obtain⟨A,L,M,h1,h2,h3,h4,h5⟩:=h
 have hok:=ok_do h2 noAct
 have:=two_do noAct (by decide) h1.swap h2
 rw [zero_do (by omega),h5,h3] at this
 rw [zero_do (by omega),h3] at hok
 refine this.mono ?_
 rintro e w' ⟨rfl,M',h6,h7⟩
 exact⟨rfl,withA A (k+1),L,M',h7.swap,hok,rfl,h4,h6⟩
theorem end_full {w:World} {ks:List Bx} {sa sb:Nat} {wr:World} (h:EndIn w ks 300 sa sb wr) (a:Ac) (ha:a.bytes.length≤140737488355328):
  Calls Tryz.prog 19 #[.pointer (some ⟨sa,0,none⟩),aval a] wr fun e w'=>e=.returned (.agg #[.int .i64 5,.int .i64 0,.string ⟨#[]⟩])∧EndIn w ks 300 sa sb w':=by
 obtain⟨A,L,M,h1,h2,h3,h4,h5⟩:=h
 have:=two_do a ha h1 h2
 rw [full_do h3,h4] at this
 refine this.mono ?_
 rintro e w' ⟨rfl,L',h6,h7⟩
 exact⟨rfl,A,L',M,h7,h2,h3,h6,h5⟩
theorem end_same {w:World} {ks:List Bx} {sa sb:Nat} {wr:World} (h:EndIn w ks 300 sa sb wr):
  Calls Tryz.prog 24 #[.pointer (some ⟨sb,0,none⟩),.pointer (some ⟨sa,0,none⟩)] wr fun e w'=>e=.returned (.bool true)∧Below w.heap.size w w':=by
 obtain⟨A,L,M,h1,h2,h3,h4,h5⟩:=h
 have:=two_same h1.swap h2 (Like.refl A)
 rw [h4,h5] at this
 refine this.mono ?_
 rintro e w' ⟨rfl,h'⟩
 exact⟨rfl,h'.a.below⟩
theorem EndIn.key {w:World} {ks:List Bx} {k sa sb:Nat} {wr:World} (h:EndIn w ks k sa sb wr) {b:Bx} (hb:b∈ks):wr.heap[b.1]?=some (.cells b.2.1 b.2.2 (0,0)):=by
 obtain⟨A,L,M,h1,_⟩:=h
 exact(h1.a.ks b hb).1
set_option maxHeartbeats 2000000 in
theorem topEnds_any (l:List Ac) (lo:Option Addr) (lc:Nat) (a:Ac) (w:World) (hr:RdA w lo l) (hb:∀ a∈l,a.bytes.length≤140737488355328) (hlen:l.length≤4398046511104) (ha:a.bytes.length≤140737488355328):
  Calls Tryz.prog 13 #[.slice lo l.length lc,aval a] w fun e w'=>e=.returned (.bool true)∧Below w.heap.size w w':=by
 obtain⟨ks,hks⟩:∃ ks:List Bx,ks=[((w.heap.size,acells a,28):Bx)]:=⟨_,rfl⟩
 obtain⟨n,hn⟩:∃ n,n=min l.length 100:=⟨_,rfl⟩
 have okx:OkP (playP (l.take 100)) n:=by
  have:=okp_play (l.take 100) (by simp;omega)
  rwa [List.length_take,Nat.min_comm, ←hn] at this
 have HP1:Hid (Calls Tryz.prog 14 #[.slice lo l.length lc,.func (.func 18) #[] #[]] (w.alloc (abox a)) (QuietEnd l (w.alloc (abox a)))):=quiet_any l lo lc _ (hr.below (below1 w (abox a))) hb hlen
 have HP2:Hid (∀ w1:World,Below (w.alloc (abox a)).heap.size (w.alloc (abox a)) w1→Calls Tryz.prog 14 #[.slice lo l.length lc,.func (.func 18) #[] #[]] w1 (QuietEnd l w1)):=fun w1 h1=>quiet_any l lo lc w1 ((hr.below (below1 w (abox a))).below h1) hb hlen
 have HT:Hid (∀ (w1 w2:World) L TB T M TC U sa sb,L.sb=sa→M.sb=sb→PlIn (fun _=>False) (w.alloc (abox a)) (playP (l.take 100)) L TB T w1→PlIn (fun _=>False) w1 (playP (l.take 100)) M TC U w2→EndIn w ks n sa sb w2):=fun w1 w2 L TB T M TC U sa sb e1 e2 h1 h2=>
  ⟨_,L,M,(by rw [hks];exact two_start (below1 w (abox a)) (abox_ks w a) h1 h2),okx.ok,okx.acts,e1,e2⟩
 have HFL:Hid (∀ W sa sb,EndIn w ks 300 sa sb W→Calls Tryz.prog 19 #[.pointer (some ⟨sa,0,none⟩),aval a] W fun e w'=>e=.returned (.agg #[.int .i64 5,.int .i64 0,.string ⟨#[]⟩])∧EndIn w ks 300 sa sb w'):=fun W sa sb hW=>end_full hW a ha
 have HK:Hid (∀ (W:World) k sa sb,EndIn w ks k sa sb W→W.heap[w.heap.size]?=some (abox a)):=fun W k sa sb hW=>hW.key (b:=(w.heap.size,acells a,28)) (by rw [hks];simp)
 have hn1:n≤100:=by omega
 have HN:Hid (min (l.length:Int) 100=(n:Int)):=by rw [hn];show min (l.length:Int) 100=_;omega
 clear hr hb ha hks okx hn
 go_enter Tryz.func13,Tryz.ntmps13
 go_wp2_with (first
  | (go_at_call 14;refine HP1.out.mono ?_;rintro e w1 ⟨L,TB,T,rfl,h1⟩;have H1:Hid (PlIn (fun _=>False) (w.alloc (abox a)) (playP (l.take 100)) L TB T w1):=h1;obtain⟨sa,hsa⟩:∃ sa,sa=L.sb:=⟨_,rfl⟩;have HSA:Hid (L.sb=sa):=hsa.symm;rw [←hsa];clear h1 HP1 hsa)
  | (go_at_call 14;refine(HP2.out _ (kp_below H1.out.kp)).mono ?_;rintro e w2 ⟨M,TC,U,rfl,h2⟩;obtain⟨sb,hsb⟩:∃ sb,sb=M.sb:=⟨_,rfl⟩;rw [←hsb];have H2:Hid (EndIn w ks n sa sb w2):=HT.out _ _ _ _ _ _ _ _ _ _ HSA.out hsb.symm H1.out h2;clear h2 HP2 hsb))
 rw [HN.out]
 clear H1 HSA HT
 go_loopw [11] (fun i wr=>∃ k:Nat,k≤300∧i=.int .i64 k∧EndIn w ks k sa sb wr) (fun i _=>300 - (intOf i).toNat)
 case atStart=>exact⟨n,by omega,rfl,H2.out⟩
 case round=>
  obtain⟨k,hk,rfl,hi⟩:=hrel
  clear H2
  by_cases hlt:k < 300
  ·have hlt':(k:Int) < 300:=by omega
   have HD1:Hid (Calls Tryz.prog 19 #[.pointer (some ⟨sa,0,none⟩),aval noAct] wr fun e w'=>e=.returned (.agg #[.int .i64 2,.int .i64 0,.string ⟨#[]⟩])∧EndMid w ks k sa sb w'):=end_one hi hlt
   have HD2:Hid (∀ W,EndMid w ks k sa sb W→Calls Tryz.prog 19 #[.pointer (some ⟨sb,0,none⟩),aval noAct] W fun e w'=>e=.returned (.agg #[.int .i64 2,.int .i64 0,.string ⟨#[]⟩])∧EndIn w ks (k+1) sa sb w'):=fun W hW=>end_two hW hlt
   clear hi HFL HK
   go_wp2_with (first
    | (refine wpList_code (by rfl) _ rfl _ _ _ rfl ?_)
    | (go_at_call 19;refine HD1.out.mono ?_;rintro e w3 ⟨rfl,h3⟩;have H3:Hid (EndMid w ks k sa sb w3):=h3;clear h3 HD1)
    | (go_at_call 19;refine(HD2.out _ H3.out).mono ?_;rintro e w4 ⟨rfl,h4⟩;have H4:Hid (EndIn w ks (k+1) sa sb w4):=h4;clear h4 HD2))
   go_roundw
   case rel=>exact⟨k+1,by omega,by go_num,H4.out⟩
   case measure=>simp [intOf];omega
  ·obtain rfl:k=300:=by omega
   have HI:Hid (EndIn w ks 300 sa sb wr):=hi
   obtain⟨⟨a0,a1,a2,a3,a4⟩,af⟩:=fiveA (HK.out _ _ _ _ hi)
   have al:=(Array.getElem?_eq_some_iff.1 (HK.out _ _ _ _ hi)).1
   clear hi HK
   go_wp2_with (first
    | (go_at_call 19;refine(HFL.out _ _ _ HI.out).mono ?_;rintro e w3 ⟨rfl,h3⟩;have H3:Hid (EndIn w ks 300 sa sb w3):=h3;clear h3 HFL)
    | (go_at_call 24;refine(end_same H3.out).mono ?_;rintro e w4 ⟨rfl,h4⟩;have H4:Hid (Below w.heap.size w w4):=h4;clear h4))
   go_ret
   exact⟨rfl,H4.out⟩
end Go.Proofs.YtjikokfjnbhngaaGreatDoor.Sv
