/- Several texts in one, each as it was: SSet, SFocus, SBox, SFit. -/
import Derived.Test.YtjikokfjnbhngaaGreatDoorMSClient
import Derived.Test.YtjikokfjnbhngaaGreatDoorMTMach
import Derived.Test.YtjikokfjnbhngaaGreatDoorMGMach
import Derived.Test.YtjikokfjnbhngaaGreatDoorMGResize

/- Stores into the server's own block; a client comes, and goes. -/
namespace Go.Proofs.YtjikokfjnbhngaaGreatDoor.Sv
open Go.RowKit
open Go.Proofs.YtjikokfjnbhngaaGreatDoor.Tl (colsOf RdT TyT)
set_option maxRecDepth 100000
theorem sb_in {w w':World} {S:Srv} {L:Lay} (h:SrvIn w S L) (hk:Kp (fun b=>b=L.sb) w w') {S':Srv} {L':Lay} (hsb:L'.sb=L.sb) (ok:WkS S') (hb:w'.heap[L.sb]?=some (sbox S' L')) (cols:S'.v.cols=colsOf L'.l.its) (rd:RdT w L'.l.co L'.l.its) (ty:TyT w L'.l.co L'.l.its)
  (gs:∀ p,p < 6→Gl w (L'.l.ga p) (L'.l.gc p) (S'.v.gs p)) (ps:∀ p,p < 6→Pl w (L'.pa p) (L'.pc p) (S'.ps p).ps) (cl:∀ i,i < 3→∀ c,S'.cl i=some c→w.heap[L'.cb i]?=some (clbox c (L'.ca i) (L'.cc i))∧Gl w (L'.ca i) (L'.cc i) c.g)
  (apart:∀ i j,i < 3→j < 3→i≠j→(S'.cl i).isSome=true→(S'.cl j).isSome=true→L'.cb i≠L'.cb j):SrvIn w' S' L':=by
 have key:∀ (b:Nat) (x:Array Value) (t:TypeId),t≠86→w.heap[b]?=some (.cells x t (0,0))→w'.heap[b]?=w.heap[b]?:=fun b x t ht hb=>by
  refine hk.block b (Array.getElem?_eq_some_iff.1 hb).1 (fun e=>?_)
  rw [e,h.box] at hb
  simp only [Option.some.injEq,Obj.cells.injEq] at hb
  exact ht hb.2.1.symm
 have hT:∀ (b:Nat) (x:Array Value) (t:TypeId),t=35∨t=3→w.heap[b]?=some (.cells x t (0,0))→w'.heap[b]?=w.heap[b]?:=fun b x t ht hb=>by
  rcases ht with e | e
  ·exact key b x t (by rw [e];decide) hb
  ·exact key b x t (by rw [e];decide) hb
 exact⟨ok,by rw [hsb];exact hb,cols,RdT.keep rd ty hT,TyT.keep ty hT,fun p hp=>(gs p hp).keep fun b x hb=>key b x _ (by decide) hb,fun p hp=>(ps p hp).keep fun b x hb=>key b x 3 (by decide) hb,
  fun i hi c hc=>⟨by rw [key _ _ _ (by decide) (cl i hi c hc).1];exact(cl i hi c hc).1,(cl i hi c hc).2.keep fun b x hb=>key b x _ (by decide) hb⟩,apart⟩
theorem Kp.sb {w w':World} {S:Srv} {L:Lay} (hk:Kp (fun b=>b=L.sb) w w'):Kp (Mut S L) w w':=
 ⟨hk.os,hk.tape,hk.output,hk.size,fun b hb hm=>hk.block b hb (fun e=>hm (.inl e))⟩
theorem sb_nums {w w':World} {S:Srv} {L:Lay} (h:SrvIn w S L) (hk:Kp (fun b=>b=L.sb) w w') {S':Srv} (ok:WkS S') (hb:w'.heap[L.sb]?=some (sbox S' L)) (e1:S'.v.cols=S.v.cols) (e2:S'.v.gs=S.v.gs) (e3:S'.ps=S.ps) (e4:S'.cl=S.cl):SrvTo w S L S' L w':=
 ⟨sb_in h hk rfl ok hb (e1.trans h.cols) h.rd h.ty (fun p hp=>by rw [e2];exact h.gs p hp) (fun p hp=>by rw [e3];exact h.ps p hp) (fun i hi c hc=>h.cl i hi c (by rw [←e4];exact hc)) (fun i j hi hj hne h1 h2=>h.apart i j hi hj hne (by rw [←e4];exact h1) (by rw [←e4];exact h2)),rfl,hk.sb,fun i _ hs=>.inl ⟨by rw [←e4];exact hs,rfl⟩⟩
theorem put_ptr {w:World} {S:Srv} {L:Lay} (h:SrvIn w S L) (i:Nat) (hi:i < 3) (x:Option Cl) (B:Nat) (ca:Nat→Option Addr) (cc:Nat→Nat) (u:Option Addr) (hu:u=if x.isSome then some ⟨B,0,none⟩ else none):(w.setCell ⟨L.sb,82+i,none⟩ (.pointer u)).heap[L.sb]?=some (sbox {S with cl:=upd S.cl i x} {L with cb:=upd L.cb i B,ca:=ca,cc:=cc}):=by
 rw [set_cells h.box]
 congr 1
 subst hu
 have:i=0∨i=1∨i=2:=by omega
 rcases this with rfl | rfl | rfl <;>rfl
theorem detach_any (i:Int) (w:World) (S:Srv) (L:Lay) (h:SrvIn w S L):
  Calls Tryz.prog 73 #[.pointer (some ⟨L.sb,0,none⟩),.int .i64 i] w fun e w'=>e=.returned (.int .i64 (detachS S i).2)∧∃ L',SrvTo w S L (detachS S i).1 L' w':=by
 have HF:Hid (∀ w,SrvIn w S L→Calls Tryz.prog 37 #[.pointer (some ⟨L.sb,0,none⟩),.int .i64 i] w fun e w'=>e=.returned (.pointer (fad S L i))∧w'=w):=fun w h=>find_any i w S L h
 have HS:Hid (SrvIn w S L):=h
 rcases here_cases S L i with ⟨h1,h2⟩ | ⟨c,h1,hi,h2,h3⟩
 ·have HD:Hid (detachS S i=(S,3)):=by show detachS S i=_;unfold detachS;rw [h1];rfl
  rw [h2] at HF
  clear h h1 h2
  go_enter Tryz.func73,Tryz.ntmps73
  go_wp2_with (go_at_call 37;refine(HF.out _ HS.out).mono ?_;rintro e w1 ⟨rfl,hw1⟩;subst w1)
  go_ret
  rw [HD.out]
  exact⟨rfl,L,SrvTo.refl HS.out⟩
 ·simp only [isCl,decide_eq_true_eq] at hi
  obtain⟨n,rfl⟩:=Int.eq_ofNat_of_zero_le hi.1
  have hn:n < 3:=by omega
  have HD:Hid (detachS S (n:Int)=({S with cl:=upd S.cl n none},0)):=by show detachS S _=_;unfold detachS;rw [h1];rfl
  have HE:Hid (SrvTo w S L {S with cl:=upd S.cl n none} {L with cb:=upd L.cb n (L.cb n)} (w.setCell ⟨L.sb,82+n,none⟩ (.pointer none))):=by
   have hcl:∀ j c,upd S.cl n none j=some c→S.cl j=some c:=fun j c hc=>by
    by_cases e:j=n
    ·rw [e,upd_at] at hc;cases hc
    ·rwa [upd_ne _ _ e] at hc
   have hcb:upd L.cb n (L.cb n)=L.cb:=by
    funext k
    unfold upd
    split
    ·rename_i e;rw [e]
    ·rfl
   have hk:Kp (fun b=>b=L.sb) w (w.setCell ⟨L.sb,82+n,none⟩ (.pointer none)):=set_kp w L.sb _ _
   have hsome:∀ j,((upd S.cl n none) j).isSome=true→(S.cl j).isSome=true:=fun j hj=>by
    obtain⟨c,hc⟩:=Option.isSome_iff_exists.1 hj
    rw [hcl j c hc];rfl
   refine⟨sb_in h hk rfl (wk_cl h.ok n none (fun c e=>by cases e)) (put_ptr h n hn none (L.cb n) L.ca L.cc none rfl) h.cols h.rd h.ty h.gs h.ps (fun j hj c hc=>?_) (fun j k hj hk2 hne e1 e2=>?_),rfl,hk.sb,fun j hj hs=>.inl ⟨hsome j hs,by rw [hcb]⟩⟩
   ·show w.heap[upd L.cb n (L.cb n) j]?=_∧_
    rw [hcb]
    exact h.cl j hj c (hcl j c hc)
   ·show upd L.cb n (L.cb n) j≠upd L.cb n (L.cb n) k
    rw [hcb]
    exact h.apart j k hj hk2 hne (hsome j e1) (hsome k e2)
  rw [h3] at HF
  have hp:=h.ptr n hn
  have hf:=h.frozen (82+n)
  have hn':(n:Int) < 3:=by omega
  have hn0:(0:Int)≤(n:Int):=by omega
  have hlt:=(Array.getElem?_eq_some_iff.1 h.box).1
  clear h h1 h2 h3 hi
  go_enter Tryz.func73,Tryz.ntmps73
  go_wp2_with (go_at_call 37;refine(HF.out _ HS.out).mono ?_;rintro e w1 ⟨rfl,hw1⟩;subst w1)
  go_ret
  rw [HD.out]
  exact⟨rfl,_,HE.out⟩
end Go.Proofs.YtjikokfjnbhngaaGreatDoor.Sv

/- The focus; which pane is there; the least number that is not. -/
namespace Go.Proofs.YtjikokfjnbhngaaGreatDoor.Sv
open Go.RowKit
open Go.Proofs.YtjikokfjnbhngaaGreatDoor.Tl (colsOf RdT TyT tval hasT)
set_option maxRecDepth 100000
theorem SrvIn.few {w:World} {S:Srv} {L:Lay} (h:SrvIn w S L):L.l.its.length≤5864062014805∧∀ x∈L.l.its,x.1.length≤17592186044416:=⟨h.rdV.m1,h.rdV.m2⟩
theorem has_srv (p:Int) (w:World) (S:Srv) (L:Lay) (h:SrvIn w S L):Calls Tryz.prog 32 #[tval L.l.co L.l.its.length L.l.cap,.int .i64 p] w fun e w'=>e=.returned (.bool (hasT S.v.cols p))∧Below w.heap.size w w':=
 Tl.has_any L.l.its L.l.co L.l.cap p w h.rd h.few.1 h.few.2 _ (by rw [h.cols])
theorem put_focus {w:World} {S:Srv} {L:Lay} (h:SrvIn w S L) (p:Int):(w.setCell ⟨L.sb,57,none⟩ (.int .i64 p)).heap[L.sb]?=some (sbox {S with v:={S.v with focus:=p}} L):=by
 rw [set_cells h.box]
 rfl
theorem put_acts {w:World} {S:Srv} {L:Lay} (h:SrvIn w S L):(w.setCell ⟨L.sb,85,none⟩ (.int .i64 ((S.acts:Int)+1))).heap[L.sb]?=some (sbox (countS S) L):=by
 rw [set_cells h.box]
 rfl
theorem focus_any (p:Int) (w:World) (S:Srv) (L:Lay) (h:SrvIn w S L):
  Calls Tryz.prog 70 #[.pointer (some ⟨L.sb,0,none⟩),.int .i64 p] w fun e w'=>e=.returned (.int .i64 (focusS S p).2)∧∃ L',SrvTo w S L (focusS S p).1 L' w':=by
 have HS:Hid (SrvIn w S L):=h
 have ht:=h.tiles
 have hlt:=(Array.getElem?_eq_some_iff.1 h.box).1
 cases hh:hasT S.v.cols p
 ·have HH:Hid (∀ w,SrvIn w S L→Calls Tryz.prog 32 #[tval L.l.co L.l.its.length L.l.cap,.int .i64 p] w fun e w'=>e=.returned (.bool false)∧Below w.heap.size w w'):=fun w h=>by rw [←hh];exact has_srv p w S L h
  have HD:Hid (focusS S p=(S,3)):=by show focusS S p=_;unfold focusS;rw [hh];rfl
  clear h hh
  go_enter Tryz.func70,Tryz.ntmps70
  go_wp2_with (go_at_call 32;refine(HH.out _ HS.out).mono ?_;rintro e w1 ⟨rfl,hb1⟩;have HB1:Hid (Below w.heap.size w w1):=hb1;clear hb1)
  go_ret
  rw [HD.out]
  exact⟨rfl,L,(SrvTo.refl HS.out).later HB1.out⟩
 ·have HH:Hid (∀ w,SrvIn w S L→Calls Tryz.prog 32 #[tval L.l.co L.l.its.length L.l.cap,.int .i64 p] w fun e w'=>e=.returned (.bool true)∧Below w.heap.size w w'):=fun w h=>by rw [←hh];exact has_srv p w S L h
  have HD:Hid (focusS S p=({S with v:={S.v with focus:=p}},0)):=by show focusS S p=_;unfold focusS;rw [hh];rfl
  have HO:Hid (WkS {S with v:={S.v with focus:=p}}):=⟨h.ok.t,h.ok.w1,h.ok.w2,h.ok.h1,h.ok.h2,h.ok.grid,h.ok.par,h.ok.cl⟩
  have HE:Hid (∀ w1,Below w.heap.size w w1→SrvTo w S L {S with v:={S.v with focus:=p}} L (w1.setCell ⟨L.sb,57,none⟩ (.int .i64 p))):=fun w1 hb=>SrvTo.from hb (sb_nums (HS.out.below hb) (set_kp w1 L.sb _ _) HO.out (put_focus (HS.out.below hb) p) rfl rfl rfl rfl)
  clear h hh
  go_enter Tryz.func70,Tryz.ntmps70
  go_wp2_with (go_at_call 32;refine(HH.out _ HS.out).mono ?_;rintro e w1 ⟨rfl,hb1⟩;have HE1:Hid (SrvTo w S L {S with v:={S.v with focus:=p}} L (w1.setCell ⟨L.sb,57,none⟩ (.int .i64 p))):=HE.out w1 hb1;have hin1:=HS.out.below hb1;have hp1:=hin1.sides.2.2;have hf1:=hin1.frozen 57;clear hb1 hin1 ht)
  go_ret
  rw [HD.out]
  exact⟨rfl,L,HE1.out⟩
theorem unused_eq (cols:List (List Int)):unusedT cols=((([0,1,2,3,4,5]:List Nat).find? fun n:Nat=>!hasT cols n).getD 6):=rfl
theorem unused_six {cols:List (List Int)} (h:∀ j:Nat,j < 6→hasT cols j=true):unusedT cols=6:=by
 rw [unused_eq]
 simp only [List.find?_cons,h 0 (by omega),h 1 (by omega),h 2 (by omega),h 3 (by omega),h 4 (by omega),h 5 (by omega)]
 rfl
theorem unused_at {cols:List (List Int)} {k:Nat} (hk:k < 6) (h:∀ j:Nat,j < k→hasT cols j=true) (hn:hasT cols k=false):unusedT cols=k:=by
 rw [unused_eq]
 have:k=0∨k=1∨k=2∨k=3∨k=4∨k=5:=by omega
 rcases this with rfl | rfl | rfl | rfl | rfl | rfl
 ·simp only [List.find?_cons,hn];rfl
 ·simp only [List.find?_cons,h 0 (by omega),hn];rfl
 ·simp only [List.find?_cons,h 0 (by omega),h 1 (by omega),hn];rfl
 ·simp only [List.find?_cons,h 0 (by omega),h 1 (by omega),h 2 (by omega),hn];rfl
 ·simp only [List.find?_cons,h 0 (by omega),h 1 (by omega),h 2 (by omega),h 3 (by omega),hn];rfl
 ·simp only [List.find?_cons,h 0 (by omega),h 1 (by omega),h 2 (by omega),h 3 (by omega),h 4 (by omega),hn];rfl
theorem ret_int {a b:Int} (h:a=b):Ending.returned (.int .i64 a)=.returned (.int .i64 b):=by rw [h]
set_option maxHeartbeats 1000000 in
theorem unused_any (w:World) (S:Srv) (L:Lay) (h:SrvIn w S L):
  Calls Tryz.prog 65 #[.pointer (some ⟨L.sb,0,none⟩)] w fun e w'=>e=.returned (.int .i64 (unusedT S.v.cols))∧Below w.heap.size w w':=by
 have HS:Hid (SrvIn w S L):=h
 have HH:Hid (∀ p w,SrvIn w S L→Calls Tryz.prog 32 #[tval L.l.co L.l.its.length L.l.cap,.int .i64 p] w fun e w'=>e=.returned (.bool (hasT S.v.cols p))∧Below w.heap.size w w'):=fun p w h=>has_srv p w S L h
 clear h
 go_enter Tryz.func65,Tryz.ntmps65
 go_wp2
 go_loopw [3] (fun i wr=>∃ k:Nat,k≤6∧i=.int .i64 k∧(∀ j:Nat,j < k→hasT S.v.cols j=true)∧Below w.heap.size w wr) (fun i _=>6 - (intOf i).toNat)
 case atStart=>exact⟨0,Nat.zero_le _,rfl,fun j hj=>by omega,Below.refl _ _⟩
 case round=>
  obtain⟨k,hk,rfl,hj,hb⟩:=hrel
  have HJ:Hid (∀ j:Nat,j < k→hasT S.v.cols j=true):=hj
  have HB:Hid (Below w.heap.size w wr):=hb
  have ht:=(HS.out.below hb).tiles
  have hlt:=(Array.getElem?_eq_some_iff.1 (HS.out.below hb).box).1
  clear hj hb
  by_cases hlt6:k < 6
  ·have hlt':(k:Int) < 6:=by omega
   cases hh:hasT S.v.cols k
   ·have HU:Hid (unusedT S.v.cols=k):=unused_at hlt6 HJ.out hh
    have HH1:Hid (∀ w,SrvIn w S L→Calls Tryz.prog 32 #[tval L.l.co L.l.its.length L.l.cap,.int .i64 k] w fun e w'=>e=.returned (.bool false)∧Below w.heap.size w w'):=fun w h=>by rw [←hh];exact HH.out k w h
    clear hh HH
    go_wp2_with (go_at_call 32;refine(HH1.out _ (HS.out.below HB.out)).mono ?_;rintro e w1 ⟨rfl,hb1⟩;have HB1:Hid (Below w.heap.size w w1):=HB.out.trans (hb1.mono HB.out.size);clear hb1)
    go_ret
    exact⟨ret_int (by rw [HU.out]),HB1.out⟩
   ·have HU:Hid (∀ j:Nat,j < k+1→hasT S.v.cols j=true):=fun j hj=>by
     by_cases e:j=k
     ·rw [e];exact hh
     ·exact HJ.out j (by omega)
    have HH1:Hid (∀ w,SrvIn w S L→Calls Tryz.prog 32 #[tval L.l.co L.l.its.length L.l.cap,.int .i64 k] w fun e w'=>e=.returned (.bool true)∧Below w.heap.size w w'):=fun w h=>by rw [←hh];exact HH.out k w h
    clear hh HH
    go_wp2_with (go_at_call 32;refine(HH1.out _ (HS.out.below HB.out)).mono ?_;rintro e w1 ⟨rfl,hb1⟩;have HB1:Hid (Below w.heap.size w w1):=HB.out.trans (hb1.mono HB.out.size);clear hb1)
    go_roundw
    case rel=>exact⟨k+1,by omega,by go_num,HU.out,HB1.out⟩
    case measure=>simp [intOf];omega
  ·obtain rfl:k=6:=by omega
   have HU:Hid (unusedT S.v.cols=6):=unused_six HJ.out
   go_wp2
   go_ret
   exact⟨ret_int (by rw [HU.out]),HB.out⟩
end Go.Proofs.YtjikokfjnbhngaaGreatDoor.Sv

/- A whole box is stored, and loaded: the world behind it is a letter. -/
namespace Go.Proofs.YtjikokfjnbhngaaGreatDoor.Sv
open Go.RowKit
theorem wpList_box {ops:Array Oper} {rest:List Oper} {op:Oper} {a:Act} {w:World} {Q:Exit→Act→World→Prop} (hgd:op.guard=none) (ty:TypeId) (x y:Operand) (ho:op.op=.store ty x y) (B:Nat) (cs:Array Value) (hx:a.eval x=.pointer (some ⟨B,0,none⟩)) (hy:a.eval y=.agg cs)
  (old:Array Value) (hg:w.heap[B]?=some (.cells old ty (0,0))) (hi:(Tryz.prog.info? ty).map (·.size)=some cs.size) (hold:old.size=cs.size) (h1:cs.all (·.oneCell')=true)
  (h:∀ w',Hid (w'.heap[B]?=some (.cells cs ty (0,0))∧w.grownBy w' (some B))→wpList Tryz.prog ops Q rest (a.put op.dst undef) w'):wpList Tryz.prog ops Q (op::rest) a w:=
 wpList_store_row hgd ty x y ho B cs hx hy ty old hg hi hold h1 (h _ ⟨setRow_heap w B _ _ _ _ hg,grown_setRow w B cs⟩)
theorem gone (g:Gr) (ao:Option Addr) (cap:Nat):(gcells g ao cap).all (·.oneCell')=true:=by simp [Value.oneCell']
theorem infoG9:(Tryz.prog.info? 40).map (·.size)=some 9:=by kernel_rfl
theorem wpList_gbox {ops:Array Oper} {rest:List Oper} {op:Oper} {a:Act} {w:World} {Q:Exit→Act→World→Prop} (hgd:op.guard=none) (x y:Operand) (ho:op.op=.store 40 x y) (B:Nat) (g:Gr) (ao:Option Addr) (cap:Nat) (hx:a.eval x=.pointer (some ⟨B,0,none⟩)) (hy:a.eval y=gval g ao cap)
  (old:Array Value) (hg:w.heap[B]?=some (.cells old 40 (0,0))) (hold:old.size=9)
  (h:∀ w',Hid (w'.heap[B]?=some (gbox g ao cap)∧w.grownBy w' (some B))→wpList Tryz.prog ops Q rest (a.put op.dst undef) w'):wpList Tryz.prog ops Q (op::rest) a w:=
 wpList_box hgd _ x y ho B (gcells g ao cap) hx hy old hg infoG9 hold (gone g ao cap) h
theorem Gl.grown {w w':World} {ao:Option Addr} {cap:Nat} {g:Gr} (h:Gl w ao cap g) {B:Nat} {c:Array Value} {t:TypeId} {fr:Nat×Nat} (hb:w.heap[B]?=some (.cells c t fr)) (ht:t≠66) (hg:w.grownBy w' (some B)):Gl w' ao cap g:=
 h.keep fun b x hx=>hg.block b (Array.getElem?_eq_some_iff.1 hx).1 (fun e=>by
  simp only [Option.some.injEq] at e
  rw [e,hb] at hx
  simp only [Option.some.injEq,Obj.cells.injEq] at hx
  exact ht hx.2.1)
theorem below_grown {w w1 w2:World} (h:Below w.heap.size w w1) {B:Nat} (hB:w.heap.size≤B) (hg:w1.grownBy w2 (some B)):Below w.heap.size w w2:=h.trans (grown_below hg h.size hB)
end Go.Proofs.YtjikokfjnbhngaaGreatDoor.Sv

/- A screen with such sides. -/
namespace Go.Proofs.YtjikokfjnbhngaaGreatDoor.Sv
open Go.RowKit
set_option maxRecDepth 100000
theorem gl_copied {w w':World} {g:Gr} {ao:Option Addr} {cap:Nat} (hn:0 < g.n) (h:Copied w g.n g.f ao cap w'):Gl w' ao cap g:=by
 obtain⟨b,h1,_,h3,h4⟩:=h.2.1 hn
 exact .inr ⟨b,h1,h4,h3⟩
theorem ok_pos {g:Gr} (ok:OkG g):0 < g.n:=by
 have h1:=ok.size
 have h2:1*g.high≤g.wide*g.high:=mul_mono ok.w1 (by have:=ok.h1;omega)
 have:=ok.h1
 omega
theorem below9 {w w1:World} {B:Nat} (h:Below w.heap.size w w1) (hB:w.heap.size≤B) (u0 u1 u2 u3 u4 u5 u6 u7 u8:Value):
  Below w.heap.size w (((((((((w1.setCell ⟨B,0,none⟩ u0).setCell ⟨B,1,none⟩ u1).setCell ⟨B,2,none⟩ u2).setCell ⟨B,3,none⟩ u3).setCell ⟨B,4,none⟩ u4).setCell ⟨B,5,none⟩ u5).setCell ⟨B,6,none⟩ u6).setCell ⟨B,7,none⟩ u7).setCell ⟨B,8,none⟩ u8):=
 ((((((((h.setCell (p:=⟨B,0,none⟩) hB u0).setCell (p:=⟨B,1,none⟩) hB u1).setCell (p:=⟨B,2,none⟩) hB u2).setCell (p:=⟨B,3,none⟩) hB u3).setCell (p:=⟨B,4,none⟩) hB u4).setCell (p:=⟨B,5,none⟩) hB u5).setCell (p:=⟨B,6,none⟩) hB u6).setCell (p:=⟨B,7,none⟩) hB u7).setCell (p:=⟨B,8,none⟩) hB u8
theorem gl9 {w:World} {B:Nat} {x:Gr} {ao:Option Addr} {cap:Nat} {c:Array Value} (h:Gl w ao cap x) (hb:w.heap[B]?=some (.cells c 40 (0,0))) (u0 u1 u2 u3 u4 u5 u6 u7 u8:Value):
  Gl (((((((((w.setCell ⟨B,0,none⟩ u0).setCell ⟨B,1,none⟩ u1).setCell ⟨B,2,none⟩ u2).setCell ⟨B,3,none⟩ u3).setCell ⟨B,4,none⟩ u4).setCell ⟨B,5,none⟩ u5).setCell ⟨B,6,none⟩ u6).setCell ⟨B,7,none⟩ u7).setCell ⟨B,8,none⟩ u8) ao cap x:=
 h.keep fun b y hy=>by
  have hne:b≠B:=fun e=>by
   rw [e,hb] at hy
   simp only [Option.some.injEq,Obj.cells.injEq] at hy
   exact absurd hy.2.1 (by decide)
  rw [Below.heap_setCell _ _ _ _ hne,Below.heap_setCell _ _ _ _ hne,Below.heap_setCell _ _ _ _ hne,Below.heap_setCell _ _ _ _ hne,Below.heap_setCell _ _ _ _ hne,Below.heap_setCell _ _ _ _ hne,Below.heap_setCell _ _ _ _ hne,Below.heap_setCell _ _ _ _ hne,Below.heap_setCell _ _ _ _ hne]
set_option maxHeartbeats 2000000 in
theorem fitted_any (g:Gr) (ao:Option Addr) (cap:Nat) (hg:g=noG∨OkG g) (wide high:Int) (w:World) (hl:Gl w ao cap g) (x:Gr) (hx:x=fittedG g wide high):
  Calls Tryz.prog 80 #[gval g ao cap,.int .i64 wide,.int .i64 high] w fun e w'=>∃ ao' cap',e=.returned (gval x ao' cap')∧Gl w' ao' cap' x∧Below w.heap.size w w':=by
 have HL:Hid (Gl w ao cap g):=hl
 have HB2:Hid (∀ o1 o2:Obj,Below w.heap.size w ((w.alloc o1).alloc o2)):=fun o1 o2=>(below1 _ _).alloc (by simp) _
 by_cases h0:g.wide=0
 ·have hx':x=newG wide high:=by rw [hx];unfold fittedG;rw [if_pos h0]
  have HN:Hid (∀ w,Calls Tryz.prog 36 #[.int .i64 wide,.int .i64 high] w fun e w'=>∃ b,e=.returned (gval x (some ⟨b,0,none⟩) x.n)∧Scr w' b x.n x.f∧w.heap.size≤b∧Below w.heap.size w w'):=fun w=>new_any wide high w x hx'
  have e0:(g.wide==0)=true:=by simpa using h0
  clear hx hx' hg hl h0
  go_enter Tryz.func80,Tryz.ntmps80
  go_wp2_with (go_at_call 36;refine(HN.out _).mono ?_;rintro e w1 ⟨b,rfl,hs1,hbb1,hb1⟩;have HB1:Hid (Scr w1 b x.n x.f∧Below w.heap.size w w1∧w1.heap[w.heap.size+1]?=some gzero):=⟨hs1,(HB2.out _ _).trans (hb1.mono (by simp;omega)),below_block hb1 (at_new1 w _ _) (by simp)⟩;obtain⟨⟨u0,u1,u2,u3,u4,u5,u6,u7,u8⟩,uf⟩:=nine HB1.out.2.2;clear hs1 hbb1 hb1)
  refine bodyPost_ret (v:=gval x (some ⟨b,0,none⟩) x.n) (by simp [results,Tryz.results80,go_sem, *]) rfl ?_
  exact⟨_,_,rfl,gl9 (.inr ⟨b,rfl,HB1.out.1,Nat.le_refl _⟩) HB1.out.2.2 _ _ _ _ _ _ _ _ _,below9 HB1.out.2.1 (by omega) _ _ _ _ _ _ _ _ _⟩
 ·have ok:OkG g:=hg.resolve_left (fun e=>h0 (by rw [e];rfl))
  have e0:(g.wide==0)=false:=by simpa using h0
  by_cases h1:g.wide=wide∧g.high=high
  ·obtain rfl:x=g:=by rw [hx];unfold fittedG;rw [if_neg h0,if_pos h1]
   have e1:(x.wide==wide)=true:=by simpa using h1.1
   have e2:(x.high==high)=true:=by simpa using h1.2
   clear hx hg h0 h1 ok hl
   go_enter Tryz.func80,Tryz.ntmps80
   go_wp2
   refine bodyPost_ret (v:=gval x ao cap) (by simp [results,Tryz.results80,go_sem, *]) rfl ?_
   exact⟨_,_,rfl,HL.out.below (HB2.out _ _),HB2.out _ _⟩
  ·have hx':x=resGS g wide high:=by rw [hx];unfold fittedG;rw [if_neg h0,if_neg h1,if_pos ((goodG_iff g).2 ok)]
   have hr:(x,(0:Int))=resR g wide high:=by unfold resR;rw [if_pos ((goodG_iff g).2 ok),hx'];rfl
   have hxn:0 < x.n:=ok_pos (by rw [hx'];exact ok_res ok wide high)
   obtain⟨q1,q2,_⟩:=ok.nums
   have HR:Hid (∀ w,Gl w ao cap g→Calls Tryz.prog 106 #[gval g ao cap,.int .i64 wide,.int .i64 high] w (AllEnd w (x,0))):=fun w h=>resize_any g ao cap wide high w h.rd h.none (by omega) h.cap (x,0) hr
   have hor:(g.wide==wide)=true∧(g.high==high)=false∨(g.wide==wide)=false:=by
    by_cases hi:g.wide=wide
    ·exact .inl ⟨by simpa using hi,by simpa [hi] using h1⟩
    ·exact .inr (by simpa using hi)
   clear hx hg h0 h1 ok hl hx' hr q1 q2
   rcases hor with ⟨e1,e2⟩ | e1
   all_goals (
    go_enter Tryz.func80,Tryz.ntmps80
    go_wp2_with (first
     | (go_at_call 106;refine(HR.out _ (HL.out.below (HB2.out _ _))).mono ?_;rintro e w1 ⟨ao1,c1,rfl,hcp⟩;have HB1:Hid (Gl w1 ao1 c1 x∧Below w.heap.size w w1∧w1.heap[w.heap.size]?=some (gbox g ao cap)∧w1.heap[w.heap.size+1]?=some gzero):=⟨gl_copied hxn hcp,(HB2.out _ _).trans (hcp.2.2.mono (by simp;omega)),below_block hcp.2.2 (at_old (at_new w _) _) (by simp;omega),below_block hcp.2.2 (at_new1 w _ _) (by simp)⟩;clear hcp)
     | (refine wpList_gbox rfl _ _ rfl w.heap.size x ao1 c1 rfl rfl _ HB1.out.2.2.1 rfl ?_;intro w2 hw2;have HB2':Hid (Gl w2 ao1 c1 x∧Below w.heap.size w w2∧w2.heap[w.heap.size]?=some (gbox x ao1 c1)∧w2.heap[w.heap.size+1]?=some gzero):=⟨HB1.out.1.grown HB1.out.2.2.1 (by decide) hw2.out.2,below_grown HB1.out.2.1 (Nat.le_refl _) hw2.out.2,hw2.out.1,grown_block hw2.out.2 HB1.out.2.2.2 (by simp)⟩;clear hw2;obtain⟨⟨x0,x1,x2,x3,x4,x5,x6,x7,x8⟩,xf⟩:=nine HB2'.out.2.2.1)
     | (refine wpList_gbox rfl _ _ rfl (w.heap.size+1) x ao1 c1 rfl rfl _ HB2'.out.2.2.2 rfl ?_;intro w3 hw3;have HB3:Hid (Gl w3 ao1 c1 x∧Below w.heap.size w w3∧w3.heap[w.heap.size+1]?=some (gbox x ao1 c1)):=⟨HB2'.out.1.grown HB2'.out.2.2.2 (by decide) hw3.out.2,below_grown HB2'.out.2.1 (by omega) hw3.out.2,hw3.out.1⟩;clear hw3 x0 x1 x2 x3 x4 x5 x6 x7 x8 xf;obtain⟨⟨x0,x1,x2,x3,x4,x5,x6,x7,x8⟩,xf⟩:=nine HB3.out.2.2))
    refine bodyPost_ret (v:=gval x ao1 c1) (by simp [results,Tryz.results80,go_sem, *]) rfl ?_
    exact⟨_,_,rfl,HB3.out.1,HB3.out.2.1⟩)
end Go.Proofs.YtjikokfjnbhngaaGreatDoor.Sv
