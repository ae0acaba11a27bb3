/- Several texts in one, each as it was: SClient, SNil, SOpen, STake. -/
import Derived.Test.YtjikokfjnbhngaaGreatDoorMSMach
import Derived.Deep.RegionHeld3
import Derived.Deep.QuietTactic
import Derived.BigQuiet
import Derived.Test.YtjikokfjnbhngaaGreatDoorZTake
import Derived.Test.YtjikokfjnbhngaaGreatDoorMGDraw
import Derived.Test.YtjikokfjnbhngaaGreatDoorMTGood
import Derived.Test.YtjikokfjnbhngaaGreatDoorMPMach
import Derived.Test.YtjikokfjnbhngaaGreatDoorMDWrite
import Derived.ProofKit
import Derived.OpenShut
import Derived.ShutString
import Derived.ChangeOld
import Derived.Below
import Derived.JoinedCond
import Derived.Lib.SmallJoins
import Derived.Deep.Slices
import Derived.SizedLaws

/- What 'Client' answers; a drain. -/
namespace Go.Proofs.YtjikokfjnbhngaaGreatDoor.Sv
open Go.RowKit
set_option maxRecDepth 100000
theorem eleven {w:World} {b:Nat} {c:Cl} {ao:Option Addr} {cap:Nat} (h:w.heap[b]?=some (clbox c ao cap)):
  (w.cell? ⟨b,0,none⟩=some (.string (bs c.q))∧w.cell? ⟨b,1,none⟩=some (.bool c.lost)∧w.cell? ⟨b,2,none⟩=some (.int .i64 c.g.wide)∧w.cell? ⟨b,3,none⟩=some (.int .i64 c.g.high)∧w.cell? ⟨b,4,none⟩=some (.slice ao c.g.n cap)∧w.cell? ⟨b,5,none⟩=some (.int .i64 c.g.row)∧w.cell? ⟨b,6,none⟩=some (.int .i64 c.g.col)∧w.cell? ⟨b,7,none⟩=some (.int .i64 c.g.ink)∧w.cell? ⟨b,8,none⟩=some (.bool c.g.bold)∧w.cell? ⟨b,9,none⟩=some (.int .i64 c.g.top)∧w.cell? ⟨b,10,none⟩=some (.int .i64 c.g.bottom))∧
  (∀ j,w.frozen? ⟨b,j,none⟩=false):=
 ⟨⟨cell_of_row w b 0 _ _ _ h,cell_of_row w b 1 _ _ _ h,cell_of_row w b 2 _ _ _ h,cell_of_row w b 3 _ _ _ h,cell_of_row w b 4 _ _ _ h,cell_of_row w b 5 _ _ _ h,cell_of_row w b 6 _ _ _ h,cell_of_row w b 7 _ _ _ h,cell_of_row w b 8 _ _ _ h,cell_of_row w b 9 _ _ _ h,cell_of_row w b 10 _ _ _ h⟩,fun j=>frozen_of_row w b j _ _ h⟩
theorem here_cases (S:Srv) (L:Lay) (i:Int):(hereS S i=none∧fad S L i=none)∨∃ c,hereS S i=some c∧isCl i=true∧S.cl i.toNat=some c∧fad S L i=some ⟨L.cb i.toNat,0,none⟩:=by
 unfold hereS fad cad
 cases hi:isCl i
 ·left;simp
 ·cases hc:S.cl i.toNat with
  | none=>left;simp
  | some c=>right;exact⟨c,by simp⟩
theorem client_nil (i:Int) (w:World):Calls Tryz.prog 16 #[.pointer none,.int .i64 i] w fun e w'=>e=.returned (.tuple #[.string ⟨#[]⟩,.bool false,.bool false])∧w'=w:=by
 go_enter Tryz.func16,Tryz.ntmps16
 go_wp2_with (go_at_call 37;refine(find_nil i _).mono ?_;rintro e w1 ⟨rfl,hw1⟩;subst w1)
 go_ret3
 exact⟨rfl,rfl⟩
def clR (x:Option Cl):Array Value:=match x with
 | none=> #[.string ⟨#[]⟩,.bool false,.bool false]
 | some c=> #[.string (bs c.q),.bool c.lost,.bool true]
theorem client_any (i:Int) (w:World) (S:Srv) (L:Lay) (h:SrvIn w S L):Calls Tryz.prog 16 #[.pointer (some ⟨L.sb,0,none⟩),.int .i64 i] w fun e w'=>e=.returned (.tuple (clR (hereS S i)))∧∃ n,w'=w.drewN n:=by
 have HF:Hid (Calls Tryz.prog 37 #[.pointer (some ⟨L.sb,0,none⟩),.int .i64 i] w fun e w'=>e=.returned (.pointer (fad S L i))∧w'=w):=find_any i w S L h
 rcases here_cases S L i with ⟨h1,h2⟩ | ⟨c,h1,hi,h2,h3⟩
 ·rw [h2] at HF
  rw [h1]
  clear h h1 h2
  go_enter Tryz.func16,Tryz.ntmps16
  go_wp2_with (go_at_call 37;refine HF.out.mono ?_;rintro e w1 ⟨rfl,hw1⟩;subst w1)
  go_ret3
  exact⟨rfl,0,rfl⟩
 ·rw [h3] at HF
  rw [h1]
  simp only [isCl,decide_eq_true_eq] at hi
  have hb:=(h.cl i.toNat (by omega) c h2).1
  obtain⟨⟨c0,c1,_⟩,cf⟩:=eleven hb
  have hlt:=(Array.getElem?_eq_some_iff.1 hb).1
  generalize L.cb i.toNat=B at*
  clear h h1 h2 h3 hb
  go_enter Tryz.func16,Tryz.ntmps16
  go_wp2_with (go_at_call 37;refine HF.out.mono ?_;rintro e w1 ⟨rfl,hw1⟩;subst w1)
  go_region
  go_wp2
  go_ret3
  exact⟨rfl,1,rfl⟩
end Go.Proofs.YtjikokfjnbhngaaGreatDoor.Sv

/- A server that is nil; two views in boxes. -/
namespace Go.Proofs.YtjikokfjnbhngaaGreatDoor.Sv
open Go.RowKit
open Go.Proofs.YtjikokfjnbhngaaGreatDoor.Pt (Vw VC RdV vcells cbox zv zl wpList_alloc_view wpList_store_view)
open Go.Proofs.YtjikokfjnbhngaaGreatDoor.Tl (colsOf tval)
set_option maxRecDepth 100000
@[reducible] def acells (a:Ac):Array Value:=#[.int .i64 a.kind,.int .i64 a.p,.int .i64 a.n,.int .i64 a.m,.string (bs a.bytes)]
@[reducible] def aval (a:Ac):Value:=.agg (acells a)
@[reducible] def abox (a:Ac):Obj:=.cells (acells a) 28
@[reducible] def rpcells (r:Rp):Array Value:=#[.int .i64 r.code,.int .i64 r.n,.string (bs r.out)]
@[reducible] def rpval (r:Rp):Value:=.agg (rpcells r)
@[reducible] def rpbox (r:Rp):Obj:=.cells (rpcells r) 31
theorem three {w:World} {b:Nat} {c0 c1 c2:Value} {t:TypeId} (h:w.heap[b]?=some (.cells #[c0,c1,c2] t (0,0))):
  (w.cell? ⟨b,0,none⟩=some c0∧w.cell? ⟨b,1,none⟩=some c1∧w.cell? ⟨b,2,none⟩=some c2)∧(∀ j,w.frozen? ⟨b,j,none⟩=false):=
 ⟨⟨cell_of_row w b 0 _ t _ h,cell_of_row w b 1 _ t _ h,cell_of_row w b 2 _ t _ h⟩,fun j=>frozen_of_row w b j _ t h⟩
theorem rp_foreign:¬ Ours 31:=by unfold Ours;decide
theorem SrvTo.reply {w w1:World} {S S2:Srv} {L L2:Lay} (k:SrvTo w S L S2 L2 w1) {B:Nat} {r:Rp} (hb:w1.heap[B]?=some (rpbox r)) (hB:w.heap.size≤B) (u0 u1 u2:Value):SrvTo w S L S2 L2 (((w1.setCell ⟨B,0,none⟩ u0).setCell ⟨B,1,none⟩ u1).setCell ⟨B,2,none⟩ u2):=
 ((k.set hb rp_foreign hB 0 u0).set (set_cells hb u0) rp_foreign hB 1 u1).set (set_cells (set_cells hb u0) u1) rp_foreign hB 2 u2
theorem do_nil (a:Ac) (w:World):Calls Tryz.prog 19 #[.pointer none,aval a] w fun e w'=>e=.returned (rpval (err 3))∧Below w.heap.size w w':=by
 have HB:Hid (∀ o1 o2:Obj,Below w.heap.size w ((w.alloc o1).alloc o2)):=fun o1 o2=>(below1 _ _).alloc (by simp) _
 go_enter Tryz.func19,Tryz.ntmps19
 go_wp2
 exact bodyPost_ret (v:=rpval (err 3)) (by simp [results,Tryz.results19,go_sem];exact⟨rfl,rfl,rfl⟩) rfl ⟨rfl,HB.out _ _⟩
theorem view_ret {w:World} {fn:Func} {R:Ending→World→Prop} {a:Act} {p:Tmp} {B:Nat} {C:Array Value} (hf:fn.results=#[.cell p 58]) (hd:a.defers=[]) (hp:a.tmps.getD p undef=.pointer (some ⟨B,0,none⟩)) (hs:C.size=58) (hb:w.heap[B]?=some (cbox C)) (h:R (.returned (.agg C)) w):bodyPost Tryz.prog fn R .ret a w:=
 bodyPost_ret (v:=.agg C) (results_cell_row hf _ w B 58 C (0,0) _ hp hb Tryz.underlying58 rfl (by rw [hs];exact Pt.infoV)) hd h
theorem build_zero (w:World):(Instr.build 58 #[]).run Tryz.prog w=.ok (.agg (vcells zv zl)) w:=by
 simp only [Instr.build,Sem.run_bind,Pt.zero_view,Result.andThen_ok]
 kernel_rfl
theorem wpList_build_zero {ops:Array Oper} {rest:List Oper} {op:Oper} {a:Act} {w:World} {Q:Exit→Act→World→Prop} (hgd:op.guard=none) (ho:op.op=.build 58 #[])
  (h:wpList Tryz.prog ops Q rest (a.put op.dst (.agg (vcells zv zl))) w):wpList Tryz.prog ops Q (op::rest) a w:=
 Pt.wpList_run hgd (by unfold execOp;simp only [ho,Sem.run_bind,build_zero,Result.andThen_ok,Sem.run_pure,List.map_toArray,List.map_nil]) h
theorem view_nil (w:World):Calls Tryz.prog 25 #[.pointer none] w fun e w'=>e=.returned (.agg (vcells zv zl))∧Below w.heap.size w w':=by
 have HB:Hid (Below w.heap.size w (w.alloc (cbox (vcells zv zl)))):=below1 _ _
 go_enter Tryz.func25,Tryz.ntmps25
 go_wp2_with (first
  | (refine wpList_alloc_view rfl rfl ?_)
  | (refine wpList_build_zero rfl rfl ?_)
  | (refine wpList_store_view zv zv zl zl rfl _ _ rfl rfl rfl ?_))
 exact view_ret rfl rfl rfl rfl (at_new w _) ⟨rfl,HB.out⟩
theorem yields_grid {ops:Array Oper} {T:World→Prop} {op:Oper} {a:Act} (hw:Region.wanted op (yielded ops a.tmps)=true) (x:Operand) (ho:op.op=.load 40 x) (b p:Nat) (hp:p < 6) (hx:a.eval x=.pointer (some ⟨b,1+p*9,none⟩)) (v:Vw) (l:Pt.Lay) (C:Array Value) (hC:VC v l C) (hS:∀ w,T w→w.heap[b]?=some (cbox C)):YieldsIf Tryz.prog ops T op (gval (v.gs p) (l.ga p) (l.gc p)) a:=
 yieldsIf_load_mid (P:=Tryz.prog) hw 40 x ho b (1+p*9) hx (gcells (v.gs p) (l.ga p) (l.gc p)).toList _ (fun w h=>Pt.cbox_grid hC (hS w h) p hp) Tryz.underlying40 rfl Pt.infoG
structure PairV (w:World) (C D:Array Value) (v:Vw) (l m:Pt.Lay) (wr:World):Prop where
 one:wr.heap[w.heap.size]?=some (cbox C)
 two:wr.heap[w.heap.size+1]?=some (cbox D)
 ra:RdV wr v l
 rb:RdV wr v m
 below:Below w.heap.size w wr
theorem PairV.later {w:World} {C D:Array Value} {v:Vw} {l m:Pt.Lay} {wr w':World} (h:PairV w C D v l m wr) (hb:Below wr.heap.size wr w'):PairV w C D v l m w':=
 ⟨below_block hb h.one (Array.getElem?_eq_some_iff.1 h.one).1,below_block hb h.two (Array.getElem?_eq_some_iff.1 h.two).1,h.ra.below hb,h.rb.below hb,h.below.trans (hb.mono h.below.size)⟩
theorem undrewS {w w1:World} {B:Nat} (h:Below B w.drew w1):Below B w w1:=⟨h.os,h.tape,h.output,h.size,h.block⟩
theorem drewV {w:World} {v:Vw} {l:Pt.Lay} (h:RdV w v l):RdV w.drew v l:=h.below ((Below.refl _ _).drew)
end Go.Proofs.YtjikokfjnbhngaaGreatDoor.Sv

/- An act that came in, and a list of acts, opened. -/
namespace Go.Proofs.YtjikokfjnbhngaaGreatDoor.Sv
open Go.ChangeShapes Go.WideShapes Go.ChangeAt Go.RowKit Go.Joins
open Go.ChangeMaps (open_string shut_string)
theorem own:ownKnob Tryz.prog.godebug=none:=by kernel_rfl
theorem laidOut:laidOutB Tryz.prog=true:=by kernel_rfl
theorem cellsA:Tryz.prog.cellsOf 28=5:=by kernel_rfl
theorem bytesA:Tryz.prog.bytesOf 28=48:=by kernel_rfl
theorem weights_all {H:Type} {P:Program} {e:TypeId} {d:DataW H} {q:Nat}:∀ {l:List (DataW H)},d∈l→q∈d.weights P e→q∈DataW.weightsAll P e l
 | x::r,hd,hq=>by
  simp only [DataW.weightsAll,List.mem_append]
  rcases List.mem_cons.1 hd with h | h
  ·subst h;exact .inl hq
  ·exact .inr (weights_all h hq)
 | [],hd,_=>by cases hd
def RdA (w:World) (ao:Option Addr) (l:List Ac):Prop:=l=[]∨∃ b off,ao=some ⟨b,off,none⟩∧∀ k (hk:k < l.length),w.cell? ⟨b,off+k*5,none⟩=some (.int .i64 l[k].kind)∧w.cell? ⟨b,off+k*5+1,none⟩=some (.int .i64 l[k].p)∧w.cell? ⟨b,off+k*5+2,none⟩=some (.int .i64 l[k].n)∧w.cell? ⟨b,off+k*5+3,none⟩=some (.int .i64 l[k].m)∧w.cell? ⟨b,off+k*5+4,none⟩=some (.string (bs l[k].bytes))
theorem RdA.below {w w':World} {ao:Option Addr} {l:List Ac} (h:RdA w ao l) (hb:Below w.heap.size w w'):RdA w' ao l:=by
 rcases h with h | ⟨b,off,ha,hc⟩
 ·exact .inl h
 ·refine .inr ⟨b,off,ha,fun k hk=>?_⟩
  have h0:=hc k hk
  have hlt:=World.block_lt_of_cell? _ _ h0.1
  have e:∀ o,w'.cell? ⟨b,o,none⟩=w.cell? ⟨b,o,none⟩:=fun o=>World.cell?_of_block (hb.block b hlt)
  simp only [e]
  exact h0
section
variable {H : Type} {enc : TypeId × Value → H} {W : World} {base : Nat}
theorem array5 {α:Type} {cs:Array α} (h:cs.size=5):∃ c0 c1 c2 c3 c4,cs=#[c0,c1,c2,c3,c4]:=by
 obtain⟨l⟩:=cs
 match l,h with
 | [c0,c1,c2,c3,c4],_=>exact⟨c0,c1,c2,c3,c4,rfl⟩
theorem list5 {α:Type} {cs:List α} (h:cs.length=5):∃ c0 c1 c2 c3 c4,cs=[c0,c1,c2,c3,c4]:=by
 match cs,h with
 | [c0,c1,c2,c3,c4],_=>exact⟨c0,c1,c2,c3,c4,rfl⟩
set_option maxRecDepth 100000 in
theorem open_act5 {sp:Nat→Bool} {hd:Bool} {n:Nat} {cs:List Value} {x:DataW H×List MemPlace} (h:DataW.trod enc Tryz.prog W 0 sp hd n 28 cs=some x):
  ∃ a:Ac,cs=[.int .i64 a.kind,.int .i64 a.p,.int .i64 a.n,.int .i64 a.m,.string (bs a.bytes)]∧((∀ m∈x.1.weights Tryz.prog 28,m≤reachBytes)→a.bytes.length≤reachBytes):=by
 obtain⟨xs,m,_,hx,hl,hlen,hfs⟩:=DataW.trod_struct Tryz.underlying28 h
 rw [cellsA] at hl
 obtain⟨c0,c1,c2,c3,c4,rfl⟩:=list5 hl
 obtain⟨y0,y1,y2,y3,y4,rfl⟩:=list5 (by simpa using hlen)
 have one3:Tryz.prog.cellsOf 3=1:=by kernel_rfl
 have one9:Tryz.prog.cellsOf 9=1:=by kernel_rfl
 have h0:DataW.trod enc Tryz.prog W 0 sp hd m 3 (([c0,c1,c2,c3,c4].drop 0).take (Tryz.prog.cellsOf 3))=some y0:=hfs 0 _ rfl
 have h1:DataW.trod enc Tryz.prog W 0 sp hd m 3 (([c0,c1,c2,c3,c4].drop 1).take (Tryz.prog.cellsOf 3))=some y1:=hfs 1 _ rfl
 have h2:DataW.trod enc Tryz.prog W 0 sp hd m 3 (([c0,c1,c2,c3,c4].drop 2).take (Tryz.prog.cellsOf 3))=some y2:=hfs 2 _ rfl
 have h3:DataW.trod enc Tryz.prog W 0 sp hd m 3 (([c0,c1,c2,c3,c4].drop 3).take (Tryz.prog.cellsOf 3))=some y3:=hfs 3 _ rfl
 have h4:DataW.trod enc Tryz.prog W 0 sp hd m 9 (([c0,c1,c2,c3,c4].drop 4).take (Tryz.prog.cellsOf 9))=some y4:=hfs 4 _ rfl
 simp only [List.drop,one3,one9,List.take] at h0 h1 h2 h3 h4
 obtain⟨a0,e0,_⟩:=DataW.trod_int Tryz.underlying3 h0
 obtain⟨a1,e1,_⟩:=DataW.trod_int Tryz.underlying3 h1
 obtain⟨a2,e2,_⟩:=DataW.trod_int Tryz.underlying3 h2
 obtain⟨a3,e3,_⟩:=DataW.trod_int Tryz.underlying3 h3
 obtain⟨s,e4,e5,_⟩:=DataW.trod_string Tryz.underlying9 h4
 simp only [List.cons.injEq,and_true] at e0 e1 e2 e3 e4
 subst e0 e1 e2 e3 e4
 refine⟨⟨a0,a1,a2,a3,s.data.toList⟩,rfl,fun hw=>?_⟩
 have hw4:∀ m∈y4.1.weights Tryz.prog 9,m≤reachBytes:=fun m hm=>hw m (by
  rw [hx]
  simp only [DataW.weights,Tryz.underlying28,List.map_cons,List.map_nil,DataW.weightsEach]
  exact List.mem_append_right _ (List.mem_append_right _ (List.mem_append_right _ (List.mem_append_right _ (List.mem_append_left _ hm)))))
 have h5:=hw4 _ (by rw [e5];simp only [DataW.weights];exact List.mem_cons_self ..)
 exact h5
set_option maxRecDepth 100000 in
theorem open_act {v:Value} {d:DataW H} {p:List MemPlace} (hv:Value.okWide Tryz.prog W .any base 28 v) (h:DataW.Trod enc Tryz.prog W 0 (fun _=>true) true 28 v d p):
  ∃ a:Ac,v=aval a∧((∀ m∈d.weights Tryz.prog 28,m≤reachBytes)→a.bytes.length≤reachBytes):=by
 obtain⟨cs,rfl,hsz⟩:=okWide_struct Tryz.underlying28 hv
 obtain⟨c0,c1,c2,c3,c4,rfl⟩:=array5 (hsz.trans cellsA)
 obtain⟨fuel,hf⟩:=h
 obtain⟨a,ha,hw⟩:=open_act5 hf
 simp only [Value.cells,List.cons.injEq,and_true] at ha
 obtain⟨rfl,rfl,rfl,rfl,rfl⟩:=ha
 exact⟨a,rfl,hw⟩
set_option maxRecDepth 100000 in
theorem open_acts {v:Value} {d:DataW H} {p:List MemPlace} (hv:Value.okWide Tryz.prog W .any base 22 v) (h:DataW.Trod enc Tryz.prog W 0 (fun _=>true) true 22 v d p):
  ∃ (lo:Option Addr) (lc:Nat) (l:List Ac),v=.slice lo l.length lc∧RdA W lo l∧(lo=none→l=[]∧lc=0)∧l.length≤lc∧((∀ m∈d.weights Tryz.prog 22,m≤reachBytes)→l.length*48≤reachBytes∧∀ x∈l,x.bytes.length≤reachBytes):=by
 obtain⟨a0,l0,c0,rfl⟩:=okWide_slice Tryz.underlying22 hv
 obtain⟨fuel,hf⟩:=h
 have hf':DataW.trod enc Tryz.prog W 0 (fun _=>true) true fuel 22 [.slice a0 l0 c0]=some (d,p):=hf
 rcases Deep.open_slice Tryz.underlying22 hf' with ⟨hcs,_⟩ | ⟨a,len,cap,m,n',D,Pl,hcs,_,hl,hm,hmm,hx,each⟩
 ·simp only [List.cons.injEq,and_true,Value.slice.injEq] at hcs
  obtain⟨rfl,rfl,rfl⟩:=hcs
  exact⟨none,0,[],rfl,.inl rfl,fun _=>⟨rfl,rfl⟩,Nat.le_refl _,fun _=>⟨Nat.zero_le _,fun x hx=>(by cases hx)⟩⟩
 ·simp only [List.cons.injEq,and_true,Value.slice.injEq] at hcs
  obtain⟨rfl,rfl,rfl⟩:=hcs
  have hlm:l0≤m:=by rw [hmm];split <;>omega
  have hd:d=(.slice ((List.range l0).map D) ((List.range (m - l0)).map fun j=>D (l0+j)):DataW H):=by
   have:=congrArg Prod.fst hx
   exact this
  have hbk:(∀ m∈d.weights Tryz.prog 22,m≤reachBytes)→l0*48≤reachBytes:=by
   intro hw
   have h4:=hw _ (by rw [hd];simp only [DataW.weights,Tryz.underlying22];exact List.mem_cons_self ..)
   rw [bytesA] at h4
   simp only [List.length_map,List.length_range] at h4
   omega
  have ev:∀ i,i < l0→∃ x:Ac,(W.cell? (a.add (i*5))=some (.int .i64 x.kind)∧W.cell? (a.add (i*5+1))=some (.int .i64 x.p)∧W.cell? (a.add (i*5+2))=some (.int .i64 x.n)∧W.cell? (a.add (i*5+3))=some (.int .i64 x.m)∧W.cell? (a.add (i*5+4))=some (.string (bs x.bytes)))∧((∀ m∈d.weights Tryz.prog 22,m≤reachBytes)→x.bytes.length≤reachBytes):=by
   intro i hi
   obtain⟨cs',h1,h2⟩:=each i (by omega)
   obtain⟨_,_,hcell⟩:=World.cells?_some h1
   obtain⟨x,rfl,hb⟩:=open_act5 h2
   have hc:∀ j,j < 5→W.cell? (a.add (i*5+j))=[Value.int .i64 x.kind,.int .i64 x.p,.int .i64 x.n,.int .i64 x.m,.string (bs x.bytes)][j]?:=by
    intro j hj
    have:=hcell j (by rw [cellsA];exact hj)
    rw [cellsA,Deep.add_add] at this
    exact this
   refine⟨x,⟨hc 0 (by omega),hc 1 (by omega),hc 2 (by omega),hc 3 (by omega),hc 4 (by omega)⟩,fun hw=>hb fun q hq=>hw q ?_⟩
   rw [hd]
   simp only [DataW.weights,Tryz.underlying22]
   exact List.mem_cons_of_mem _ (List.mem_append_left _ (weights_all (List.mem_map.2 ⟨i,List.mem_range.2 hi,rfl⟩) hq))
  obtain⟨F,hF⟩:∃ F:Nat→Ac,F=fun i=>if h:i < l0 then Classical.choose (ev i h) else ⟨0,0,0,0,[]⟩:=⟨_,rfl⟩
  have hFs:∀ i,i < l0→(W.cell? (a.add (i*5))=some (.int .i64 (F i).kind)∧W.cell? (a.add (i*5+1))=some (.int .i64 (F i).p)∧W.cell? (a.add (i*5+2))=some (.int .i64 (F i).n)∧W.cell? (a.add (i*5+3))=some (.int .i64 (F i).m)∧W.cell? (a.add (i*5+4))=some (.string (bs (F i).bytes)))∧((∀ m∈d.weights Tryz.prog 22,m≤reachBytes)→(F i).bytes.length≤reachBytes):=by
   intro i hi
   have hs:=Classical.choose_spec (ev i hi)
   have e:F i=Classical.choose (ev i hi):=by rw [hF];simp only [dif_pos hi]
   rw [e]
   exact hs
  clear hF ev
  have hlen:((List.range l0).map F).length=l0:=by simp
  refine⟨some a,c0,(List.range l0).map F,by rw [hlen],?_,fun h=>(by cases h),by rw [hlen];exact hl,fun hw=>⟨by rw [hlen];exact hbk hw,?_⟩⟩
  ·rcases Nat.eq_zero_or_pos l0 with h0 | h0
   ·left;simp [h0]
   ·right
    obtain⟨b,off,spot⟩:=a
    have hspot:spot=none:=by
     have h1:=(hFs 0 h0).1.1
     have h2:=World.cell?_spot h1
     simpa [Addr.add] using h2
    subst hspot
    refine⟨b,off,rfl,fun k hk=>?_⟩
    rw [hlen] at hk
    have h1:=(hFs k hk).1
    simp only [add_at] at h1
    simp only [List.getElem_map,List.getElem_range, ←Nat.add_assoc] at h1 ⊢
    exact h1
  ·intro x hx
   obtain⟨i,hi,rfl⟩:=List.mem_map.1 hx
   exact(hFs i (List.mem_range.1 hi)).2 hw
set_option maxRecDepth 100000 in
theorem open_text {v:Value} {d:DataW H} {p:List MemPlace} (hv:Value.okWide Tryz.prog W .any base 9 v) (h:DataW.Trod enc Tryz.prog W 0 (fun _=>true) true 9 v d p):
  ∃ s:List UInt8,v=.string (bs s)∧((∀ m∈d.weights Tryz.prog 9,m≤reachBytes)→s.length≤reachBytes):=by
 obtain⟨s,rfl,rfl,_⟩:=open_string Tryz.underlying9 hv h
 refine⟨s.data.toList,rfl,fun hw=>?_⟩
 exact hw _ (by simp only [DataW.weights];exact List.mem_cons_self ..)
end
end Go.Proofs.YtjikokfjnbhngaaGreatDoor.Sv

/- A drain: what waits goes out. -/
namespace Go.Proofs.YtjikokfjnbhngaaGreatDoor.Sv
open Go.RowKit
set_option maxRecDepth 100000
theorem cl_set {w:World} {S:Srv} {L:Lay} (h:SrvIn w S L) {i:Nat} (hi:i < 3) {c:Cl} (hc:S.cl i=some c) (c':Cl) (ao:Option Addr) (cap:Nat) (okc:OkC c') {w':World} (hk:Kp (fun b=>b=L.cb i) w w') (hb:w'.heap[L.cb i]?=some (clbox c' ao cap)) (hg:Gl w' ao cap c'.g):
  SrvTo w S L {S with cl:=upd S.cl i (some c')} {L with ca:=upd L.ca i ao,cc:=upd L.cc i cap} w':=by
 have key:∀ (b:Nat) (x:Array Value) (t:TypeId),t≠81→w.heap[b]?=some (.cells x t (0,0))→w'.heap[b]?=w.heap[b]?:=fun b x t ht hb=>by
  refine hk.block b (Array.getElem?_eq_some_iff.1 hb).1 (fun e=>?_)
  rw [e,(h.cl i hi c hc).1] at hb
  simp only [Option.some.injEq,Obj.cells.injEq] at hb
  exact ht hb.2.1.symm
 have hT:∀ (b:Nat) (x:Array Value) (t:TypeId),t=35∨t=3→w.heap[b]?=some (.cells x t (0,0))→w'.heap[b]?=w.heap[b]?:=fun b x t ht hb=>by
  rcases ht with e | e
  ·exact key b x t (by rw [e];decide) hb
  ·exact key b x t (by rw [e];decide) hb
 have hsome:∀ j,((upd S.cl i (some c')) j).isSome=(S.cl j).isSome:=fun j=>by
  by_cases e:j=i
  ·rw [e,upd_at,hc];rfl
  ·rw [upd_ne _ _ e]
 have hcad:∀ j,cad {S with cl:=upd S.cl i (some c')} {L with ca:=upd L.ca i ao,cc:=upd L.cc i cap} j=cad S L j:=fun j=>by
  unfold cad
  simp only [hsome]
 have hbox:sbox {S with cl:=upd S.cl i (some c')} {L with ca:=upd L.ca i ao,cc:=upd L.cc i cap}=sbox S L:=by
  unfold sbox scells slist
  rw [hcad 0,hcad 1,hcad 2]
  rfl
 refine⟨⟨wk_cl h.ok i _ (fun d e=>by cases e;exact okc),?_,h.cols,RdT.keep h.rd h.ty hT,TyT.keep h.ty hT,fun p hp=>(h.gs p hp).keep fun b x hb=>key b x _ (by decide) hb,fun p hp=>(h.ps p hp).keep fun b x hb=>key b x 3 (by decide) hb,fun j hj d hd=>?_,fun j k hj hk2 hne h1 h2=>?_⟩,rfl,?_,fun j hj hs=>.inl ⟨by rw [←hsome j];exact hs,rfl⟩⟩
 ·rw [hbox]
  show w'.heap[L.sb]?=_
  rw [hk.block L.sb (Array.getElem?_eq_some_iff.1 h.box).1 (fun e=>h.sb_cb hi hc e)]
  exact h.box
 ·by_cases e:j=i
  ·subst e
   have hd':upd S.cl j (some c') j=some d:=hd
   rw [upd_at] at hd'
   cases hd'
   show w'.heap[L.cb j]?=some (clbox c' (upd L.ca j ao j) (upd L.cc j cap j))∧Gl w' (upd L.ca j ao j) (upd L.cc j cap j) c'.g
   rw [upd_at,upd_at]
   exact⟨hb,hg⟩
  ·have hd':upd S.cl i (some c') j=some d:=hd
   rw [upd_ne _ _ e] at hd'
   show w'.heap[L.cb j]?=some (clbox d (upd L.ca i ao j) (upd L.cc i cap j))∧Gl w' (upd L.ca i ao j) (upd L.cc i cap j) d.g
   rw [upd_ne _ _ e,upd_ne _ _ e]
   refine⟨?_,(h.cl j hj d hd').2.keep fun b x hb=>key b x _ (by decide) hb⟩
   rw [hk.block (L.cb j) (Array.getElem?_eq_some_iff.1 (h.cl j hj d hd').1).1 (fun e2=>h.apart j i hj hi e (by rw [hd'];rfl) (by rw [hc];rfl) e2)]
   exact(h.cl j hj d hd').1
 ·exact h.apart j k hj hk2 hne (by rw [←hsome j];exact h1) (by rw [←hsome k];exact h2)
 ·exact⟨hk.os,hk.tape,hk.output,hk.size,fun b hb hm=>hk.block b hb (fun e=>hm (.inr ⟨i,hi,by rw [hc];rfl,e⟩))⟩
theorem set_kp (w:World) (B j:Nat) (u:Value):Kp (fun b=>b=B) w (w.setCell ⟨B,j,none⟩ u):=Kp.set (M:=fun b=>b=B) w (p:=⟨B,j,none⟩) rfl u
theorem bs_extract (l:List UInt8) (a b:Nat):(bs l).extract a b=bs ((l.take b).drop a):=by
 apply ByteArray.ext
 simp [ByteArray.data_extract,List.extract_toArray,List.extract_eq_take_drop,List.drop_take]
theorem bs_take (l:List UInt8) (m:Nat):(bs l).extract 0 m=bs (l.take m):=by rw [bs_extract];rfl
theorem bs_drop (l:List UInt8) (m:Nat):(bs l).extract m l.length=bs (l.drop m):=by rw [bs_extract,List.take_length]
theorem take_any (c:Cl) (hq:c.q.length≤4000) (n:Int) (B:Nat) (ao:Option Addr) (cap:Nat) (w:World) (hb:w.heap[B]?=some (clbox c ao cap)):
  Calls Tryz.prog 67 #[.pointer (some ⟨B,0,none⟩),.int .i64 n] w fun e w'=>e=.returned (.string (bs (c.q.take (goes n c.q))))∧Kp (fun b=>b=B) w w'∧w'.heap[B]?=some (clbox {c with q:=c.q.drop (goes n c.q)} ao cap):=by
 obtain⟨⟨c0,c1,c2,c3,c4,c5,c6,c7,c8,c9,c10⟩,cf⟩:=eleven hb
 obtain⟨m,hm⟩:∃ m,m=goes n c.q:=⟨_,rfl⟩
 have hml:m≤c.q.length:=by rw [hm];unfold goes;omega
 have hmi:max 0 (min n (c.q.length:Int))=(m:Int):=by rw [hm];unfold goes;omega
 have hsz:(bs c.q).size=c.q.length:=bs_size _
 rw [←hm]
 have hlt:=(Array.getElem?_eq_some_iff.1 hb).1
 have HB:Hid (w.heap[B]?=some (clbox c ao cap)):=hb
 clear hm hb
 go_enter Tryz.func67,Tryz.ntmps67
 go_wp2
 go_ret
 refine⟨ret_str (bs_take _ _),set_kp w B 0 _,?_⟩
 rw [bs_drop]
 exact set_cells HB.out _
theorem drain_any (i n:Int) (w:World) (S:Srv) (L:Lay) (h:SrvIn w S L):
  Calls Tryz.prog 41 #[.pointer (some ⟨L.sb,0,none⟩),.int .i64 i,.int .i64 n] w fun e w'=>e=.returned (rpval (drainS S i n).2)∧∃ L',SrvTo w S L (drainS S i n).1 L' w':=by
 have HF:Hid (∀ w,SrvIn w S L→Calls Tryz.prog 37 #[.pointer (some ⟨L.sb,0,none⟩),.int .i64 i] w fun e w'=>e=.returned (.pointer (fad S L i))∧w'=w):=fun w h=>find_any i w S L h
 have HS:Hid (SrvIn w S L):=h
 have HB:Hid (∀ o:Obj,Below w.heap.size w (w.alloc o)):=fun o=>below1 w o
 rcases here_cases S L i with ⟨h1,h2⟩ | ⟨c,h1,hi,h2,h3⟩
 ·have HD:Hid (drainS S i n=(S,err 3)):=by show drainS S i n=_;unfold drainS;rw [h1]
  rw [h2] at HF
  clear h h1 h2
  go_enter Tryz.func41,Tryz.ntmps41
  go_wp2_with (go_at_call 37;refine(HF.out _ (HS.out.alloc _)).mono ?_;rintro e w1 ⟨rfl,hw1⟩;subst w1)
  refine bodyPost_ret (v:=rpval (err 3)) (by simp [results,Tryz.results41,go_sem];exact⟨rfl,rfl,rfl⟩) rfl ?_
  rw [HD.out]
  exact⟨rfl,L,(SrvTo.refl HS.out).later (HB.out _)⟩
 ·simp only [isCl,decide_eq_true_eq] at hi
  have hi3:i.toNat < 3:=by omega
  have hq:=(h.ok.cl i.toNat hi3 c h2).short
  obtain⟨m,hm⟩:∃ m,m=goes n c.q:=⟨_,rfl⟩
  have HD:Hid (drainS S i n=({S with cl:=upd S.cl i.toNat (some {c with q:=c.q.drop m})},⟨0,m,c.q.take m⟩)):=by
   show drainS S i n=_
   unfold drainS
   rw [h1,hm]
  have HT:Hid (∀ w,w.heap[L.cb i.toNat]?=some (clbox c (L.ca i.toNat) (L.cc i.toNat))→Calls Tryz.prog 67 #[.pointer (some ⟨L.cb i.toNat,0,none⟩),.int .i64 n] w fun e w'=>e=.returned (.string (bs (c.q.take m)))∧Kp (fun b=>b=L.cb i.toNat) w w'∧w'.heap[L.cb i.toNat]?=some (clbox {c with q:=c.q.drop m} (L.ca i.toNat) (L.cc i.toNat))):=fun w hb=>by rw [hm];exact take_any c hq n _ _ _ w hb
  have hml:(c.q.take m).length=m:=by
   have:m≤c.q.length:=by rw [hm];unfold goes;omega
   simp;omega
  have hsz:(bs (c.q.take m)).size=m:=(bs_size _).trans hml
  have HE:Hid (∀ w2,Kp (fun b=>b=L.cb i.toNat) (w.alloc (rpbox (err 0))) w2→w2.heap[L.cb i.toNat]?=some (clbox {c with q:=c.q.drop m} (L.ca i.toNat) (L.cc i.toNat))→∃ L',SrvTo w S L {S with cl:=upd S.cl i.toNat (some {c with q:=c.q.drop m})} L' w2∧w2.heap[w.heap.size]?=some (rpbox (err 0))):=fun w2 hk hb=>by
   have hin:=HS.out.alloc (rpbox (err 0))
   have hne:w.heap.size≠L.cb i.toNat:=fun e=>by
    have:=(Array.getElem?_eq_some_iff.1 (HS.out.cl i.toNat hi3 c h2).1).1
    omega
   refine⟨_,(SrvTo.from (HB.out _) (cl_set hin hi3 h2 {c with q:=c.q.drop m} (L.ca i.toNat) (L.cc i.toNat) ⟨(HS.out.ok.cl i.toNat hi3 c h2).g,by simp only [List.length_drop];omega⟩ hk hb ?_)),hk.at (at_new w _) hne⟩
   refine(hin.cl i.toNat hi3 c h2).2.keep fun b x hx=>hk.block b (Array.getElem?_eq_some_iff.1 hx).1 (fun e=>?_)
   rw [e,(hin.cl i.toNat hi3 c h2).1] at hx
   simp only [Option.some.injEq,Obj.cells.injEq] at hx
   exact tcl_cell hx.2.1
  have HC:Hid ((w.alloc (rpbox (err 0))).heap[L.cb i.toNat]?=some (clbox c (L.ca i.toNat) (L.cc i.toNat))):=at_old (h.cl i.toNat hi3 c h2).1 _
  rw [h3] at HF
  generalize L.cb i.toNat=B at*
  clear h h1 h2 h3 hi hq hm hi3
  go_enter Tryz.func41,Tryz.ntmps41
  go_wp2_with (first
   | (go_at_call 37;refine(HF.out _ (HS.out.alloc _)).mono ?_;rintro e w1 ⟨rfl,hw1⟩;subst w1)
   | (go_at_call 67;refine(HT.out _ HC.out).mono ?_;rintro e w2 ⟨rfl,hk2,hb2⟩;obtain⟨L2,hs2,hr2⟩:=HE.out w2 hk2 hb2;have HS2:Hid (SrvTo w S L {S with cl:=upd S.cl i.toNat (some {c with q:=c.q.drop m})} L2 w2∧w2.heap[w.heap.size]?=some (rpbox (err 0))):=⟨hs2,hr2⟩;obtain⟨⟨r0,r1,r2⟩,rf⟩:=three hr2;clear hk2 hb2 hs2 hr2))
  refine bodyPost_ret (v:=rpval ⟨0,m,c.q.take m⟩) (by simp [results,Tryz.results41,go_sem, *]) rfl ?_
  rw [HD.out]
  exact⟨rfl,L2,HS2.out.1.reply HS2.out.2 (Nat.le_refl _) _ _ _⟩
end Go.Proofs.YtjikokfjnbhngaaGreatDoor.Sv
