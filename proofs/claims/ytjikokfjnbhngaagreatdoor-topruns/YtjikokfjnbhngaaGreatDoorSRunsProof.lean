/- For every list of acts and number, TopRuns returns true, and its arguments read behind the call as before: the tied card TopRunsCardSaid (the listed tables of Go's library are not read). -/
import Derived.Test.YtjikokfjnbhngaaGreatDoorCards
import Derived.Test.YtjikokfjnbhngaaGreatDoorTie
import Derived.Test.YtjikokfjnbhngaaGreatDoorMSClient
import Derived.Test.YtjikokfjnbhngaaGreatDoorSRuns
import Derived.Lay
import Derived.Stop.Joined
import Derived.SevenTiedAt
namespace Go.Proofs.YtjikokfjnbhngaaGreatDoor
open Go.ChangeShapes Go.WideShapes Go.ChangeAt Go.RowKit Go.Joins
open Go.ChangeMaps (open_string shut_string)
set_option maxRecDepth 100000 in
theorem truns_contract (H:Type) (enc:TypeId×Value→H) (W:World) (base:Nat) (args:Array Value) (ds gs:List (DataW H)) (before:List MemPlace)
  (hval:∀ (j:Nat) t v,Tryz.f11.params[j]?=some t→args[j]?=some v→Value.okWide Tryz.prog W .any base t v)
  (hW:DataW.Whole enc Tryz.prog Tryz.f11.params.toList Rows.topRunsSpec.vars false W args.toList ds gs before) (hz:(DataW.weightsEach Tryz.prog (Tryz.f11.params.toList++Rows.topRunsSpec.plain.varTypes Tryz.prog) (ds++gs)).all (·≤reachBytes)=true):
  Calls Tryz.prog 11 args W fun e W'=>∃ v,e=.returned v∧Rows.topRunsSpec.post enc Tryz.prog Tryz.f11 false true false false W args v W':=by
 have hW':=hW
 obtain⟨p,q,hA0,hV,rfl,hfz,hnd⟩:=hW
 have hA:DataW.TrodAll enc Tryz.prog W 0 (fun _=>true) true Tryz.f11.params.toList args.toList ds p:=hA0
 rw [Tryz.params11] at hA hval
 obtain⟨v0,vs0,d0,ds0,p0,q0,hargs,rfl,rfl,h0,r0⟩:=trodAll_cons hA
 obtain⟨v1,vs1,d1,ds1,p1,q1,rfl,rfl,rfl,h1,r1⟩:=trodAll_cons r0
 obtain⟨rfl,rfl,rfl⟩:=trodAll_nil r1
 obtain rfl:args=#[v0,v1]:=by cases args;simp_all
 obtain⟨rfl,rfl⟩:=trodVars_none hV
 have k0:=h0
 have k1:=h1
 have lt0:∀ x∈p0,x.block < W.heap.size:=by obtain⟨m,hm⟩:=k0;exact DataW.trod_lt m _ _ _ hm
 have lt1:∀ x∈p1,x.block < W.heap.size:=by obtain⟨m,hm⟩:=k1;exact DataW.trod_lt m _ _ _ hm
 obtain⟨lo0,lc0,l0,rfl,hr0,hn0,hc0,zl0⟩:=Sv.open_acts (hval 0 22 v0 rfl rfl) h0
 have zl0:=zl0 (fun q hq=>by simpa using List.all_eq_true.1 hz _ (DataW.weights_mem_each (j:=0) rfl rfl q hq))
 obtain⟨i1,rfl,_,_,wi1⟩:=open_int Tryz.underlying3 (hval 1 3 v1 rfl rfl) h1
 unfold reachBytes at*
 clear hA0
 refine(Sv.topRuns_any l0 lo0 lc0 i1 W hr0 hn0 hc0 (fun a ha=>by have:=zl0.2 a ha;omega) (by have:=zl0.1;omega)).mono fun e W' ⟨he,bel⟩=>?_
 subst he
 exact⟨_,rfl,_,_,_,[],_,[],hW',trodAll_mk1 (shut_bool Tryz.underlying4 _),(trodAll_cons_mk (Below.trod Sv.laidOut (by kernel_rfl) (of_decide_eq_true (by kernel_rfl)) k0 bel lt0) (trodAll_cons_mk (Below.trod Sv.laidOut (by kernel_rfl) (of_decide_eq_true (by kernel_rfl)) k1 bel lt1) trodAll_mk0)),rfl,bel.frame _,fun h=>by cases h⟩
set_option maxRecDepth 100000 in
theorem truns_lifted (os:Os) (started:os.Started) (H:Type) (enc:TypeId×Value→H):
  ReturnsInHanded {} Tryz.checked os 11 .any (fun w args=>(Rows.topRunsSpec.pre enc Tryz.prog Tryz.f11 Rows.topRunsRow.domain false w args∧laidMetH Tryz.prog Rows.topRunsRow.laid w)∧sizedMet enc Tryz.prog Tryz.f11 (OpenSpec.ofChange Rows.topRunsSpec) false w args)
   (Rows.topRunsSpec.post enc Tryz.prog Tryz.f11 false true false false):=by
 refine returnsInHanded_of_change_and (C:=Tryz.checked) (X:=fun w _=>laidMetH Tryz.prog Rows.topRunsRow.laid w) (fun _ _ _ hh h=>h.of_heap hh) Sv.own started (by kernel_rfl) Tryz.func11
  (ChangeSpec.witness_shaped (enc:=enc) (C:=Tryz.checked) (os:=os) (X:=fun w _=>laidMetH Tryz.prog Rows.topRunsRow.laid w) false (World.laidAll Tryz.prog os Rows.topRunsRow.laid) #[.slice none 0 0,.int .i64 0] 8 (World.laidAll_os _ _ _)
   (World.shaped_of_ZipB (by kernel_rfl) (by kernel_rfl)) (by kernel_rfl) (by kernel_rfl) (by kernel_rfl)
   (by rw [MakeChecks.laidMetH_plain _ _ _ (by kernel_rfl)];exact laidMet_laidAll _ (by kernel_rfl) (by kernel_rfl))) ?_
 intro W base args ds gs before hval hW _ hz _ _
 exact truns_contract H enc W base args ds gs before hval hW hz
theorem truns_said:Rows.TopRunsSaid:=
 OpenClaim.holds_of_wide 11 Tryz.f11 rfl rfl rfl rfl rfl rfl rfl ⟨rfl,rfl,rfl,rfl,rfl⟩ rfl rfl rfl rfl rfl (by kernel_rfl) Tryz.func11 (by kernel_rfl)
  (of_decide_eq_true (by kernel_rfl)) (by unfold Func.isWrapper;first | (rw [if_pos (by decide+kernel)];kernel_rfl) | (rw [if_neg (by decide+kernel)];exact⟨rfl,rfl⟩))
  (fun os started H enc _=>truns_lifted os started H enc)
theorem truns_plain (f:FuncId) (fn:Func) (hf:Tryz.pinned.checked.prog.funcNamed "fenestra/fenestratop.TopRuns" =some f) (hfn:Tryz.pinned.checked.prog.funcs[f]?=some fn):
  false=Tryz.pinned.checked.prog.looks []∧∀ (j:Nat) t,fn.params[j]?=some t→Tryz.pinned.checked.prog.wantsStandIn t=false:=by
 obtain rfl:f=11:=Option.some.inj ((show Tryz.prog.funcNamed "fenestra/fenestratop.TopRuns" =some 11 by kernel_rfl).symm.trans hf) |>.symm
 obtain rfl:fn=Tryz.f11:=(Option.some.inj (Tryz.func11.symm.trans hfn)).symm
 refine⟨by kernel_rfl,fun j t ht=>?_⟩
 rw [Tryz.params11] at ht
 have hm:=Array.mem_of_getElem? ht
 have hm2:t=22∨t=3:=by simpa using hm
 rcases hm2 with rfl | rfl
 ·exact(show Tryz.prog.wantsStandIn 22=false by kernel_rfl)
 ·exact(show Tryz.prog.wantsStandIn 3=false by kernel_rfl)
theorem truns_card:Rows.TopRunsCardSaid:=
 Claim7.holds_tied_plain_at .later [] _ _ _ _ truns_said (fun _ h=>by cases h) (by kernel_rfl) (fun _ h=>by cases h) topRuns_row_tie rfl ⟨rfl,rfl⟩ (by kernel_rfl) rfl truns_plain (by kernel_rfl)
end Go.Proofs.YtjikokfjnbhngaaGreatDoor
