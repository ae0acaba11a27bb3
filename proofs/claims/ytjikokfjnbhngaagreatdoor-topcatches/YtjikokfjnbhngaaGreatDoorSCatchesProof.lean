/- For every list of acts, TopCatches returns true, and its argument reads behind the call as before: the tied card TopCatchesCardSaid (the listed tables of Go's library are not read). -/
import Derived.Test.YtjikokfjnbhngaaGreatDoorCards
import Derived.Test.YtjikokfjnbhngaaGreatDoorTie
import Derived.Test.YtjikokfjnbhngaaGreatDoorMSClient
import Derived.Test.YtjikokfjnbhngaaGreatDoorSCatches
import Derived.Lay
import Derived.Stop.Joined
import Derived.SevenTiedAt
namespace Go.Proofs.YtjikokfjnbhngaaGreatDoor
open Go.ChangeShapes Go.WideShapes Go.ChangeAt Go.RowKit Go.Joins
open Go.ChangeMaps (open_string shut_string)
set_option maxRecDepth 100000 in
theorem tcatches_contract (H:Type) (enc:TypeId×Value→H) (W:World) (base:Nat) (args:Array Value) (ds gs:List (DataW H)) (before:List MemPlace)
  (hval:∀ (j:Nat) t v,Tryz.f4.params[j]?=some t→args[j]?=some v→Value.okWide Tryz.prog W .any base t v)
  (hW:DataW.Whole enc Tryz.prog Tryz.f4.params.toList Rows.topCatchesSpec.vars false W args.toList ds gs before) (hz:(DataW.weightsEach Tryz.prog (Tryz.f4.params.toList++Rows.topCatchesSpec.plain.varTypes Tryz.prog) (ds++gs)).all (·≤reachBytes)=true):
  Calls Tryz.prog 4 args W fun e W'=>∃ v,e=.returned v∧Rows.topCatchesSpec.post enc Tryz.prog Tryz.f4 false true false false W args v W':=by
 have hW':=hW
 obtain⟨p,q,hA0,hV,rfl,hfz,hnd⟩:=hW
 have hA:DataW.TrodAll enc Tryz.prog W 0 (fun _=>true) true Tryz.f4.params.toList args.toList ds p:=hA0
 rw [Tryz.params4] at hA hval
 obtain⟨v0,vs0,d0,ds0,p0,q0,hargs,rfl,rfl,h0,r0⟩:=trodAll_cons hA
 obtain⟨rfl,rfl,rfl⟩:=trodAll_nil r0
 obtain rfl:args=#[v0]:=by cases args;simp_all
 obtain⟨rfl,rfl⟩:=trodVars_none hV
 have k0:=h0
 have lt0:∀ x∈p0,x.block < W.heap.size:=by obtain⟨m,hm⟩:=k0;exact DataW.trod_lt m _ _ _ hm
 obtain⟨lo0,lc0,l0,rfl,hr0,hn0,hc0,zl0⟩:=Sv.open_acts (hval 0 22 v0 rfl rfl) h0
 have zl0:=zl0 (fun q hq=>by simpa using List.all_eq_true.1 hz _ (DataW.weights_mem_each (j:=0) rfl rfl q hq))
 unfold reachBytes at*
 clear hA0
 refine(Sv.topCatches_any l0 lo0 lc0 W hr0 (fun a ha=>by have:=zl0.2 a ha;omega) (by have:=zl0.1;omega)).mono fun e W' ⟨he,bel⟩=>?_
 subst he
 exact⟨_,rfl,_,_,_,[],_,[],hW',trodAll_mk1 (shut_bool Tryz.underlying4 _),(trodAll_cons_mk (Below.trod Sv.laidOut (by kernel_rfl) (of_decide_eq_true (by kernel_rfl)) k0 bel lt0) trodAll_mk0),rfl,bel.frame _,fun h=>by cases h⟩
set_option maxRecDepth 100000 in
theorem tcatches_lifted (os:Os) (started:os.Started) (H:Type) (enc:TypeId×Value→H):
  ReturnsInHanded {} Tryz.checked os 4 .any (fun w args=>(Rows.topCatchesSpec.pre enc Tryz.prog Tryz.f4 Rows.topCatchesRow.domain false w args∧laidMetH Tryz.prog Rows.topCatchesRow.laid w)∧sizedMet enc Tryz.prog Tryz.f4 (OpenSpec.ofChange Rows.topCatchesSpec) false w args)
   (Rows.topCatchesSpec.post enc Tryz.prog Tryz.f4 false true false false):=by
 refine returnsInHanded_of_change_and (C:=Tryz.checked) (X:=fun w _=>laidMetH Tryz.prog Rows.topCatchesRow.laid w) (fun _ _ _ hh h=>h.of_heap hh) Sv.own started (by kernel_rfl) Tryz.func4
  (ChangeSpec.witness_shaped (enc:=enc) (C:=Tryz.checked) (os:=os) (X:=fun w _=>laidMetH Tryz.prog Rows.topCatchesRow.laid w) false (World.laidAll Tryz.prog os Rows.topCatchesRow.laid) #[.slice none 0 0] 8 (World.laidAll_os _ _ _)
   (World.shaped_of_ZipB (by kernel_rfl) (by kernel_rfl)) (by kernel_rfl) (by kernel_rfl) (by kernel_rfl)
   (by rw [MakeChecks.laidMetH_plain _ _ _ (by kernel_rfl)];exact laidMet_laidAll _ (by kernel_rfl) (by kernel_rfl))) ?_
 intro W base args ds gs before hval hW _ hz _ _
 exact tcatches_contract H enc W base args ds gs before hval hW hz
theorem tcatches_said:Rows.TopCatchesSaid:=
 OpenClaim.holds_of_wide 4 Tryz.f4 rfl rfl rfl rfl rfl rfl rfl ⟨rfl,rfl,rfl,rfl,rfl⟩ rfl rfl rfl rfl rfl (by kernel_rfl) Tryz.func4 (by kernel_rfl)
  (of_decide_eq_true (by kernel_rfl)) (by unfold Func.isWrapper;first | (rw [if_pos (by decide+kernel)];kernel_rfl) | (rw [if_neg (by decide+kernel)];exact⟨rfl,rfl⟩))
  (fun os started H enc _=>tcatches_lifted os started H enc)
theorem tcatches_plain (f:FuncId) (fn:Func) (hf:Tryz.pinned.checked.prog.funcNamed "fenestra/fenestratop.TopCatches" =some f) (hfn:Tryz.pinned.checked.prog.funcs[f]?=some fn):
  false=Tryz.pinned.checked.prog.looks []∧∀ (j:Nat) t,fn.params[j]?=some t→Tryz.pinned.checked.prog.wantsStandIn t=false:=by
 obtain rfl:f=4:=Option.some.inj ((show Tryz.prog.funcNamed "fenestra/fenestratop.TopCatches" =some 4 by kernel_rfl).symm.trans hf) |>.symm
 obtain rfl:fn=Tryz.f4:=(Option.some.inj (Tryz.func4.symm.trans hfn)).symm
 refine⟨by kernel_rfl,fun j t ht=>?_⟩
 rw [Tryz.params4] at ht
 have hm:=Array.mem_of_getElem? ht
 obtain rfl:t=22:=by simpa using hm
 exact(show Tryz.prog.wantsStandIn 22=false by kernel_rfl)
theorem tcatches_card:Rows.TopCatchesCardSaid:=
 Claim7.holds_tied_plain_at .later [] _ _ _ _ tcatches_said (fun _ h=>by cases h) (by kernel_rfl) (fun _ h=>by cases h) topCatches_row_tie rfl ⟨rfl,rfl⟩ (by kernel_rfl) rfl tcatches_plain (by kernel_rfl)
end Go.Proofs.YtjikokfjnbhngaaGreatDoor
