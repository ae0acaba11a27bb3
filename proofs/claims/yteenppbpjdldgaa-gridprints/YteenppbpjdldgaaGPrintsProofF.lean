/- For every screen and number, GridPrints returns true, and its arguments read behind the call as before: the statement GridPrintsSaid. -/
import Derived.Test.YteenppbpjdldgaaGOpen
import Derived.Test.YteenppbpjdldgaaGPrints
import Derived.Test.YteenppbpjdldgaaGOpenF
namespace Go.Proofs.Yteenppbpjdldgaa
open Go.ChangeShapes Go.WideShapes Go.ChangeAt Go.RowKit Go.Joins

theorem prints_any (g : Gr) (ao : Option Addr) (cap : Nat) (ch : Int) (w : World) (hr : RdS w ao g.n g.f) (hn : ao = none → g.n = 0 ∧ cap = 0) (hm : g.n ≤ 4398046511104) :
    Calls Try.prog 11 #[gval g ao cap, .int .i64 ch] w fun e w' => e = .returned (.bool true) ∧ Below w.heap.size w w' := by
  obtain ⟨r, hrr⟩ : ∃ r, r = actG g (evPrint ch) := ⟨_, rfl⟩
  have HD : ∀ w', Below w.heap.size w w' → Calls Try.prog 27 #[gval g ao cap, .agg #[.int .i64 1, .int .i64 ch, .slice none 0 0, .string ⟨#[]⟩]] w' (AllEnd w' r) :=
    fun w' hb => do_any g ao cap (evPrint ch) none 0 w' (hr.below hb) hn hm (.inl rfl) (fun h => doneOk_print ch none 0 h) r hrr
  by_cases h0 : r.2 = 0
  · obtain ⟨ok, hc, he⟩ := act_print hrr h0
    rw [he] at HD
    by_cases hcol : g.col = g.wide
    · exact prints_no g ao cap ch w _ 0 (.inr ⟨rfl, hcol⟩) HD
    · have e2 : printedG g ch = putG g ch := by unfold printedG backG; rw [if_neg hcol]
      rw [e2] at HD
      exact prints_yes g ok ao cap ch w _ (by have := ok.c2; omega) hr rfl HD
  · exact prints_no g ao cap ch w r.1 r.2 (.inl h0) HD

set_option maxRecDepth 100000 in
theorem prints_contract (H : Type) (enc : TypeId × Value → H) (W : World) (base : Nat) (args : Array Value) (ds gs : List (DataW H)) (before : List MemPlace)
    (hval : ∀ (j : Nat) t v, Try.f11.params[j]? = some t → args[j]? = some v → Value.okWide Try.prog W .any base t v)
    (hW : DataW.Whole enc Try.prog Try.f11.params.toList Rows.gridPrintsSpec.vars false W args.toList ds gs before) (hz : (DataW.weightsEach Try.prog (Try.f11.params.toList ++ Rows.gridPrintsSpec.plain.varTypes Try.prog) (ds ++ gs)).all (· ≤ reachBytes) = true) :
    Calls Try.prog 11 args W fun e W' => ∃ v, e = .returned v ∧ Rows.gridPrintsSpec.post enc Try.prog Try.f11 false true false false W args v W' := by
  have hW' := hW
  obtain ⟨p, q, hA0, hV, rfl, hfz, hnd⟩ := hW
  have hA : DataW.TrodAll enc Try.prog W 0 (fun _ => true) true Try.f11.params.toList args.toList ds p := hA0
  rw [Try.params11] at hA hval
  obtain ⟨v0, vs0, d0, ds0, p0, q0, hargs, rfl, rfl, h0, r0⟩ := trodAll_cons hA
  obtain ⟨v1, vs1, d1, ds1, p1, q1, rfl, rfl, rfl, h1, r1⟩ := trodAll_cons r0
  obtain ⟨rfl, rfl, rfl⟩ := trodAll_nil r1
  obtain rfl : args = #[v0, v1] := by cases args; simp_all
  obtain ⟨rfl, rfl⟩ := trodVars_none hV
  have k0 := h0
  have k1 := h1
  have lt0 : ∀ x ∈ p0, x.block < W.heap.size := by obtain ⟨m, hm⟩ := k0; exact DataW.trod_lt m _ _ _ hm
  have lt1 : ∀ x ∈ p1, x.block < W.heap.size := by obtain ⟨m, hm⟩ := k1; exact DataW.trod_lt m _ _ _ hm
  obtain ⟨g, ao, cap, rfl, hr, hn, hb⟩ := open_grid (hval 0 41 v0 rfl rfl) h0
  obtain ⟨ch, rfl, _⟩ := open_int Try.underlying3 (hval 1 3 v1 rfl rfl) h1
  have zz0 := grid_size (hval 0 41 _ rfl rfl) k0 (fun q hq => by simpa using List.all_eq_true.1 hz _ (DataW.weights_mem_each (j := 0) rfl rfl q hq))
  unfold reachBytes at *
  clear hA0
  refine (prints_any g ao cap ch W hr hn (by omega)).mono fun e W' ⟨he, bel⟩ => ?_
  subst he
  exact ⟨_, rfl, _, _, _, [], _, [], hW', trodAll_mk1 (shut_bool Try.underlying4 _), (trodAll_cons_mk (Below.trod laidOut (by kernel_rfl) (of_decide_eq_true (by kernel_rfl)) k0 bel lt0) (trodAll_cons_mk (Below.trod laidOut (by kernel_rfl) (of_decide_eq_true (by kernel_rfl)) k1 bel lt1) trodAll_mk0)), rfl, bel.frame _, fun h => by cases h⟩

set_option maxRecDepth 100000 in
theorem prints_lifted (os : Os) (started : os.Started) (H : Type) (enc : TypeId × Value → H) :
    ReturnsInHanded {} Try.checked os 11 .any (Rows.gridPrintsSpec.pre6 enc Try.prog Try.f11 Rows.gridPrintsRow.domain false) (Rows.gridPrintsSpec.post enc Try.prog Try.f11 false true false false) := by
  refine returnsInHanded_of_change_sized (C := Try.checked) own started (by kernel_rfl) Try.func11
    (ChangeSpec.witness6 (enc := enc) (C := Try.checked) false ⟨#[], #[.agg #[.int .i64 0, .int .i64 0, .slice none 0 0, .int .i64 0, .int .i64 0, .int .i64 0, .bool false, .int .i64 0, .int .i64 0], .int .i64 0], []⟩ 8 (by kernel_rfl) (by kernel_rfl) (by kernel_rfl) (by kernel_rfl)) ?_
  intro W base args ds gs before hval hW _ hz _
  exact prints_contract H enc W base args ds gs before hval hW hz

theorem prints_holds : Rows.GridPrintsSaid :=
  OpenClaim.holds_of_wide 11 Try.f11 rfl rfl rfl rfl rfl rfl rfl ⟨rfl, rfl, rfl, rfl, rfl⟩ rfl rfl rfl rfl rfl (by kernel_rfl) Try.func11 (by kernel_rfl)
    (of_decide_eq_true (by kernel_rfl)) (by unfold Func.isWrapper; first | (rw [if_pos (by decide +kernel)]; kernel_rfl) | (rw [if_neg (by decide +kernel)]; exact ⟨rfl, rfl⟩))
    (fun os started H enc _ => prints_lifted os started H enc)

end Go.Proofs.Yteenppbpjdldgaa
