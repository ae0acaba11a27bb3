/- For every screen of bulk at most 1048576, GridScrolls returns true, and its argument reads behind the call as before: the statement GridScrollsSaid. -/
import Derived.Test.YteenppbpjdldgaaGOpen
import Derived.Test.YteenppbpjdldgaaGScrolls
import Derived.Test.YteenppbpjdldgaaGOpenF
namespace Go.Proofs.Yteenppbpjdldgaa
open Go.ChangeShapes Go.WideShapes Go.ChangeAt Go.RowKit Go.Joins

theorem scrolls_any (g : Gr) (ao : Option Addr) (cap : Nat) (w : World) (hr : RdS w ao g.n g.f) (hn : ao = none → g.n = 0 ∧ cap = 0) (hm : g.n ≤ 4398046511104) :
    Calls Try.prog 12 #[gval g ao cap] w fun e w' => e = .returned (.bool true) ∧ Below w.heap.size w w' := by
  obtain ⟨r, hrr⟩ : ∃ r, r = actG g (evCtl 10) := ⟨_, rfl⟩
  have HD : ∀ w', Below w.heap.size w w' → Calls Try.prog 27 #[gval g ao cap, .agg #[.int .i64 2, .int .i64 10, .slice none 0 0, .string ⟨#[]⟩]] w' (AllEnd w' r) :=
    fun w' hb => do_any g ao cap (evCtl 10) none 0 w' (hr.below hb) hn hm (.inl rfl) (fun _ => done_ctl 10 [] ⟨#[]⟩ none 0) r hrr
  rcases act_ctl hrr with h0 | ⟨ok, he⟩
  · exact scrolls_no g ao cap w r.1 r.2 h0 HD
  · rw [he] at HD
    have e2 : ctlG g 10 = rowOnG g := rfl
    rw [e2] at HD
    by_cases hrow : g.row = g.bottom - 1
    · exact scrolls_up g ok ao cap w hr hrow _ rfl HD
    · refine scrolls_down g ok ao cap w hr hrow _ ?_ HD
      unfold rowOnG
      rw [if_neg hrow]

set_option maxRecDepth 100000 in
theorem scrolls_contract (H : Type) (enc : TypeId × Value → H) (W : World) (base : Nat) (args : Array Value) (ds gs : List (DataW H)) (before : List MemPlace)
    (hval : ∀ (j : Nat) t v, Try.f12.params[j]? = some t → args[j]? = some v → Value.okWide Try.prog W .any base t v)
    (hW : DataW.Whole enc Try.prog Try.f12.params.toList Rows.gridScrollsSpec.vars false W args.toList ds gs before) (hz : (DataW.weightsEach Try.prog (Try.f12.params.toList ++ Rows.gridScrollsSpec.plain.varTypes Try.prog) (ds ++ gs)).all (· ≤ reachBytes) = true) :
    Calls Try.prog 12 args W fun e W' => ∃ v, e = .returned v ∧ Rows.gridScrollsSpec.post enc Try.prog Try.f12 false true false false W args v W' := by
  have hW' := hW
  obtain ⟨p, q, hA0, hV, rfl, hfz, hnd⟩ := hW
  have hA : DataW.TrodAll enc Try.prog W 0 (fun _ => true) true Try.f12.params.toList args.toList ds p := hA0
  rw [Try.params12] at hA hval
  obtain ⟨v0, vs0, d0, ds0, p0, q0, hargs, rfl, rfl, h0, r0⟩ := trodAll_cons hA
  obtain ⟨rfl, rfl, rfl⟩ := trodAll_nil r0
  obtain rfl : args = #[v0] := by cases args; simp_all
  obtain ⟨rfl, rfl⟩ := trodVars_none hV
  have k0 := h0
  have lt0 : ∀ x ∈ p0, x.block < W.heap.size := by obtain ⟨m, hm⟩ := k0; exact DataW.trod_lt m _ _ _ hm
  obtain ⟨g, ao, cap, rfl, hr, hn, hb⟩ := open_grid (hval 0 41 v0 rfl rfl) h0
  have zz0 := grid_size (hval 0 41 _ rfl rfl) k0 (fun q hq => by simpa using List.all_eq_true.1 hz _ (DataW.weights_mem_each (j := 0) rfl rfl q hq))
  unfold reachBytes at *
  clear hA0
  refine (scrolls_any g ao cap W hr hn (by omega)).mono fun e W' ⟨he, bel⟩ => ?_
  subst he
  exact ⟨_, rfl, _, _, _, [], _, [], hW', trodAll_mk1 (shut_bool Try.underlying4 _), (trodAll_cons_mk (Below.trod laidOut (by kernel_rfl) (of_decide_eq_true (by kernel_rfl)) k0 bel lt0) trodAll_mk0), rfl, bel.frame _, fun h => by cases h⟩

set_option maxRecDepth 100000 in
theorem scrolls_lifted (os : Os) (started : os.Started) (H : Type) (enc : TypeId × Value → H) :
    ReturnsInHanded {} Try.checked os 12 .any (Rows.gridScrollsSpec.pre6 enc Try.prog Try.f12 Rows.gridScrollsRow.domain false) (Rows.gridScrollsSpec.post enc Try.prog Try.f12 false true false false) := by
  refine returnsInHanded_of_change_sized (C := Try.checked) own started (by kernel_rfl) Try.func12
    (ChangeSpec.witness6 (enc := enc) (C := Try.checked) false ⟨#[], #[.agg #[.int .i64 0, .int .i64 0, .slice none 0 0, .int .i64 0, .int .i64 0, .int .i64 0, .bool false, .int .i64 0, .int .i64 0]], []⟩ 8 (by kernel_rfl) (by kernel_rfl) (by kernel_rfl) (by kernel_rfl)) ?_
  intro W base args ds gs before hval hW _ hz _
  exact scrolls_contract H enc W base args ds gs before hval hW hz

theorem scrolls_holds : Rows.GridScrollsSaid :=
  OpenClaim.holds_of_wide 12 Try.f12 rfl rfl rfl rfl rfl rfl rfl ⟨rfl, rfl, rfl, rfl, rfl⟩ rfl rfl rfl rfl rfl (by kernel_rfl) Try.func12 (by kernel_rfl)
    (of_decide_eq_true (by kernel_rfl)) (by unfold Func.isWrapper; first | (rw [if_pos (by decide +kernel)]; kernel_rfl) | (rw [if_neg (by decide +kernel)]; exact ⟨rfl, rfl⟩))
    (fun os started H enc _ => scrolls_lifted os started H enc)

end Go.Proofs.Yteenppbpjdldgaa
