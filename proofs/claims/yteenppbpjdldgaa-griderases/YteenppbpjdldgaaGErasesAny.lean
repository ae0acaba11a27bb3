/- 'GridErases' at any screen. -/
import Derived.Test.YteenppbpjdldgaaGErases
namespace Go.Proofs.Yteenppbpjdldgaa
open Go.RowKit

theorem erases_any (g : Gr) (ao : Option Addr) (cap : Nat) (how0 : Int) (w : World) (hr : RdS w ao g.n g.f) (hn : ao = none → g.n = 0 ∧ cap = 0) (hm : g.n ≤ 4398046511104) :
    Calls Try.prog 14 #[gval g ao cap, .int .i64 how0] w fun e w' => e = .returned (.bool true) ∧ Below w.heap.size w w' := by
  obtain ⟨how, hh⟩ : ∃ how, how = pickN how0 3 := ⟨_, rfl⟩
  have hb := pickN_bound how0 3 (by omega)
  rw [← hh] at hb
  have HPK : Hid (∀ w, Calls Try.prog 44 #[.int .i64 how0, .int .i64 3] w fun e w' => e = .returned (.int .i64 how) ∧ w' = w) := fun w => by rw [hh]; exact pick_any how0 3 (by omega) (by omega) w
  obtain ⟨r, hrr⟩ : ∃ r, r = actG g (evJ how) := ⟨_, rfl⟩
  have HD : ∀ w' eo, Below w.heap.size w w' → RdL w' eo [how] → Calls Try.prog 27 #[gval g ao cap, eval (evJ how) eo 1] w' (AllEnd w' r) :=
    fun w' eo hb hl => do_any g ao cap (evJ how) eo 1 w' (hr.below hb) hn hm hl (fun h => done_any (evJ how) eo 1 (by simp) (Nat.zero_le _) h) r hrr
  rcases act_cases hrr with ⟨h0, _⟩ | ⟨ok, hc, he⟩
  · exact erases_no g ao cap how0 how w r.1 r.2 h0 HPK HD
  · rw [he] at HD
    have e2 : numP [how] 0 = how := by show max 0 (min how 999) = how; omega
    have hP : 0 ≤ g.row * g.wide + hereC g := by
      obtain ⟨_, _, q3, _⟩ := ok.nums
      have := ok.c1
      have := ok.w1
      unfold hereC
      omega
    have e3 : doneG g (evJ how) = { g with f := eraseF g.f 0 g.n (g.row * g.wide + hereC g).toNat how } := by
      show csiG g 74 [how] = _
      rw [csi74, e2]
    rw [e3] at HD
    exact erases_yes g ok ao cap how0 how w hr _ (g.row * g.wide + hereC g).toNat (Int.toNat_of_nonneg hP) rfl (by omega) HPK HD

end Go.Proofs.Yteenppbpjdldgaa
