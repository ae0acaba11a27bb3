/- 'GridRegion' at any screen and event. -/
import Derived.Test.YteenppbpjdldgaaGRegion
namespace Go.Proofs.Yteenppbpjdldgaa
open Go.RowKit

theorem region_any (g : Gr) (ao : Option Addr) (cap : Nat) (e : Evt) (eo : Option Addr) (ec : Nat) (w : World) (hr : RdS w ao g.n g.f) (hn : ao = none → g.n = 0 ∧ cap = 0) (hm : g.n ≤ 4398046511104) (hl : RdL w eo e.ps) (hpl : e.ps.length ≤ 140737488355328) (hpp : e.pl.size ≤ 140737488355328) :
    Calls Try.prog 13 #[gval g ao cap, eval e eo ec] w fun e w' => e = .returned (.bool true) ∧ Below w.heap.size w w' := by
  obtain ⟨r, hrr⟩ : ∃ r, r = actG g e := ⟨_, rfl⟩
  have HD : ∀ w', Below w.heap.size w w' → Calls Try.prog 27 #[gval g ao cap, eval e eo ec] w' (AllEnd w' r) :=
    fun w' hb => do_any g ao cap e eo ec w' (hr.below hb) hn hm (hl.below hb) (fun h => done_any e eo ec hpl hpp h) r hrr
  obtain ⟨kind, c0, ps, pl⟩ := e
  by_cases h1 : kind = 1
  · subst h1; exact region1 g ao cap c0 ps pl eo ec w
  by_cases h4 : kind = 4
  · subst h4; exact region4 g ao cap c0 ps pl eo ec w
  by_cases h5 : kind = 5
  · subst h5; exact region5 g ao cap c0 ps pl eo ec w
  by_cases h3 : kind = 3
  · by_cases hJ : c0 = 74
    · subst h3 hJ; exact regionJ g ao cap ps pl eo ec w
    by_cases hK : c0 = 75
    · subst h3 hK; exact regionK g ao cap ps pl eo ec w
    rcases act_cases hrr with ⟨h0, _⟩ | ⟨ok, hc, he⟩
    · exact region_no3 g ao cap kind c0 ps pl eo ec w r.1 r.2 h0 h1 h4 h5 h3 hJ hK HD
    · rw [he] at HD
      subst h3
      exact region_yes3 g ok ao cap c0 ps pl eo ec w hr _ (keeps_csi ok c0 ps hJ hK) (by simp [hJ]) (by simp [hK]) HD
  · rcases act_cases hrr with ⟨h0, _⟩ | ⟨ok, hc, he⟩
    · exact region_no2 g ao cap kind c0 ps pl eo ec w r.1 r.2 h0 h1 h4 h5 h3 HD
    · have h2 : kind = 2 := by
        unfold checkE at hc
        simp only at hc
        rw [if_neg h1] at hc
        by_cases hh : 2 ≤ kind ∧ kind ≤ 5
        · omega
        · rw [if_neg hh] at hc; omega
      subst h2
      rw [he] at HD
      exact region_yes2 g ok ao cap c0 ps pl eo ec w hr _ (keeps_ctl g c0) HD

end Go.Proofs.Yteenppbpjdldgaa
