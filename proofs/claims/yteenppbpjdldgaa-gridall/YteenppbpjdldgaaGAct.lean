/- The document's own 'Act'. -/
import Derived.Test.YteenppbpjdldgaaGActC
import Derived.Test.YteenppbpjdldgaaGActT
import Derived.Test.YteenppbpjdldgaaGActE
namespace Go.Proofs.Yteenppbpjdldgaa
open Go.RowKit

theorem act_any (g : Gr) (ao : Option Addr) (cap : Nat) (e : Evt) (eo : Option Addr) (ec : Nat) (w : World) (hr : RdS w ao g.n g.f) (hn : ao = none → g.n = 0 ∧ cap = 0) (hm : g.n ≤ 4398046511104) (hl : RdL w eo e.ps) (hlen : e.ps.length ≤ 140737488355328) (hpl : e.pl.size ≤ 140737488355328) (r : Gr × Int) (hrr : r = actG g e) :
    Calls Try.prog 28 #[gval g ao cap, eval e eo ec] w (RefEndS w ao r) := by
  cases hg : goodG g
  · have : r = (g, 1) := by rw [hrr]; unfold actG; rw [hg]; rfl
    rw [this]
    exact act_bad g ao cap e eo ec w hr hm hg
  · have ok := (goodG_iff g).1 hg
    have hr1 : r = if checkE e = 0 then (doneG g e, 0) else (g, checkE e) := by rw [hrr]; unfold actG; rw [hg]; rfl
    obtain ⟨kind, c, ps, pl⟩ := e
    by_cases h1 : kind = 1
    · subst h1
      by_cases hp : plainN c = true
      · have hc : checkE ⟨1, c, ps, pl⟩ = 0 := by unfold checkE; simp [hp]
        rw [hr1, if_pos hc]
        have hb : 32 ≤ c ∧ c ≤ 126 := by simpa [plainN] using hp
        exact act_print g ok ao cap c ps pl eo ec w hr hn hb.1 hb.2 _ _ rfl rfl
      · have hc : checkE ⟨1, c, ps, pl⟩ = 6 := by unfold checkE; simp [hp]
        rw [hr1, hc]
        have hb : c < 32 ∨ 126 < c := by
          have : ¬(32 ≤ c ∧ c ≤ 126) := by simpa [plainN] using hp
          omega
        exact act_form g ok ao cap c ps pl eo ec w hr hn hb
    by_cases h2 : kind = 2
    · subst h2
      have hc : checkE ⟨2, c, ps, pl⟩ = 0 := rfl
      rw [hr1, if_pos hc]
      by_cases k13 : c = 13
      · subst k13; exact act_cr g ok ao cap ps pl eo ec w hr hn _ rfl
      by_cases k10 : c = 10
      · subst k10; exact act_lf g ok ao cap ps pl eo ec w hr hn _ rfl
      by_cases k9 : c = 9
      · subst k9; exact act_tab g ok ao cap ps pl eo ec w hr hn _ rfl
      by_cases k8 : c = 8
      · subst k8; exact act_bs g ok ao cap ps pl eo ec w hr hn _ rfl
      refine act_no g ok ao cap c ps pl eo ec w hr hn k13 k10 k9 k8 _ ?_
      show ctlG g c = g
      unfold ctlG
      rw [if_neg k8, if_neg k9, if_neg k10, if_neg k13]
    by_cases h3 : kind = 3
    · subst h3
      have hc : checkE ⟨3, c, ps, pl⟩ = 0 := rfl
      rw [hr1, if_pos hc]
      exact act_csi g ok ao cap c ps pl eo ec w hr hn hl hlen _ rfl
    by_cases h4 : kind = 4
    · subst h4
      have hc : checkE ⟨4, c, ps, pl⟩ = 0 := rfl
      rw [hr1, if_pos hc]
      exact act_pic g ok ao cap c ps pl eo ec w hr hn hpl _ rfl
    by_cases h5 : kind = 5
    · subst h5
      have hc : checkE ⟨5, c, ps, pl⟩ = 0 := rfl
      rw [hr1, if_pos hc]
      exact act_new g ok ao cap c ps pl eo ec w hr hn _ rfl
    · have hk : kind < 1 ∨ 5 < kind := by omega
      have hc : checkE ⟨kind, c, ps, pl⟩ = 2 := by unfold checkE; simp only; rw [if_neg h1, if_neg (by omega)]
      rw [hr1, hc]
      exact act_kind g ok ao cap ⟨kind, c, ps, pl⟩ eo ec w hr hk

end Go.Proofs.Yteenppbpjdldgaa
