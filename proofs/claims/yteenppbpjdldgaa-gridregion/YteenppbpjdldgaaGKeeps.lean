/- Plain: what neither writes nor erases leaves the rows alone that do not scroll. -/
import Derived.Test.YteenppbpjdldgaaGMach
namespace Go.Proofs.Yteenppbpjdldgaa

def Keeps (g x : Gr) : Prop := x.wide = g.wide ∧ x.high = g.high ∧ x.n = g.n ∧ ∀ i, (i < (g.top * g.wide).toNat ∨ (g.bottom * g.wide).toNat ≤ i) → x.f i = g.f i

theorem keeps_refl (g : Gr) : Keeps g g := ⟨rfl, rfl, rfl, fun _ _ => rfl⟩

theorem keeps_rowOn (g : Gr) : Keeps g (rowOnG g) := by
  unfold rowOnG
  split
  · refine ⟨rfl, rfl, rfl, fun i hi => ?_⟩
    show upF g.f _ _ _ i = g.f i
    unfold upF
    rw [if_neg (by omega)]
  · exact ⟨rfl, rfl, rfl, fun _ _ => rfl⟩

theorem keeps_ctl (g : Gr) (b : Int) : Keeps g (ctlG g b) := by
  unfold ctlG
  split
  · exact ⟨rfl, rfl, rfl, fun _ _ => rfl⟩
  · split
    · exact ⟨rfl, rfl, rfl, fun _ _ => rfl⟩
    · split
      · exact keeps_rowOn g
      · split
        · exact ⟨rfl, rfl, rfl, fun _ _ => rfl⟩
        · exact keeps_refl g

theorem keeps_push {g : Gr} (h : OkG g) (n : Int) (move : (Nat → Cel) → Nat → Nat → Nat → (Nat → Cel)) (hm : move = upF ∨ move = downF) : Keeps g (pushG g n move) := by
  unfold pushG
  split
  · exact keeps_refl g
  · next hr =>
    have hw : 0 ≤ g.wide := by have := h.w1; omega
    have h1 : g.top * g.wide ≤ g.row * g.wide := mul_mono (by omega) hw
    refine ⟨rfl, rfl, rfl, fun i hi => ?_⟩
    rcases hm with rfl | rfl
    · show upF g.f _ _ _ i = g.f i
      unfold upF
      rw [if_neg (by omega)]
    · show downF g.f _ _ _ i = g.f i
      unfold downF
      rw [if_neg (by omega)]

theorem keeps_csi {g : Gr} (h : OkG g) (b : Int) (ps : List Int) (hJ : b ≠ 74) (hK : b ≠ 75) : Keeps g (csiG g b ps) := by
  by_cases h1 : b = 65
  · subst h1; exact ⟨rfl, rfl, rfl, fun _ _ => rfl⟩
  by_cases h2 : b = 66
  · subst h2; exact ⟨rfl, rfl, rfl, fun _ _ => rfl⟩
  by_cases h3 : b = 67
  · subst h3; exact ⟨rfl, rfl, rfl, fun _ _ => rfl⟩
  by_cases h4 : b = 68
  · subst h4; exact ⟨rfl, rfl, rfl, fun _ _ => rfl⟩
  by_cases h5 : b = 72
  · subst h5; exact ⟨rfl, rfl, rfl, fun _ _ => rfl⟩
  by_cases h8 : b = 76
  · subst h8; exact keeps_push h _ _ (.inr rfl)
  by_cases h9 : b = 77
  · subst h9; exact keeps_push h _ _ (.inl rfl)
  by_cases h10 : b = 109
  · subst h10
    obtain ⟨_, e1, e2, e3, e4⟩ := ok_ink h ps
    exact ⟨e1, e2, e3, fun i _ => by show (inkG g ps).f i = _; rw [e4]⟩
  by_cases h11 : b = 114
  · subst h11
    rw [csi114]
    unfold scrollG
    split
    · exact ⟨rfl, rfl, rfl, fun _ _ => rfl⟩
    · exact keeps_refl g
  rw [csiNo g b ps h1 h2 h3 h4 h5 hJ hK h8 h9 h10 h11]
  exact keeps_refl g

end Go.Proofs.Yteenppbpjdldgaa
