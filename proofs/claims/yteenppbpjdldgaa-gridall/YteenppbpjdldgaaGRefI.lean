/- The document's own 'csi', all letters. -/
import Derived.Test.YteenppbpjdldgaaGRefH1
import Derived.Test.YteenppbpjdldgaaGRefH3
import Derived.Test.YteenppbpjdldgaaGRefH4
import Derived.Test.YteenppbpjdldgaaGRefH5
import Derived.Test.YteenppbpjdldgaaGRefH6
import Derived.Test.YteenppbpjdldgaaGDone2
namespace Go.Proofs.Yteenppbpjdldgaa
open Go.RowKit

/-- The numbers lie outside block b. -/
def AwayL (lo : Option Addr) (b : Nat) : Prop := ∀ a, lo = some a → a.block ≠ b

theorem RdL.grown {w w' : World} {ao : Option Addr} {l : List Int} {b : Nat} (h : RdL w ao l) (ha : l = [] ∨ AwayL ao b) (hg : w.grownBy w' (some b)) : RdL w' ao l := by
  rcases h with h | ⟨b2, off, rfl, hc⟩
  · exact .inl h
  · refine .inr ⟨b2, off, rfl, fun j hj => ?_⟩
    rcases ha with ha | ha
    · subst ha; simp at hj
    have hne : b2 ≠ b := ha _ rfl
    have t := hc j hj
    have hlt : b2 < w.heap.size := World.block_lt_of_cell? _ _ t
    rw [← t]
    exact World.cell?_of_block (w := w) (hg.block b2 hlt (by simp; exact hne))

theorem eraseJ (g : Gr) (p Z : Int) (i : Nat) (hi : i < g.n) (hZ : 0 ≤ Z) : eraseF g.f 0 g.n Z.toNat p i = partF g.f g.n (fun i => wantB p Z i) i := by
  unfold eraseF partF wantB clrF
  by_cases h0 : p = 0
  · subst h0
    simp only [if_true]
    by_cases hz : Z ≤ i
    · rw [if_pos (by omega), if_pos ⟨hi, by simp [hz]⟩]
    · rw [if_neg (by omega), if_neg (by simp [hz])]
  rw [if_neg h0]
  by_cases h1 : p = 1
  · subst h1
    simp only [if_true]
    by_cases hz : (i : Int) ≤ Z
    · rw [if_pos (by omega), if_pos ⟨hi, by simp [hz]⟩]
    · rw [if_neg (by omega), if_neg (by simp [hz])]
  rw [if_neg h1]
  by_cases h2 : p = 2
  · subst h2
    simp only [if_true]
    rw [if_pos (by omega), if_pos ⟨hi, by simp⟩]
  · rw [if_neg h2, if_neg (by simp [h0, h1, h2])]

theorem eraseK (g : Gr) (W R K : Nat) (p : Int) (i : Nat) (hi : i < g.n) (hK : K < W) : eraseF g.f (R * W) W K p i = partF g.f g.n (fun i => decide ((i : Int) / (W : Int) = (R : Int)) && wantB p ((R * W + K : Nat) : Int) i) i := by
  have hd : ((i : Int) / (W : Int) = (R : Int)) ↔ R * W ≤ i ∧ i < R * W + W := by
    rw [← Int.natCast_ediv]
    constructor
    · intro h
      have h' : i / W = R := by omega
      have h1 := Nat.div_add_mod i W
      have h2 := Nat.mod_lt i (show W > 0 by omega)
      rw [h', Nat.mul_comm] at h1
      omega
    · rintro ⟨h1, h2⟩
      have : i / W = R := by
        rw [show i = (i - R * W) + R * W by omega, Nat.add_mul_div_right _ _ (by omega), Nat.div_eq_of_lt (by omega)]
        omega
      omega
  unfold eraseF partF wantB clrF
  by_cases hrw : R * W ≤ i ∧ i < R * W + W
  · have hdt : decide ((i : Int) / (W : Int) = (R : Int)) = true := by simp [hd, hrw]
    simp only [hdt, Bool.true_and]
    by_cases h0 : p = 0
    · subst h0
      simp only [if_true]
      by_cases hz : R * W + K ≤ i
      · rw [if_pos (by omega), if_pos ⟨hi, by simp; omega⟩]
      · rw [if_neg (by omega), if_neg (by simp; omega)]
    rw [if_neg h0]
    by_cases h1 : p = 1
    · subst h1
      simp only [if_true]
      by_cases hz : i ≤ R * W + K
      · rw [if_pos (by omega), if_pos ⟨hi, by simp; omega⟩]
      · rw [if_neg (by omega), if_neg (by simp; omega)]
    rw [if_neg h1]
    by_cases h2 : p = 2
    · subst h2
      simp only [if_true]
      rw [if_pos (by omega), if_pos ⟨hi, by simp⟩]
    · rw [if_neg h2, if_neg (by simp [h0, h1, h2])]
  · have hdt : decide ((i : Int) / (W : Int) = (R : Int)) = false := by simp [hd]; omega
    by_cases h0 : p = 0
    · rw [if_pos h0]; simp only [hdt]; rw [if_neg (by omega), if_neg (by simp)]
    rw [if_neg h0]
    by_cases h1 : p = 1
    · rw [if_pos h1]; simp only [hdt]; rw [if_neg (by omega), if_neg (by simp)]
    rw [if_neg h1]
    by_cases h2 : p = 2
    · rw [if_pos h2]; simp only [hdt]; rw [if_neg (by omega), if_neg (by simp)]
    rw [if_neg h2]
    simp [hdt]

theorem rcsi_any (g : Gr) (h : OkG g) (b cap : Nat) (w : World) (hS : Scr w b g.n g.f) (hc : g.n ≤ cap) (l : List Int) (lo : Option Addr) (lc : Nat) (hr : RdL w lo l) (ha : l = [] ∨ AwayL lo b) (hl : l.length ≤ 140737488355328) (c : Int) (x : Gr) (hx : x = csiG g c l) :
    Calls Try.prog 56 #[gval g (some ⟨b, 0, none⟩) cap, .int .i64 c, .slice lo l.length lc] w (GEndN w b x) := by
  have HN : Hid (GNums w lo l.length lc (numP l 0) (numP l 1)) := fun w' hb => ⟨given_any l lo lc 0 w' (hr.below hb) (by omega), given_any l lo lc 1 w' (hr.below hb) (by omega)⟩
  have HG : Hid (∀ w', w.grownBy w' (some b) → Calls Try.prog 77 #[.slice lo l.length lc, .int .i64 0] w' fun e w'' => e = .returned (.int .i64 (numP l 0)) ∧ w'' = w') := fun w' hg => given_any l lo lc 0 w' (hr.grown ha hg) (by omega)
  obtain ⟨p0, p9⟩ := numP_bound l 0
  obtain ⟨q0, q9⟩ := numP_bound l 1
  by_cases h1 : c = 65
  · subst h1; exact rcsiA g h b cap w hS hc lo _ lc _ _ HN p0 p9 _ rfl x hx
  by_cases h2 : c = 66
  · subst h2; exact rcsiB g h b cap w hS hc lo _ lc _ _ HN p0 p9 _ rfl x hx
  by_cases h3 : c = 67
  · subst h3; exact rcsiC g h b cap w hS hc lo _ lc _ _ HN p0 p9 _ rfl x hx
  by_cases h4 : c = 68
  · subst h4; exact rcsiD g h b cap w hS hc lo _ lc _ _ HN p0 p9 _ rfl x hx
  by_cases h5 : c = 72
  · subst h5; exact rcsiH g h b cap w hS hc lo _ lc _ _ HN p0 p9 q0 q9 _ rfl x hx
  obtain ⟨n1, n2, n3, n4, _⟩ := h.nums
  have hw0 := h.w1
  have hc0 := h.c1
  have hK0 : 0 ≤ hereC g := by unfold hereC; omega
  have hK1 : hereC g < g.wide := by unfold hereC; omega
  by_cases h6 : c = 74
  · subst h6
    refine rcsiJ g h b cap w hS hc lo _ lc _ _ HN p0 p9 HG (eraseF g.f 0 g.n (g.row * g.wide + hereC g).toNat (numP l 0)) (fun i => wantB (numP l 0) (g.row * g.wide + hereC g) i) (fun _ => rfl) ?_ _ rfl x (by rw [hx, csi74])
    intro i hi
    exact eraseJ g _ _ i hi (by omega)
  by_cases h7 : c = 75
  · subst h7
    refine rcsiK g h b cap w hS hc lo _ lc _ _ HN p0 p9 HG (eraseF g.f (g.row * g.wide).toNat g.wide.toNat (hereC g).toNat (numP l 0)) (fun i => decide ((i : Int) / g.wide = g.row) && wantB (numP l 0) (g.row * g.wide + hereC g) i) (fun _ => rfl) ?_ _ rfl x (by rw [hx, csi75])
    intro i hi
    obtain ⟨W, hW⟩ : ∃ W : Nat, g.wide = W := ⟨g.wide.toNat, by omega⟩
    obtain ⟨R, hR⟩ : ∃ R : Nat, g.row = R := ⟨g.row.toNat, by have := h.r1; omega⟩
    obtain ⟨K, hK⟩ : ∃ K : Nat, hereC g = K := ⟨(hereC g).toNat, by omega⟩
    have := eraseK g W R K (numP l 0) i hi (by omega)
    rw [mul_nat hR hW, hW, hR, hK]
    rw [show ((R * W + K : Nat) : Int) = (R : Int) * (W : Int) + (K : Int) by simp] at this
    exact this
  by_cases h8 : c = 76
  · subst h8; exact rcsiL g h b cap w hS hc lo _ lc _ _ HN p0 p9 _ rfl x hx
  by_cases h9 : c = 77
  · subst h9; exact rcsiM g h b cap w hS hc lo _ lc _ _ HN p0 p9 _ rfl x hx
  by_cases h10 : c = 109
  · subst h10; exact rcsi_m g h b cap w hS hc lo _ lc _ _ HN p0 p9 l hl rfl hr _ rfl x hx
  by_cases h11 : c = 114
  · subst h11; exact rcsi_r g h b cap w hS hc lo _ lc _ _ HN p0 p9 q0 q9 _ rfl x hx
  exact rcsiNone g h b cap w hS hc lo _ lc _ _ HN p0 p9 c h1 h2 h3 h4 h5 h6 h7 h8 h9 h10 h11 _ rfl x (by rw [hx, csiNo g c l h1 h2 h3 h4 h5 h6 h7 h8 h9 h10 h11])

end Go.Proofs.Yteenppbpjdldgaa
