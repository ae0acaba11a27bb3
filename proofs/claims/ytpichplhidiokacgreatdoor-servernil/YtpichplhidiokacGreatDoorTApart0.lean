/- Places lie within, and apart: of the plain machine. -/
import Derived.Test.YtpichplhidiokacGreatDoorTMach
namespace Go.Proofs.YtpichplhidiokacGreatDoor.Tl

theorem share_no {length n k : Int} (h : n < 1 ∨ 6 < n ∨ k < 0 ∨ n ≤ k ∨ 24 < length ∨ length < n + (n - 1)) : shareT length n k = (0, 0) := by
  unfold shareT
  rw [if_pos h]

def inB (L n k : Nat) : Bool := decide (shareT L (n + 1) k = (0, 0)) || decide (0 ≤ (shareT L (n + 1) k).1 ∧ 1 ≤ (shareT L (n + 1) k).2 ∧ (shareT L (n + 1) k).1 + (shareT L (n + 1) k).2 ≤ L)
def apB (L n i j : Nat) : Bool := decide (j ≤ i) || decide ((shareT L (n + 1) i).2 = 0) || decide ((shareT L (n + 1) j).2 = 0) || decide ((shareT L (n + 1) i).1 + (shareT L (n + 1) i).2 < (shareT L (n + 1) j).1)
theorem all_in : ((List.range 25).all fun L => (List.range 6).all fun n => (List.range (n + 1)).all fun k => inB L n k) = true := by decide +kernel
theorem all_ap : ((List.range 25).all fun L => (List.range 6).all fun n => (List.range (n + 1)).all fun i => (List.range (n + 1)).all fun j => apB L n i j) = true := by decide +kernel

theorem share_in (L : Int) (n k : Nat) (hL : 0 ≤ L) (hL2 : L < 25) : shareT L n k = (0, 0) ∨ (0 ≤ (shareT L n k).1 ∧ 1 ≤ (shareT L n k).2 ∧ (shareT L n k).1 + (shareT L n k).2 ≤ L) := by
  by_cases h : (n : Int) < 1 ∨ 6 < (n : Int) ∨ (k : Int) < 0 ∨ (n : Int) ≤ k ∨ 24 < L ∨ L < n + (n - 1)
  · exact .inl (share_no h)
  · obtain ⟨L, rfl⟩ : ∃ m : Nat, L = m := ⟨L.toNat, by omega⟩
    obtain ⟨n, rfl⟩ : ∃ m : Nat, n = m + 1 := ⟨n - 1, by omega⟩
    have h1 := all_in
    rw [List.all_eq_true] at h1
    have h1 := h1 L (List.mem_range.2 (by omega))
    rw [List.all_eq_true] at h1
    have h1 := h1 n (List.mem_range.2 (by omega))
    rw [List.all_eq_true] at h1
    have h1 := h1 k (List.mem_range.2 (by omega))
    unfold inB at h1
    rw [Bool.or_eq_true, decide_eq_true_eq, decide_eq_true_eq] at h1
    exact h1

theorem share_apart (L : Int) (n i j : Nat) (hL : 0 ≤ L) (hL2 : L < 25) (hij : i < j) : (shareT L n i).2 = 0 ∨ (shareT L n j).2 = 0 ∨ (shareT L n i).1 + (shareT L n i).2 < (shareT L n j).1 := by
  by_cases h : (n : Int) < 1 ∨ 6 < (n : Int) ∨ (j : Int) < 0 ∨ (n : Int) ≤ j ∨ 24 < L ∨ L < n + (n - 1)
  · right; left
    rw [share_no h]
  · obtain ⟨L, rfl⟩ : ∃ m : Nat, L = m := ⟨L.toNat, by omega⟩
    obtain ⟨n, rfl⟩ : ∃ m : Nat, n = m + 1 := ⟨n - 1, by omega⟩
    have h1 := all_ap
    rw [List.all_eq_true] at h1
    have h1 := h1 L (List.mem_range.2 (by omega))
    rw [List.all_eq_true] at h1
    have h1 := h1 n (List.mem_range.2 (by omega))
    rw [List.all_eq_true] at h1
    have h1 := h1 i (List.mem_range.2 (by omega))
    rw [List.all_eq_true] at h1
    have h1 := h1 j (List.mem_range.2 (by omega))
    unfold apB at h1
    simp only [Bool.or_eq_true, decide_eq_true_eq] at h1
    rcases h1 with ((h1 | h1) | h1) | h1
    · omega
    · exact .inl h1
    · exact .inr (.inl h1)
    · exact .inr (.inr h1)

/-- A cell is in a place. -/
def inR (r : Rc) (row col : Int) : Prop := r.row ≤ row ∧ row < r.row + r.high ∧ r.col ≤ col ∧ col < r.col + r.wide

/-- What a place is: none, or shares of both sides. -/
theorem where_cases (cols : List (List Int)) (wide high p : Int) : whereT cols wide high p = noRc ∨ ∃ i j, findT p cols = some (i, j) ∧ (shareT wide cols.length i).2 ≠ 0 ∧ (shareT high (cols.getD i []).length j).2 ≠ 0 ∧
    whereT cols wide high p = ⟨(shareT high (cols.getD i []).length j).1, (shareT wide cols.length i).1, (shareT high (cols.getD i []).length j).2, (shareT wide cols.length i).2⟩ := by
  unfold whereT
  by_cases hg : goodT cols = false
  · left; rw [if_pos hg]
  · rw [if_neg hg]
    cases hf : findT p cols with
    | none => left; rfl
    | some x =>
      obtain ⟨i, j⟩ := x
      simp only
      by_cases h : (shareT wide cols.length i).2 = 0 ∨ (shareT high (cols.getD i []).length j).2 = 0
      · left; rw [if_pos h]
      · right
        rw [if_neg h]
        exact ⟨i, j, rfl, fun e => h (.inl e), fun e => h (.inr e), rfl⟩

theorem where_in (cols : List (List Int)) (wide high p : Int) (hw : 0 ≤ wide) (hw2 : wide < 25) (hh : 0 ≤ high) (hh2 : high < 25) (r : Rc) (hr : r = whereT cols wide high p) :
    (0 ≤ r.row ∧ 0 ≤ r.col ∧ 0 ≤ r.high ∧ 0 ≤ r.wide ∧ r.row + r.high ≤ high ∧ r.col + r.wide ≤ wide) ∧ ((r.high = 0 ∧ r.wide = 0) ∨ (0 < r.high ∧ 0 < r.wide ∧ hasT cols p = true)) := by
  rcases where_cases cols wide high p with h | ⟨i, j, hf, h1, h2, h⟩
  · rw [h] at hr
    subst hr
    simp [noRc, hw, hh]
  · rw [h] at hr
    subst hr
    rcases share_in wide cols.length i hw hw2 with e | ⟨e1, e2, e3⟩
    · rw [e] at h1; exact absurd rfl h1
    · rcases share_in high (cols.getD i []).length j hh hh2 with e | ⟨f1, f2, f3⟩
      · rw [e] at h2; exact absurd rfl h2
      · simp only
        exact ⟨⟨f1, e1, by omega, by omega, f3, e3⟩, .inr ⟨by omega, by omega, by unfold hasT; rw [hf]; rfl⟩⟩

theorem where_apart (cols : List (List Int)) (wide high p q row col : Int) (hw : 0 ≤ wide) (hw2 : wide < 25) (hh : 0 ≤ high) (hh2 : high < 25) (hpq : p ≠ q) (h1 : inR (whereT cols wide high p) row col) (h2 : inR (whereT cols wide high q) row col) : False := by
  rcases where_cases cols wide high p with h | ⟨i, j, hf, a1, a2, h⟩
  · rw [h] at h1; simp [inR, noRc] at h1; omega
  · rcases where_cases cols wide high q with h' | ⟨i', j', hf', b1, b2, h'⟩
    · rw [h'] at h2; simp [inR, noRc] at h2; omega
    · rw [h] at h1
      rw [h'] at h2
      simp only [inR] at h1 h2
      by_cases e : i = i'
      · subst e
        have hj : j ≠ j' := by
          intro e
          subst e
          obtain ⟨g1, g2, g3⟩ := findT_get hf
          obtain ⟨g1', g2', g3'⟩ := findT_get hf'
          exact hpq (g3.symm.trans g3')
        rcases Nat.lt_or_gt_of_ne hj with e | e
        · rcases share_apart high (cols.getD i []).length j j' hh hh2 e with c | c | c
          · exact a2 c
          · exact b2 c
          · omega
        · rcases share_apart high (cols.getD i []).length j' j hh hh2 e with c | c | c
          · exact b2 c
          · exact a2 c
          · omega
      · rcases Nat.lt_or_gt_of_ne e with e | e
        · rcases share_apart wide cols.length i i' hw hw2 e with c | c | c
          · exact a1 c
          · exact b1 c
          · omega
        · rcases share_apart wide cols.length i' i hw hw2 e with c | c | c
          · exact b1 c
          · exact a1 c
          · omega

end Go.Proofs.YtpichplhidiokacGreatDoor.Tl
