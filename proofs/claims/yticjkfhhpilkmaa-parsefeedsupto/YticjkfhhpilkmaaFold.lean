/- The plain machine over many bytes: it stays good, and what it tells of two parts is what it tells of both. -/
import Derived.Test.YticjkfhhpilkmaaClone
namespace Go.Proofs.Yticjkfhhpilkmaa
open Go.RowKit

def bint (c : UInt8) : Int := (c.toNat : Int)
def feedS (s : PS) (l : List UInt8) : PS := l.foldl (fun s c => (stp s (bint c)).1) s
def one (e : Ev) : List Ev := if e.kind = 0 then [] else [e]
def feedE (s : PS) : List UInt8 → List Ev
  | [] => []
  | c :: r => one (stp s (bint c)).2 ++ feedE (stp s (bint c)).1 r

theorem feedS_append (s : PS) (a b : List UInt8) : feedS s (a ++ b) = feedS (feedS s a) b := by simp [feedS]
theorem feedE_append (s : PS) (a b : List UInt8) : feedE s (a ++ b) = feedE s a ++ feedE (feedS s a) b := by
  induction a generalizing s with
  | nil => rfl
  | cons c r ih => simp only [List.cons_append, feedE, ih, List.append_assoc]; rfl
theorem feedS_snoc (s : PS) (a : List UInt8) (c : UInt8) : feedS s (a ++ [c]) = (stp (feedS s a) (bint c)).1 := by rw [feedS_append]; rfl
theorem feedE_snoc (s : PS) (a : List UInt8) (c : UInt8) : feedE s (a ++ [c]) = feedE s a ++ one (stp (feedS s a) (bint c)).2 := by rw [feedE_append]; simp [feedE]

theorem bint_lo (c : UInt8) : 0 ≤ bint c := by unfold bint; omega
theorem bint_hi (c : UInt8) : bint c ≤ 255 := by have := c.toNat_lt; unfold bint; omega

theorem good_ground : GoodS ground := ⟨by decide, by decide, by decide, by decide, by simp [ground], by decide, fun _ _ => ⟨rfl, rfl⟩⟩
theorem good_esc : GoodS ⟨1, [], ⟨#[]⟩, false⟩ := ⟨by decide, by decide, by decide, by decide, by simp, by decide, fun _ _ => ⟨rfl, rfl⟩⟩

theorem good_set (s : PS) (h : GoodS s) (j : Nat) (x : Int) (h0 : 0 ≤ x) (h1 : x ≤ 999) : GoodS { s with ps := s.ps.set j x } := by
  obtain ⟨a, b, c, d, e, f, g⟩ := h
  refine ⟨a, b, by simpa using c, by simpa using d, ?_, f, g⟩
  intro y hy
  rcases List.mem_or_eq_of_mem_set hy with h | h
  · exact e y h
  · subst h; exact ⟨h0, h1⟩

theorem good_stp (s : PS) (h : GoodS s) (b : Int) : GoodS (stp s b).1 := by
  obtain ⟨h1, h2, h3, h4, h5, h6, h7⟩ := h
  have hs : GoodS s := ⟨h1, h2, h3, h4, h5, h6, h7⟩
  unfold stp
  by_cases p1 : s.place = 1
  · rw [if_pos p1]
    unfold escF
    repeat' split
    · exact good_esc
    · exact ⟨by decide, by decide, by decide, by decide, by simp, by decide, fun _ _ => ⟨rfl, rfl⟩⟩
    · exact ⟨by decide, by decide, by decide, by decide, by simp, by decide, fun _ _ => ⟨rfl, rfl⟩⟩
    · exact good_ground
    · exact good_ground
  · rw [if_neg p1]
    by_cases p2 : s.place = 2
    · rw [if_pos p2]
      unfold cmdF
      repeat' split
      · rename_i hb
        have hl := h4.1 p2
        have hx : 0 ≤ s.ps.getD (s.ps.length - 1) 0 := by
          have : s.ps.length - 1 < s.ps.length := by omega
          rw [List.getD_eq_getElem?_getD, List.getElem?_eq_getElem this]
          exact (h5 _ (List.getElem_mem this)).1
        exact good_set s hs _ _ (by omega) (by omega)
      · rename_i hb
        obtain ⟨e1, e2⟩ := h7 (by omega) (by omega)
        refine ⟨h1, h2, by simp; omega, ⟨fun _ => by simp, fun _ => p2⟩, ?_, h6, h7⟩
        intro x hx
        simp at hx
        rcases hx with hx | hx
        · exact h5 x hx
        · subst hx; decide
      · exact good_ground
      · exact good_esc
      · exact good_ground
    · rw [if_neg p2]
      by_cases p3 : s.place = 3
      · rw [if_pos p3]
        have h0 : ¬ 0 < s.ps.length := fun h => p2 (h4.2 h)
        show GoodS (picF s b)
        unfold picF
        repeat' split
        · exact ⟨show (0 : Int) ≤ 4 by decide, show (4 : Int) ≤ 4 by decide, h3, ⟨fun h => absurd h (show ¬ (4 : Int) = 2 by decide), fun h => absurd h h0⟩, h5, h6, fun _ h => absurd rfl h⟩
        · exact good_ground
        · refine ⟨h1, h2, h3, h4, h5, ?_, fun h => absurd p3 h⟩
          show (s.pl.push _).size ≤ 48
          rw [ByteArray.size_push]; omega
        · exact ⟨h1, h2, h3, h4, h5, h6, fun h => absurd p3 h⟩
        · exact hs
      · rw [if_neg p3]
        by_cases p4 : s.place = 4
        · rw [if_pos p4]
          unfold endF
          split <;> exact good_ground
        · rw [if_neg p4]
          unfold gndF
          repeat' split
          · exact good_esc
          · exact good_ground
          · exact good_ground
          · exact good_ground

theorem good_feed (s : PS) (h : GoodS s) (l : List UInt8) : GoodS (feedS s l) := by
  induction l generalizing s with
  | nil => exact h
  | cons c r ih => exact ih _ (good_stp s h _)

theorem goodB_iff (s : PS) : goodB s = true ↔ GoodS s := by
  constructor
  · intro h
    simp only [goodB, plcB, parB, payB, numsB, numB, Bool.and_eq_true, decide_eq_true_eq, beq_iff_eq, List.all_eq_true, decide_eq_decide] at h
    obtain ⟨⟨⟨h1, h2⟩, ⟨⟨h3, h4⟩, h5⟩⟩, h6⟩ := h
    by_cases hp : s.place = 3 ∨ s.place = 4
    · rw [if_pos hp] at h6
      exact ⟨h1, h2, h4, h3, h5, by simpa using h6, fun a b => by omega⟩
    · rw [if_neg hp] at h6
      simp only [Bool.and_eq_true, Bool.not_eq_true'] at h6
      have he : s.pl = ⟨#[]⟩ := by
        have h := h6.1
        rw [ByteArray.toList_eq] at h
        cases hs : s.pl with
        | mk d =>
          rw [hs] at h
          simp at h
          rw [h]
      exact ⟨h1, h2, h4, h3, h5, by rw [he]; decide, fun _ _ => ⟨he, h6.2⟩⟩
  · rintro ⟨h1, h2, h3, h4, h5, h6, h7⟩
    simp only [goodB, plcB, parB, payB, numsB, numB, Bool.and_eq_true, decide_eq_true_eq, beq_iff_eq, List.all_eq_true, decide_eq_decide]
    refine ⟨⟨⟨h1, h2⟩, ⟨⟨h4, h3⟩, h5⟩⟩, ?_⟩
    by_cases hp : s.place = 3 ∨ s.place = 4
    · rw [if_pos hp]; simpa using h6
    · rw [if_neg hp]
      obtain ⟨e1, e2⟩ := h7 (by omega) (by omega)
      rw [e1, e2, ByteArray.toList_eq]
      rfl

end Go.Proofs.Yticjkfhhpilkmaa
