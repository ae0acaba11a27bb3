/- What 'Good' and its parts answer: just whether a parser is good (P1.1); they change nothing. -/
import Derived.Test.YticjkfhhpilkmaaStep
namespace Go.Proofs.Yticjkfhhpilkmaa
open Go.RowKit

/-- The numbers lie in memory where the slice points. -/
def Rd (w : World) (ao : Option Addr) (l : List Int) : Prop := l = [] ∨ ∃ b off, ao = some ⟨b, off, none⟩ ∧ ∀ j, j < l.length → w.cell? ⟨b, off + j, none⟩ = some (.int .i64 (l.getD j 0))

theorem Rd.below {w w' : World} {ao : Option Addr} {l : List Int} (h : Rd w ao l) (hb : Below w.heap.size w w') : Rd w' ao l := by
  rcases h with h | ⟨b, off, ha, hc⟩
  · exact .inl h
  · refine .inr ⟨b, off, ha, fun j hj => ?_⟩
    have := hc j hj
    rw [hb.cell (p := ⟨b, off + j, none⟩) (World.block_lt_of_cell? _ _ this)]
    exact this

theorem Own.rd {base : Nat} {w : World} {ao : Option Addr} {cap : Nat} {l : List Int} (h : Own base w ao cap l) : Rd w ao l := by
  by_cases hl : 0 < l.length
  · obtain ⟨g, rfl, _, _⟩ := own_form h hl
    exact .inr ⟨g, 0, rfl, fun j hj => by rw [Nat.zero_add]; exact own_cell h j hj⟩
  · exact .inl (List.length_eq_zero_iff.1 (by omega))

def numB (x : Int) : Bool := decide (0 ≤ x ∧ x ≤ 999)
def numsB (l : List Int) : Bool := l.all numB
def parB (s : PS) : Bool := (decide (s.place = 2) == decide (0 < s.ps.length)) && decide (s.ps.length ≤ 4) && numsB s.ps
def payB (s : PS) : Bool := if s.place = 3 ∨ s.place = 4 then decide (s.pl.size ≤ 48) else (s.pl.toList.isEmpty && !s.lg)
def plcB (s : PS) : Bool := decide (0 ≤ s.place ∧ s.place ≤ 4)
def goodB (s : PS) : Bool := plcB s && parB s && payB s

theorem numsB_take (l : List Int) (k : Nat) (hk : k < l.length) : numsB (l.take (k + 1)) = (numsB (l.take k) && numB (l.getD k 0)) := by
  unfold numsB
  rw [List.take_succ_eq_append_getElem hk, List.all_append]
  simp [hk]

theorem ret_bool {a b : Bool} (h : a = b) : Ending.returned (.bool a) = .returned (.bool b) := by rw [h]

theorem parB_no1 (s : PS) (h : ¬(s.place == 2) = decide (0 < s.ps.length)) : false = parB s := by
  have : (s.place == 2) = decide (s.place = 2) := by rw [Bool.eq_iff_iff]; simp
  rw [this] at h
  simp [parB, h]
theorem parB_no2 (s : PS) (h : (4 : Int) < (s.ps.length : Int)) : false = parB s := by
  have : ¬ s.ps.length ≤ 4 := by omega
  simp [parB, this]
theorem parB_yes (s : PS) (h : (s.place == 2) = decide (0 < s.ps.length)) (h4 : (s.ps.length : Int) ≤ 4) : parB s = numsB s.ps := by
  have e : (s.place == 2) = decide (s.place = 2) := by rw [Bool.eq_iff_iff]; simp
  have : s.ps.length ≤ 4 := by omega
  rw [e] at h
  simp [parB, this, h]
theorem numsB_no (l : List Int) (k : Nat) (hk : k < l.length) (h : numB (l.getD k 0) = false) : numsB l = false := by
  unfold numsB
  rw [List.all_eq_false]
  refine ⟨l[k], List.getElem_mem hk, ?_⟩
  simp [hk] at h
  simp [h]

set_option maxHeartbeats 400000 in
theorem goodParams_any (s : PS) (ao : Option Addr) (cap : Nat) (w : World) (hr : Rd w ao s.ps) (hm : s.ps.length ≤ 9223372036854775807) :
    Calls Try.prog 25 #[.agg #[.int .i64 s.place, .slice ao s.ps.length cap, .string s.pl, .bool s.lg]] w fun e w' => e = .returned (.bool (parB s)) ∧ Below w.heap.size w w' := by
  obtain ⟨place, ps, pl, lg⟩ := s
  simp only at hr hm ⊢
  rcases hr with rfl | ⟨b, off, rfl, hc⟩
  · cases h : (place == 2)
    · go_enter Try.func25, Try.ntmps25
      go_wp2
      go_loop [22] (fun i => i = .int .i64 0) (fun _ => 0)
      case atStart => rfl
      case round =>
        subst hrel
        go_wp2
        go_ret
        refine ⟨ret_bool ?_, (Below.refl _ _).alloc (Nat.le_refl _) _⟩
        rw [parB_yes _ (by simpa using h) (by simp)]
        rfl
    · go_enter Try.func25, Try.ntmps25
      go_wp2
      go_ret
      exact ⟨ret_bool (parB_no1 _ (by simp [h])), (Below.refl _ _).alloc (Nat.le_refl _) _⟩
  · have HC : Hid (∀ j, j < ps.length → w.cell? ⟨b, off + j, none⟩ = some (.int .i64 (ps.getD j 0))) := hc
    clear hc
    go_enter Try.func25, Try.ntmps25
    go_wp2
    · go_ret
      have h : (4 : Int) < ps.length := by assumption
      exact ⟨ret_bool (parB_no2 _ h), (Below.refl _ _).alloc (Nat.le_refl _) _⟩
    · have h1 : (place == 2) = decide (0 < ps.length) := by assumption
      have h2 : (ps.length : Int) ≤ 4 := by assumption
      have HP : Hid (parB ⟨place, ps, pl, lg⟩ = numsB ps) := parB_yes ⟨place, ps, pl, lg⟩ h1 h2
      go_loop [22] (fun i => ∃ k : Nat, k ≤ ps.length ∧ i = .int .i64 k ∧ numsB (ps.take k) = true) (fun i => ps.length - (intOf i).toNat)
      case atStart => exact ⟨0, Nat.zero_le _, rfl, rfl⟩
      case round =>
        obtain ⟨k, hk, rfl, hnum⟩ := hrel
        have HN : Hid (numsB (ps.take k) = true) := hnum
        clear hnum
        by_cases hlt : k < ps.length
        · have hcell := HC.out k hlt
          have hbl : b < w.heap.size := World.block_lt_of_cell? w _ hcell
          have hcell' : (w.alloc (.cells #[.int .i64 place, .slice (some ⟨b, off, none⟩) ps.length cap, .string pl, .bool lg] 24)).cell? ⟨b, off + k, none⟩ = some (.int .i64 (ps.getD k 0)) := by rw [World.cell?_alloc_past _ _ _ hbl]; exact hcell
          obtain ⟨x, hx⟩ : ∃ x, x = ps.getD k 0 := ⟨_, rfl⟩
          rw [← hx] at hcell'
          have HX : Hid (x = ps.getD k 0) := hx
          have hlt' : (k : Int) < (ps.length : Int) := by omega
          clear hcell hx h1
          by_cases hx0 : x < 0
          · go_wp2
            go_ret
            refine ⟨ret_bool ?_, (Below.refl _ _).alloc (Nat.le_refl _) _⟩
            rw [HP.out]
            exact (numsB_no ps k hlt (by rw [← HX.out]; simp [numB]; omega)).symm
          · by_cases hx1 : 999 < x
            · go_wp2
              go_ret
              refine ⟨ret_bool ?_, (Below.refl _ _).alloc (Nat.le_refl _) _⟩
              rw [HP.out]
              exact (numsB_no ps k hlt (by rw [← HX.out]; simp [numB]; omega)).symm
            · go_wp2
              go_round
              case rel => exact ⟨k + 1, by omega, by go_num, by rw [numsB_take ps k hlt, HN.out, ← HX.out]; simp [numB]; omega⟩
              case measure => simp [intOf]; omega
        · go_wp2
          go_ret
          refine ⟨ret_bool ?_, (Below.refl _ _).alloc (Nat.le_refl _) _⟩
          rw [HP.out, ← HN.out, List.take_of_length_le (by omega)]
    · go_ret
      have h : ¬ (place == 2) = decide (0 < ps.length) := by assumption
      exact ⟨ret_bool (parB_no1 _ h), (Below.refl _ _).alloc (Nat.le_refl _) _⟩

set_option maxHeartbeats 400000 in
theorem goodPayload_any (s : PS) (ao : Option Addr) (n cap : Nat) (w : World) :
    Calls Try.prog 26 #[.agg #[.int .i64 s.place, .slice ao n cap, .string s.pl, .bool s.lg]] w fun e w' => e = .returned (.bool (payB s)) ∧ Below w.heap.size w w' := by
  obtain ⟨place, ps, pl, lg⟩ := s
  simp only
  go_enter Try.func26, Try.ntmps26
  go_wp2
  · go_ret
    have h : place = 3 := by assumption
    refine ⟨ret_bool ?_, (Below.refl _ _).alloc (Nat.le_refl _) _⟩
    simp [payB, h]
    omega
  · go_ret
    have h : (place == 3) = true ∨ (place == 4) = true := by assumption
    refine ⟨ret_bool ?_, (Below.refl _ _).alloc (Nat.le_refl _) _⟩
    simp at h
    simp [payB, h]
    omega
  · go_ret
    have h : (place == 3) = false ∧ (place == 4) = false := by assumption
    have h2 : pl.toList = [] := by assumption
    refine ⟨ret_bool ?_, (Below.refl _ _).alloc (Nat.le_refl _) _⟩
    simp at h
    simp [payB, h, h2]
  · go_ret
    have h : (place == 3) = false ∧ (place == 4) = false := by assumption
    have h2 : ¬ pl.toList = [] := by assumption
    refine ⟨ret_bool ?_, (Below.refl _ _).alloc (Nat.le_refl _) _⟩
    simp at h
    simp [payB, h, h2]

end Go.Proofs.Yticjkfhhpilkmaa
