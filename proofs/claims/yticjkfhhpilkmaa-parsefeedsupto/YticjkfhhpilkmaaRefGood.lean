/- What the document's own 'CopyParser' and 'GoodParser' do: the one hands back a parser with a row of its own that holds the same numbers; the other answers whether a parser is good. -/
import Derived.Test.YticjkfhhpilkmaaRound
namespace Go.Proofs.Yticjkfhhpilkmaa
open Go.RowKit

/-- The copy's ending. -/
def CopyEnd (w : World) (s : PS) (e : Ending) (w' : World) : Prop :=
  ∃ ao cap, e = .returned (.agg #[.int .i64 s.place, .slice ao s.ps.length cap, .string s.pl, .bool s.lg]) ∧ Own (w.heap.size + 2) w' ao cap s.ps ∧ Below w.heap.size w w'

theorem copy_finish {w w1 : World} {s : PS} {ao : Option Addr} {cap : Nat} (hown : Own (w.heap.size + 2) w1 ao cap s.ps) (hb : Below w.heap.size w w1) (u v0 v1 v2 v3 : Value) :
    CopyEnd w s (.returned (.agg #[.int .i64 s.place, .slice ao s.ps.length cap, .string s.pl, .bool s.lg])) (((((w1.setCell ⟨w.heap.size, 1, none⟩ u).setCell ⟨w.heap.size + 1, 0, none⟩ v0).setCell ⟨w.heap.size + 1, 1, none⟩ v1).setCell ⟨w.heap.size + 1, 2, none⟩ v2).setCell ⟨w.heap.size + 1, 3, none⟩ v3) := by
  refine ⟨ao, cap, rfl, ?_, ?_⟩
  · exact own_setb (own_setb (own_setb (own_setb (own_setb hown (by simp) _) (by simp) _) (by simp) _) (by simp) _) (by simp) _
  · exact ((((hb.setCell (Nat.le_refl _) _).setCell (by simp) _).setCell (by simp) _).setCell (by simp) _).setCell (by simp) _

set_option maxHeartbeats 400000 in
theorem copy_some (s : PS) (a : Addr) (cap : Nat) (w : World) (hr : Rd w (some a) s.ps) (hm : s.ps.length * 8 ≤ 140737488355328) :
    Calls Try.prog 7 #[.agg #[.int .i64 s.place, .slice (some a) s.ps.length cap, .string s.pl, .bool s.lg]] w fun e w' => CopyEnd w s e w' := by
  obtain ⟨i0, hi, hz0, hz1, hz2⟩ := info_parts info3
  obtain ⟨place, ps, pl, lg⟩ := s
  simp only at hr hm ⊢
  have HR : Hid (∀ j u, (ints ps)[j]? = some u → ((w.alloc (.cells #[.int .i64 place, .slice (some a) ps.length cap, .string pl, .bool lg] 24)).alloc (.cells #[.int .i64 0, .slice none 0 0, .string ⟨#[]⟩, .bool false] 24)).cell? (a.add j) = some u) := by
    intro j u hu
    have hr' := hr.below (((Below.refl _ _).alloc (Nat.le_refl _) (.cells #[.int .i64 place, .slice (some a) ps.length cap, .string pl, .bool lg] 24)).alloc (by simp) (.cells #[.int .i64 0, .slice none 0 0, .string ⟨#[]⟩, .bool false] 24))
    have hj : j < ps.length := by have := (List.getElem?_eq_some_iff.1 hu).1; simpa [ints] using this
    rcases hr' with h | ⟨b, off, ha, hc⟩
    · subst h; simp at hj
    · simp only [Option.some.injEq] at ha
      subst ha
      have e : (⟨b, off, none⟩ : Addr).add j = ⟨b, off + j, none⟩ := by unfold Addr.add; split <;> simp_all
      rw [e, hc j hj]
      simp [ints, hj] at hu
      simp [hj, hu]
  clear hr
  go_enter Try.func7, Try.ntmps7
  go_wp2_with (first | (at_builtin; refine wpList_append_own _ rfl _ _ 22 rfl (w.heap.size + 2) 3 i0 (.int .i64 0) 1 8 Try.underlying22 hi hz0 hz1 hz2 rfl (by decide) _ 0 [] rfl (World.ownsRow_nil _ _ _ _) a ps.length cap (ints ps) rfl (by simp [ints]) HR.out (by simp [ints]; intros; rfl) (by unfold maxLen; omega) (by omega) (by simp) ?_) | go_in)
  intro v' w1 hown hgrow _
  obtain ⟨ao, c, rfl, ho⟩ := own_shape hown
  clear hown
  obtain ⟨a0, a1, a2, a3, f0, f1, f2, f3⟩ := four (grown_block hgrow (at_old (at_new w _) _) (by simp [Value.ownBlock]))
  obtain ⟨e0, e1, e2, e3, g0, g1, g2, g3⟩ := four (grown_block hgrow (at_new1 w _ _) (by simp [Value.ownBlock]))
  have HB : Hid (Below w.heap.size w w1) := (((Below.refl _ _).alloc (Nat.le_refl _) _).alloc (by simp) _).grown hgrow (by simp; omega) (fun k hk => by simp [Value.ownBlock] at hk)
  have HO : Hid (Own (w.heap.size + 2) w1 ao c ps) := ho
  clear ho hgrow
  go_wp2
  refine bodyPost_ret (v := .agg #[.int .i64 place, .slice ao ps.length c, .string pl, .bool lg]) (by simp [results, Try.results7, go_sem, e0, e1, e2, e3]) rfl ?_
  exact copy_finish (s := ⟨place, ps, pl, lg⟩) HO.out HB.out _ _ _ _ _

set_option maxHeartbeats 400000 in
theorem copy_nil (place : Int) (pl : ByteArray) (lg : Bool) (w : World) :
    Calls Try.prog 7 #[.agg #[.int .i64 place, .slice none 0 0, .string pl, .bool lg]] w fun e w' => CopyEnd w ⟨place, [], pl, lg⟩ e w' := by
  obtain ⟨i0, hi, hz0, hz1, hz2⟩ := info_parts info3
  have hna := fun (ty : TypeId) (w : World) => run_append_owned_none (P := Try.prog) w 0 22 ty 3 i0 1 Try.underlying22 hi (.slice none 0 0) 0 [] (World.ownsRow_nil _ _ _ _)
  go_enter Try.func7, Try.ntmps7
  go_wp2
  refine bodyPost_ret (v := .agg #[.int .i64 place, .slice none 0 0, .string pl, .bool lg]) (by simp [results, Try.results7, go_sem]) rfl ?_
  exact ⟨none, 0, rfl, own_nil _ _, ((Below.refl _ _).alloc (Nat.le_refl _) _).alloc (by simp) _⟩

theorem copy_any (s : PS) (ao : Option Addr) (cap : Nat) (w : World) (hr : Rd w ao s.ps) (hn : ao = none → s.ps.length = 0 ∧ cap = 0) (hm : s.ps.length * 8 ≤ 140737488355328) :
    Calls Try.prog 7 #[.agg #[.int .i64 s.place, .slice ao s.ps.length cap, .string s.pl, .bool s.lg]] w fun e w' => CopyEnd w s e w' := by
  cases ao with
  | none =>
    obtain ⟨h1, rfl⟩ := hn rfl
    obtain ⟨place, ps, pl, lg⟩ := s
    obtain rfl : ps = [] := List.length_eq_zero_iff.1 h1
    exact copy_nil place pl lg w
  | some a => exact copy_some s a cap w hr hm

theorem gb_nums (s : PS) (h : numsB s.ps = false) : false = goodB s := by simp [goodB, parB, h]
theorem gb_len (s : PS) (h : (4 : Int) < (s.ps.length : Int)) : false = goodB s := by
  have : ¬ s.ps.length ≤ 4 := by omega
  simp [goodB, parB, this]
theorem gb_size (s : PS) (h : (48 : Int) < (s.pl.size : Int)) : false = goodB s := by
  have h1 : ¬ s.pl.size ≤ 48 := by omega
  have h2 : s.pl.toList.isEmpty = false := by
    rw [ByteArray.toList_eq]
    cases hp : s.pl with
    | mk d =>
      rw [hp] at h
      have : 0 < d.size := by change (48 : Int) < (d.size : Int) at h; omega
      cases d with
      | mk l => cases l with
        | nil => simp at this
        | cons x r => rfl
  simp [goodB, payB, h1, h2]
theorem gb_01 (s : PS) (hp : s.place = 0 ∨ s.place = 1) (hn : numsB s.ps = true) (h4 : s.ps.length ≤ 4) : goodB s = (decide (s.ps.length = 0) && s.pl.toList.isEmpty && !s.lg) := by
  have h2 : ¬ s.place = 2 := by omega
  have h3 : ¬ (s.place = 3 ∨ s.place = 4) := by omega
  have h0 : 0 ≤ s.place ∧ s.place ≤ 4 := by omega
  simp only [goodB, plcB, parB, payB, h0, h2, h3, hn, h4, if_false]
  cases hl : s.ps <;> simp
theorem gb_2 (s : PS) (hp : s.place = 2) (hn : numsB s.ps = true) (h4 : s.ps.length ≤ 4) : goodB s = (decide (0 < s.ps.length) && s.pl.toList.isEmpty && !s.lg) := by
  simp only [goodB, plcB, parB, payB, hp, hn, h4]
  cases hl : s.ps <;> simp
theorem gb_34 (s : PS) (hp : s.place = 3 ∨ s.place = 4) (hn : numsB s.ps = true) (h4 : s.ps.length ≤ 4) (hs : s.pl.size ≤ 48) : goodB s = decide (s.ps.length = 0) := by
  have h2 : ¬ s.place = 2 := by omega
  have h0 : 0 ≤ s.place ∧ s.place ≤ 4 := by omega
  simp only [goodB, plcB, parB, payB, h0, hp, h2, hn, h4, hs, if_true]
  cases hl : s.ps <;> simp
theorem gb_no (s : PS) (hp : ¬ (0 ≤ s.place ∧ s.place ≤ 4)) : false = goodB s := by simp only [goodB, plcB, hp]; simp

set_option maxHeartbeats 1000000 in
theorem goodParser_any (s : PS) (ao : Option Addr) (cap : Nat) (w : World) (hr : Rd w ao s.ps) (hm : s.ps.length ≤ 9223372036854775807) :
    Calls Try.prog 13 #[.agg #[.int .i64 s.place, .slice ao s.ps.length cap, .string s.pl, .bool s.lg]] w fun e w' => e = .returned (.bool (goodB s)) ∧ Below w.heap.size w w' := by
  obtain ⟨place, ps, pl, lg⟩ := s
  simp only at hr hm ⊢
  have HR : Hid (Rd w ao ps) := hr
  clear hr
  go_enter Try.func13, Try.ntmps13
  go_wp2
  go_loop [8] (fun i => ∃ k : Nat, k ≤ ps.length ∧ i = .int .i64 k ∧ numsB (ps.take k) = true) (fun i => ps.length - (intOf i).toNat)
  case atStart => exact ⟨0, Nat.zero_le _, rfl, rfl⟩
  case round =>
    obtain ⟨k, hk, rfl, hnum⟩ := hrel
    have HN : Hid (numsB (ps.take k) = true) := hnum
    clear hnum
    by_cases hlt : k < ps.length
    · rcases HR.out with h | ⟨b, off, rfl, hc⟩
      · subst h; simp at hlt
      have hcell := hc k hlt
      have hbl : b < w.heap.size := World.block_lt_of_cell? w _ hcell
      have hcell' : (w.alloc (.cells #[.int .i64 place, .slice (some ⟨b, off, none⟩) ps.length cap, .string pl, .bool lg] 24)).cell? ⟨b, off + k, none⟩ = some (.int .i64 (ps.getD k 0)) := by rw [World.cell?_alloc_past _ _ _ hbl]; exact hcell
      obtain ⟨x, hx⟩ : ∃ x, x = ps.getD k 0 := ⟨_, rfl⟩
      rw [← hx] at hcell'
      have HX : Hid (x = ps.getD k 0) := hx
      have hlt' : (k : Int) < (ps.length : Int) := by omega
      clear hcell hx hc
      by_cases hx0 : x < 0
      · go_wp2
        go_ret
        exact ⟨ret_bool (gb_nums _ (numsB_no ps k hlt (by rw [← HX.out]; simp [numB]; omega))), (Below.refl _ _).alloc (Nat.le_refl _) _⟩
      · by_cases hx1 : 999 < x
        · go_wp2
          go_ret
          exact ⟨ret_bool (gb_nums _ (numsB_no ps k hlt (by rw [← HX.out]; simp [numB]; omega))), (Below.refl _ _).alloc (Nat.le_refl _) _⟩
        · go_wp2
          go_round
          case rel => exact ⟨k + 1, by omega, by go_num, by rw [numsB_take ps k hlt, HN.out, ← HX.out]; simp [numB]; omega⟩
          case measure => simp [intOf]; omega
    · have HA : Hid (numsB ps = true) := by
        have := HN.out
        rw [List.take_of_length_le (by omega)] at this
        exact this
      by_cases h4 : (4 : Int) < (ps.length : Int)
      · go_wp2
        go_ret
        exact ⟨ret_bool (gb_len _ h4), (Below.refl _ _).alloc (Nat.le_refl _) _⟩
      · by_cases h48 : (48 : Int) < (pl.size : Int)
        · go_wp2
          go_ret
          exact ⟨ret_bool (gb_size _ h48), (Below.refl _ _).alloc (Nat.le_refl _) _⟩
        · have H4 : Hid (ps.length ≤ 4) := by show ps.length ≤ 4; omega
          have H48 : Hid (pl.size ≤ 48) := by show pl.size ≤ 48; omega
          by_cases p0 : place = 0
          · subst p0
            have HF : Hid (goodB ⟨0, ps, pl, lg⟩ = (decide (ps.length = 0) && pl.toList.isEmpty && !lg)) := gb_01 ⟨0, ps, pl, lg⟩ (.inl rfl) HA.out H4.out
            by_cases hps : ps = []
            · subst hps
              by_cases hpl : pl.toList = []
              · go_wp2
                all_goals (go_ret; exact ⟨ret_bool (by rw [HF.out]; simp [hpl]), (Below.refl _ _).alloc (Nat.le_refl _) _⟩)
              · go_wp2
                all_goals (go_ret; exact ⟨ret_bool (by rw [HF.out]; simp [hpl]), (Below.refl _ _).alloc (Nat.le_refl _) _⟩)
            · by_cases hpl : pl.toList = []
              · go_wp2
                all_goals (go_ret; exact ⟨ret_bool (by rw [HF.out]; simp [hps, hpl]), (Below.refl _ _).alloc (Nat.le_refl _) _⟩)
              · go_wp2
                all_goals (go_ret; exact ⟨ret_bool (by rw [HF.out]; simp [hps]), (Below.refl _ _).alloc (Nat.le_refl _) _⟩)
          by_cases p1 : place = 1
          · subst p1
            have HF : Hid (goodB ⟨1, ps, pl, lg⟩ = (decide (ps.length = 0) && pl.toList.isEmpty && !lg)) := gb_01 ⟨1, ps, pl, lg⟩ (.inr rfl) HA.out H4.out
            by_cases hps : ps = []
            · subst hps
              by_cases hpl : pl.toList = []
              · go_wp2
                all_goals (go_ret; exact ⟨ret_bool (by rw [HF.out]; simp [hpl]), (Below.refl _ _).alloc (Nat.le_refl _) _⟩)
              · go_wp2
                all_goals (go_ret; exact ⟨ret_bool (by rw [HF.out]; simp [hpl]), (Below.refl _ _).alloc (Nat.le_refl _) _⟩)
            · by_cases hpl : pl.toList = []
              · go_wp2
                all_goals (go_ret; exact ⟨ret_bool (by rw [HF.out]; simp [hps, hpl]), (Below.refl _ _).alloc (Nat.le_refl _) _⟩)
              · go_wp2
                all_goals (go_ret; exact ⟨ret_bool (by rw [HF.out]; simp [hps]), (Below.refl _ _).alloc (Nat.le_refl _) _⟩)
          by_cases p2 : place = 2
          · subst p2
            have HF : Hid (goodB ⟨2, ps, pl, lg⟩ = (decide (0 < ps.length) && pl.toList.isEmpty && !lg)) := gb_2 ⟨2, ps, pl, lg⟩ rfl HA.out H4.out
            by_cases hps : ps = []
            · subst hps
              by_cases hpl : pl.toList = []
              · go_wp2
                all_goals (go_ret; exact ⟨ret_bool (by rw [HF.out]; simp [hpl]), (Below.refl _ _).alloc (Nat.le_refl _) _⟩)
              · go_wp2
                all_goals (go_ret; exact ⟨ret_bool (by rw [HF.out]; simp), (Below.refl _ _).alloc (Nat.le_refl _) _⟩)
            · have hpos : 0 < ps.length := List.length_pos_iff.2 hps
              have hpos' : (0 : Int) < (ps.length : Int) := by omega
              by_cases hpl : pl.toList = []
              · go_wp2
                all_goals (go_ret; exact ⟨ret_bool (by rw [HF.out]; simp [hpos, hpl]), (Below.refl _ _).alloc (Nat.le_refl _) _⟩)
              · go_wp2
                all_goals (go_ret; exact ⟨ret_bool (by rw [HF.out]; simp [hpos, hpl]), (Below.refl _ _).alloc (Nat.le_refl _) _⟩)
          by_cases p3 : place = 3
          · subst p3
            have HF : Hid (goodB ⟨3, ps, pl, lg⟩ = decide (ps.length = 0)) := gb_34 ⟨3, ps, pl, lg⟩ (.inl rfl) HA.out H4.out H48.out
            by_cases hps : ps = []
            · subst hps
              by_cases hpl : pl.toList = []
              · go_wp2
                all_goals (go_ret; exact ⟨ret_bool (by rw [HF.out]; simp), (Below.refl _ _).alloc (Nat.le_refl _) _⟩)
              · go_wp2
                all_goals (go_ret; exact ⟨ret_bool (by rw [HF.out]; simp), (Below.refl _ _).alloc (Nat.le_refl _) _⟩)
            · by_cases hpl : pl.toList = []
              · go_wp2
                all_goals (go_ret; exact ⟨ret_bool (by rw [HF.out]; simp [hps]), (Below.refl _ _).alloc (Nat.le_refl _) _⟩)
              · go_wp2
                all_goals (go_ret; exact ⟨ret_bool (by rw [HF.out]; simp [hps]), (Below.refl _ _).alloc (Nat.le_refl _) _⟩)
          by_cases p4 : place = 4
          · subst p4
            have HF : Hid (goodB ⟨4, ps, pl, lg⟩ = decide (ps.length = 0)) := gb_34 ⟨4, ps, pl, lg⟩ (.inr rfl) HA.out H4.out H48.out
            by_cases hps : ps = []
            · subst hps
              by_cases hpl : pl.toList = []
              · go_wp2
                all_goals (go_ret; exact ⟨ret_bool (by rw [HF.out]; simp), (Below.refl _ _).alloc (Nat.le_refl _) _⟩)
              · go_wp2
                all_goals (go_ret; exact ⟨ret_bool (by rw [HF.out]; simp), (Below.refl _ _).alloc (Nat.le_refl _) _⟩)
            · by_cases hpl : pl.toList = []
              · go_wp2
                all_goals (go_ret; exact ⟨ret_bool (by rw [HF.out]; simp [hps]), (Below.refl _ _).alloc (Nat.le_refl _) _⟩)
              · go_wp2
                all_goals (go_ret; exact ⟨ret_bool (by rw [HF.out]; simp [hps]), (Below.refl _ _).alloc (Nat.le_refl _) _⟩)
          have HF : Hid (false = goodB ⟨place, ps, pl, lg⟩) := gb_no ⟨place, ps, pl, lg⟩ (by simp only; omega)
          have e0 : (place == 0) = false := by simpa using p0
          have e1 : (place == 1) = false := by simpa using p1
          have e2 : (place == 2) = false := by simpa using p2
          have e3 : (place == 3) = false := by simpa using p3
          have e4 : (place == 4) = false := by simpa using p4
          clear p0 p1 p2 p3 p4
          go_wp2
          go_ret
          exact ⟨ret_bool HF.out, (Below.refl _ _).alloc (Nat.le_refl _) _⟩

end Go.Proofs.Yticjkfhhpilkmaa
