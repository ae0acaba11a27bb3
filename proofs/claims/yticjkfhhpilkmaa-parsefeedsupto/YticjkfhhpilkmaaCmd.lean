/- What 'inCommand' does to the world: it answers what the plain machine answers. -/
import Derived.Test.YticjkfhhpilkmaaBase
import Derived.Deep.AppendLies
namespace Go.Proofs.Yticjkfhhpilkmaa
open Go.RowKit

theorem info3 : (Try.prog.info? 3).map (fun i => (i.zero, i.size, i.bytes)) = some (some (.int .i64 0), 1, 8) := by kernel_rfl

/-- The digit's ending, from the store. -/
theorem digit_end {base : Nat} {w : World} {g cap k : Nat} {ps : List Int} {at0 b y : Int} {pl : ByteArray} {lg : Bool} {o1 o2 o3 : Obj} (h : Own base w (some ⟨g, 0, none⟩) cap ps) (hk : ps.length = k + 1)
    (hF : cmdF ⟨at0, ps, pl, lg⟩ b = (⟨at0, ps.set k y, pl, lg⟩, noEv)) :
    StepEnd base w (some ⟨g, 0, none⟩) (cmdF ⟨at0, ps, pl, lg⟩ b) (.returned (.tuple #[.agg #[.int .i64 at0, .slice (some ⟨g, 0, none⟩) (k + 1) cap, .string pl, .bool lg], .agg #[.int .i64 0, .int .i64 0, .slice none 0 0, .string ⟨#[]⟩]]))
      ((((w.setCell ⟨g, k, none⟩ (.int .i64 y)).alloc o1).alloc o2).alloc o3).drew := by
  rw [hF]
  obtain ⟨h1, h2⟩ := own_store h k y
  exact ⟨some ⟨g, 0, none⟩, cap, none, 0, by simp [hk, noEv], own_drew (own_alloc (own_alloc (own_alloc h1 _) _) _), own_nil _ _, grown_drew (grown_alloc (grown_alloc (grown_alloc h2 _) _) _), .inr (.inl rfl), .inl rfl⟩

set_option maxHeartbeats 400000 in
theorem cmd_digit (base g k cap : Nat) (ps : List Int) (at0 : Int) (pl : ByteArray) (lg : Bool) (b : Int) (w : World) (hown : Own base w (some ⟨g, 0, none⟩) cap ps) (hkl : ps.length = k + 1)
    (hx : 0 ≤ ps.getD k 0 ∧ ps.getD k 0 ≤ 999) (hb0 : 48 ≤ b) (hb1 : b ≤ 57) (hk : k < 4) :
    Calls Try.prog 29 #[.agg #[.int .i64 at0, .slice (some ⟨g, 0, none⟩) (k + 1) cap, .string pl, .bool lg], .int .i64 b] w fun e w' => StepEnd base w (some ⟨g, 0, none⟩) (cmdF ⟨at0, ps, pl, lg⟩ b) e w' := by
  have hc := own_cell hown k (by omega)
  have hf : w.frozen? ⟨g, k, none⟩ = false := World.ownsRow.frozenAt hown k
  have HF : Hid (cmdF ⟨at0, ps, pl, lg⟩ b = (⟨at0, ps.set k (min (10 * ps.getD k 0 + b - 48) 999), pl, lg⟩, noEv)) := by
    show cmdF _ b = _
    simp [cmdF, hb0, hb1, lastUp, hkl]
  have HO : Hid (Own base w (some ⟨g, 0, none⟩) cap ps) := hown
  have HL : Hid (ps.length = k + 1) := hkl
  obtain ⟨x, hxe⟩ : ∃ x, x = ps.getD k 0 := ⟨_, rfl⟩
  rw [← hxe] at hc hx HF
  obtain ⟨hx0, hx1⟩ := hx
  clear hown hkl hxe
  have hg : g < w.heap.size := World.block_lt_of_cell? w _ hc
  have hg1 : g < w.heap.size + 1 := by omega
  have hg2 : g < w.heap.size + 1 + 1 := by omega
  have hgn : w.heap.size ≠ g := by omega
  have hk1 : (k : Int) < (k : Int) + 1 := by omega
  go_enter Try.func29, Try.ntmps29
  go_wp2
  go_region
  all_goals go_wp2
  all_goals refine bodyPost_ret (v := .tuple #[.agg #[.int .i64 at0, .slice (some ⟨g, 0, none⟩) (k + 1) cap, .string pl, .bool lg], .agg #[.int .i64 0, .int .i64 0, .slice none 0 0, .string ⟨#[]⟩]]) (by simp [results, Try.results29, go_sem]) rfl ?_
  · have h : 999 < 10 * x + b - 48 := by assumption
    exact digit_end HO.out HL.out (by rw [HF.out, Int.min_eq_right (by omega)])
  · have h : 10 * x + b - 48 ≤ 999 := by assumption
    exact digit_end HO.out HL.out (by rw [HF.out, Int.min_eq_left (by omega)])

set_option maxHeartbeats 400000 in
theorem cmd_semi (base g k cap : Nat) (ps : List Int) (at0 : Int) (pl : ByteArray) (lg : Bool) (w : World) (hown : Own base w (some ⟨g, 0, none⟩) cap ps) (hkl : ps.length = k + 1) (hbase : base ≤ w.heap.size) (hk : k < 3) :
    Calls Try.prog 29 #[.agg #[.int .i64 at0, .slice (some ⟨g, 0, none⟩) (k + 1) cap, .string pl, .bool lg], .int .i64 59] w fun e w' => StepEnd base w (some ⟨g, 0, none⟩) (cmdF ⟨at0, ps, pl, lg⟩ 59) e w' := by
  obtain ⟨i0, hi, hz0, hz1, hz2⟩ := info_parts info3
  have HF : Hid (cmdF ⟨at0, ps, pl, lg⟩ 59 = (⟨at0, ps ++ [0], pl, lg⟩, noEv)) := by
    show cmdF _ _ = _
    have : ps.length < 4 := by omega
    simp [cmdF, this]
  have hown' : w.ownsRow base 3 1 (.slice (some ⟨g, 0, none⟩) (k + 1) cap) (k + 1) (ints ps) := by rw [← hkl]; exact hown
  have HL : Hid (ps.length = k + 1) := hkl
  have hk1 : (k : Int) + 1 < 4 := by omega
  clear hown hkl
  go_enter Try.func29, Try.ntmps29
  go_wp2_with (first | (at_builtin; refine wpList_append_lies _ rfl _ _ 22 rfl base 3 i0 (.int .i64 0) 1 8 Try.underlying22 hi hz0 hz1 hz2 rfl (by decide) _ (k + 1) (ints ps) rfl ((((hown'.alloc _).alloc _).alloc _).alloc _) ⟨w.heap.size + 1 + 1 + 1, 0, none⟩ 1 1 [.int .i64 0] rfl rfl ?c1 ?c2 (by decide) ?c3 ?c4 ?c5 (w.heap.size + 1 + 1 + 1 + 1) ?c6 ?_) | go_in)
  case c1 =>
    intro j u hj
    match j, hj with
    | 0, hj => simp at hj; subst hj; simp [Addr.add, go_sem]
  case c2 => intro u hu; simp at hu; subst hu; rfl
  case c3 => unfold maxLen; omega
  case c4 => omega
  case c5 => simp; omega
  case c6 => simp
  · intro g' cap' w1 hown1 hgrow hat hlt
    have hgl : g < w.heap.size := (World.ownsRow.lt hown' g rfl).2
    have B0 := four (grown_block hgrow (at_old (at_old (at_old (at_new w _) _) _) _) (by simp [Value.ownBlock]; omega))
    have B1 := four (grown_block hgrow (at_old (at_old (at_new1 w _ _) _) _) (by simp [Value.ownBlock]; omega))
    have B2 := four (grown_block hgrow (at_old (at_new2 w _ _ _) _) (by simp [Value.ownBlock]; omega))
    obtain ⟨a0, a1, a2, a3, f0, f1, f2, f3⟩ := B0
    obtain ⟨b0, b1, b2, b3, d0, d1, d2, d3⟩ := B1
    obtain ⟨e0, e1, e2, e3, j0, j1, j2, j3⟩ := B2
    have HG : Hid (w.grownBy w1 (some g)) := grown_trans (grown_alloc (grown_alloc (grown_alloc (World.grownBy_alloc w _ _) _) _) _) hgrow
    have HO : Hid (Own base w1 (some ⟨g', 0, none⟩) cap' (ps ++ [0])) := by
      have e : (ps ++ [0]).length = k + 1 + 1 := by simp [HL.out]
      show w1.ownsRow _ _ _ _ _ _
      rw [e]
      simpa [ints] using hown1
    have HA : Hid (g' = g ∨ g' = w.heap.size + 4) := by
      rcases hat with h | h
      · left; simpa [Value.ownBlock] using h.symm
      · right; omega
    have HN : Hid (g < w.heap.size) := hgl
    clear hown1 hgrow hat hown'
    go_wp2
    refine bodyPost_ret (v := .tuple #[.agg #[.int .i64 at0, .slice (some ⟨g', 0, none⟩) (k + 1 + 1) cap', .string pl, .bool lg], .agg #[.int .i64 0, .int .i64 0, .slice none 0 0, .string ⟨#[]⟩]]) (by simp [results, Try.results29, go_sem, b0, b1, b2, b3, e0, e1, e2, e3]) rfl ?_
    clear a0 a1 a2 a3 b0 b1 b2 b3 e0 e1 e2 e3 f0 f1 f2 f3 d0 d1 d2 d3 j0 j1 j2 j3
    rw [HF.out]
    have hA := HA.out
    have hl := HL.out
    refine ⟨some ⟨g', 0, none⟩, cap', none, 0, by simp [hl, noEv], ?_, own_nil _ _, ?_, ?_, .inl rfl⟩
    · iterate 9 (refine own_set ?_ (by simp [blk]; omega) _)
      exact HO.out
    · iterate 9 (refine grown_set ?_ (by simp; try omega) _)
      exact HG.out
    · rcases hA with h | h
      · exact .inr (.inl (by simp [blk, h]))
      · exact .inr (.inr ⟨g', rfl, by omega⟩)

/-- Endings of a command that is over: nothing is kept. -/
theorem over_end {base : Nat} {w w' : World} {a0 : Option Addr} {r : PS × Ev} {pa : Int} (hr : r = (⟨pa, [], ⟨#[]⟩, false⟩, noEv)) (hb : Below w.heap.size w w') :
    StepEnd base w a0 r (.returned (.tuple #[.agg #[.int .i64 pa, .slice none 0 0, .string ⟨#[]⟩, .bool false], .agg #[.int .i64 0, .int .i64 0, .slice none 0 0, .string ⟨#[]⟩]])) w' := by
  subst hr
  exact end_nil rfl rfl rfl hb

set_option maxHeartbeats 400000 in
theorem cmd_final (base g k cap : Nat) (ps : List Int) (at0 : Int) (pl : ByteArray) (lg : Bool) (b : Int) (w : World) (hown : Own base w (some ⟨g, 0, none⟩) cap ps) (hkl : ps.length = k + 1) (hb0 : 64 ≤ b) (hb1 : b ≤ 126) :
    Calls Try.prog 29 #[.agg #[.int .i64 at0, .slice (some ⟨g, 0, none⟩) (k + 1) cap, .string pl, .bool lg], .int .i64 b] w fun e w' => StepEnd base w (some ⟨g, 0, none⟩) (cmdF ⟨at0, ps, pl, lg⟩ b) e w' := by
  have HF : Hid (cmdF ⟨at0, ps, pl, lg⟩ b = (ground, ⟨3, b, ps, ⟨#[]⟩⟩)) := by
    show cmdF _ _ = _
    have h1 : ¬ (48 ≤ b ∧ b ≤ 57) := by omega
    have h2 : ¬ b = 59 := by omega
    simp [cmdF, h1, h2, hb0, hb1]
  have n1 : (b == 59) = false := by simp; omega
  have n2 : 57 < b := by omega
  have n3 : 48 ≤ b := by omega
  have HO : Hid (Own base w (some ⟨g, 0, none⟩) cap ps) := hown
  have HL : Hid (ps.length = k + 1) := hkl
  clear hown hkl
  go_enter Try.func29, Try.ntmps29
  go_wp2
  go_region
  go_wp2
  refine bodyPost_ret (v := .tuple #[.agg #[.int .i64 0, .slice none 0 0, .string ⟨#[]⟩, .bool false], .agg #[.int .i64 3, .int .i64 b, .slice (some ⟨g, 0, none⟩) (k + 1) cap, .string ⟨#[]⟩]]) (by simp [results, Try.results29, go_sem]) rfl ?_
  rw [HF.out]
  have hl := HL.out
  exact ⟨none, 0, some ⟨g, 0, none⟩, cap, by simp [hl, ground], own_nil _ _, own_drew (own_alloc (own_alloc (own_alloc HO.out _) _) _), grown_drew (grown_alloc (grown_alloc (World.grownBy_alloc w _ _) _) _), .inl rfl, .inr ⟨rfl, rfl⟩⟩

set_option maxHeartbeats 400000 in
theorem cmd_esc (base n cap : Nat) (a0 : Option Addr) (ps : List Int) (at0 : Int) (pl : ByteArray) (lg : Bool) (w : World) :
    Calls Try.prog 29 #[.agg #[.int .i64 at0, .slice a0 n cap, .string pl, .bool lg], .int .i64 27] w fun e w' => StepEnd base w a0 (cmdF ⟨at0, ps, pl, lg⟩ 27) e w' := by
  go_enter Try.func29, Try.ntmps29
  go_wp2
  exact bodyPost_ret (v := .tuple #[.agg #[.int .i64 1, .slice none 0 0, .string ⟨#[]⟩, .bool false], .agg #[.int .i64 0, .int .i64 0, .slice none 0 0, .string ⟨#[]⟩]]) (by simp [results, Try.results29, go_sem]) rfl
    (over_end rfl ((((Below.refl _ _).alloc (Nat.le_refl _) _).alloc (by simp) _).alloc (by simp; omega) _))

set_option maxHeartbeats 400000 in
theorem cmd_full (base n cap : Nat) (a0 : Option Addr) (ps : List Int) (at0 : Int) (pl : ByteArray) (lg : Bool) (w : World) (hn : n = ps.length) (h4 : 4 ≤ n) :
    Calls Try.prog 29 #[.agg #[.int .i64 at0, .slice a0 n cap, .string pl, .bool lg], .int .i64 59] w fun e w' => StepEnd base w a0 (cmdF ⟨at0, ps, pl, lg⟩ 59) e w' := by
  have HF : Hid (cmdF ⟨at0, ps, pl, lg⟩ 59 = (ground, noEv)) := by
    show cmdF _ _ = _
    have h1 : ¬ ps.length < 4 := by omega
    simp [cmdF, h1]
  clear hn
  have h4' : ¬ (n : Int) < 4 := by omega
  clear h4
  go_enter Try.func29, Try.ntmps29
  go_wp2
  exact bodyPost_ret (v := .tuple #[.agg #[.int .i64 0, .slice none 0 0, .string ⟨#[]⟩, .bool false], .agg #[.int .i64 0, .int .i64 0, .slice none 0 0, .string ⟨#[]⟩]]) (by simp [results, Try.results29, go_sem]) rfl
    (over_end HF.out ((((Below.refl _ _).alloc (Nat.le_refl _) _).alloc (by simp) _).alloc (by simp; omega) _))

set_option maxHeartbeats 400000 in
theorem cmd_other (base n cap : Nat) (a0 : Option Addr) (ps : List Int) (at0 : Int) (pl : ByteArray) (lg : Bool) (b : Int) (w : World) (h27 : b ≠ 27) (h59 : b ≠ 59) (hr : b < 48 ∨ (57 < b ∧ b < 64) ∨ 126 < b) :
    Calls Try.prog 29 #[.agg #[.int .i64 at0, .slice a0 n cap, .string pl, .bool lg], .int .i64 b] w fun e w' => StepEnd base w a0 (cmdF ⟨at0, ps, pl, lg⟩ b) e w' := by
  have HF : Hid (cmdF ⟨at0, ps, pl, lg⟩ b = (ground, noEv)) := by
    show cmdF _ _ = _
    have h1 : ¬ (48 ≤ b ∧ b ≤ 57) := by omega
    have h2 : ¬ (64 ≤ b ∧ b ≤ 126) := by omega
    simp [cmdF, h1, h2, h27, h59]
  have n1 : (b == 59) = false := by simpa using h59
  have n2 : (b == 27) = false := by simpa using h27
  clear h27 h59
  rcases hr with h | h | h
  · go_enter Try.func29, Try.ntmps29
    go_wp2
    exact bodyPost_ret (v := .tuple #[.agg #[.int .i64 0, .slice none 0 0, .string ⟨#[]⟩, .bool false], .agg #[.int .i64 0, .int .i64 0, .slice none 0 0, .string ⟨#[]⟩]]) (by simp [results, Try.results29, go_sem]) rfl
      (over_end HF.out ((((Below.refl _ _).alloc (Nat.le_refl _) _).alloc (by simp) _).alloc (by simp; omega) _))
  · obtain ⟨h1, h2⟩ := h
    go_enter Try.func29, Try.ntmps29
    go_wp2
    exact bodyPost_ret (v := .tuple #[.agg #[.int .i64 0, .slice none 0 0, .string ⟨#[]⟩, .bool false], .agg #[.int .i64 0, .int .i64 0, .slice none 0 0, .string ⟨#[]⟩]]) (by simp [results, Try.results29, go_sem]) rfl
      (over_end HF.out ((((Below.refl _ _).alloc (Nat.le_refl _) _).alloc (by simp) _).alloc (by simp; omega) _))
  · go_enter Try.func29, Try.ntmps29
    go_wp2
    exact bodyPost_ret (v := .tuple #[.agg #[.int .i64 0, .slice none 0 0, .string ⟨#[]⟩, .bool false], .agg #[.int .i64 0, .int .i64 0, .slice none 0 0, .string ⟨#[]⟩]]) (by simp [results, Try.results29, go_sem]) rfl
      (over_end HF.out ((((Below.refl _ _).alloc (Nat.le_refl _) _).alloc (by simp) _).alloc (by simp; omega) _))

theorem inCommand_any (base cap : Nat) (ao : Option Addr) (ps : List Int) (at0 : Int) (pl : ByteArray) (lg : Bool) (b : Int) (w : World) (hown : Own base w ao cap ps) (hbase : base ≤ w.heap.size)
    (hl0 : 0 < ps.length) (hl4 : ps.length ≤ 4) (hx : ∀ x ∈ ps, 0 ≤ x ∧ x ≤ 999) :
    Calls Try.prog 29 #[.agg #[.int .i64 at0, .slice ao ps.length cap, .string pl, .bool lg], .int .i64 b] w fun e w' => StepEnd base w ao (cmdF ⟨at0, ps, pl, lg⟩ b) e w' := by
  obtain ⟨k, hk⟩ : ∃ k, ps.length = k + 1 := ⟨ps.length - 1, by omega⟩
  obtain ⟨g, rfl, hg1, hg2⟩ := own_form hown hl0
  have hxk : 0 ≤ ps.getD k 0 ∧ ps.getD k 0 ≤ 999 := by
    have : k < ps.length := by omega
    rw [List.getD_eq_getElem?_getD, List.getElem?_eq_getElem this]
    exact hx _ (List.getElem_mem this)
  by_cases h1 : 48 ≤ b ∧ b ≤ 57
  · rw [hk]
    exact cmd_digit base g k cap ps at0 pl lg b w hown hk hxk h1.1 h1.2 (by omega)
  · by_cases h2 : b = 59
    · subst h2
      by_cases h3 : ps.length < 4
      · rw [hk]
        exact cmd_semi base g k cap ps at0 pl lg w hown hk hbase (by omega)
      · exact cmd_full base _ cap _ ps at0 pl lg w rfl (by omega)
    · by_cases h3 : 64 ≤ b ∧ b ≤ 126
      · rw [hk]
        exact cmd_final base g k cap ps at0 pl lg b w hown hk h3.1 h3.2
      · by_cases h4 : b = 27
        · subst h4
          exact cmd_esc base _ cap _ ps at0 pl lg w
        · exact cmd_other base _ cap _ ps at0 pl lg b w h4 h2 (by omega)

end Go.Proofs.Yticjkfhhpilkmaa
