/- What 'onGround' and 'ending' do to the world: each answers what the plain machine answers. -/
import Derived.Test.YticjkfhhpilkmaaBase
namespace Go.Proofs.Yticjkfhhpilkmaa
open Go.RowKit

theorem gnd_end {base : Nat} {w : World} {a0 : Option Addr} {r : PS × Ev} {o1 o2 : Obj} {pa : Int} {k b : Int} (hr : r = (⟨pa, [], ⟨#[]⟩, false⟩, ⟨k, b, [], ⟨#[]⟩⟩)) :
    StepEnd base w a0 r (.returned (.tuple #[.agg #[.int .i64 pa, .slice none 0 0, .string ⟨#[]⟩, .bool false], .agg #[.int .i64 k, .int .i64 b, .slice none 0 0, .string ⟨#[]⟩]])) ((w.alloc o1).alloc o2) := by
  subst hr
  exact end_nil rfl rfl rfl (((Below.refl _ _).alloc (Nat.le_refl _) _).alloc (by simp) _)

set_option maxHeartbeats 400000 in
theorem onGround_any (base : Nat) (a0 : Option Addr) (b : Int) (w : World) :
    Calls Try.prog 32 #[.int .i64 b] w fun e w' => StepEnd base w a0 (gndF b) e w' := by
  by_cases h1 : b = 27
  · subst h1
    go_enter Try.func32, Try.ntmps32
    go_wp2
    exact bodyPost_ret (v := .tuple #[.agg #[.int .i64 1, .slice none 0 0, .string ⟨#[]⟩, .bool false], .agg #[.int .i64 0, .int .i64 0, .slice none 0 0, .string ⟨#[]⟩]]) (by simp [results, Try.results32, go_sem]) rfl (gnd_end rfl)
  · have e1 : (b == 27) = false := by simpa using h1
    by_cases h2 : 32 ≤ b ∧ b ≤ 126
    · have hF : gndF b = (ground, ⟨1, b, [], ⟨#[]⟩⟩) := by simp [gndF, h1, h2]
      have HF : Hid (gndF b = (ground, ⟨1, b, [], ⟨#[]⟩⟩)) := hF
      clear hF
      obtain ⟨h2a, h2b⟩ := h2
      go_enter Try.func32, Try.ntmps32
      go_wp2
      exact bodyPost_ret (v := .tuple #[.agg #[.int .i64 0, .slice none 0 0, .string ⟨#[]⟩, .bool false], .agg #[.int .i64 1, .int .i64 b, .slice none 0 0, .string ⟨#[]⟩]]) (by simp [results, Try.results32, go_sem]) rfl (gnd_end HF.out)
    · by_cases h3 : b = 8 ∨ b = 9 ∨ b = 10 ∨ b = 13
      · rcases h3 with h | h | h | h <;> subst h
        all_goals
          go_enter Try.func32, Try.ntmps32
          go_wp2
          exact bodyPost_ret (v := .tuple #[.agg #[.int .i64 0, .slice none 0 0, .string ⟨#[]⟩, .bool false], .agg #[.int .i64 2, .int .i64 _, .slice none 0 0, .string ⟨#[]⟩]]) (by simp [results, Try.results32, go_sem]) rfl (gnd_end rfl)
      · have HF : Hid (gndF b = (ground, noEv)) := by show gndF b = _; simp [gndF, h1, h2, h3]
        have n1 : (b == 8) = false := by simp; omega
        have n2 : (b == 9) = false := by simp; omega
        have n3 : (b == 10) = false := by simp; omega
        have n4 : (b == 13) = false := by simp; omega
        have h2' : b < 32 ∨ 126 < b := by omega
        clear h3 h2 h1
        rcases h2' with h2 | h2
        all_goals
          go_enter Try.func32, Try.ntmps32
          go_wp2
          exact bodyPost_ret (v := .tuple #[.agg #[.int .i64 0, .slice none 0 0, .string ⟨#[]⟩, .bool false], .agg #[.int .i64 0, .int .i64 0, .slice none 0 0, .string ⟨#[]⟩]]) (by simp [results, Try.results32, go_sem]) rfl (gnd_end HF.out)

set_option maxHeartbeats 400000 in
theorem ending_any (base : Nat) (a0 : Option Addr) (n cap : Nat) (at0 : Int) (ps : List Int) (pl : ByteArray) (lg : Bool) (b : Int) (w : World) :
    Calls Try.prog 31 #[.agg #[.int .i64 at0, .slice a0 n cap, .string pl, .bool lg], .int .i64 b] w fun e w' => StepEnd base w a0 (endF ⟨at0, ps, pl, lg⟩ b) e w' := by
  by_cases h1 : b = 92
  · subst h1
    cases lg
    · go_enter Try.func31, Try.ntmps31
      go_wp2
      go_region
      go_wp2
      exact bodyPost_ret (v := .tuple #[.agg #[.int .i64 0, .slice none 0 0, .string ⟨#[]⟩, .bool false], .agg #[.int .i64 4, .int .i64 0, .slice none 0 0, .string pl]]) (by simp [results, Try.results31, go_sem]) rfl
        (end_nil rfl rfl rfl (((((Below.refl _ _).alloc (Nat.le_refl _) _).alloc (by simp) _).alloc (by simp; omega) _).drew))
    · go_enter Try.func31, Try.ntmps31
      go_wp2
      exact bodyPost_ret (v := .tuple #[.agg #[.int .i64 0, .slice none 0 0, .string ⟨#[]⟩, .bool false], .agg #[.int .i64 0, .int .i64 0, .slice none 0 0, .string ⟨#[]⟩]]) (by simp [results, Try.results31, go_sem]) rfl
        (end_nil rfl rfl rfl ((((Below.refl _ _).alloc (Nat.le_refl _) _).alloc (by simp) _).alloc (by simp; omega) _))
  · have e1 : (b == 92) = false := by simpa using h1
    have HF : Hid (endF ⟨at0, ps, pl, lg⟩ b = (ground, noEv)) := by show endF _ b = _; simp [endF, h1]
    clear h1
    go_enter Try.func31, Try.ntmps31
    go_wp2
    refine bodyPost_ret (v := .tuple #[.agg #[.int .i64 0, .slice none 0 0, .string ⟨#[]⟩, .bool false], .agg #[.int .i64 0, .int .i64 0, .slice none 0 0, .string ⟨#[]⟩]]) (by simp [results, Try.results31, go_sem]) rfl ?_
    rw [HF.out]
    exact end_nil rfl rfl rfl ((((Below.refl _ _).alloc (Nat.le_refl _) _).alloc (by simp) _).alloc (by simp; omega) _)

end Go.Proofs.Yticjkfhhpilkmaa
