/- What 'inPicture' does to the world: it answers what the plain machine answers. -/
import Derived.Test.YticjkfhhpilkmaaBase
namespace Go.Proofs.Yticjkfhhpilkmaa
open Go.RowKit

theorem encode_plain (b : Int) (h0 : 0 ≤ b) (h1 : b ≤ 127) : Utf8.encode b = ⟨#[UInt8.ofNat b.toNat]⟩ := by
  have hv : Utf8.valid b = true := by
    simp only [Utf8.valid, Bool.or_eq_true, Bool.and_eq_true, decide_eq_true_eq]
    omega
  have hc : b.toNat < 0x80 := by omega
  unfold Utf8.encode
  simp only [hv, if_true, if_pos hc]

theorem push_eq (pl : ByteArray) (b : Int) (h0 : 0 ≤ b) (h1 : b ≤ 127) : pl ++ Utf8.encode b = pl.push (UInt8.ofNat b.toNat) := by
  rw [encode_plain b h0 h1]
  ext1
  simp

theorem encode_size (b : Int) (h0 : 0 ≤ b) (h1 : b ≤ 127) : (Utf8.encode b).size = 1 := by
  rw [encode_plain b h0 h1]; rfl

def PicEnd (w : World) (a0 : Option Addr) (cap : Nat) (ps : List Int) (r : PS) (e : Ending) (w' : World) : Prop :=
  ∃ ao c, e = .returned (.agg #[.int .i64 r.place, .slice ao r.ps.length c, .string r.pl, .bool r.lg]) ∧ ((ao = a0 ∧ c = cap ∧ r.ps = ps) ∨ (ao = none ∧ c = 0 ∧ r.ps = [])) ∧ Below w.heap.size w w'

set_option maxHeartbeats 400000 in
theorem inPicture_any (a0 : Option Addr) (cap : Nat) (at0 : Int) (ps : List Int) (pl : ByteArray) (lg : Bool) (b : Int) (w : World) (hpl : pl.size ≤ 48) (hb0 : 0 ≤ b) (hb1 : b ≤ 255) :
    Calls Try.prog 30 #[.agg #[.int .i64 at0, .slice a0 ps.length cap, .string pl, .bool lg], .int .i64 b] w fun e w' => PicEnd w a0 cap ps (picF ⟨at0, ps, pl, lg⟩ b) e w' := by
  by_cases h1 : b = 27
  · subst h1
    go_enter Try.func30, Try.ntmps30
    go_wp2
    exact bodyPost_ret (v := .agg #[.int .i64 4, .slice a0 ps.length cap, .string pl, .bool lg]) (by simp [results, Try.results30, go_sem]) rfl ⟨_, _, rfl, .inl ⟨rfl, rfl, rfl⟩, ((Below.refl _ _).alloc (Nat.le_refl _) _).alloc (by simp) _⟩
  · have e1 : (b == 27) = false := by simpa using h1
    by_cases h2 : b = 24
    · subst h2
      go_enter Try.func30, Try.ntmps30
      go_wp2
      exact bodyPost_ret (v := .agg #[.int .i64 0, .slice none 0 0, .string ⟨#[]⟩, .bool false]) (by simp [results, Try.results30, go_sem]) rfl ⟨_, _, rfl, .inr ⟨rfl, rfl, rfl⟩, ((Below.refl _ _).alloc (Nat.le_refl _) _).alloc (by simp) _⟩
    · have e2 : (b == 24) = false := by simpa using h2
      by_cases h3 : 32 ≤ b ∧ b ≤ 126
      · by_cases h4 : pl.size < 48
        · have HF : Hid (picF ⟨at0, ps, pl, lg⟩ b = ⟨at0, ps, pl ++ Utf8.encode b, lg⟩) := by
            show picF _ _ = _
            simp [picF, h1, h2, h3, h4, push_eq pl b hb0 (by omega)]
          have hsz := encode_size b hb0 (by omega)
          have h4' : (pl.size : Int) < 48 := by omega
          obtain ⟨h3a, h3b⟩ := h3
          clear h1 h2
          go_enter Try.func30, Try.ntmps30
          go_wp2
          refine bodyPost_ret (v := .agg #[.int .i64 at0, .slice a0 ps.length cap, .string (pl ++ Utf8.encode b), .bool lg]) (by simp [results, Try.results30, go_sem]) rfl ?_
          rw [HF.out]
          exact ⟨_, _, rfl, .inl ⟨rfl, rfl, rfl⟩, ((Below.refl _ _).alloc (Nat.le_refl _) _).alloc (by simp) _⟩
        · have HF : Hid (picF ⟨at0, ps, pl, lg⟩ b = ⟨at0, ps, pl, true⟩) := by
            show picF _ _ = _
            simp [picF, h1, h2, h3, h4]
          have h4' : ¬ (pl.size : Int) < 48 := by omega
          obtain ⟨h3a, h3b⟩ := h3
          clear h1 h2 h4
          go_enter Try.func30, Try.ntmps30
          go_wp2
          refine bodyPost_ret (v := .agg #[.int .i64 at0, .slice a0 ps.length cap, .string pl, .bool true]) (by simp [results, Try.results30, go_sem]) rfl ?_
          rw [HF.out]
          exact ⟨_, _, rfl, .inl ⟨rfl, rfl, rfl⟩, ((Below.refl _ _).alloc (Nat.le_refl _) _).alloc (by simp) _⟩
      · have HF : Hid (picF ⟨at0, ps, pl, lg⟩ b = ⟨at0, ps, pl, lg⟩) := by
          show picF _ _ = _
          simp only [picF, if_neg h1, if_neg h2, if_neg h3]
        have h3' : b < 32 ∨ 126 < b := by omega
        clear h1 h2 h3
        rcases h3' with h3 | h3
        all_goals
          go_enter Try.func30, Try.ntmps30
          go_wp2
          refine bodyPost_ret (v := .agg #[.int .i64 at0, .slice a0 ps.length cap, .string pl, .bool lg]) (by simp [results, Try.results30, go_sem]) rfl ?_
          rw [HF.out]
          exact ⟨_, _, rfl, .inl ⟨rfl, rfl, rfl⟩, ((Below.refl _ _).alloc (Nat.le_refl _) _).alloc (by simp) _⟩

end Go.Proofs.Yticjkfhhpilkmaa
