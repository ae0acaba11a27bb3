/- 'shows' answers true, whenever it is asked: the screen does answer. -/
import Derived.Test.YteenppbpjdldgaaGAll2
namespace Go.Proofs.Yteenppbpjdldgaa
open Go.RowKit

def evPrint (c : Int) : Evt := ⟨1, c, [], ⟨#[]⟩⟩
theorem doneOk_print (c : Int) (eo : Option Addr) (ec : Nat) (h : checkE (evPrint c) = 0) : DoneOk (evPrint c) eo ec := by
  refine done_print c [] ⟨#[]⟩ eo ec ?_
  cases hp : plainN c
  · simp [checkE, evPrint, hp] at h
  · rfl

def new32 : Gr := newG 3 2
theorem new32_act : actG new32 (evPrint 120) = (putG new32 120, 0) := by
  have h1 : goodG new32 = true := (goodG_iff _).2 (ok_new 3 2)
  have h2 : checkE (evPrint 120) = 0 := by decide
  unfold actG
  rw [h1, h2]
  rfl

set_option maxHeartbeats 1000000 in
theorem shows_any (w : World) : Calls Try.prog 42 #[] w fun e w' => e = .returned (.bool true) ∧ Below w.heap.size w w' := by
  have hE : ∀ w, (binOp .eql 49 (.agg #[.int .i64 120, .int .i64 0, .int .i64 0, .bool false]) (.agg #[.int .i64 120, .int .i64 0, .int .i64 0, .bool false])).run Try.prog w = .ok (.bool true) w := fun w => by
    have := eql_cell ⟨120, 0, 0, false⟩ ⟨120, 0, 0, false⟩ w
    simpa [celB] using this
  obtain ⟨x, hx⟩ : ∃ x, x = new32 := ⟨_, rfl⟩
  obtain ⟨y, hy⟩ : ∃ y, y = putG new32 120 := ⟨_, rfl⟩
  have HN : Hid (∀ w, Calls Try.prog 35 #[.int .i64 3, .int .i64 2] w fun e w' => ∃ b, e = .returned (gval x (some ⟨b, 0, none⟩) x.n) ∧ Scr w' b x.n x.f ∧ w.heap.size ≤ b ∧ Below w.heap.size w w') := fun w => new_any 3 2 w x hx
  have HD : Hid (∀ w b, Scr w b x.n x.f → Calls Try.prog 27 #[gval x (some ⟨b, 0, none⟩) x.n, .agg #[.int .i64 1, .int .i64 120, .slice none 0 0, .string ⟨#[]⟩]] w (AllEnd w (y, 0))) := by
    intro w b hs
    have := do_any x (some ⟨b, 0, none⟩) x.n (evPrint 120) none 0 w hs.rd (fun h => by cases h) (by rw [hx]; decide) (.inl rfl) (fun h => doneOk_print 120 none 0 h) (y, 0) (by rw [hx, hy]; exact new32_act.symm)
    exact this
  have hyn : y.n = 6 := by rw [hy]; decide
  have hyc : y.col = 1 := by rw [hy]; decide
  have HY0 : Hid (y.f 0 = ⟨120, 0, 0, false⟩) := by show y.f 0 = _; rw [hy]; exact (celB_iff _ _).1 (by decide)
  clear hx hy
  go_enter Try.func42, Try.ntmps42
  go_wp2_with (first
    | (go_at_call 35; refine (HN.out _).mono ?_; rintro e w1 ⟨b, rfl, hs, _, hb1⟩; have HS : Hid (Scr w1 b x.n x.f) := hs; have HB : Hid (Below w.heap.size w w1) := hb1; clear hs hb1)
    | (go_at_call 27; refine (HD.out _ b HS.out).mono ?_; rintro e w2 ⟨ao, cap, rfl, hcp⟩; rw [hyn] at hcp; obtain ⟨b2, rfl, hb2, _, hs2⟩ := hcp.2.1 (by omega); have hlt := hs2.lt; obtain ⟨t0, t1, t2, t3⟩ := hs2.cells 0 (by omega); rw [HY0.out] at t0 t1 t2 t3; simp only [Nat.zero_mul, Nat.zero_add] at t0 t1 t2 t3; have HB2 : Hid (Below w.heap.size w w2) := HB.out.trans (hcp.2.2.mono HB.out.size); clear hcp hs2))
  go_ret
  exact ⟨rfl, HB2.out.alloc HB2.out.size _⟩

end Go.Proofs.Yteenppbpjdldgaa
