/- The law ServerNil. -/
import Derived.Test.YtpichplhidiokacGreatDoorSNil
namespace Go.Proofs.YtpichplhidiokacGreatDoor.Sv
open Go.RowKit
open Go.Proofs.YtpichplhidiokacGreatDoor.Pt (Vw VC RdV vcells cbox zv zl)
set_option maxRecDepth 100000

theorem rd_zero (w : World) : RdV w zv zl :=
  ⟨rfl, ⟨by simp [zl], .inl rfl⟩, fun _ _ => .inl rfl, by decide, by simp [zl], fun _ _ => by show 0 ≤ _; omega, by decide⟩

theorem serverNil_any (a : Ac) (i : Int) (w : World) : Calls Tryz.prog 3 #[aval a, .int .i64 i] w fun e w' => e = .returned (.bool true) ∧ Below w.heap.size w w' := by
  go_enter Tryz.func3, Tryz.ntmps3
  go_wp2_with (first
    | (go_at_call 15; refine (client_nil i _).mono ?_; rintro e w1 ⟨rfl, hw1⟩; subst w1)
    | (go_at_call 16; refine (do_nil a _).mono ?_; rintro e w2 ⟨rfl, hb2⟩; have HB2 : Hid (Below w.heap.size w w2) := (below1 _ _).trans (hb2.mono (by simp)); clear hb2)
    | (go_at_call 18; refine (view_nil _).mono ?_; rintro e w3 ⟨rfl, hb3⟩; have HB3 : Hid (Below w.heap.size w w3) := HB2.out.trans (hb3.mono HB2.out.size); clear hb3)
    | (go_at_call 17; refine (sameViewR_eq zv zl zl _ _ ⟨rfl, rfl, rfl, rfl, rfl⟩ ⟨rfl, rfl, rfl, rfl, rfl⟩ _ (rd_zero _) (rd_zero _)).mono ?_; rintro e w4 ⟨rfl, hb4⟩; have HB4 : Hid (Below w.heap.size w w4) := HB3.out.trans (hb4.mono HB3.out.size); clear hb4))
  all_goals (go_ret; exact ⟨rfl, HB4.out⟩)

end Go.Proofs.YtpichplhidiokacGreatDoor.Sv
