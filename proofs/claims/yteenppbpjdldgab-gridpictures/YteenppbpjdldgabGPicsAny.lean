/- 'GridPictures' at any screen. -/
import Derived.Test.YteenppbpjdldgabGPics
namespace Go.Proofs.Yteenppbpjdldgab
open Go.RowKit

@[reducible] def evPic (s : ByteArray) : Evt := ⟨4, 0, [], s⟩

set_option maxHeartbeats 1000000 in
theorem pics_no (g : Gr) (ao : Option Addr) (cap : Nat) (s : ByteArray) (w : World) (x : Gr) (q : Int) (h0 : q ≠ 0)
    (HD : Hid (∀ w', Below w.heap.size w w' → Calls Try.prog 12 #[gval g ao cap, .agg #[.int .i64 4, .int .i64 0, .slice none 0 0, .string s]] w' (AllEnd w' (x, q)))) :
    Calls Try.prog 3 #[gval g ao cap, .string s] w fun e w' => e = .returned (.bool true) ∧ Below w.heap.size w w' := by
  have he : (q == 0) = false := by simp [h0]
  have he2 : (q != 0) = true := by simp [h0]
  go_enter Try.func3, Try.ntmps3
  go_wp2_with (first
    | (go_at_call 12; refine (HD.out _ (below1 _ _)).mono ?_; rintro e w2 ⟨ao2, cap2, rfl, hcp⟩; have HB : Hid (Below w.heap.size w w2) := below_up hcp.2.2; clear hcp)
    | (go_at_call 13; refine (shows_any _).mono ?_; rintro e w3 ⟨rfl, hb3⟩; have HB3 : Hid (Below w.heap.size w w3) := (HB.out.alloc HB.out.size _).trans (hb3.mono (by have := HB.out.size; simp; omega)); clear hb3))
  go_ret
  exact ⟨rfl, HB3.out⟩

theorem pics_any (g : Gr) (ao : Option Addr) (cap : Nat) (s : ByteArray) (w : World) (hr : RdS w ao g.n g.f) (hn : ao = none → g.n = 0 ∧ cap = 0) (hm : g.n ≤ 4398046511104) (hs : s.size ≤ 140737488355328) :
    Calls Try.prog 3 #[gval g ao cap, .string s] w fun e w' => e = .returned (.bool true) ∧ Below w.heap.size w w' := by
  obtain ⟨r, hrr⟩ : ∃ r, r = actG g (evPic s) := ⟨_, rfl⟩
  have HD : ∀ w', Below w.heap.size w w' → Calls Try.prog 12 #[gval g ao cap, .agg #[.int .i64 4, .int .i64 0, .slice none 0 0, .string s]] w' (AllEnd w' r) :=
    fun w' hb => do_any g ao cap (evPic s) none 0 w' (hr.below hb) hn hm (.inl rfl) (fun h => done_any (evPic s) none 0 (Nat.zero_le _) hs h) r hrr
  rcases act_cases hrr with ⟨h0, _⟩ | ⟨ok, _, he⟩
  · exact pics_no g ao cap s w r.1 r.2 h0 HD
  · rw [he] at HD
    exact pics_yes g ok ao cap s w hr _ rfl HD

theorem string_bulk {H : Type} (s : ByteArray) : s.size ≤ Rows.uptoBulk (DataW.lit (H := H) (.string s.data.toList)) := by
  have e : s.data.toList.length = s.size := by rw [Array.length_toList]; rfl
  simp only [Rows.uptoBulk]
  omega

end Go.Proofs.Yteenppbpjdldgab
