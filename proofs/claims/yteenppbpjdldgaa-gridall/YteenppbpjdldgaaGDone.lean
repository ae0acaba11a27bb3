/- What 'done' does to a screen, kind by kind. -/
import Derived.Test.YteenppbpjdldgaaGPrint
import Derived.Test.YteenppbpjdldgaaGCtl
import Derived.Test.YteenppbpjdldgaaGNew
namespace Go.Proofs.Yteenppbpjdldgaa
open Go.RowKit

/-- A screen's function has ended: the screen, its list in the same block or in a new one. -/
def GEndN (w : World) (b : Nat) (x : Gr) (e : Ending) (w' : World) : Prop := ∃ b' cap', e = .returned (gval x (some ⟨b', 0, none⟩) cap') ∧ Scr w' b' x.n x.f ∧ x.n ≤ cap' ∧ w.grownBy w' (some b) ∧ (b' = b ∨ w.heap.size ≤ b')

/-- The numbers lie in memory where the slice points. -/
def RdL (w : World) (ao : Option Addr) (l : List Int) : Prop := l = [] ∨ ∃ b off, ao = some ⟨b, off, none⟩ ∧ ∀ j, j < l.length → w.cell? ⟨b, off + j, none⟩ = some (.int .i64 (l.getD j 0))

theorem RdL.below {w w' : World} {ao : Option Addr} {l : List Int} (h : RdL w ao l) (hb : Below w.heap.size w w') : RdL w' ao l := by
  rcases h with h | ⟨b, off, ha, hc⟩
  · exact .inl h
  · refine .inr ⟨b, off, ha, fun j hj => ?_⟩
    have := hc j hj
    rw [hb.cell (p := ⟨b, off + j, none⟩) (World.block_lt_of_cell? _ _ this)]
    exact this

/-- What one event's 'done' is asked. -/
def DoneOk (e : Evt) (eo : Option Addr) (ec : Nat) : Prop :=
  ∀ (g : Gr) (_ : OkG g) (b cap : Nat) (w : World) (_ : Scr w b g.n g.f) (_ : g.n ≤ cap) (_ : RdL w eo e.ps) (x : Gr) (_ : x = doneG g e), Calls Try.prog 70 #[gval g (some ⟨b, 0, none⟩) cap, eval e eo ec] w (GEndN w b x)

theorem at_new2' (w : World) (o1 o2 o3 : Obj) : (((w.alloc o1).alloc o2).alloc o3).heap[w.heap.size + 2]? = some o3 := at_new2 w o1 o2 o3

set_option maxHeartbeats 1000000 in
theorem done_print (c : Int) (ps : List Int) (pl : ByteArray) (eo : Option Addr) (ec : Nat) (hc : plainN c = true) : DoneOk ⟨1, c, ps, pl⟩ eo ec := by
  intro g h b cap w hS hcap _ x hx
  have hlt := hS.lt
  have HS : Hid (Scr w b g.n g.f) := hS
  have HP : Hid (∀ w, Scr w b g.n g.f → Calls Try.prog 78 #[gval g (some ⟨b, 0, none⟩) cap, .int .i64 c] w (GEnd w b cap x)) := fun w hS => printed_any g h b cap w hS hcap c x hx
  have HN : Hid (x.n ≤ cap) := by
    obtain ⟨_, _, _, e⟩ := ok_printed h c hc
    have e2 : x.n = g.n := by rw [hx]; exact e
    show x.n ≤ cap
    omega
  clear hS h hcap hx
  go_enter Try.func70, Try.ntmps70
  go_wp2_with (go_at_call 78; refine (HP.out _ (((HS.out.alloc _).alloc _).alloc _)).mono ?_; rintro e w2 ⟨rfl, hs2, hg2⟩; have t2 := grown_block hg2 (at_new2 w _ _ _) (by simp; omega); have HF : Hid (Scr w2 b x.n x.f ∧ w.grownBy w2 (some b)) := ⟨hs2, grown_trans (grown_alloc (grown_alloc (grown_alloc (grown_refl _ _) _) _) _) hg2⟩; obtain ⟨⟨x0, x1, x2, x3, x4, x5, x6, x7, x8⟩, z⟩ := nine t2; clear hs2 hg2 t2)
  refine bodyPost_ret (v := gval x (some ⟨b, 0, none⟩) cap) (by simp [results, Try.results70, go_sem, *]) rfl ?_
  have hf := fin9 HF.out (B := w.heap.size + 1 + 1) (by omega) hlt (.int .i64 x.wide) (.int .i64 x.high) (.slice (some ⟨b, 0, none⟩) x.n cap) (.int .i64 x.row) (.int .i64 x.col) (.int .i64 x.ink) (.bool x.bold) (.int .i64 x.top) (.int .i64 x.bottom)
  exact ⟨b, cap, rfl, hf.1, HN.out, hf.2, .inl rfl⟩

set_option maxHeartbeats 1000000 in
theorem done_ctl (c : Int) (ps : List Int) (pl : ByteArray) (eo : Option Addr) (ec : Nat) : DoneOk ⟨2, c, ps, pl⟩ eo ec := by
  intro g h b cap w hS hcap _ x hx
  have hlt := hS.lt
  have HS : Hid (Scr w b g.n g.f) := hS
  have HP : Hid (∀ w, Scr w b g.n g.f → Calls Try.prog 79 #[gval g (some ⟨b, 0, none⟩) cap, .int .i64 c] w (GEnd w b cap x)) := fun w hS => by rw [hx]; exact controlled_any g h b cap w hS hcap c
  have HN : Hid (x.n ≤ cap) := by
    obtain ⟨_, _, _, e⟩ := ok_ctl h c
    have e2 : x.n = g.n := by rw [hx]; exact e
    show x.n ≤ cap
    omega
  clear hS h hcap hx
  go_enter Try.func70, Try.ntmps70
  go_wp2_with (go_at_call 79; refine (HP.out _ (((HS.out.alloc _).alloc _).alloc _)).mono ?_; rintro e w2 ⟨rfl, hs2, hg2⟩; have t2 := grown_block hg2 (at_new2 w _ _ _) (by simp; omega); have HF : Hid (Scr w2 b x.n x.f ∧ w.grownBy w2 (some b)) := ⟨hs2, grown_trans (grown_alloc (grown_alloc (grown_alloc (grown_refl _ _) _) _) _) hg2⟩; obtain ⟨⟨x0, x1, x2, x3, x4, x5, x6, x7, x8⟩, z⟩ := nine t2; clear hs2 hg2 t2)
  refine bodyPost_ret (v := gval x (some ⟨b, 0, none⟩) cap) (by simp [results, Try.results70, go_sem, *]) rfl ?_
  have hf := fin9 HF.out (B := w.heap.size + 1 + 1) (by omega) hlt (.int .i64 x.wide) (.int .i64 x.high) (.slice (some ⟨b, 0, none⟩) x.n cap) (.int .i64 x.row) (.int .i64 x.col) (.int .i64 x.ink) (.bool x.bold) (.int .i64 x.top) (.int .i64 x.bottom)
  exact ⟨b, cap, rfl, hf.1, HN.out, hf.2, .inl rfl⟩

end Go.Proofs.Yteenppbpjdldgaa
