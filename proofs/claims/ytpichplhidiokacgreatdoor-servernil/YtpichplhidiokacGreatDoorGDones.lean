/- Several texts in one, each as it was: GHere, GCtl, GDone. -/
import Derived.Test.YtpichplhidiokacGreatDoorGBase
import Derived.Test.YtpichplhidiokacGreatDoorGMoves
import Derived.Test.YtpichplhidiokacGreatDoorGNew

/- What 'here' and 'has' answer. -/
namespace Go.Proofs.YtpichplhidiokacGreatDoor
open Go.RowKit

theorem here_any (g : Gr) (ao : Option Addr) (cap : Nat) (w : World) (hw : -100 ≤ g.wide ∧ g.wide ≤ 100) : Calls Tryz.prog 127 #[gval g ao cap] w fun e w' => e = .returned (.int .i64 (hereC g)) ∧ w' = w.alloc (gbox g ao cap) := by
  go_enter Tryz.func127, Tryz.ntmps127
  go_wp2
  all_goals (go_ret; exact ⟨ret_int (by unfold hereC; omega), rfl⟩)

theorem has_any (g : Gr) (ao : Option Addr) (cap : Nat) (r c : Int) (w : World) : Calls Tryz.prog 88 #[gval g ao cap, .int .i64 r, .int .i64 c] w fun e w' => e = .returned (.bool (decide (0 ≤ r ∧ r < g.high ∧ 0 ≤ c ∧ c < g.wide))) ∧ w' = w.alloc (gbox g ao cap) := by
  go_enter Tryz.func88, Tryz.ntmps88
  go_wp2
  all_goals (go_ret; refine ⟨ret_bool ?_, rfl⟩; rw [Bool.eq_iff_iff]; simp only [decide_eq_true_eq, Bool.and_eq_true, Bool.false_eq_true, false_iff]; omega)

end Go.Proofs.YtpichplhidiokacGreatDoor

/- What 'controlled' does to a screen; which events 'check' refuses. -/
namespace Go.Proofs.YtpichplhidiokacGreatDoor
open Go.RowKit

theorem OkG.withCol {g : Gr} (h : OkG g) (k : Int) (h1 : 0 ≤ k) (h2 : k ≤ g.wide) : OkG { g with col := k } :=
  ⟨h.w1, h.w2, h.h1, h.h2, h.size, h.cells, h.r1, h.r2, h1, h2, h.i1, h.i2, h.t1, h.t2, h.t3⟩

set_option maxHeartbeats 1000000 in
theorem ctl8 (g : Gr) (h : OkG g) (b cap : Nat) (w : World) (hS : Scr w b g.n g.f) : Calls Tryz.prog 109 #[gval g (some ⟨b, 0, none⟩) cap, .int .i64 8] w (GEnd w b cap { g with col := max (hereC g - 1) 0 }) := by
  have HS : Hid (Scr w b g.n g.f) := hS
  have hw1 := h.w1
  have hw2 := h.w2
  have hk1 : 0 ≤ hereC g := by have := h.c1; unfold hereC; omega
  have hk2 : hereC g ≤ 24 := by unfold hereC; omega
  have HQ : Hid (-100 ≤ g.wide ∧ g.wide ≤ 100) := ⟨by omega, by omega⟩
  clear hS h
  obtain ⟨k, hk⟩ : ∃ k, k = hereC g := ⟨_, rfl⟩
  have HH : Hid (∀ w, Calls Tryz.prog 127 #[gval g (some ⟨b, 0, none⟩) cap] w fun e w' => e = .returned (.int .i64 k) ∧ w' = w.alloc (gbox g (some ⟨b, 0, none⟩) cap)) := by
    intro w
    rw [hk]
    exact here_any g _ cap w HQ.out
  rw [← hk] at hk1 hk2 ⊢
  clear hk
  have FIN : Hid (∀ q : Int, q = max (k - 1) 0 → ∀ o1 o2 o3 : Obj, GEnd w b cap { g with col := max (k - 1) 0 } (.returned (gval { g with col := q } (some ⟨b, 0, none⟩) cap)) (((w.alloc o1).alloc o2).alloc o3)) := by
    intro q hq o1 o2 o3
    rw [hq]
    exact ⟨rfl, ((HS.out.alloc _).alloc _).alloc _, grown_alloc (grown_alloc (grown_alloc (grown_refl _ _) _) _) _⟩
  go_enter Tryz.func109, Tryz.ntmps109
  go_wp2_with (go_at_call 127; refine (HH.out _).mono ?_; rintro e w1 ⟨rfl, rfl⟩)
  · refine bodyPost_ret (v := gval { g with col := 0 } (some ⟨b, 0, none⟩) cap) (by simp [results, Tryz.results109, go_sem]) rfl ?_
    exact FIN.out _ (by omega) _ _ _
  · refine bodyPost_ret (v := gval { g with col := k - 1 } (some ⟨b, 0, none⟩) cap) (by simp [results, Tryz.results109, go_sem]) rfl ?_
    exact FIN.out _ (by omega) _ _ _

set_option maxHeartbeats 1000000 in
theorem ctl9 (g : Gr) (h : OkG g) (b cap : Nat) (w : World) (hS : Scr w b g.n g.f) : Calls Tryz.prog 109 #[gval g (some ⟨b, 0, none⟩) cap, .int .i64 9] w (GEnd w b cap { g with col := min ((g.col / 8 + 1) * 8) (g.wide - 1) }) := by
  have HS : Hid (Scr w b g.n g.f) := hS
  have hw1 := h.w1
  have hw2 := h.w2
  have hc1 := h.c1
  have hc2 : g.col ≤ 24 := by have := h.c2; omega
  have hdiv : g.col.tdiv 8 = g.col / 8 := by rw [Int.tdiv_eq_ediv_of_nonneg hc1]
  clear hS h
  obtain ⟨k, hk⟩ : ∃ k, k = g.col / 8 := ⟨_, rfl⟩
  have hk1 : 0 ≤ k := by omega
  have hk2 : k ≤ 3 := by omega
  rw [← hk] at hdiv ⊢
  have FIN : Hid (∀ q : Int, q = min ((k + 1) * 8) (g.wide - 1) → ∀ o1 o2 : Obj, GEnd w b cap { g with col := min ((k + 1) * 8) (g.wide - 1) } (.returned (gval { g with col := q } (some ⟨b, 0, none⟩) cap)) ((w.alloc o1).alloc o2)) := by
    intro q hq o1 o2
    rw [hq]
    exact ⟨rfl, (HS.out.alloc _).alloc _, grown_alloc (grown_alloc (grown_refl _ _) _) _⟩
  clear hk
  go_enter Tryz.func109, Tryz.ntmps109
  go_wp2
  · refine bodyPost_ret (v := gval { g with col := g.wide - 1 } (some ⟨b, 0, none⟩) cap) (by simp [results, Tryz.results109, go_sem]) rfl ?_
    exact FIN.out _ (by omega) _ _
  · refine bodyPost_ret (v := gval { g with col := (k + 1) * 8 } (some ⟨b, 0, none⟩) cap) (by simp [results, Tryz.results109, go_sem]) rfl ?_
    exact FIN.out _ (by omega) _ _

set_option maxHeartbeats 1000000 in
theorem ctl10 (g : Gr) (h : OkG g) (b cap : Nat) (w : World) (hS : Scr w b g.n g.f) (hc : g.n ≤ cap) (y : Gr) (hy : y = rowOnG g) : Calls Tryz.prog 109 #[gval g (some ⟨b, 0, none⟩) cap, .int .i64 10] w (GEnd w b cap y) := by
  have HS : Hid (Scr w b g.n g.f) := hS
  have hlt := hS.lt
  have HR : Hid (∀ w, Scr w b g.n g.f → Calls Tryz.prog 125 #[gval g (some ⟨b, 0, none⟩) cap] w (GEnd w b cap y)) := fun w hS => rowOn_any g h b cap w hS hc y hy
  clear hS h hc hy
  go_enter Tryz.func109, Tryz.ntmps109
  go_wp2_with (go_at_call 125; refine (HR.out _ ((HS.out.alloc _).alloc _)).mono ?_; rintro e w2 ⟨rfl, hs2, hg2⟩; have t2 := grown_block hg2 (at_new1 w _ _) (by simp; omega); have HF : Hid (Scr w2 b y.n y.f ∧ w.grownBy w2 (some b)) := ⟨hs2, grown_trans (grown_alloc (grown_alloc (grown_refl _ _) _) _) hg2⟩; obtain ⟨⟨x0, x1, x2, x3, x4, x5, x6, x7, x8⟩, z⟩ := nine t2; clear hs2 hg2 t2)
  refine bodyPost_ret (v := gval y (some ⟨b, 0, none⟩) cap) (by simp [results, Tryz.results109, go_sem, *]) rfl ?_
  exact ⟨rfl, fin9 HF.out (by omega) hlt _ _ _ _ _ _ _ _ _⟩

set_option maxHeartbeats 1000000 in
theorem ctl13 (g : Gr) (b cap : Nat) (w : World) (hS : Scr w b g.n g.f) : Calls Tryz.prog 109 #[gval g (some ⟨b, 0, none⟩) cap, .int .i64 13] w (GEnd w b cap { g with col := 0 }) := by
  have HS : Hid (Scr w b g.n g.f) := hS
  clear hS
  go_enter Tryz.func109, Tryz.ntmps109
  go_wp2
  refine bodyPost_ret (v := gval { g with col := 0 } (some ⟨b, 0, none⟩) cap) (by simp [results, Tryz.results109, go_sem]) rfl ?_
  exact ⟨rfl, (HS.out.alloc _).alloc _, grown_alloc (grown_alloc (grown_refl _ _) _) _⟩

set_option maxHeartbeats 1000000 in
theorem ctlNo (g : Gr) (b cap : Nat) (w : World) (hS : Scr w b g.n g.f) (c : Int) (h1 : c ≠ 8) (h2 : c ≠ 9) (h3 : c ≠ 10) (h4 : c ≠ 13) : Calls Tryz.prog 109 #[gval g (some ⟨b, 0, none⟩) cap, .int .i64 c] w (GEnd w b cap g) := by
  have HS : Hid (Scr w b g.n g.f) := hS
  have e1 : (c == 8) = false := by simp [h1]
  have e2 : (c == 9) = false := by simp [h2]
  have e3 : (c == 10) = false := by simp [h3]
  have e4 : (c == 13) = false := by simp [h4]
  clear hS h1 h2 h3 h4
  go_enter Tryz.func109, Tryz.ntmps109
  go_wp2
  refine bodyPost_ret (v := gval g (some ⟨b, 0, none⟩) cap) (by simp [results, Tryz.results109, go_sem]) rfl ?_
  exact ⟨rfl, (HS.out.alloc _).alloc _, grown_alloc (grown_alloc (grown_refl _ _) _) _⟩

theorem controlled_any (g : Gr) (h : OkG g) (b cap : Nat) (w : World) (hS : Scr w b g.n g.f) (hc : g.n ≤ cap) (c : Int) : Calls Tryz.prog 109 #[gval g (some ⟨b, 0, none⟩) cap, .int .i64 c] w (GEnd w b cap (ctlG g c)) := by
  by_cases h1 : c = 8
  · subst h1; exact ctl8 g h b cap w hS
  by_cases h2 : c = 9
  · subst h2; exact ctl9 g h b cap w hS
  by_cases h3 : c = 10
  · subst h3; exact ctl10 g h b cap w hS hc _ rfl
  by_cases h4 : c = 13
  · subst h4; exact ctl13 g b cap w hS
  have e : ctlG g c = g := by unfold ctlG; rw [if_neg h1, if_neg h2, if_neg h3, if_neg h4]
  rw [e]
  exact ctlNo g b cap w hS c h1 h2 h3 h4

@[reducible] def eval (e : Evt) (ao : Option Addr) (cap : Nat) : Value := .agg #[.int .i64 e.kind, .int .i64 e.b, .slice ao e.ps.length cap, .string e.pl]

theorem check_any (e : Evt) (ao : Option Addr) (cap : Nat) (w : World) : Calls Tryz.prog 84 #[eval e ao cap] w fun r w' => r = .returned (.int .i64 (checkE e)) ∧ w' = w.alloc (.cells #[.int .i64 e.kind, .int .i64 e.b, .slice ao e.ps.length cap, .string e.pl] 126) := by
  by_cases h1 : e.kind = 1
  · obtain ⟨p, hpl⟩ : ∃ p, p = plainN e.b := ⟨_, rfl⟩
    have HP : Hid (∀ w, Calls Tryz.prog 107 #[.int .i64 e.b] w fun e w' => e = .returned (.bool p) ∧ w' = w) := fun w => by rw [hpl]; exact plain_any e.b w
    have HE : Hid (checkE e = if p then 0 else 6) := by show checkE e = _; simp [checkE, h1, hpl]
    obtain ⟨kind, b, ps, pl⟩ := e
    simp only at h1
    subst h1
    clear hpl
    cases p
    · go_enter Tryz.func84, Tryz.ntmps84
      go_wp2_with (go_at_call 107; refine (HP.out _).mono ?_; rintro e w1 ⟨rfl, rfl⟩)
      go_ret
      exact ⟨by rw [HE.out]; rfl, rfl⟩
    · go_enter Tryz.func84, Tryz.ntmps84
      go_wp2_with (go_at_call 107; refine (HP.out _).mono ?_; rintro e w1 ⟨rfl, rfl⟩)
      go_ret
      exact ⟨by rw [HE.out]; rfl, rfl⟩
  · have HE : Hid (checkE e = if 2 ≤ e.kind ∧ e.kind ≤ 5 then 0 else 2) := by show checkE e = _; unfold checkE; rw [if_neg h1]
    have e1 : (e.kind == 1) = false := by simp [h1]
    clear h1
    go_enter Tryz.func84, Tryz.ntmps84
    go_wp2
    all_goals (go_ret; refine ⟨?_, rfl⟩; rw [HE.out])
    · have hk : e.kind = 2 := by simpa using ‹(e.kind == 2) = true›
      rw [if_pos (by omega)]
      rfl
    · have hk : e.kind = 3 := by simpa using ‹(e.kind == 3) = true›
      rw [if_pos (by omega)]
      rfl
    · have hk : e.kind = 4 := by simpa using ‹(e.kind == 4) = true›
      rw [if_pos (by omega)]
      rfl
    · have hk : e.kind = 5 := by simpa using ‹(e.kind == 5) = true›
      rw [if_pos (by omega)]
      rfl
    · have h2 : e.kind ≠ 2 := by simpa using ‹(e.kind == 2) = false›
      have h3 : e.kind ≠ 3 := by simpa using ‹(e.kind == 3) = false›
      have h4 : e.kind ≠ 4 := by simpa using ‹(e.kind == 4) = false›
      have h5 : e.kind ≠ 5 := by simpa using ‹(e.kind == 5) = false›
      rw [if_neg (by omega)]
      rfl

end Go.Proofs.YtpichplhidiokacGreatDoor

/- What 'done' does to a screen, kind by kind. -/
namespace Go.Proofs.YtpichplhidiokacGreatDoor
open Go.RowKit

/-- A screen's function has ended: the screen, its list in the same block or in a new one. -/
def GEndN (w : World) (b : Nat) (x : Gr) (e : Ending) (w' : World) : Prop := ∃ b' cap', e = .returned (gval x (some ⟨b', 0, none⟩) cap') ∧ Scr w' b' x.n x.f ∧ x.n ≤ cap' ∧ w.grownBy w' (some b) ∧ (b' = b ∨ w.heap.size ≤ b')

/-- The numbers lie in memory where the slice points. -/
def RdL (w : World) (ao : Option Addr) (l : List Int) : Prop := l = [] ∨ ∃ b off, ao = some ⟨b, off, none⟩ ∧ ∀ j, j < l.length → w.cell? ⟨b, off + j, none⟩ = some (.int .i64 (l.getD j 0))

theorem RdL.below {w w' : World} {ao : Option Addr} {l : List Int} (h : RdL w ao l) (hb : Below w.heap.size w w') : RdL w' ao l := by
  rcases h with h | ⟨b, off, ha, hc⟩
  · exact .inl h
  · refine .inr ⟨b, off, ha, fun j hj => ?_⟩
    have := hc j hj
    rw [hb.cell (p := ⟨b, off + j, none⟩) (World.block_lt_of_cell? _ _ this)]
    exact this

/-- What one event's 'done' is asked. -/
def DoneOk (e : Evt) (eo : Option Addr) (ec : Nat) : Prop :=
  ∀ (g : Gr) (_ : OkG g) (b cap : Nat) (w : World) (_ : Scr w b g.n g.f) (_ : g.n ≤ cap) (_ : RdL w eo e.ps) (x : Gr) (_ : x = doneG g e), Calls Tryz.prog 85 #[gval g (some ⟨b, 0, none⟩) cap, eval e eo ec] w (GEndN w b x)

set_option maxHeartbeats 1000000 in
theorem done_print (c : Int) (ps : List Int) (pl : ByteArray) (eo : Option Addr) (ec : Nat) (hc : plainN c = true) : DoneOk ⟨1, c, ps, pl⟩ eo ec := by
  intro g h b cap w hS hcap _ x hx
  have hlt := hS.lt
  have HS : Hid (Scr w b g.n g.f) := hS
  have HP : Hid (∀ w, Scr w b g.n g.f → Calls Tryz.prog 108 #[gval g (some ⟨b, 0, none⟩) cap, .int .i64 c] w (GEnd w b cap x)) := fun w hS => printed_any g h b cap w hS hcap c x hx
  have HN : Hid (x.n ≤ cap) := by
    obtain ⟨_, _, _, e⟩ := ok_printed h c hc
    have e2 : x.n = g.n := by rw [hx]; exact e
    show x.n ≤ cap
    omega
  clear hS h hcap hx
  go_enter Tryz.func85, Tryz.ntmps85
  go_wp2_with (go_at_call 108; refine (HP.out _ (((HS.out.alloc _).alloc _).alloc _)).mono ?_; rintro e w2 ⟨rfl, hs2, hg2⟩; have t2 := grown_block hg2 (at_new2 w _ _ _) (by simp; omega); have HF : Hid (Scr w2 b x.n x.f ∧ w.grownBy w2 (some b)) := ⟨hs2, grown_trans (grown_alloc (grown_alloc (grown_alloc (grown_refl _ _) _) _) _) hg2⟩; obtain ⟨⟨x0, x1, x2, x3, x4, x5, x6, x7, x8⟩, z⟩ := nine t2; clear hs2 hg2 t2)
  refine bodyPost_ret (v := gval x (some ⟨b, 0, none⟩) cap) (by simp [results, Tryz.results85, go_sem, *]) rfl ?_
  have hf := fin9 HF.out (B := w.heap.size + 1 + 1) (by omega) hlt (.int .i64 x.wide) (.int .i64 x.high) (.slice (some ⟨b, 0, none⟩) x.n cap) (.int .i64 x.row) (.int .i64 x.col) (.int .i64 x.ink) (.bool x.bold) (.int .i64 x.top) (.int .i64 x.bottom)
  exact ⟨b, cap, rfl, hf.1, HN.out, hf.2, .inl rfl⟩

set_option maxHeartbeats 1000000 in
theorem done_ctl (c : Int) (ps : List Int) (pl : ByteArray) (eo : Option Addr) (ec : Nat) : DoneOk ⟨2, c, ps, pl⟩ eo ec := by
  intro g h b cap w hS hcap _ x hx
  have hlt := hS.lt
  have HS : Hid (Scr w b g.n g.f) := hS
  have HP : Hid (∀ w, Scr w b g.n g.f → Calls Tryz.prog 109 #[gval g (some ⟨b, 0, none⟩) cap, .int .i64 c] w (GEnd w b cap x)) := fun w hS => by rw [hx]; exact controlled_any g h b cap w hS hcap c
  have HN : Hid (x.n ≤ cap) := by
    obtain ⟨_, _, _, e⟩ := ok_ctl h c
    have e2 : x.n = g.n := by rw [hx]; exact e
    show x.n ≤ cap
    omega
  clear hS h hcap hx
  go_enter Tryz.func85, Tryz.ntmps85
  go_wp2_with (go_at_call 109; refine (HP.out _ (((HS.out.alloc _).alloc _).alloc _)).mono ?_; rintro e w2 ⟨rfl, hs2, hg2⟩; have t2 := grown_block hg2 (at_new2 w _ _ _) (by simp; omega); have HF : Hid (Scr w2 b x.n x.f ∧ w.grownBy w2 (some b)) := ⟨hs2, grown_trans (grown_alloc (grown_alloc (grown_alloc (grown_refl _ _) _) _) _) hg2⟩; obtain ⟨⟨x0, x1, x2, x3, x4, x5, x6, x7, x8⟩, z⟩ := nine t2; clear hs2 hg2 t2)
  refine bodyPost_ret (v := gval x (some ⟨b, 0, none⟩) cap) (by simp [results, Tryz.results85, go_sem, *]) rfl ?_
  have hf := fin9 HF.out (B := w.heap.size + 1 + 1) (by omega) hlt (.int .i64 x.wide) (.int .i64 x.high) (.slice (some ⟨b, 0, none⟩) x.n cap) (.int .i64 x.row) (.int .i64 x.col) (.int .i64 x.ink) (.bool x.bold) (.int .i64 x.top) (.int .i64 x.bottom)
  exact ⟨b, cap, rfl, hf.1, HN.out, hf.2, .inl rfl⟩

end Go.Proofs.YtpichplhidiokacGreatDoor
