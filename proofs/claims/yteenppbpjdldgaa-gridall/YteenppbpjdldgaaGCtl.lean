/- What 'controlled' does to a screen; which events 'check' refuses. -/
import Derived.Test.YteenppbpjdldgaaGRow
namespace Go.Proofs.Yteenppbpjdldgaa
open Go.RowKit

theorem OkG.withCol {g : Gr} (h : OkG g) (k : Int) (h1 : 0 ≤ k) (h2 : k ≤ g.wide) : OkG { g with col := k } :=
  ⟨h.w1, h.w2, h.h1, h.h2, h.size, h.cells, h.r1, h.r2, h1, h2, h.i1, h.i2, h.t1, h.t2, h.t3⟩

set_option maxHeartbeats 1000000 in
theorem ctl8 (g : Gr) (h : OkG g) (b cap : Nat) (w : World) (hS : Scr w b g.n g.f) : Calls Try.prog 79 #[gval g (some ⟨b, 0, none⟩) cap, .int .i64 8] w (GEnd w b cap { g with col := max (hereC g - 1) 0 }) := by
  have HS : Hid (Scr w b g.n g.f) := hS
  have hw1 := h.w1
  have hw2 := h.w2
  have hk1 : 0 ≤ hereC g := by have := h.c1; unfold hereC; omega
  have hk2 : hereC g ≤ 24 := by unfold hereC; omega
  have HQ : Hid (-100 ≤ g.wide ∧ g.wide ≤ 100) := ⟨by omega, by omega⟩
  clear hS h
  obtain ⟨k, hk⟩ : ∃ k, k = hereC g := ⟨_, rfl⟩
  have HH : Hid (∀ w, Calls Try.prog 89 #[gval g (some ⟨b, 0, none⟩) cap] w fun e w' => e = .returned (.int .i64 k) ∧ w' = w.alloc (gbox g (some ⟨b, 0, none⟩) cap)) := by
    intro w
    rw [hk]
    exact here_any g _ cap w HQ.out
  rw [← hk] at hk1 hk2 ⊢
  clear hk
  have FIN : Hid (∀ q : Int, q = max (k - 1) 0 → ∀ o1 o2 o3 : Obj, GEnd w b cap { g with col := max (k - 1) 0 } (.returned (gval { g with col := q } (some ⟨b, 0, none⟩) cap)) (((w.alloc o1).alloc o2).alloc o3)) := by
    intro q hq o1 o2 o3
    rw [hq]
    exact ⟨rfl, ((HS.out.alloc _).alloc _).alloc _, grown_alloc (grown_alloc (grown_alloc (grown_refl _ _) _) _) _⟩
  go_enter Try.func79, Try.ntmps79
  go_wp2_with (go_at_call 89; refine (HH.out _).mono ?_; rintro e w1 ⟨rfl, rfl⟩)
  · refine bodyPost_ret (v := gval { g with col := 0 } (some ⟨b, 0, none⟩) cap) (by simp [results, Try.results79, go_sem]) rfl ?_
    exact FIN.out _ (by omega) _ _ _
  · refine bodyPost_ret (v := gval { g with col := k - 1 } (some ⟨b, 0, none⟩) cap) (by simp [results, Try.results79, go_sem]) rfl ?_
    exact FIN.out _ (by omega) _ _ _

set_option maxHeartbeats 1000000 in
theorem ctl9 (g : Gr) (h : OkG g) (b cap : Nat) (w : World) (hS : Scr w b g.n g.f) : Calls Try.prog 79 #[gval g (some ⟨b, 0, none⟩) cap, .int .i64 9] w (GEnd w b cap { g with col := min ((g.col / 8 + 1) * 8) (g.wide - 1) }) := by
  have HS : Hid (Scr w b g.n g.f) := hS
  have hw1 := h.w1
  have hw2 := h.w2
  have hc1 := h.c1
  have hc2 : g.col ≤ 24 := by have := h.c2; omega
  have hdiv : g.col.tdiv 8 = g.col / 8 := by rw [Int.tdiv_eq_ediv_of_nonneg hc1]
  clear hS h
  obtain ⟨k, hk⟩ : ∃ k, k = g.col / 8 := ⟨_, rfl⟩
  have hk1 : 0 ≤ k := by omega
  have hk2 : k ≤ 3 := by omega
  rw [← hk] at hdiv ⊢
  have FIN : Hid (∀ q : Int, q = min ((k + 1) * 8) (g.wide - 1) → ∀ o1 o2 : Obj, GEnd w b cap { g with col := min ((k + 1) * 8) (g.wide - 1) } (.returned (gval { g with col := q } (some ⟨b, 0, none⟩) cap)) ((w.alloc o1).alloc o2)) := by
    intro q hq o1 o2
    rw [hq]
    exact ⟨rfl, (HS.out.alloc _).alloc _, grown_alloc (grown_alloc (grown_refl _ _) _) _⟩
  clear hk
  go_enter Try.func79, Try.ntmps79
  go_wp2
  · refine bodyPost_ret (v := gval { g with col := g.wide - 1 } (some ⟨b, 0, none⟩) cap) (by simp [results, Try.results79, go_sem]) rfl ?_
    exact FIN.out _ (by omega) _ _
  · refine bodyPost_ret (v := gval { g with col := (k + 1) * 8 } (some ⟨b, 0, none⟩) cap) (by simp [results, Try.results79, go_sem]) rfl ?_
    exact FIN.out _ (by omega) _ _

set_option maxHeartbeats 1000000 in
theorem ctl10 (g : Gr) (h : OkG g) (b cap : Nat) (w : World) (hS : Scr w b g.n g.f) (hc : g.n ≤ cap) (y : Gr) (hy : y = rowOnG g) : Calls Try.prog 79 #[gval g (some ⟨b, 0, none⟩) cap, .int .i64 10] w (GEnd w b cap y) := by
  have HS : Hid (Scr w b g.n g.f) := hS
  have hlt := hS.lt
  have HR : Hid (∀ w, Scr w b g.n g.f → Calls Try.prog 88 #[gval g (some ⟨b, 0, none⟩) cap] w (GEnd w b cap y)) := fun w hS => rowOn_any g h b cap w hS hc y hy
  clear hS h hc hy
  go_enter Try.func79, Try.ntmps79
  go_wp2_with (go_at_call 88; refine (HR.out _ ((HS.out.alloc _).alloc _)).mono ?_; rintro e w2 ⟨rfl, hs2, hg2⟩; have t2 := grown_block hg2 (at_new1 w _ _) (by simp; omega); have HF : Hid (Scr w2 b y.n y.f ∧ w.grownBy w2 (some b)) := ⟨hs2, grown_trans (grown_alloc (grown_alloc (grown_refl _ _) _) _) hg2⟩; obtain ⟨⟨x0, x1, x2, x3, x4, x5, x6, x7, x8⟩, z⟩ := nine t2; clear hs2 hg2 t2)
  refine bodyPost_ret (v := gval y (some ⟨b, 0, none⟩) cap) (by simp [results, Try.results79, go_sem, *]) rfl ?_
  exact ⟨rfl, fin9 HF.out (by omega) hlt _ _ _ _ _ _ _ _ _⟩

set_option maxHeartbeats 1000000 in
theorem ctl13 (g : Gr) (b cap : Nat) (w : World) (hS : Scr w b g.n g.f) : Calls Try.prog 79 #[gval g (some ⟨b, 0, none⟩) cap, .int .i64 13] w (GEnd w b cap { g with col := 0 }) := by
  have HS : Hid (Scr w b g.n g.f) := hS
  clear hS
  go_enter Try.func79, Try.ntmps79
  go_wp2
  refine bodyPost_ret (v := gval { g with col := 0 } (some ⟨b, 0, none⟩) cap) (by simp [results, Try.results79, go_sem]) rfl ?_
  exact ⟨rfl, (HS.out.alloc _).alloc _, grown_alloc (grown_alloc (grown_refl _ _) _) _⟩

set_option maxHeartbeats 1000000 in
theorem ctlNo (g : Gr) (b cap : Nat) (w : World) (hS : Scr w b g.n g.f) (c : Int) (h1 : c ≠ 8) (h2 : c ≠ 9) (h3 : c ≠ 10) (h4 : c ≠ 13) : Calls Try.prog 79 #[gval g (some ⟨b, 0, none⟩) cap, .int .i64 c] w (GEnd w b cap g) := by
  have HS : Hid (Scr w b g.n g.f) := hS
  have e1 : (c == 8) = false := by simp [h1]
  have e2 : (c == 9) = false := by simp [h2]
  have e3 : (c == 10) = false := by simp [h3]
  have e4 : (c == 13) = false := by simp [h4]
  clear hS h1 h2 h3 h4
  go_enter Try.func79, Try.ntmps79
  go_wp2
  refine bodyPost_ret (v := gval g (some ⟨b, 0, none⟩) cap) (by simp [results, Try.results79, go_sem]) rfl ?_
  exact ⟨rfl, (HS.out.alloc _).alloc _, grown_alloc (grown_alloc (grown_refl _ _) _) _⟩

theorem controlled_any (g : Gr) (h : OkG g) (b cap : Nat) (w : World) (hS : Scr w b g.n g.f) (hc : g.n ≤ cap) (c : Int) : Calls Try.prog 79 #[gval g (some ⟨b, 0, none⟩) cap, .int .i64 c] w (GEnd w b cap (ctlG g c)) := by
  by_cases h1 : c = 8
  · subst h1; exact ctl8 g h b cap w hS
  by_cases h2 : c = 9
  · subst h2; exact ctl9 g h b cap w hS
  by_cases h3 : c = 10
  · subst h3; exact ctl10 g h b cap w hS hc _ rfl
  by_cases h4 : c = 13
  · subst h4; exact ctl13 g b cap w hS
  have e : ctlG g c = g := by unfold ctlG; rw [if_neg h1, if_neg h2, if_neg h3, if_neg h4]
  rw [e]
  exact ctlNo g b cap w hS c h1 h2 h3 h4

@[reducible] def eval (e : Evt) (ao : Option Addr) (cap : Nat) : Value := .agg #[.int .i64 e.kind, .int .i64 e.b, .slice ao e.ps.length cap, .string e.pl]

theorem check_any (e : Evt) (ao : Option Addr) (cap : Nat) (w : World) : Calls Try.prog 69 #[eval e ao cap] w fun r w' => r = .returned (.int .i64 (checkE e)) ∧ w' = w.alloc (.cells #[.int .i64 e.kind, .int .i64 e.b, .slice ao e.ps.length cap, .string e.pl] 37) := by
  by_cases h1 : e.kind = 1
  · obtain ⟨p, hpl⟩ : ∃ p, p = plainN e.b := ⟨_, rfl⟩
    have HP : Hid (∀ w, Calls Try.prog 67 #[.int .i64 e.b] w fun e w' => e = .returned (.bool p) ∧ w' = w) := fun w => by rw [hpl]; exact plain_any e.b w
    have HE : Hid (checkE e = if p then 0 else 6) := by show checkE e = _; simp [checkE, h1, hpl]
    obtain ⟨kind, b, ps, pl⟩ := e
    simp only at h1
    subst h1
    clear hpl
    cases p
    · go_enter Try.func69, Try.ntmps69
      go_wp2_with (go_at_call 67; refine (HP.out _).mono ?_; rintro e w1 ⟨rfl, rfl⟩)
      go_ret
      exact ⟨by rw [HE.out]; rfl, rfl⟩
    · go_enter Try.func69, Try.ntmps69
      go_wp2_with (go_at_call 67; refine (HP.out _).mono ?_; rintro e w1 ⟨rfl, rfl⟩)
      go_ret
      exact ⟨by rw [HE.out]; rfl, rfl⟩
  · have HE : Hid (checkE e = if 2 ≤ e.kind ∧ e.kind ≤ 5 then 0 else 2) := by show checkE e = _; unfold checkE; rw [if_neg h1]
    have e1 : (e.kind == 1) = false := by simp [h1]
    clear h1
    go_enter Try.func69, Try.ntmps69
    go_wp2
    all_goals (go_ret; refine ⟨?_, rfl⟩; rw [HE.out])
    · have hk : e.kind = 2 := by simpa using ‹(e.kind == 2) = true›
      rw [if_pos (by omega)]
      rfl
    · have hk : e.kind = 3 := by simpa using ‹(e.kind == 3) = true›
      rw [if_pos (by omega)]
      rfl
    · have hk : e.kind = 4 := by simpa using ‹(e.kind == 4) = true›
      rw [if_pos (by omega)]
      rfl
    · have hk : e.kind = 5 := by simpa using ‹(e.kind == 5) = true›
      rw [if_pos (by omega)]
      rfl
    · have h2 : e.kind ≠ 2 := by simpa using ‹(e.kind == 2) = false›
      have h3 : e.kind ≠ 3 := by simpa using ‹(e.kind == 3) = false›
      have h4 : e.kind ≠ 4 := by simpa using ‹(e.kind == 4) = false›
      have h5 : e.kind ≠ 5 := by simpa using ‹(e.kind == 5) = false›
      rw [if_neg (by omega)]
      rfl

end Go.Proofs.Yteenppbpjdldgaa
