/- What 'commanded' does to a screen, all letters; what 'done' does, all kinds of events. -/
import Derived.Test.YtpichplhidiokabGreatDoorGCsiB
import Derived.Test.YtpichplhidiokabGreatDoorGCsiC
import Derived.Test.YtpichplhidiokabGreatDoorGPic
namespace Go.Proofs.YtpichplhidiokabGreatDoor
open Go.RowKit

theorem commanded_any (g : Gr) (h : OkG g) (b cap : Nat) (w : World) (hS : Scr w b g.n g.f) (hc : g.n ≤ cap) (l : List Int) (lo : Option Addr) (lc : Nat) (hr : RdL w lo l) (hl : l.length ≤ 140737488355328) (c : Int) (x : Gr) (hx : x = csiG g c l) :
    Calls Tryz.prog 52 #[gval g (some ⟨b, 0, none⟩) cap, .int .i64 c, .slice lo l.length lc] w (GEnd w b cap x) := by
  have HN : Hid (Nums w lo l.length lc (numP l 0) (numP l 1)) := fun w' hb => ⟨number_any l lo lc 0 w' (hr.below hb) (by omega), number_any l lo lc 1 w' (hr.below hb) (by omega)⟩
  obtain ⟨p0, p9⟩ := numP_bound l 0
  obtain ⟨q0, q9⟩ := numP_bound l 1
  by_cases h1 : c = 65
  · subst h1; exact csiA g h b cap w hS lo _ lc _ _ HN p0 p9 _ rfl x hx
  by_cases h2 : c = 66
  · subst h2; exact csiB g h b cap w hS lo _ lc _ _ HN p0 p9 _ rfl x hx
  by_cases h3 : c = 67
  · subst h3; exact csiC g h b cap w hS lo _ lc _ _ HN p0 p9 _ rfl x hx
  by_cases h4 : c = 68
  · subst h4; exact csiD g h b cap w hS lo _ lc _ _ HN p0 p9 _ rfl x hx
  by_cases h5 : c = 72
  · subst h5; exact csiH g h b cap w hS lo _ lc _ _ HN p0 p9 q0 q9 _ rfl x hx
  by_cases h6 : c = 74
  · subst h6; rw [hx, csi74]; exact csiJ g h b cap w hS hc lo _ lc _ _ HN _ rfl
  by_cases h7 : c = 75
  · subst h7; rw [hx, csi75]; exact csiK g h b cap w hS hc lo _ lc _ _ HN _ rfl
  by_cases h8 : c = 76
  · subst h8; exact csiL g h b cap w hS lo _ lc _ _ HN p0 hc p9 _ rfl x hx
  by_cases h9 : c = 77
  · subst h9; exact csiM g h b cap w hS lo _ lc _ _ HN p0 hc p9 _ rfl x hx
  by_cases h10 : c = 109
  · subst h10; exact csi_m g h b cap w hS lo _ lc _ _ HN p0 _ rfl l hl rfl hr x hx
  by_cases h11 : c = 114
  · subst h11; exact csi_r g b cap w hS lo _ lc _ _ HN p0 p9 q0 q9 _ rfl x hx
  rw [hx, csiNo g c l h1 h2 h3 h4 h5 h6 h7 h8 h9 h10 h11]
  exact csiNone g b cap w hS lo _ lc _ _ HN c h1 h2 h3 h4 h5 h6 h7 h8 h9 h10 h11

theorem below3 (w : World) (o1 o2 o3 : Obj) : Below w.heap.size w (((w.alloc o1).alloc o2).alloc o3) := ((below1 _ _).alloc (by simp) _).alloc (by simp; omega) _

set_option maxHeartbeats 1000000 in
theorem done_csi (c : Int) (ps : List Int) (pl : ByteArray) (eo : Option Addr) (ec : Nat) (hl : ps.length ≤ 140737488355328) : DoneOk ⟨3, c, ps, pl⟩ eo ec := by
  intro g h b cap w hS hcap hr x hx
  have hlt := hS.lt
  have HS : Hid (Scr w b g.n g.f) := hS
  have HP : Hid (∀ w', Below w.heap.size w w' → Scr w' b g.n g.f → Calls Tryz.prog 52 #[gval g (some ⟨b, 0, none⟩) cap, .int .i64 c, .slice eo ps.length ec] w' (GEnd w' b cap x)) := fun w' hb hS => commanded_any g h b cap w' hS hcap ps eo ec (hr.below hb) hl c x hx
  have HN : Hid (x.n ≤ cap) := by
    have e2 : x.n = g.n := by rw [hx]; exact (ok_csi h c ps).2.2.2
    show x.n ≤ cap
    omega
  clear hS h hcap hx hr
  go_enter Tryz.func35, Tryz.ntmps35
  go_wp2_with (go_at_call 52; refine (HP.out _ (below3 _ _ _ _) (((HS.out.alloc _).alloc _).alloc _)).mono ?_; rintro e w2 ⟨rfl, hs2, hg2⟩; have t2 := grown_block hg2 (at_new2 w _ _ _) (by simp; omega); have HF : Hid (Scr w2 b x.n x.f ∧ w.grownBy w2 (some b)) := ⟨hs2, grown_trans (grown_alloc (grown_alloc (grown_alloc (grown_refl _ _) _) _) _) hg2⟩; obtain ⟨⟨x0, x1, x2, x3, x4, x5, x6, x7, x8⟩, z⟩ := nine t2; clear hs2 hg2 t2)
  refine bodyPost_ret (v := gval x (some ⟨b, 0, none⟩) cap) (by simp [results, Tryz.results35, go_sem, *]) rfl ?_
  have hf := fin9 HF.out (B := w.heap.size + 1 + 1) (by omega) hlt (.int .i64 x.wide) (.int .i64 x.high) (.slice (some ⟨b, 0, none⟩) x.n cap) (.int .i64 x.row) (.int .i64 x.col) (.int .i64 x.ink) (.bool x.bold) (.int .i64 x.top) (.int .i64 x.bottom)
  exact ⟨b, cap, rfl, hf.1, HN.out, hf.2, .inl rfl⟩

set_option maxHeartbeats 1000000 in
theorem done_pic (c : Int) (ps : List Int) (pl : ByteArray) (eo : Option Addr) (ec : Nat) (hl : pl.size ≤ 140737488355328) : DoneOk ⟨4, c, ps, pl⟩ eo ec := by
  intro g h b cap w hS hcap hr x hx
  have hlt := hS.lt
  have HS : Hid (Scr w b g.n g.f) := hS
  have HP : Hid (∀ w', Below w.heap.size w w' → Scr w' b g.n g.f → Calls Tryz.prog 53 #[gval g (some ⟨b, 0, none⟩) cap, .string pl] w' (GEnd w' b cap x)) := fun w' _ hS => by rw [hx]; exact pictured_any g h b cap w' hS hcap pl hl _ rfl
  have HN : Hid (x.n ≤ cap) := by
    have e2 : x.n = g.n := by rw [hx]; rfl
    show x.n ≤ cap
    omega
  clear hS h hcap hx hr
  go_enter Tryz.func35, Tryz.ntmps35
  go_wp2_with (go_at_call 53; refine (HP.out _ (below3 _ _ _ _) (((HS.out.alloc _).alloc _).alloc _)).mono ?_; rintro e w2 ⟨rfl, hs2, hg2⟩; have t2 := grown_block hg2 (at_new2 w _ _ _) (by simp; omega); have HF : Hid (Scr w2 b x.n x.f ∧ w.grownBy w2 (some b)) := ⟨hs2, grown_trans (grown_alloc (grown_alloc (grown_alloc (grown_refl _ _) _) _) _) hg2⟩; obtain ⟨⟨x0, x1, x2, x3, x4, x5, x6, x7, x8⟩, z⟩ := nine t2; clear hs2 hg2 t2)
  refine bodyPost_ret (v := gval x (some ⟨b, 0, none⟩) cap) (by simp [results, Tryz.results35, go_sem, *]) rfl ?_
  have hf := fin9 HF.out (B := w.heap.size + 1 + 1) (by omega) hlt (.int .i64 x.wide) (.int .i64 x.high) (.slice (some ⟨b, 0, none⟩) x.n cap) (.int .i64 x.row) (.int .i64 x.col) (.int .i64 x.ink) (.bool x.bold) (.int .i64 x.top) (.int .i64 x.bottom)
  exact ⟨b, cap, rfl, hf.1, HN.out, hf.2, .inl rfl⟩

set_option maxHeartbeats 1000000 in
theorem done_new (c : Int) (ps : List Int) (pl : ByteArray) (eo : Option Addr) (ec : Nat) : DoneOk ⟨5, c, ps, pl⟩ eo ec := by
  intro g h b cap w hS hcap hr x hx
  have hlt := hS.lt
  have HP : Hid (∀ w', Calls Tryz.prog 18 #[.int .i64 g.wide, .int .i64 g.high] w' fun e w'' => ∃ b, e = .returned (gval x (some ⟨b, 0, none⟩) x.n) ∧ Scr w'' b x.n x.f ∧ w'.heap.size ≤ b ∧ Below w'.heap.size w' w'') := fun w' => new_any g.wide g.high w' x hx
  clear hS h hcap hx hr
  go_enter Tryz.func35, Tryz.ntmps35
  go_wp2_with (go_at_call 18; refine (HP.out _).mono ?_; rintro e w2 ⟨b', rfl, hs2, hb2, hg2⟩; have t2 := below_block hg2 (at_new2 w _ _ _) (by simp); have HF : Hid (Scr w2 b' x.n x.f ∧ Below w.heap.size w w2 ∧ w.heap.size + 3 ≤ b') := ⟨hs2, (below3 _ _ _ _).trans (hg2.mono (by simp; omega)), by simp at hb2; omega⟩; obtain ⟨⟨x0, x1, x2, x3, x4, x5, x6, x7, x8⟩, z⟩ := nine t2; clear hs2 hg2 t2 hb2)
  refine bodyPost_ret (v := gval x (some ⟨b', 0, none⟩) x.n) (by simp [results, Tryz.results35, go_sem, *]) rfl ?_
  obtain ⟨f1, f2, f3⟩ := HF.out
  have hf := scr_set9 f1 (B := w.heap.size + 1 + 1) (by omega) (.int .i64 x.wide) (.int .i64 x.high) (.slice (some ⟨b', 0, none⟩) x.n x.n) (.int .i64 x.row) (.int .i64 x.col) (.int .i64 x.ink) (.bool x.bold) (.int .i64 x.top) (.int .i64 x.bottom)
  exact ⟨b', x.n, rfl, hf, Nat.le_refl _, Below.toGrown (below_set9 f2 (by omega) _ _ _ _ _ _ _ _ _) _, .inr (by omega)⟩

theorem done_any (e : Evt) (eo : Option Addr) (ec : Nat) (hl : e.ps.length ≤ 140737488355328) (hp : e.pl.size ≤ 140737488355328) (hc : checkE e = 0) : DoneOk e eo ec := by
  obtain ⟨kind, c, ps, pl⟩ := e
  unfold checkE at hc
  simp only at hc hl hp
  by_cases h1 : kind = 1
  · subst h1
    refine done_print c ps pl eo ec ?_
    rw [if_pos rfl] at hc
    cases hq : plainN c
    · rw [hq] at hc; simp at hc
    · rfl
  · rw [if_neg h1] at hc
    by_cases h2 : 2 ≤ kind ∧ kind ≤ 5
    · have hk : kind = 2 ∨ kind = 3 ∨ kind = 4 ∨ kind = 5 := by omega
      rcases hk with rfl | rfl | rfl | rfl
      · exact done_ctl c ps pl eo ec
      · exact done_csi c ps pl eo ec hl
      · exact done_pic c ps pl eo ec hp
      · exact done_new c ps pl eo ec
    · rw [if_neg h2] at hc
      cases hc

end Go.Proofs.YtpichplhidiokabGreatDoor
