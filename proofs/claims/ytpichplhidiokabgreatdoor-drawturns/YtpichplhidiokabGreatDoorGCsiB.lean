/- What 'commanded' does to a screen: the letters that erase. -/
import Derived.Test.YtpichplhidiokabGreatDoorGDones
import Derived.Test.YtpichplhidiokabGreatDoorGCsiA
namespace Go.Proofs.YtpichplhidiokabGreatDoor
open Go.RowKit

set_option maxRecDepth 2000 in
set_option maxHeartbeats 2000000 in
theorem csiJ (g : Gr) (h : OkG g) (b cap : Nat) (w : World) (hS : Scr w b g.n g.f) (hc : g.n ≤ cap) (lo : Option Addr) (ln lc : Nat) (p q : Int) (HN : Hid (Nums w lo ln lc p q)) (fx : Nat → Cel) (hfx : fx = eraseF g.f 0 g.n (g.row * g.wide + hereC g).toNat p) :
    Calls Tryz.prog 52 #[gval g (some ⟨b, 0, none⟩) cap, .int .i64 74, .slice lo ln lc] w (GEnd w b cap ⟨g.wide, g.high, g.n, fx, g.row, g.col, g.ink, g.bold, g.top, g.bottom⟩) := by
  have hlt := hS.lt
  have HS : Hid (Scr w b g.n g.f) := hS
  have hc0 := h.c1
  have hc1 := h.c2
  have hw0 := h.w1
  have hw1 := h.w2
  obtain ⟨q1, q2, q3, q4, _⟩ := h.nums
  have hk1 : 0 ≤ hereC g := by unfold hereC; omega
  have hk2 : hereC g < g.wide := by unfold hereC; omega
  obtain ⟨k, hk⟩ : ∃ k, k = hereC g := ⟨_, rfl⟩
  have HH : Hid (∀ w, Calls Tryz.prog 65 #[gval g (some ⟨b, 0, none⟩) cap] w fun e w' => e = .returned (.int .i64 k) ∧ w' = w.alloc (gbox g (some ⟨b, 0, none⟩) cap)) := by
    intro w
    rw [hk]
    exact here_any g _ cap w ⟨by omega, by omega⟩
  rw [← hk] at hk1 hk2 hfx
  clear hk
  have HER : Hid (∀ w v, v = g.row * g.wide + k → Scr w b g.n g.f → Calls Tryz.prog 67 #[.slice (some ⟨b, 0, none⟩) g.n cap, .int .i64 v, .int .i64 p] w fun e w' => e = .returned (.tuple #[]) ∧ Scr w' b g.n fx ∧ w.grownBy w' (some b)) := by
    intro w v hv hS
    obtain ⟨i, hi⟩ : ∃ i : Nat, v = i := ⟨v.toNat, by omega⟩
    rw [hfx, ← hv, hi]
    exact erase_any b g.n g.f 0 g.n cap i p w hS (by omega) (by omega) hc (by omega)
  have HV0 : Hid (IntKind.i64.wrap (IntKind.i64.wrap (g.row * g.wide) + k) = g.row * g.wide + k) := by
    have e1 : IntKind.i64.wrap (g.row * g.wide) = g.row * g.wide := by rw [IntKind.wrap_i64]; omega
    show _ = _
    rw [e1, IntKind.wrap_i64]; omega
  have HF : Hid (∀ (o1 o2 o3 : Obj) (w2 : World), Scr w2 b g.n fx → (((w.alloc o1).alloc o2).alloc o3).drew.grownBy w2 (some b) → Scr w2 b g.n fx ∧ w.grownBy w2 (some b) ∧ w2.heap[w.heap.size]? = some o1 ∧ w2.heap[w.heap.size + 1]? = some o2) := by
    intro o1 o2 o3 w2 h1 h2
    refine ⟨h1, grown_trans (grown_drew (grown_alloc (grown_alloc (grown_alloc (grown_refl _ _) _) _) _)) h2, ?_, ?_⟩
    · exact grown_block h2 (at_old (at_old (at_new w _) _) _) (by simp; omega)
    · exact grown_block h2 (at_old (at_new1 w _ _) _) (by simp; omega)
  clear hS hfx q1 q2 q3 q4 h hc
  by_cases hp : p < 1
  all_goals (
    go_enter Tryz.func52, Tryz.ntmps52
    go_wp2_with (first
      | (go_at_call_of 66 (Value.int IntKind.i64 0); refine (HN.out _ (below2 _ _ _)).1.mono ?_; rintro e w1 ⟨rfl, rfl⟩)
      | (go_at_call_of 66 (Value.int IntKind.i64 1); refine (HN.out _ (below2 _ _ _)).2.mono ?_; rintro e w1 ⟨rfl, rfl⟩)
      | fail)
    go_region_held3 (fun w' => w'.cell? ⟨w.heap.size, 0, none⟩ = some (.int .i64 g.wide) ∧ w'.cell? ⟨w.heap.size, 1, none⟩ = some (.int .i64 g.high) ∧ w'.cell? ⟨w.heap.size, 2, none⟩ = some (.slice (some ⟨b, 0, none⟩) g.n cap) ∧ w'.cell? ⟨w.heap.size, 3, none⟩ = some (.int .i64 g.row) ∧ w'.cell? ⟨w.heap.size, 4, none⟩ = some (.int .i64 g.col) ∧ w'.cell? ⟨w.heap.size, 5, none⟩ = some (.int .i64 g.ink) ∧ w'.cell? ⟨w.heap.size, 6, none⟩ = some (.bool g.bold) ∧ w'.cell? ⟨w.heap.size, 7, none⟩ = some (.int .i64 g.top) ∧ w'.cell? ⟨w.heap.size, 8, none⟩ = some (.int .i64 g.bottom)) (first | go_keep | (simp [*, World.cell?_alloc_past]))
      (first
      | (go_at_call 65; refine (HH.out _).mono ?_; rintro e w1 ⟨rfl, rfl⟩)
      | (go_at_call 67; refine (HER.out _ _ (by first | exact HV0.out | rfl) (Scr.drew (HS.out.alloc _ |>.alloc _ |>.alloc _))).mono ?_; rintro e w2 ⟨rfl, hS2, hg2⟩; obtain ⟨k1, k2, k3, k4⟩ := HF.out _ _ _ w2 hS2 hg2; clear hS2 hg2; have K1 : Hid (Scr w2 b g.n fx ∧ w.grownBy w2 (some b)) := ⟨k1, k2⟩; clear k1 k2; obtain ⟨⟨x0, x1, x2, x3, x4, x5, x6, x7, x8⟩, y⟩ := nine k3; obtain ⟨⟨u0, u1, u2, u3, u4, u5, u6, u7, u8⟩, v⟩ := nine k4; clear k3 k4))
    go_wp2
    refine bodyPost_ret (v := gval ⟨g.wide, g.high, g.n, fx, g.row, g.col, g.ink, g.bold, g.top, g.bottom⟩ (some ⟨b, 0, none⟩) cap) (by simp [results, Tryz.results52, go_sem, *]) rfl ?_
    exact ⟨rfl, fin9 (w := w) K1.out (by omega) hlt _ _ _ _ _ _ _ _ _⟩)

set_option maxRecDepth 2000 in
set_option maxHeartbeats 2000000 in
theorem csiK (g : Gr) (h : OkG g) (b cap : Nat) (w : World) (hS : Scr w b g.n g.f) (hc : g.n ≤ cap) (lo : Option Addr) (ln lc : Nat) (p q : Int) (HN : Hid (Nums w lo ln lc p q)) (fx : Nat → Cel) (hfx : fx = eraseF g.f (g.row * g.wide).toNat g.wide.toNat (hereC g).toNat p) :
    Calls Tryz.prog 52 #[gval g (some ⟨b, 0, none⟩) cap, .int .i64 75, .slice lo ln lc] w (GEnd w b cap ⟨g.wide, g.high, g.n, fx, g.row, g.col, g.ink, g.bold, g.top, g.bottom⟩) := by
  have hlt := hS.lt
  have HS : Hid (Scr w b g.n g.f) := hS
  have hc0 := h.c1
  have hc1 := h.c2
  have hw0 := h.w1
  have hw1 := h.w2
  obtain ⟨q1, q2, q3, q4, _⟩ := h.nums
  have hk1 : 0 ≤ hereC g := by unfold hereC; omega
  have hk2 : hereC g < g.wide := by unfold hereC; omega
  obtain ⟨k, hk⟩ : ∃ k, k = hereC g := ⟨_, rfl⟩
  have HH : Hid (∀ w, Calls Tryz.prog 65 #[gval g (some ⟨b, 0, none⟩) cap] w fun e w' => e = .returned (.int .i64 k) ∧ w' = w.alloc (gbox g (some ⟨b, 0, none⟩) cap)) := by
    intro w
    rw [hk]
    exact here_any g _ cap w ⟨by omega, by omega⟩
  rw [← hk] at hk1 hk2 hfx
  clear hk
  obtain ⟨P, hP⟩ : ∃ P, P = (g.row * g.wide).toNat := ⟨_, rfl⟩
  obtain ⟨Wd, hWd⟩ : ∃ W, W = g.wide.toNat := ⟨_, rfl⟩
  have hwrap : IntKind.i64.wrap (g.row + 1) = g.row + 1 := by rw [IntKind.wrap_i64]; have := h.r1; have := h.r2; have := h.h2; omega
  have HRW : Hid (∀ w, Calls Tryz.prog 64 #[gval g (some ⟨b, 0, none⟩) cap, .int .i64 g.row, .int .i64 (IntKind.i64.wrap (g.row + 1))] w fun e w' => e = .returned (.slice (some ⟨b, P * 4, none⟩) Wd (cap - P)) ∧ w' = w.alloc (gbox g (some ⟨b, 0, none⟩) cap)) := by
    intro w
    rw [hP, hwrap, hWd]
    exact rows_here g h b cap w hc
  have HER : Hid (∀ w, Scr w b g.n g.f → Calls Tryz.prog 67 #[.slice (some ⟨b, P * 4, none⟩) Wd (cap - P), .int .i64 k, .int .i64 p] w fun e w' => e = .returned (.tuple #[]) ∧ Scr w' b g.n fx ∧ w.grownBy w' (some b)) := by
    intro w hS
    obtain ⟨i, hi⟩ : ∃ i : Nat, k = i := ⟨k.toNat, by omega⟩
    rw [hfx, ← hP, ← hWd, hi]
    exact erase_any b g.n g.f P Wd (cap - P) i p w hS (by omega) (by omega) (by omega) (by omega)
  have HF : Hid (∀ (o1 o2 o3 o4 : Obj) (w2 : World), Scr w2 b g.n fx → ((((w.alloc o1).alloc o2).alloc o3).alloc o4).drew.grownBy w2 (some b) → Scr w2 b g.n fx ∧ w.grownBy w2 (some b) ∧ w2.heap[w.heap.size]? = some o1 ∧ w2.heap[w.heap.size + 1]? = some o2) := by
    intro o1 o2 o3 o4 w2 h1 h2
    refine ⟨h1, grown_trans (grown_drew (grown_alloc (grown_alloc (grown_alloc (grown_alloc (grown_refl _ _) _) _) _) _)) h2, ?_, ?_⟩
    · exact grown_block h2 (at_old (at_old (at_old (at_new w _) _) _) _) (by simp; omega)
    · exact grown_block h2 (at_old (at_old (at_new1 w _ _) _) _) (by simp; omega)
  clear hS hfx q1 q2 q3 q4 h hc hP hWd hwrap
  by_cases hp : p < 1
  all_goals (
    go_enter Tryz.func52, Tryz.ntmps52
    go_wp2_with (first
      | (go_at_call_of 66 (Value.int IntKind.i64 0); refine (HN.out _ (below2 _ _ _)).1.mono ?_; rintro e w1 ⟨rfl, rfl⟩)
      | (go_at_call_of 66 (Value.int IntKind.i64 1); refine (HN.out _ (below2 _ _ _)).2.mono ?_; rintro e w1 ⟨rfl, rfl⟩)
      | fail)
    go_region_held3 (fun w' => w'.cell? ⟨w.heap.size, 0, none⟩ = some (.int .i64 g.wide) ∧ w'.cell? ⟨w.heap.size, 1, none⟩ = some (.int .i64 g.high) ∧ w'.cell? ⟨w.heap.size, 2, none⟩ = some (.slice (some ⟨b, 0, none⟩) g.n cap) ∧ w'.cell? ⟨w.heap.size, 3, none⟩ = some (.int .i64 g.row) ∧ w'.cell? ⟨w.heap.size, 4, none⟩ = some (.int .i64 g.col) ∧ w'.cell? ⟨w.heap.size, 5, none⟩ = some (.int .i64 g.ink) ∧ w'.cell? ⟨w.heap.size, 6, none⟩ = some (.bool g.bold) ∧ w'.cell? ⟨w.heap.size, 7, none⟩ = some (.int .i64 g.top) ∧ w'.cell? ⟨w.heap.size, 8, none⟩ = some (.int .i64 g.bottom)) (first | go_keep | (simp [*, World.cell?_alloc_past]))
      (first
      | (go_at_call 65; refine (HH.out _).mono ?_; rintro e w1 ⟨rfl, rfl⟩)
      | (go_at_call 64; refine (HRW.out _).mono ?_; rintro e w1 ⟨rfl, rfl⟩)
      | (go_at_call 67; refine (HER.out _ (Scr.drew (HS.out.alloc _ |>.alloc _ |>.alloc _ |>.alloc _))).mono ?_; rintro e w2 ⟨rfl, hS2, hg2⟩; obtain ⟨k1, k2, k3, k4⟩ := HF.out _ _ _ _ w2 hS2 hg2; clear hS2 hg2; have K1 : Hid (Scr w2 b g.n fx ∧ w.grownBy w2 (some b)) := ⟨k1, k2⟩; clear k1 k2; obtain ⟨⟨x0, x1, x2, x3, x4, x5, x6, x7, x8⟩, y⟩ := nine k3; obtain ⟨⟨u0, u1, u2, u3, u4, u5, u6, u7, u8⟩, v⟩ := nine k4; clear k3 k4))
    go_wp2
    refine bodyPost_ret (v := gval ⟨g.wide, g.high, g.n, fx, g.row, g.col, g.ink, g.bold, g.top, g.bottom⟩ (some ⟨b, 0, none⟩) cap) (by simp [results, Tryz.results52, go_sem, *]) rfl ?_
    exact ⟨rfl, fin9 (w := w) K1.out (by omega) hlt _ _ _ _ _ _ _ _ _⟩)

end Go.Proofs.YtpichplhidiokabGreatDoor
