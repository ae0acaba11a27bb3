/- What 'printed' does to a screen. -/
import Derived.Test.YteenppbpjdldgaaGRow
import Derived.Deep.CutRange
import Derived.Deep.DeepFit
namespace Go.Proofs.Yteenppbpjdldgaa
open Go.RowKit

/-- In the midst of a screen's function: the box holds a screen, the result's box nothing yet. -/
structure Mid9 (w : World) (b cap : Nat) (x : Gr) (wx : World) : Prop where
  box : wx.heap[w.heap.size]? = some (gbox x (some ⟨b, 0, none⟩) cap)
  res : wx.heap[w.heap.size + 1]? = some gzero
  scr : Scr wx b x.n x.f
  grown : w.grownBy wx (some b)

theorem set9_same {w : World} {B : Nat} {c0 c1 c2 c3 c4 c5 c6 c7 c8 : Value} {t : TypeId} (h : w.heap[B]? = some (.cells #[c0, c1, c2, c3, c4, c5, c6, c7, c8] t (0, 0))) (u0 u1 u2 u3 u4 u5 u6 u7 u8 : Value) :
    (((((((((w.setCell ⟨B, 0, none⟩ u0).setCell ⟨B, 1, none⟩ u1).setCell ⟨B, 2, none⟩ u2).setCell ⟨B, 3, none⟩ u3).setCell ⟨B, 4, none⟩ u4).setCell ⟨B, 5, none⟩ u5).setCell ⟨B, 6, none⟩ u6).setCell ⟨B, 7, none⟩ u7).setCell ⟨B, 8, none⟩ u8).heap[B]? = some (.cells #[u0, u1, u2, u3, u4, u5, u6, u7, u8] t (0, 0)) := by
  have h0 : (w.setCell ⟨B, 0, none⟩ u0).heap[B]? = some (.cells #[u0, c1, c2, c3, c4, c5, c6, c7, c8] t (0, 0)) := heap_setCell_same _ B 0 _ t u0 h
  have h1 : ((w.setCell ⟨B, 0, none⟩ u0).setCell ⟨B, 1, none⟩ u1).heap[B]? = some (.cells #[u0, u1, c2, c3, c4, c5, c6, c7, c8] t (0, 0)) := heap_setCell_same _ B 1 _ t u1 h0
  have h2 : (((w.setCell ⟨B, 0, none⟩ u0).setCell ⟨B, 1, none⟩ u1).setCell ⟨B, 2, none⟩ u2).heap[B]? = some (.cells #[u0, u1, u2, c3, c4, c5, c6, c7, c8] t (0, 0)) := heap_setCell_same _ B 2 _ t u2 h1
  have h3 : ((((w.setCell ⟨B, 0, none⟩ u0).setCell ⟨B, 1, none⟩ u1).setCell ⟨B, 2, none⟩ u2).setCell ⟨B, 3, none⟩ u3).heap[B]? = some (.cells #[u0, u1, u2, u3, c4, c5, c6, c7, c8] t (0, 0)) := heap_setCell_same _ B 3 _ t u3 h2
  have h4 : (((((w.setCell ⟨B, 0, none⟩ u0).setCell ⟨B, 1, none⟩ u1).setCell ⟨B, 2, none⟩ u2).setCell ⟨B, 3, none⟩ u3).setCell ⟨B, 4, none⟩ u4).heap[B]? = some (.cells #[u0, u1, u2, u3, u4, c5, c6, c7, c8] t (0, 0)) := heap_setCell_same _ B 4 _ t u4 h3
  have h5 : ((((((w.setCell ⟨B, 0, none⟩ u0).setCell ⟨B, 1, none⟩ u1).setCell ⟨B, 2, none⟩ u2).setCell ⟨B, 3, none⟩ u3).setCell ⟨B, 4, none⟩ u4).setCell ⟨B, 5, none⟩ u5).heap[B]? = some (.cells #[u0, u1, u2, u3, u4, u5, c6, c7, c8] t (0, 0)) := heap_setCell_same _ B 5 _ t u5 h4
  have h6 : (((((((w.setCell ⟨B, 0, none⟩ u0).setCell ⟨B, 1, none⟩ u1).setCell ⟨B, 2, none⟩ u2).setCell ⟨B, 3, none⟩ u3).setCell ⟨B, 4, none⟩ u4).setCell ⟨B, 5, none⟩ u5).setCell ⟨B, 6, none⟩ u6).heap[B]? = some (.cells #[u0, u1, u2, u3, u4, u5, u6, c7, c8] t (0, 0)) := heap_setCell_same _ B 6 _ t u6 h5
  have h7 : ((((((((w.setCell ⟨B, 0, none⟩ u0).setCell ⟨B, 1, none⟩ u1).setCell ⟨B, 2, none⟩ u2).setCell ⟨B, 3, none⟩ u3).setCell ⟨B, 4, none⟩ u4).setCell ⟨B, 5, none⟩ u5).setCell ⟨B, 6, none⟩ u6).setCell ⟨B, 7, none⟩ u7).heap[B]? = some (.cells #[u0, u1, u2, u3, u4, u5, u6, u7, c8] t (0, 0)) := heap_setCell_same _ B 7 _ t u7 h6
  have h8 : (((((((((w.setCell ⟨B, 0, none⟩ u0).setCell ⟨B, 1, none⟩ u1).setCell ⟨B, 2, none⟩ u2).setCell ⟨B, 3, none⟩ u3).setCell ⟨B, 4, none⟩ u4).setCell ⟨B, 5, none⟩ u5).setCell ⟨B, 6, none⟩ u6).setCell ⟨B, 7, none⟩ u7).setCell ⟨B, 8, none⟩ u8).heap[B]? = some (.cells #[u0, u1, u2, u3, u4, u5, u6, u7, u8] t (0, 0)) := heap_setCell_same _ B 8 _ t u8 h7
  exact h8
theorem other_set {w : World} {B b : Nat} {o : Obj} {u : Value} {j : Nat} (h : w.heap[b]? = some o) (hne : b ≠ B) : (w.setCell ⟨B, j, none⟩ u).heap[b]? = some o := by
  rw [Below.heap_setCell _ _ _ _ hne]; exact h
theorem set9_other {w : World} {B b : Nat} {o : Obj} (h : w.heap[b]? = some o) (hne : b ≠ B) (u0 u1 u2 u3 u4 u5 u6 u7 u8 : Value) :
    (((((((((w.setCell ⟨B, 0, none⟩ u0).setCell ⟨B, 1, none⟩ u1).setCell ⟨B, 2, none⟩ u2).setCell ⟨B, 3, none⟩ u3).setCell ⟨B, 4, none⟩ u4).setCell ⟨B, 5, none⟩ u5).setCell ⟨B, 6, none⟩ u6).setCell ⟨B, 7, none⟩ u7).setCell ⟨B, 8, none⟩ u8).heap[b]? = some o :=
  other_set (other_set (other_set (other_set (other_set (other_set (other_set (other_set (other_set h hne) hne) hne) hne) hne) hne) hne) hne) hne

theorem Scr.put {w : World} {b n : Nat} {f : Nat → Cel} (h : Scr w b n f) (i o0 o1 o2 o3 : Nat) (c : Cel) (hi : i < n) (e0 : o0 = i * 4) (e1 : o1 = i * 4 + 1) (e2 : o2 = i * 4 + 2) (e3 : o3 = i * 4 + 3) :
    Scr ((((w.setCell ⟨b, o0, none⟩ (.int .i64 c.ch)).setCell ⟨b, o1, none⟩ (.int .i64 c.ink)).setCell ⟨b, o2, none⟩ (.int .i64 c.pic)).setCell ⟨b, o3, none⟩ (.bool c.bold)) b n (putF f i c) := by
  subst e0 e1 e2 e3
  obtain ⟨cur, hc, hs, hr⟩ := h
  have h0 := heap_setCell_same w b (i * 4) _ _ (.int .i64 c.ch) hc
  have h1 := heap_setCell_same _ b (i * 4 + 1) _ _ (.int .i64 c.ink) h0
  have h2 := heap_setCell_same _ b (i * 4 + 2) _ _ (.int .i64 c.pic) h1
  have h3 := heap_setCell_same _ b (i * 4 + 3) _ _ (.bool c.bold) h2
  refine ⟨_, h3, by simpa using hs, fun k hk j hj => ?_⟩
  unfold putF
  by_cases e : k = i
  · subst e
    rw [if_pos rfl]
    have hj4 : j = 0 ∨ j = 1 ∨ j = 2 ∨ j = 3 := by omega
    rcases hj4 with rfl | rfl | rfl | rfl <;> simp [cel4, Array.getElem?_setIfInBounds] <;> omega
  · rw [if_neg e, ← hr k hk j hj]
    simp only [Array.getElem?_setIfInBounds]
    rw [if_neg (by omega), if_neg (by omega), if_neg (by omega), if_neg (by omega)]

theorem grown_put {a w : World} {b o0 o1 o2 o3 : Nat} {u0 u1 u2 u3 : Value} (h : a.grownBy w (some b)) : a.grownBy ((((w.setCell ⟨b, o0, none⟩ u0).setCell ⟨b, o1, none⟩ u1).setCell ⟨b, o2, none⟩ u2).setCell ⟨b, o3, none⟩ u3) (some b) :=
  grown_set (grown_set (grown_set (grown_set h (.inr rfl) _) (.inr rfl) _) (.inr rfl) _) (.inr rfl) _

theorem rows_here (g : Gr) (h : OkG g) (b cap : Nat) (w : World) (hc : g.n ≤ cap) :
    Calls Try.prog 64 #[gval g (some ⟨b, 0, none⟩) cap, .int .i64 g.row, .int .i64 (g.row + 1)] w fun e w' => e = .returned (.slice (some ⟨b, (g.row * g.wide).toNat * 4, none⟩) g.wide.toNat (cap - (g.row * g.wide).toNat)) ∧ w' = w.alloc (gbox g (some ⟨b, 0, none⟩) cap) := by
  obtain ⟨q1, q2, q3, q4, q5, q6, q7⟩ := h.nums
  have := h.w1
  have e : (g.row + 1) * g.wide = g.row * g.wide + g.wide := by rw [Int.add_mul]; omega
  have k := rows_any g b cap g.row (g.row + 1) w (by omega) (by omega) (by omega) (by omega) hc
  rw [e] at k
  have e2 : (g.row * g.wide + g.wide).toNat - (g.row * g.wide).toNat = g.wide.toNat := by omega
  rw [e2] at k
  exact k

set_option maxRecDepth 1000 in
set_option maxHeartbeats 1000000 in
theorem printed_any (g : Gr) (h : OkG g) (b cap : Nat) (w : World) (hS : Scr w b g.n g.f) (hc : g.n ≤ cap) (c : Int) (x : Gr) (hx : x = printedG g c) : Calls Try.prog 78 #[gval g (some ⟨b, 0, none⟩) cap, .int .i64 c] w (GEnd w b cap x) := by
  obtain ⟨y, hy⟩ : ∃ y, y = backG g := ⟨_, rfl⟩
  obtain ⟨k1, k2, k3, k4, k5⟩ := ok_back h
  rw [← hy] at k1 k2 k3 k4 k5
  have HX : Hid (x = putG y c) := by show x = putG y c; rw [hx, hy]; rfl
  have HS : Hid (Scr w b g.n g.f) := hS
  have HY : Hid (OkG y ∧ y.col < y.wide ∧ y.n ≤ cap) := ⟨k1, k2, by omega⟩
  have hlt := hS.lt
  have HM : Hid (g.col ≠ g.wide → Mid9 w b cap y ((w.alloc (gbox g (some ⟨b, 0, none⟩) cap)).alloc gzero)) := by
    intro hne
    have e : y = g := by rw [hy]; unfold backG; rw [if_neg hne]
    rw [e]
    exact ⟨at_old (at_new w _) _, at_new1 w _ _, (hS.alloc _).alloc _, grown_alloc (grown_alloc (grown_refl _ _) _) _⟩
  have HR : Hid (g.col = g.wide → ∀ w, Scr w b g.n g.f → Calls Try.prog 88 #[gval { g with col := 0 } (some ⟨b, 0, none⟩) cap] w (GEnd w b cap y)) := by
    intro he w hS
    have e : y = rowOnG { g with col := 0 } := by rw [hy]; unfold backG; rw [if_pos he]
    have h0 : OkG { g with col := 0 } := ⟨h.w1, h.w2, h.h1, h.h2, h.size, h.cells, h.r1, h.r2, by simp, by have := h.w1; simp only; omega, h.i1, h.i2, h.t1, h.t2, h.t3⟩
    exact rowOn_any { g with col := 0 } h0 b cap w hS hc y e
  clear hS h hx hy k1 k2 k3 k4 k5
  go_enter Try.func78, Try.ntmps78
  go_upto_if 9 with fail
  go_cut [] from 5 to 12 (fun wx => Mid9 w b cap y wx)
  case first =>
    by_cases he : g.col = g.wide
    · have hd : (g.col == g.wide) = true := by simp [he]
      have HE : Hid (g.col = g.wide) := he
      clear he
      go_wp2_with (go_at_call 88; refine (HR.out HE.out _ ((HS.out.alloc _).alloc _)).mono ?_; rintro e w2 ⟨rfl, hs2, hg2⟩; have t1 := grown_block hg2 (at_old (at_new w _) _) (by simp; omega); have t2 := grown_block hg2 (at_new1 w _ _) (by simp; omega); have HF : Hid (Scr w2 b y.n y.f ∧ World.grownBy _ w2 (some b)) := ⟨hs2, hg2⟩; have HT : Hid _ := t1; have HT2 : Hid _ := t2; obtain ⟨⟨x0, x1, x2, x3, x4, x5, x6, x7, x8⟩, z⟩ := nine t1; clear hs2 hg2 t1 t2)
      go_meet
      have hf := fin9 (w := w) (B := w.heap.size) ⟨HF.out.1, grown_trans (grown_alloc (grown_alloc (grown_refl _ _) _) _) HF.out.2⟩ (Nat.le_refl _) hlt (.int .i64 y.wide) (.int .i64 y.high) (.slice (some ⟨b, 0, none⟩) y.n cap) (.int .i64 y.row) (.int .i64 y.col) (.int .i64 y.ink) (.bool y.bold) (.int .i64 y.top) (.int .i64 y.bottom)
      exact ⟨set9_same HT.out _ _ _ _ _ _ _ _ _, set9_other HT2.out (by omega) _ _ _ _ _ _ _ _ _, hf.1, hf.2⟩
    · have hd : (g.col == g.wide) = false := by simp [he]
      have HE : Hid (g.col ≠ g.wide) := he
      clear he
      go_wp2
      go_meet
      exact HM.out HE.out
  case rest =>
    obtain ⟨ok, hcw, hcap⟩ := HY.out
    have HO : Hid (OkG y) := ok
    have HCP : Hid (y.n ≤ cap) := hcap
    have hw1 := ok.w1
    have hc1 := ok.c1
    have hr1 := ok.r1
    have hr2 : y.row ≤ 10 := by have := ok.r2; have := ok.h2; omega
    have hw2 := ok.w2
    have HC : Hid (Mid9 w b cap y wc) := hcut
    obtain ⟨⟨x0, x1, x2, x3, x4, x5, x6, x7, x8⟩, z⟩ := nine hcut.box
    obtain ⟨⟨u0, u1, u2, u3, u4, u5, u6, u7, u8⟩, v⟩ := nine hcut.res
    have hb2 : w.heap.size < wc.heap.size := by have := hcut.grown.size; have := (Array.getElem?_eq_some_iff.1 hcut.box).1; omega
    have hb3 : b < wc.heap.size := hcut.scr.lt
    have hb4 : w.heap.size + 1 < wc.heap.size := (Array.getElem?_eq_some_iff.1 hcut.res).1
    obtain ⟨P, hP⟩ : ∃ P, P = (y.row * y.wide).toNat := ⟨_, rfl⟩
    obtain ⟨I, hI⟩ : ∃ I, I = P + y.col.toNat := ⟨_, rfl⟩
    have hIn : I < y.n := by obtain ⟨q1, q2, q3, q4, _⟩ := ok.nums; omega
    obtain ⟨t0, t1, t2, t3⟩ := hcut.scr.cells I hIn
    have hoff : I * 4 = P * 4 + y.col.toNat * 4 := by omega
    rw [hoff] at t0 t1 t2 t3
    have hfr : ∀ j, wc.frozen? ⟨b, j, none⟩ = false := hcut.scr.free
    obtain ⟨W, hW⟩ : ∃ W, W = y.wide.toNat := ⟨_, rfl⟩
    have hwrap : IntKind.i64.wrap (y.row + 1) = y.row + 1 := by rw [IntKind.wrap_i64]; omega
    have HRW : Hid (∀ w, Calls Try.prog 64 #[gval y (some ⟨b, 0, none⟩) cap, .int .i64 y.row, .int .i64 (IntKind.i64.wrap (y.row + 1))] w fun e w' => e = .returned (.slice (some ⟨b, P * 4, none⟩) W (cap - P)) ∧ w' = w.alloc (gbox y (some ⟨b, 0, none⟩) cap)) := by
      intro w
      rw [hP, hwrap, hW]
      exact rows_here y HO.out b cap w HCP.out
    have hcw' : y.col < (W : Int) := by omega
    have HI : Hid (I = (y.row * y.wide + y.col).toNat ∧ I < y.n ∧ I * 4 = P * 4 + y.col.toNat * 4) := ⟨by obtain ⟨_, _, q3, _⟩ := ok.nums; omega, hIn, hoff⟩
    clear hcut ok hcap HR HM HS HY hc hP hI hIn hoff hwrap hW
    obtain ⟨k0, hk0⟩ : ∃ k, k = y.f I := ⟨_, rfl⟩
    rw [← hk0] at t0 t1 t2 t3
    clear hk0
    have hoc : ∀ (w' : World) (j : Nat) (u : Value) (k : Nat), (w'.setCell ⟨b, j, none⟩ u).cell? ⟨w.heap.size, k, none⟩ = w'.cell? ⟨w.heap.size, k, none⟩ := fun w' j u k => World.cell?_setCell_other _ _ _ _ (by intro e; simp only [Addr.mk.injEq] at e; omega)
    have hoc2 : ∀ (w' : World) (j : Nat) (u : Value) (k : Nat), (w'.setCell ⟨b, j, none⟩ u).cell? ⟨w.heap.size + 1, k, none⟩ = w'.cell? ⟨w.heap.size + 1, k, none⟩ := fun w' j u k => World.cell?_setCell_other _ _ _ _ (by intro e; simp only [Addr.mk.injEq] at e; omega)
    go_wp2_with fail
    go_region_held3 (fun w' => (w'.cell? ⟨w.heap.size, 0, none⟩ = some (.int .i64 y.wide) ∧ w'.cell? ⟨w.heap.size, 1, none⟩ = some (.int .i64 y.high) ∧ w'.cell? ⟨w.heap.size, 2, none⟩ = some (.slice (some ⟨b, 0, none⟩) y.n cap) ∧ w'.cell? ⟨w.heap.size, 3, none⟩ = some (.int .i64 y.row) ∧ w'.cell? ⟨w.heap.size, 4, none⟩ = some (.int .i64 y.col) ∧ w'.cell? ⟨w.heap.size, 5, none⟩ = some (.int .i64 y.ink) ∧ w'.cell? ⟨w.heap.size, 6, none⟩ = some (.bool y.bold) ∧ w'.cell? ⟨w.heap.size, 7, none⟩ = some (.int .i64 y.top) ∧ w'.cell? ⟨w.heap.size, 8, none⟩ = some (.int .i64 y.bottom))) (first | go_keep | (simp [*, World.cell?_alloc_past]))
      ((go_at_call 64; go_fit (HRW.out _); rintro e w1 ⟨rfl, rfl⟩))
    go_wp2
    refine bodyPost_ret (v := gval (putG y c) (some ⟨b, 0, none⟩) cap) (by simp [results, Try.results78, go_sem, putG, *]) rfl ?_
    rw [HX.out]
    obtain ⟨e1, e2, e3⟩ := HI.out
    have hp := HC.out.scr.put I (P * 4 + y.col.toNat * 4) (P * 4 + y.col.toNat * 4 + 1) (P * 4 + y.col.toNat * 4 + 2) (P * 4 + y.col.toNat * 4 + 3) ⟨c, y.ink, 0, y.bold⟩ e2 (by omega) (by omega) (by omega) (by omega)
    have hg := grown_put (o0 := P * 4 + y.col.toNat * 4) (o1 := P * 4 + y.col.toNat * 4 + 1) (o2 := P * 4 + y.col.toNat * 4 + 2) (o3 := P * 4 + y.col.toNat * 4 + 3) (u0 := .int .i64 c) (u1 := .int .i64 y.ink) (u2 := .int .i64 0) (u3 := .bool y.bold) HC.out.grown
    have hf := fin9 (w := w) (B := w.heap.size + 1) ⟨hp.set (p := ⟨w.heap.size, 4, none⟩) (by simp; omega) (.int .i64 (y.col + 1)), grown_set hg (p := ⟨w.heap.size, 4, none⟩) (.inl (Nat.le_refl _)) (.int .i64 (y.col + 1))⟩ (by omega) hlt (.int .i64 y.wide) (.int .i64 y.high) (.slice (some ⟨b, 0, none⟩) y.n cap) (.int .i64 y.row) (.int .i64 (y.col + 1)) (.int .i64 y.ink) (.bool y.bold) (.int .i64 y.top) (.int .i64 y.bottom)
    rw [e1] at hf
    exact ⟨rfl, (hf.1.alloc _).drew, grown_drew (grown_alloc hf.2 _)⟩

end Go.Proofs.Yteenppbpjdldgaa
