/- What 'rowOn' does to a screen. -/
import Derived.Test.YteenppbpjdldgaaGMove
import Derived.Deep.RegionHeld3
namespace Go.Proofs.Yteenppbpjdldgaa
open Go.RowKit

/-- A screen's function has ended: the screen, its list in the same block. -/
def GEnd (w : World) (b cap : Nat) (x : Gr) (e : Ending) (w' : World) : Prop := e = .returned (gval x (some ⟨b, 0, none⟩) cap) ∧ Scr w' b x.n x.f ∧ w.grownBy w' (some b)

@[reducible] def gzero : Obj := .cells #[.int .i64 0, .int .i64 0, .slice none 0 0, .int .i64 0, .int .i64 0, .int .i64 0, .bool false, .int .i64 0, .int .i64 0] 41

theorem rows_scroll (g : Gr) (h : OkG g) (b cap : Nat) (w : World) (hc : g.n ≤ cap) :
    Calls Try.prog 64 #[gval g (some ⟨b, 0, none⟩) cap, .int .i64 g.top, .int .i64 g.bottom] w fun e w' => e = .returned (.slice (some ⟨b, (g.top * g.wide).toNat * 4, none⟩) ((g.bottom * g.wide).toNat - (g.top * g.wide).toNat) (cap - (g.top * g.wide).toNat)) ∧ w' = w.alloc (gbox g (some ⟨b, 0, none⟩) cap) := by
  obtain ⟨q1, q2, q3, q4, q5, q6, q7⟩ := h.nums
  have := h.w1
  exact rows_any g b cap g.top g.bottom w (by omega) (by omega) (by omega) (by omega) hc

theorem up_scroll (g : Gr) (h : OkG g) (b cap : Nat) (w : World) (hS : Scr w b g.n g.f) (hc : g.n ≤ cap) (hrow : g.row = g.bottom - 1) :
    Calls Try.prog 94 #[.slice (some ⟨b, (g.top * g.wide).toNat * 4, none⟩) ((g.bottom * g.wide).toNat - (g.top * g.wide).toNat) (cap - (g.top * g.wide).toNat), .int .i64 g.wide] w fun e w' => e = .returned (.tuple #[]) ∧ Scr w' b g.n (rowOnG g).f ∧ w.grownBy w' (some b) := by
  obtain ⟨q1, q2, q3, q4, q5, q6, q7⟩ := h.nums
  have := h.w1
  have e : (rowOnG g).f = upF g.f (g.top * g.wide).toNat ((g.top * g.wide).toNat + ((g.bottom * g.wide).toNat - (g.top * g.wide).toNat)) g.wide.toNat := by
    unfold rowOnG
    rw [if_pos hrow, show (g.top * g.wide).toNat + ((g.bottom * g.wide).toNat - (g.top * g.wide).toNat) = (g.bottom * g.wide).toNat by omega]
  rw [e]
  exact goUp_at b g.n g.f (g.top * g.wide).toNat ((g.bottom * g.wide).toNat - (g.top * g.wide).toNat) (cap - (g.top * g.wide).toNat) g.wide w hS (by omega) (by omega) (by omega) (by omega)

theorem fin9 {w w2 : World} {b B n : Nat} {f : Nat → Cel} (h : Scr w2 b n f ∧ w.grownBy w2 (some b)) (hB : w.heap.size ≤ B) (hlt : b < w.heap.size) (u0 u1 u2 u3 u4 u5 u6 u7 u8 : Value) :
    Scr (((((((((w2.setCell ⟨B, 0, none⟩ u0).setCell ⟨B, 1, none⟩ u1).setCell ⟨B, 2, none⟩ u2).setCell ⟨B, 3, none⟩ u3).setCell ⟨B, 4, none⟩ u4).setCell ⟨B, 5, none⟩ u5).setCell ⟨B, 6, none⟩ u6).setCell ⟨B, 7, none⟩ u7).setCell ⟨B, 8, none⟩ u8) b n f ∧
    w.grownBy (((((((((w2.setCell ⟨B, 0, none⟩ u0).setCell ⟨B, 1, none⟩ u1).setCell ⟨B, 2, none⟩ u2).setCell ⟨B, 3, none⟩ u3).setCell ⟨B, 4, none⟩ u4).setCell ⟨B, 5, none⟩ u5).setCell ⟨B, 6, none⟩ u6).setCell ⟨B, 7, none⟩ u7).setCell ⟨B, 8, none⟩ u8) (some b) := by
  have step : ∀ (w2 : World) (j : Nat) (u : Value), (Scr w2 b n f ∧ w.grownBy w2 (some b)) → (Scr (w2.setCell ⟨B, j, none⟩ u) b n f ∧ w.grownBy (w2.setCell ⟨B, j, none⟩ u) (some b)) :=
    fun w2 j u h => ⟨h.1.set (by simp; omega) _, grown_set h.2 (.inl hB) _⟩
  exact step _ _ _ (step _ _ _ (step _ _ _ (step _ _ _ (step _ _ _ (step _ _ _ (step _ _ _ (step _ _ _ (step _ _ _ h))))))))

set_option maxHeartbeats 1000000 in
theorem rowOn_up (g : Gr) (h : OkG g) (b cap : Nat) (w : World) (hS : Scr w b g.n g.f) (hc : g.n ≤ cap) (hrow : g.row = g.bottom - 1) (x : Gr) (hx : x = rowOnG g) : Calls Try.prog 88 #[gval g (some ⟨b, 0, none⟩) cap] w (GEnd w b cap x) := by
  have hlt := hS.lt
  have HS : Hid (Scr w b g.n g.f) := hS
  have HH : Hid (OkG g) := h
  have HC : Hid (g.n ≤ cap) := hc
  have hb0 : 1 ≤ g.bottom := by have := h.t1; have := h.t2; omega
  have hb1 : g.bottom ≤ 10 := by have := h.t3; have := h.h2; omega
  have HX : Hid (x.f = (rowOnG g).f) := by rw [hx]; rfl
  have HE : Hid (x = { g with f := x.f }) := by
    show x = _
    rw [hx]
    unfold rowOnG
    rw [if_pos hrow]
  clear hc hS h hx
  obtain ⟨wide, high, n, f, row, col, ink, bold, top, bottom⟩ := g
  simp only at hrow hb0 hb1
  subst hrow
  have H1 : Hid (∀ (o1 o2 o3 : Obj) (w2 : World), Scr w2 b n (rowOnG ⟨wide, high, n, f, bottom - 1, col, ink, bold, top, bottom⟩).f → (((w.alloc o1).alloc o2).alloc o3).drew.grownBy w2 (some b) → Scr w2 b n x.f ∧ w.grownBy w2 (some b) ∧ w2.heap[w.heap.size]? = some o1 ∧ w2.heap[w.heap.size + 1]? = some o2) := by
    intro o1 o2 o3 w2 h1 h2
    refine ⟨by rw [HX.out]; exact h1, grown_trans (grown_drew (grown_alloc (grown_alloc (grown_alloc (grown_refl _ _) _) _) _)) h2, ?_, ?_⟩
    · exact grown_block h2 (at_old (at_old (at_new w _) _) _) (by simp; omega)
    · exact grown_block h2 (at_old (at_new1 w _ _) _) (by simp; omega)
  clear HX
  go_enter Try.func88, Try.ntmps88
  go_wp2_with fail
  go_region_held3 (fun w' => w'.cell? ⟨w.heap.size, 0, none⟩ = some (.int .i64 wide) ∧ w'.cell? ⟨w.heap.size, 1, none⟩ = some (.int .i64 high) ∧ w'.cell? ⟨w.heap.size, 2, none⟩ = some (.slice (some ⟨b, 0, none⟩) n cap) ∧ w'.cell? ⟨w.heap.size, 3, none⟩ = some (.int .i64 (bottom - 1)) ∧ w'.cell? ⟨w.heap.size, 4, none⟩ = some (.int .i64 col) ∧ w'.cell? ⟨w.heap.size, 5, none⟩ = some (.int .i64 ink) ∧ w'.cell? ⟨w.heap.size, 6, none⟩ = some (.bool bold) ∧ w'.cell? ⟨w.heap.size, 7, none⟩ = some (.int .i64 top) ∧ w'.cell? ⟨w.heap.size, 8, none⟩ = some (.int .i64 bottom)) (first | go_keep | (simp [*, World.cell?_alloc_past]))
    (first
    | (go_at_call 64; refine (rows_scroll _ HH.out b cap _ HC.out).mono ?_; rintro e w1 ⟨rfl, rfl⟩)
    | (go_at_call 94; refine (up_scroll _ HH.out b cap _ (Scr.drew (HS.out.alloc _ |>.alloc _ |>.alloc _)) HC.out rfl).mono ?_; rintro e w2 ⟨rfl, hS2, hg2⟩; obtain ⟨k1, k2, k3, k4⟩ := H1.out _ _ _ w2 hS2 hg2; clear hS2 hg2; have K1 : Hid (Scr w2 b n x.f ∧ w.grownBy w2 (some b)) := ⟨k1, k2⟩; clear k1 k2; obtain ⟨⟨x0, x1, x2, x3, x4, x5, x6, x7, x8⟩, y⟩ := nine k3; obtain ⟨⟨u0, u1, u2, u3, u4, u5, u6, u7, u8⟩, v⟩ := nine k4; clear k3 k4))
  go_wp2
  refine bodyPost_ret (v := gval ⟨wide, high, n, x.f, bottom - 1, col, ink, bold, top, bottom⟩ (some ⟨b, 0, none⟩) cap) (by simp [results, Try.results88, go_sem, *]) rfl ?_
  have hE := HE.out
  rw [hE] at K1 ⊢
  exact ⟨rfl, fin9 K1.out (by omega) hlt _ _ _ _ _ _ _ _ _⟩

set_option maxHeartbeats 1000000 in
theorem rowOn_down (g : Gr) (h : OkG g) (b cap : Nat) (w : World) (hS : Scr w b g.n g.f) (hrow : ¬ g.row = g.bottom - 1) (x : Gr) (hx : x = rowOnG g) : Calls Try.prog 88 #[gval g (some ⟨b, 0, none⟩) cap] w (GEnd w b cap x) := by
  have hlt := hS.lt
  have HS : Hid (Scr w b g.n g.f) := hS
  have hb0 : 1 ≤ g.bottom := by have := h.t1; have := h.t2; omega
  have hb1 : g.bottom ≤ 10 := by have := h.t3; have := h.h2; omega
  have hr0 := h.r1
  have hr1 : g.row ≤ 10 := by have := h.r2; have := h.h2; omega
  have hh0 := h.h1
  have hh1 := h.h2
  have HE : Hid (x = { g with row := min (g.row + 1) (g.high - 1) }) := by
    show x = _
    rw [hx]
    unfold rowOnG
    rw [if_neg hrow]
  clear hS h hx
  obtain ⟨wide, high, n, f, row, col, ink, bold, top, bottom⟩ := g
  simp only at hrow hb0 hb1 hr0 hr1 hh0 hh1
  have hrow' : (row == bottom - 1) = false := by simp [hrow]
  clear hrow
  have fin : ∀ k : Int, k = min (row + 1) (high - 1) → Hid (x = ⟨wide, high, n, f, k, col, ink, bold, top, bottom⟩) := by
    intro k hk
    have := HE.out
    simp only [← hk] at this
    exact this
  have FIN : Hid (∀ k : Int, k = min (row + 1) (high - 1) → Hid (x = ⟨wide, high, n, f, k, col, ink, bold, top, bottom⟩)) := fin
  clear fin HE
  go_enter Try.func88, Try.ntmps88
  go_wp2
  · have hE := (FIN.out (high - 1) (by omega)).out
    refine bodyPost_ret (v := gval ⟨wide, high, n, f, high - 1, col, ink, bold, top, bottom⟩ (some ⟨b, 0, none⟩) cap) (by simp [results, Try.results88, go_sem]) rfl ?_
    rw [hE]
    exact ⟨rfl, (HS.out.alloc _).alloc _, grown_alloc (grown_alloc (grown_refl _ _) _) _⟩
  · have hE := (FIN.out (row + 1) (by omega)).out
    refine bodyPost_ret (v := gval ⟨wide, high, n, f, row + 1, col, ink, bold, top, bottom⟩ (some ⟨b, 0, none⟩) cap) (by simp [results, Try.results88, go_sem]) rfl ?_
    rw [hE]
    exact ⟨rfl, (HS.out.alloc _).alloc _, grown_alloc (grown_alloc (grown_refl _ _) _) _⟩

theorem rowOn_any (g : Gr) (h : OkG g) (b cap : Nat) (w : World) (hS : Scr w b g.n g.f) (hc : g.n ≤ cap) (x : Gr) (hx : x = rowOnG g) : Calls Try.prog 88 #[gval g (some ⟨b, 0, none⟩) cap] w (GEnd w b cap x) := by
  by_cases hrow : g.row = g.bottom - 1
  · exact rowOn_up g h b cap w hS hc hrow x hx
  · exact rowOn_down g h b cap w hS hrow x hx

end Go.Proofs.Yteenppbpjdldgaa
