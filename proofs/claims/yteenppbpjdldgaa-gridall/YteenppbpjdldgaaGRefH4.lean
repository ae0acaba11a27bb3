/- The document's own 'csi': the letters L and M. -/
import Derived.Test.YteenppbpjdldgaaGRefH2
import Derived.Test.YteenppbpjdldgaaGPrint
namespace Go.Proofs.Yteenppbpjdldgaa
open Go.RowKit

/-- The answer of 'roll' in the screen's own place. -/
def NBox (w : World) (b : Nat) (y : Gr) (wx : World) : Prop := ∃ b' cap', wx.heap[w.heap.size]? = some (gbox y (some ⟨b', 0, none⟩) cap') ∧ wx.heap[w.heap.size + 1]? = some gzero ∧ Scr wx b' y.n y.f ∧ y.n ≤ cap' ∧ (b' = b ∨ w.heap.size + 2 ≤ b') ∧ Below w.heap.size w wx

theorem nbox_of {w w2 : World} {b b' cap' cap : Nat} {y g : Gr} {ao : Option Addr} (hlt : b < w.heap.size) (hs : Scr w2 b' y.n y.f) (hc : y.n ≤ cap') (hb : b' = b ∨ ((w.alloc (gbox g ao cap)).alloc gzero).heap.size ≤ b') (hbel : Below ((w.alloc (gbox g ao cap)).alloc gzero).heap.size ((w.alloc (gbox g ao cap)).alloc gzero) w2) :
    NBox w b y (((((((((w2.setCell ⟨w.heap.size, 0, none⟩ (.int .i64 y.wide)).setCell ⟨w.heap.size, 1, none⟩ (.int .i64 y.high)).setCell ⟨w.heap.size, 2, none⟩ (.slice (some ⟨b', 0, none⟩) y.n cap')).setCell ⟨w.heap.size, 3, none⟩ (.int .i64 y.row)).setCell ⟨w.heap.size, 4, none⟩ (.int .i64 y.col)).setCell ⟨w.heap.size, 5, none⟩ (.int .i64 y.ink)).setCell ⟨w.heap.size, 6, none⟩ (.bool y.bold)).setCell ⟨w.heap.size, 7, none⟩ (.int .i64 y.top)).setCell ⟨w.heap.size, 8, none⟩ (.int .i64 y.bottom)) := by
  have hb2 : Below w.heap.size w w2 := (below2 w _ _).trans (hbel.mono (by simp; omega))
  have hb3 : b' = b ∨ w.heap.size + 2 ≤ b' := by simp at hb; omega
  exact ⟨b', cap', set9_same (below_block hbel (at_old (at_new w _) _) (by simp; omega)) _ _ _ _ _ _ _ _ _, set9_other (below_block hbel (at_new1 w _ _) (by simp)) (by omega) _ _ _ _ _ _ _ _ _, scr_set9 hs (by omega) _ _ _ _ _ _ _ _ _, hc, hb3, below_set9 hb2 (Nat.le_refl _) _ _ _ _ _ _ _ _ _⟩

theorem push_end {w wx : World} {b b' cap' : Nat} {y x : Gr} (hlt : b < w.heap.size) (hs : Scr wx b' y.n y.f) (hc : y.n ≤ cap') (hb : b' = b ∨ w.heap.size + 2 ≤ b') (hbel : Below w.heap.size w wx) (hx : x = { y with col := 0 }) (s9 u0 u1 u2 u3 u4 u5 u6 u7 u8 : Value) :
    GEndN w b x (.returned (gval x (some ⟨b', 0, none⟩) cap')) ((((((((((wx.setCell ⟨w.heap.size, 4, none⟩ s9).setCell ⟨w.heap.size + 1, 0, none⟩ u0).setCell ⟨w.heap.size + 1, 1, none⟩ u1).setCell ⟨w.heap.size + 1, 2, none⟩ u2).setCell ⟨w.heap.size + 1, 3, none⟩ u3).setCell ⟨w.heap.size + 1, 4, none⟩ u4).setCell ⟨w.heap.size + 1, 5, none⟩ u5).setCell ⟨w.heap.size + 1, 6, none⟩ u6).setCell ⟨w.heap.size + 1, 7, none⟩ u7).setCell ⟨w.heap.size + 1, 8, none⟩ u8) := by
  subst hx
  have h1 : Scr (wx.setCell ⟨w.heap.size, 4, none⟩ s9) b' y.n y.f := hs.set (by show w.heap.size ≠ b'; omega) _
  have h2 : Below w.heap.size w (wx.setCell ⟨w.heap.size, 4, none⟩ s9) := hbel.setCell (Nat.le_refl _) _
  exact ⟨b', cap', rfl, scr_set9 h1 (by omega) _ _ _ _ _ _ _ _ _, hc, Below.toGrown (below_set9 h2 (by omega) _ _ _ _ _ _ _ _ _) _, by omega⟩

set_option maxRecDepth 20000 in
set_option maxHeartbeats 4000000 in
theorem rcsiL (g : Gr) (h : OkG g) (b cap : Nat) (w : World) (hS : Scr w b g.n g.f) (hc : g.n ≤ cap) (lo : Option Addr) (ln lc : Nat) (p q : Int) (HN : Hid (GNums w lo ln lc p q)) (hp0 : 0 ≤ p) (hp9 : p ≤ 999) (m : Int) (hm : m = max p 1) (x : Gr) (hx : x = pushG g m downF) :
    Calls Try.prog 56 #[gval g (some ⟨b, 0, none⟩) cap, .int .i64 76, .slice lo ln lc] w (GEndN w b x) := by
  have hlt := hS.lt
  have HS : Hid (Scr w b g.n g.f ∧ g.n ≤ cap) := ⟨hS, hc⟩
  have hc0 := h.c1
  have hc1 := h.c2
  have hw0 := h.w1
  have hw1 := h.w2
  have hr0 := h.r1
  have hr2 := h.r2
  have hh0 := h.h1
  have hh1 := h.h2
  obtain ⟨q1, q2, q3, q4, _⟩ := h.nums
  obtain ⟨P, hP⟩ : ∃ P, P = g.row * g.wide := ⟨_, rfl⟩
  have hwrP : IntKind.i64.wrap (g.row * g.wide) = P := by rw [← hP, IntKind.wrap_i64]; omega
  have hP0 : 0 ≤ P := by omega
  have hP1 : P ≤ 240 := by omega
  have hmx : (if p < 1 then (1 : Int) else p) = m := by rw [max_if, hm]
  obtain ⟨k, hk⟩ : ∃ k, (if g.wide - 1 < g.col then g.wide - 1 else g.col) = k := ⟨_, rfl⟩
  have HKC : Hid (k = hereC g) := by show k = hereC g; rw [← hk]; unfold hereC; split <;> omega
  have hk0 : 0 ≤ k := by rw [← hk]; split <;> omega
  have hk1 : k ≤ 24 := by rw [← hk]; split <;> omega
  have hm1 : 1 ≤ m := by omega
  have hm9 : m ≤ 999 := by omega
  have ht1 := h.t1
  have ht2 := h.t2
  have ht3 := h.t3
  have HOUT : Hid ((g.row < g.top ∨ g.bottom ≤ g.row) → ∀ o1 o2 : Obj, GEndN w b x (.returned (.agg #[.int .i64 g.wide, .int .i64 g.high, .slice (some ⟨b, 0, none⟩) g.n cap, .int .i64 g.row, .int .i64 g.col, .int .i64 g.ink, .bool g.bold, .int .i64 g.top, .int .i64 g.bottom])) ((w.alloc o1).alloc o2)) := by
    intro ho o1 o2
    have e : x = g := by rw [hx]; unfold pushG; rw [if_pos ho]
    rw [e]
    exact ⟨b, cap, rfl, (HS.out.1.alloc _).alloc _, HS.out.2, grown_alloc (grown_alloc (grown_refl _ _) _) _, .inl rfl⟩
  by_cases ho1 : g.row < g.top
  · clear hS h hx hc q1 q2 q3 q4 hP hm hp0 hp9
    go_enter Try.func56, Try.ntmps56
    go_wp2_with (first
    | (go_at_call_of 77 (Value.int IntKind.i64 0); refine (HN.out _ (below2 _ _ _)).1.mono ?_; rintro e w1 ⟨rfl, rfl⟩)
    | (go_at_call_of 77 (Value.int IntKind.i64 1); refine (HN.out _ (below2 _ _ _)).2.mono ?_; rintro e w1 ⟨rfl, rfl⟩))
    refine bodyPost_ret (by simp [results, Try.results56, go_sem]; rfl) rfl ?_
    exact HOUT.out (.inl ho1) _ _
  by_cases ho2 : g.bottom ≤ g.row
  · have ho1' : g.top ≤ g.row := by omega
    clear ho1
    clear hS h hx hc q1 q2 q3 q4 hP hm hp0 hp9
    go_enter Try.func56, Try.ntmps56
    go_wp2_with (first
    | (go_at_call_of 77 (Value.int IntKind.i64 0); refine (HN.out _ (below2 _ _ _)).1.mono ?_; rintro e w1 ⟨rfl, rfl⟩)
    | (go_at_call_of 77 (Value.int IntKind.i64 1); refine (HN.out _ (below2 _ _ _)).2.mono ?_; rintro e w1 ⟨rfl, rfl⟩))
    refine bodyPost_ret (by simp [results, Try.results56, go_sem]; rfl) rfl ?_
    exact HOUT.out (.inr ho2) _ _
  have ho1' : g.top ≤ g.row := by omega
  have ho2' : g.row < g.bottom := by omega
  obtain ⟨fx, hfx⟩ : ∃ fx, fx = downF g.f (g.row * g.wide).toNat (g.bottom * g.wide).toNat (min m (g.bottom - g.row) * g.wide).toNat := ⟨_, rfl⟩
  obtain ⟨y, hy⟩ : ∃ y : Gr, y = ⟨g.wide, g.high, g.n, fx, g.row, g.col, g.ink, g.bold, g.top, g.bottom⟩ := ⟨_, rfl⟩
  have HRL : Hid (∀ w, Scr w b g.n g.f → Calls Try.prog 76 #[gval g (some ⟨b, 0, none⟩) cap, .int .i64 g.row, .int .i64 g.bottom, .int .i64 (-m)] w (NEnd w b y)) := by
    intro w hS
    rw [hy]
    refine roll_end g h b cap w hS hc g.row g.bottom (-m) hr0 (by omega) h.t3 (by omega) (by omega) _ ?_
    intro W H hW hH i hi
    obtain ⟨A, hA⟩ : ∃ A : Nat, g.row = A := ⟨g.row.toNat, by omega⟩
    obtain ⟨B, hB⟩ : ∃ B : Nat, g.bottom = B := ⟨g.bottom.toNat, by omega⟩
    obtain ⟨M, hM⟩ : ∃ M : Nat, m = M := ⟨m.toNat, by omega⟩
    have := roll_down g W H A B M (by omega) i hi
    rw [hfx, mul_nat hA hW, mul_nat hB hW, mul_nat (show min m (g.bottom - g.row) = ((min M (B - A) : Nat) : Int) by omega) hW, hA, hB, hM]
    exact this
  have HX : Hid (x = { y with col := 0 }) := by
    show x = _
    rw [hx, hy, hfx]; unfold pushG; rw [if_neg (by omega)]
  clear ho1 ho2 hy hfx
  clear hS h hx hc q1 q2 q3 q4 hP hm hp0 hp9
  go_enter Try.func56, Try.ntmps56
  go_upto_region 44 with (first
    | (go_at_call_of 77 (Value.int IntKind.i64 0); refine (HN.out _ (below2 _ _ _)).1.mono ?_; rintro e w1 ⟨rfl, rfl⟩)
    | (go_at_call_of 77 (Value.int IntKind.i64 1); refine (HN.out _ (below2 _ _ _)).2.mono ?_; rintro e w1 ⟨rfl, rfl⟩))
  go_cut [7] from 163 to 169 (fun _ wx => NBox w b y wx)
  case first =>
    go_wp2_with (first
    | (go_at_call 76; refine (HRL.out _ ((HS.out.1.alloc _).alloc _)).mono ?_; rintro e w2 ⟨b', cap', rfl, hs2, hc2, hb2, hl2⟩; obtain ⟨⟨s0, s1, s2, s3, s4, s5, s6, s7, s8⟩, sz⟩ := nine (below_block hl2 (at_old (at_new w _) _) (by simp; omega)); have HE : Hid (Scr w2 b' y.n y.f ∧ y.n ≤ cap' ∧ (b' = b ∨ ((w.alloc (gbox g (some ⟨b, 0, none⟩) cap)).alloc gzero).heap.size ≤ b') ∧ Below ((w.alloc (gbox g (some ⟨b, 0, none⟩) cap)).alloc gzero).heap.size ((w.alloc (gbox g (some ⟨b, 0, none⟩) cap)).alloc gzero) w2) := ⟨hs2, hc2, hb2, hl2⟩; clear hs2 hc2 hb2 hl2))
    go_meet
    obtain ⟨f1, f2, f3, f4⟩ := HE.out
    exact nbox_of hlt f1 f2 f3 f4
  case rest =>
    obtain ⟨b', cap', hbx, hrs, f1, f2, f3, f4⟩ := hcut
    have HE : Hid (Scr _ b' y.n y.f ∧ y.n ≤ cap' ∧ (b' = b ∨ w.heap.size + 2 ≤ b') ∧ Below w.heap.size w _) := ⟨f1, f2, f3, f4⟩
    obtain ⟨⟨x0, x1, x2, x3, x4, x5, x6, x7, x8⟩, z⟩ := nine hbx
    obtain ⟨⟨u0, u1, u2, u3, u4, u5, u6, u7, u8⟩, v⟩ := nine hrs
    clear hbx hrs f1 f2 f3 f4
    go_wp2
    refine bodyPost_ret (v := gval x (some ⟨b', 0, none⟩) cap') (by rw [HX.out]; simp [results, Try.results56, go_sem, *]) rfl ?_
    obtain ⟨f1, f2, f3, f4⟩ := HE.out
    exact push_end hlt f1 f2 f3 f4 HX.out _ _ _ _ _ _ _ _ _ _

set_option maxRecDepth 20000 in
set_option maxHeartbeats 4000000 in
theorem rcsiM (g : Gr) (h : OkG g) (b cap : Nat) (w : World) (hS : Scr w b g.n g.f) (hc : g.n ≤ cap) (lo : Option Addr) (ln lc : Nat) (p q : Int) (HN : Hid (GNums w lo ln lc p q)) (hp0 : 0 ≤ p) (hp9 : p ≤ 999) (m : Int) (hm : m = max p 1) (x : Gr) (hx : x = pushG g m upF) :
    Calls Try.prog 56 #[gval g (some ⟨b, 0, none⟩) cap, .int .i64 77, .slice lo ln lc] w (GEndN w b x) := by
  have hlt := hS.lt
  have HS : Hid (Scr w b g.n g.f ∧ g.n ≤ cap) := ⟨hS, hc⟩
  have hc0 := h.c1
  have hc1 := h.c2
  have hw0 := h.w1
  have hw1 := h.w2
  have hr0 := h.r1
  have hr2 := h.r2
  have hh0 := h.h1
  have hh1 := h.h2
  obtain ⟨q1, q2, q3, q4, _⟩ := h.nums
  obtain ⟨P, hP⟩ : ∃ P, P = g.row * g.wide := ⟨_, rfl⟩
  have hwrP : IntKind.i64.wrap (g.row * g.wide) = P := by rw [← hP, IntKind.wrap_i64]; omega
  have hP0 : 0 ≤ P := by omega
  have hP1 : P ≤ 240 := by omega
  have hmx : (if p < 1 then (1 : Int) else p) = m := by rw [max_if, hm]
  obtain ⟨k, hk⟩ : ∃ k, (if g.wide - 1 < g.col then g.wide - 1 else g.col) = k := ⟨_, rfl⟩
  have HKC : Hid (k = hereC g) := by show k = hereC g; rw [← hk]; unfold hereC; split <;> omega
  have hk0 : 0 ≤ k := by rw [← hk]; split <;> omega
  have hk1 : k ≤ 24 := by rw [← hk]; split <;> omega
  have hm1 : 1 ≤ m := by omega
  have hm9 : m ≤ 999 := by omega
  have ht1 := h.t1
  have ht2 := h.t2
  have ht3 := h.t3
  have HOUT : Hid ((g.row < g.top ∨ g.bottom ≤ g.row) → ∀ o1 o2 : Obj, GEndN w b x (.returned (.agg #[.int .i64 g.wide, .int .i64 g.high, .slice (some ⟨b, 0, none⟩) g.n cap, .int .i64 g.row, .int .i64 g.col, .int .i64 g.ink, .bool g.bold, .int .i64 g.top, .int .i64 g.bottom])) ((w.alloc o1).alloc o2)) := by
    intro ho o1 o2
    have e : x = g := by rw [hx]; unfold pushG; rw [if_pos ho]
    rw [e]
    exact ⟨b, cap, rfl, (HS.out.1.alloc _).alloc _, HS.out.2, grown_alloc (grown_alloc (grown_refl _ _) _) _, .inl rfl⟩
  by_cases ho1 : g.row < g.top
  · clear hS h hx hc q1 q2 q3 q4 hP hm hp0 hp9
    go_enter Try.func56, Try.ntmps56
    go_wp2_with (first
    | (go_at_call_of 77 (Value.int IntKind.i64 0); refine (HN.out _ (below2 _ _ _)).1.mono ?_; rintro e w1 ⟨rfl, rfl⟩)
    | (go_at_call_of 77 (Value.int IntKind.i64 1); refine (HN.out _ (below2 _ _ _)).2.mono ?_; rintro e w1 ⟨rfl, rfl⟩))
    refine bodyPost_ret (by simp [results, Try.results56, go_sem]; rfl) rfl ?_
    exact HOUT.out (.inl ho1) _ _
  by_cases ho2 : g.bottom ≤ g.row
  · have ho1' : g.top ≤ g.row := by omega
    clear ho1
    clear hS h hx hc q1 q2 q3 q4 hP hm hp0 hp9
    go_enter Try.func56, Try.ntmps56
    go_wp2_with (first
    | (go_at_call_of 77 (Value.int IntKind.i64 0); refine (HN.out _ (below2 _ _ _)).1.mono ?_; rintro e w1 ⟨rfl, rfl⟩)
    | (go_at_call_of 77 (Value.int IntKind.i64 1); refine (HN.out _ (below2 _ _ _)).2.mono ?_; rintro e w1 ⟨rfl, rfl⟩))
    refine bodyPost_ret (by simp [results, Try.results56, go_sem]; rfl) rfl ?_
    exact HOUT.out (.inr ho2) _ _
  have ho1' : g.top ≤ g.row := by omega
  have ho2' : g.row < g.bottom := by omega
  obtain ⟨fx, hfx⟩ : ∃ fx, fx = upF g.f (g.row * g.wide).toNat (g.bottom * g.wide).toNat (min m (g.bottom - g.row) * g.wide).toNat := ⟨_, rfl⟩
  obtain ⟨y, hy⟩ : ∃ y : Gr, y = ⟨g.wide, g.high, g.n, fx, g.row, g.col, g.ink, g.bold, g.top, g.bottom⟩ := ⟨_, rfl⟩
  have HRL : Hid (∀ w, Scr w b g.n g.f → Calls Try.prog 76 #[gval g (some ⟨b, 0, none⟩) cap, .int .i64 g.row, .int .i64 g.bottom, .int .i64 m] w (NEnd w b y)) := by
    intro w hS
    rw [hy]
    refine roll_end g h b cap w hS hc g.row g.bottom m hr0 (by omega) h.t3 (by omega) (by omega) _ ?_
    intro W H hW hH i hi
    obtain ⟨A, hA⟩ : ∃ A : Nat, g.row = A := ⟨g.row.toNat, by omega⟩
    obtain ⟨B, hB⟩ : ∃ B : Nat, g.bottom = B := ⟨g.bottom.toNat, by omega⟩
    obtain ⟨M, hM⟩ : ∃ M : Nat, m = M := ⟨m.toNat, by omega⟩
    have := roll_up g W H A B M (by omega) i hi
    rw [hfx, mul_nat hA hW, mul_nat hB hW, mul_nat (show min m (g.bottom - g.row) = ((min M (B - A) : Nat) : Int) by omega) hW, hA, hB, hM]
    exact this
  have HX : Hid (x = { y with col := 0 }) := by
    show x = _
    rw [hx, hy, hfx]; unfold pushG; rw [if_neg (by omega)]
  clear ho1 ho2 hy hfx
  clear hS h hx hc q1 q2 q3 q4 hP hm hp0 hp9
  go_enter Try.func56, Try.ntmps56
  go_upto_region 44 with (first
    | (go_at_call_of 77 (Value.int IntKind.i64 0); refine (HN.out _ (below2 _ _ _)).1.mono ?_; rintro e w1 ⟨rfl, rfl⟩)
    | (go_at_call_of 77 (Value.int IntKind.i64 1); refine (HN.out _ (below2 _ _ _)).2.mono ?_; rintro e w1 ⟨rfl, rfl⟩))
  go_cut [7] from 163 to 169 (fun _ wx => NBox w b y wx)
  case first =>
    go_wp2_with (first
    | (go_at_call 76; refine (HRL.out _ ((HS.out.1.alloc _).alloc _)).mono ?_; rintro e w2 ⟨b', cap', rfl, hs2, hc2, hb2, hl2⟩; obtain ⟨⟨s0, s1, s2, s3, s4, s5, s6, s7, s8⟩, sz⟩ := nine (below_block hl2 (at_old (at_new w _) _) (by simp; omega)); have HE : Hid (Scr w2 b' y.n y.f ∧ y.n ≤ cap' ∧ (b' = b ∨ ((w.alloc (gbox g (some ⟨b, 0, none⟩) cap)).alloc gzero).heap.size ≤ b') ∧ Below ((w.alloc (gbox g (some ⟨b, 0, none⟩) cap)).alloc gzero).heap.size ((w.alloc (gbox g (some ⟨b, 0, none⟩) cap)).alloc gzero) w2) := ⟨hs2, hc2, hb2, hl2⟩; clear hs2 hc2 hb2 hl2))
    go_meet
    obtain ⟨f1, f2, f3, f4⟩ := HE.out
    exact nbox_of hlt f1 f2 f3 f4
  case rest =>
    obtain ⟨b', cap', hbx, hrs, f1, f2, f3, f4⟩ := hcut
    have HE : Hid (Scr _ b' y.n y.f ∧ y.n ≤ cap' ∧ (b' = b ∨ w.heap.size + 2 ≤ b') ∧ Below w.heap.size w _) := ⟨f1, f2, f3, f4⟩
    obtain ⟨⟨x0, x1, x2, x3, x4, x5, x6, x7, x8⟩, z⟩ := nine hbx
    obtain ⟨⟨u0, u1, u2, u3, u4, u5, u6, u7, u8⟩, v⟩ := nine hrs
    clear hbx hrs f1 f2 f3 f4
    go_wp2
    refine bodyPost_ret (v := gval x (some ⟨b', 0, none⟩) cap') (by rw [HX.out]; simp [results, Try.results56, go_sem, *]) rfl ?_
    obtain ⟨f1, f2, f3, f4⟩ := HE.out
    exact push_end hlt f1 f2 f3 f4 HX.out _ _ _ _ _ _ _ _ _ _

end Go.Proofs.Yteenppbpjdldgaa
