/- What 'goodCells' and 'Good' answer; they change nothing. -/
import Derived.Test.YtpichplhidiokacGreatDoorGGood
namespace Go.Proofs.YtpichplhidiokacGreatDoor
open Go.RowKit

/-! Good. -/
theorem cellsB_no {g : Gr} (h : (g.n : Int) ≠ g.wide * g.high) : cellsB g = false := by simp [cellsB, h]
theorem cellsB_yes {g : Gr} (h : (g.n : Int) = g.wide * g.high) : cellsB g = upToB g.f g.n := by simp [cellsB, h]
theorem upToB_no {f : Nat → Cel} {n k : Nat} (hk : k < n) (h : goodC (f k) = false) : upToB f n = false := by
  cases hu : upToB f n
  · rfl
  · rw [(upToB_iff f n).1 hu k hk] at h
    cases h

set_option maxHeartbeats 1000000 in
theorem goodCells_any (g : Gr) (ao : Option Addr) (cap : Nat) (w : World) (hr : RdS w ao g.n g.f) (hs : sidesB g = true) (hm : (g.n : Int) ≤ 9223372036854775807) :
    Calls Tryz.prog 62 #[gval g ao cap] w fun e w' => e = .returned (.bool (cellsB g)) ∧ Below w.heap.size w w' := by
  have hs' : 1 ≤ g.wide ∧ g.wide ≤ 24 ∧ 1 ≤ g.high ∧ g.high ≤ 10 := by simpa [sidesB] using hs
  have hpos : 0 ≤ g.wide * g.high := Int.mul_nonneg (by omega) (by omega)
  have hmax : g.wide * g.high ≤ 240 := by
    have h1 : g.wide * g.high ≤ 24 * g.high := mul_mono hs'.2.1 (by omega)
    omega
  have hwr : IntKind.i64.wrap (g.wide * g.high) = g.wide * g.high := by rw [IntKind.wrap_i64]; omega
  by_cases hn : (g.n : Int) = g.wide * g.high
  · obtain ⟨G, hG⟩ : ∃ G, G = cellsB g := ⟨_, rfl⟩
    have HG : Hid (G = upToB g.f g.n) := by rw [hG]; exact cellsB_yes hn
    rw [← hG]
    have HR : Hid (RdS w ao g.n g.f) := hr
    have hwr2 : IntKind.i64.wrap (g.wide * g.high) = (g.n : Int) := by rw [hwr]; exact hn.symm
    clear hG hr hs hs' hpos hmax hwr hn
    go_enter Tryz.func62, Tryz.ntmps62
    go_wp2
    go_loopw [17] (fun i wr => ∃ k : Nat, k ≤ g.n ∧ i = .int .i64 k ∧ Below w.heap.size w wr ∧ upToB g.f k = true) (fun i _ => g.n - (intOf i).toNat)
    case atStart => exact ⟨0, Nat.zero_le _, rfl, below1 _ _, rfl⟩
    case round =>
      obtain ⟨k, hk, rfl, hb, hu⟩ := hrel
      have HU : Hid (upToB g.f k = true) := hu
      have HB : Hid (Below w.heap.size w wr) := hb
      clear hu
      by_cases hlt : k < g.n
      · obtain ⟨b, off, rfl, hc⟩ : ∃ b off, ao = some ⟨b, off, none⟩ ∧ ∀ i, i < g.n → wr.cell? ⟨b, off + i * 4, none⟩ = some (.int .i64 (g.f i).ch) ∧ wr.cell? ⟨b, off + i * 4 + 1, none⟩ = some (.int .i64 (g.f i).ink) ∧ wr.cell? ⟨b, off + i * 4 + 2, none⟩ = some (.int .i64 (g.f i).pic) ∧ wr.cell? ⟨b, off + i * 4 + 3, none⟩ = some (.bool (g.f i).bold) := by
          rcases HR.out.below hb with h0 | h0
          · omega
          · exact h0
        obtain ⟨t0, t1, t2, t3⟩ := hc k hlt
        have hbl := World.block_lt_of_cell? _ _ t0
        simp only at hbl
        have hlt' : (k : Int) < (g.n : Int) := by omega
        have hk0 : (0 : Int) ≤ (k : Int) := by omega
        obtain ⟨y, hy⟩ : ∃ y, y = g.f k := ⟨_, rfl⟩
        rw [← hy] at t0 t1 t2 t3
        obtain ⟨q, hq⟩ : ∃ q, q = goodC y := ⟨_, rfl⟩
        have HQ : Hid (q = goodC (g.f k)) := by rw [← hy]; exact hq
        have HC : Hid (∀ w, Calls Tryz.prog 89 #[.agg #[.int .i64 y.ch, .int .i64 y.ink, .int .i64 y.pic, .bool y.bold]] w fun e w' => e = .returned (.bool q) ∧ Below w.heap.size w w') := fun w => by rw [hq]; exact goodCell_any y w
        clear hc hb hy hq
        cases q
        · go_wp2_with (go_at_call 89; refine (HC.out _).mono ?_; rintro e w1 ⟨rfl, hb1⟩; have HB1 : Hid (Below w.heap.size w w1) := (HB.out.alloc HB.out.size _).trans (hb1.mono (by simp; have := HB.out.size; omega)); clear hb1)
          go_ret
          exact ⟨by rw [HG.out, upToB_no hlt HQ.out.symm]; rfl, HB1.out⟩
        · go_wp2_with (go_at_call 89; refine (HC.out _).mono ?_; rintro e w1 ⟨rfl, hb1⟩; have HB1 : Hid (Below w.heap.size w w1) := (HB.out.alloc HB.out.size _).trans (hb1.mono (by simp; have := HB.out.size; omega)); clear hb1)
          go_roundw
          case rel => exact ⟨k + 1, by omega, by go_num, HB1.out, by rw [upToB_succ, HU.out, ← HQ.out]; rfl⟩
          case measure => simp [intOf]; omega
      · obtain rfl : k = g.n := by omega
        clear hb
        go_wp2
        go_ret
        exact ⟨by rw [HG.out, HU.out]; rfl, HB.out⟩
  · have hne : ((g.n : Int) == g.wide * g.high) = false := by simp [hn]
    have HG : Hid (cellsB g = false) := cellsB_no hn
    clear hn hr hs hs' hpos hmax
    go_enter Tryz.func62, Tryz.ntmps62
    go_wp2
    go_ret
    exact ⟨by rw [HG.out]; rfl, below1 _ _⟩

set_option maxHeartbeats 1000000 in
theorem good_any (g : Gr) (ao : Option Addr) (cap : Nat) (w : World) (hr : RdS w ao g.n g.f) (hm : (g.n : Int) ≤ 9223372036854775807) (G : Bool) (hG : G = goodG g) :
    Calls Tryz.prog 35 #[gval g ao cap] w fun e w' => e = .returned (.bool G) ∧ Below w.heap.size w w' := by
  have HG : Hid (G = (sidesB g && cellsB g && cursorB g && decide (0 ≤ g.top ∧ g.top < g.bottom ∧ g.bottom ≤ g.high))) := hG
  have HR : Hid (RdS w ao g.n g.f) := hr
  clear hG hr
  obtain ⟨s, hs⟩ : ∃ s, s = sidesB g := ⟨_, rfl⟩
  have HS : Hid (∀ w, Calls Tryz.prog 61 #[gval g ao cap] w fun e w' => e = .returned (.bool s) ∧ w' = w.alloc (gbox g ao cap)) := fun w => by rw [hs]; exact goodSides_any g ao cap w
  rw [← hs] at HG
  cases s
  · clear hs hm HR
    go_enter Tryz.func35, Tryz.ntmps35
    go_wp2_with (go_at_call 61; refine (HS.out _).mono ?_; rintro e w1 ⟨rfl, rfl⟩)
    go_ret
    exact ⟨ret_bool (by rw [HG.out]; rfl), (below1 _ _).alloc (by simp) _⟩
  have HM : Hid ((g.n : Int) ≤ 9223372036854775807) := hm
  have HSB : Hid (sidesB g = true) := hs.symm
  clear hm hs
  obtain ⟨c, hc⟩ : ∃ c, c = cellsB g := ⟨_, rfl⟩
  have HC : Hid (∀ w, RdS w ao g.n g.f → Calls Tryz.prog 62 #[gval g ao cap] w fun e w' => e = .returned (.bool c) ∧ Below w.heap.size w w') := fun w hr => by rw [hc]; exact goodCells_any g ao cap w hr HSB.out HM.out
  rw [← hc] at HG
  clear hc
  have HB2 : Hid (∀ o1 o2 : Obj, Below w.heap.size w ((w.alloc o1).alloc o2)) := fun o1 o2 => (below1 _ _).alloc (by simp) _
  cases c
  · go_enter Tryz.func35, Tryz.ntmps35
    go_wp2_with (first
      | (go_at_call 61; refine (HS.out _).mono ?_; rintro e w1 ⟨rfl, rfl⟩)
      | (go_at_call 62; refine (HC.out _ (HR.out.below (HB2.out _ _))).mono ?_; rintro e w1 ⟨rfl, hb1⟩; have HB1 : Hid (Below w.heap.size w w1) := (HB2.out _ _).trans (hb1.mono (by simp; omega)); clear hb1))
    go_ret
    exact ⟨ret_bool (by rw [HG.out]; rfl), HB1.out⟩
  obtain ⟨u, hu⟩ : ∃ u, u = cursorB g := ⟨_, rfl⟩
  have HUC : Hid (∀ w, Calls Tryz.prog 63 #[gval g ao cap] w fun e w' => e = .returned (.bool u) ∧ w' = w.alloc (gbox g ao cap)) := fun w => by rw [hu]; exact goodCursor_any g ao cap w
  rw [← hu] at HG
  clear hu
  cases u
  all_goals (
    go_enter Tryz.func35, Tryz.ntmps35
    go_wp2_with (first
      | (go_at_call 61; refine (HS.out _).mono ?_; rintro e w1 ⟨rfl, rfl⟩)
      | (go_at_call 63; refine (HUC.out _).mono ?_; rintro e w2 ⟨rfl, rfl⟩)
      | (go_at_call 62; refine (HC.out _ (HR.out.below (HB2.out _ _))).mono ?_; rintro e w1 ⟨rfl, hb1⟩; have HB1 : Hid (Below w.heap.size w w1) := (HB2.out _ _).trans (hb1.mono (by simp; omega)); have hz := hb1.size; obtain ⟨⟨x0, x1, x2, x3, x4, x5, x6, x7, x8⟩, y⟩ := nine (below_block hb1 (at_old (at_new w _) _) (by simp; omega)); have hz2 : w.heap.size < w1.heap.size := (by simp at hz; omega); clear hb1 hz)))
  all_goals (go_ret; refine ⟨ret_bool ?_, HB1.out.alloc (by omega) _⟩; rw [HG.out])
  all_goals (first | rfl | (simp; done) | (rw [Bool.eq_iff_iff]; simp only [Bool.true_and, Bool.and_true, decide_eq_true_eq, Bool.false_eq_true, false_iff]; omega))

end Go.Proofs.YtpichplhidiokacGreatDoor
