/- What 'number', 'scrolling' and 'inked' answer. -/
import Derived.Test.YtpichplhidiokacGreatDoorGDones
namespace Go.Proofs.YtpichplhidiokacGreatDoor
open Go.RowKit

set_option maxHeartbeats 400000 in
theorem number_any (l : List Int) (ao : Option Addr) (cap i : Nat) (w : World) (hr : RdL w ao l) (hi : i ≤ 1) :
    Calls Tryz.prog 128 #[.slice ao l.length cap, .int .i64 i] w fun e w' => e = .returned (.int .i64 (numP l i)) ∧ w' = w := by
  by_cases h : i < l.length
  · obtain ⟨b, off, rfl, hc⟩ := hr.resolve_left (fun e => by rw [e] at h; simp at h)
    have t := hc i h
    obtain ⟨y, hy⟩ : ∃ y, y = l.getD i 0 := ⟨_, rfl⟩
    rw [← hy] at t
    have HX : Hid (numP l i = max 0 (min y 999)) := by show numP l i = _; rw [hy]; rfl
    have hlt : (i : Int) < (l.length : Int) := by omega
    have hi0 : (0 : Int) ≤ (i : Int) := by omega
    clear hc hy hr h hi
    go_enter Tryz.func128, Tryz.ntmps128
    go_wp2_with (go_at_call 77; refine (within_any _ _ _ _).mono ?_; rintro e w1 ⟨rfl, rfl⟩)
    go_ret
    exact ⟨by rw [HX.out]; rfl, rfl⟩
  · have HX : Hid (numP l i = 0) := by
      show numP l i = 0
      unfold numP
      rw [List.getD_eq_getElem?_getD, List.getElem?_eq_none (by omega)]
      rfl
    have hge : (l.length : Int) ≤ (i : Int) := by omega
    clear h hr
    go_enter Tryz.func128, Tryz.ntmps128
    go_wp2
    go_ret
    exact ⟨by rw [HX.out]; rfl, rfl⟩

theorem numP_bound (l : List Int) (i : Nat) : 0 ≤ numP l i ∧ numP l i ≤ 999 := by unfold numP; omega

/-- A screen's function that writes its own boxes alone has ended. -/
def GPlain (w : World) (x : Gr) (ao : Option Addr) (cap : Nat) (e : Ending) (w' : World) : Prop := e = .returned (gval x ao cap) ∧ Below w.heap.size w w'

set_option maxHeartbeats 1000000 in
theorem scrolling_any (g : Gr) (ao : Option Addr) (cap : Nat) (n q : Int) (w : World) (hn0 : 1 ≤ n) (hn1 : n ≤ 999) (hq0 : 0 ≤ q) (hq1 : q ≤ 999) (x : Gr) (hx : x = scrollG g n q) :
    Calls Tryz.prog 134 #[gval g ao cap, .int .i64 n, .int .i64 q] w (GPlain w x ao cap) := by
  have HX : Hid (x = scrollG g n q) := hx
  have HB : Hid (∀ o1 o2 : Obj, Below w.heap.size w ((w.alloc o1).alloc o2)) := fun o1 o2 => (below1 _ _).alloc (by simp) _
  clear hx
  by_cases h0 : q = 0 ∨ g.high < q
  · have HB2 : Hid (botN g q = g.high) := by show botN g q = _; unfold botN; rw [if_pos h0]
    have hc : q = 0 ∨ (¬ q = 0 ∧ g.high < q) := by omega
    clear h0
    by_cases hle : n ≤ g.high
    · have HE : Hid (x = { g with top := n - 1, bottom := g.high, row := 0, col := 0 }) := by
        show x = _
        rw [HX.out]; unfold scrollG; rw [HB2.out, if_pos hle]
      rcases hc with rfl | ⟨hq, hqh⟩
      · go_enter Tryz.func134, Tryz.ntmps134
        go_wp2
        refine bodyPost_ret (v := gval { g with top := n - 1, bottom := g.high, row := 0, col := 0 } ao cap) (by simp [results, Tryz.results134, go_sem]) rfl ?_
        rw [HE.out]
        exact ⟨rfl, HB.out _ _⟩
      · have hqe : (q == 0) = false := by simp [hq]
        clear hq
        go_enter Tryz.func134, Tryz.ntmps134
        go_wp2
        refine bodyPost_ret (v := gval { g with top := n - 1, bottom := g.high, row := 0, col := 0 } ao cap) (by simp [results, Tryz.results134, go_sem]) rfl ?_
        rw [HE.out]
        exact ⟨rfl, HB.out _ _⟩
    · have HE : Hid (x = g) := by
        show x = _
        rw [HX.out]; unfold scrollG; rw [HB2.out, if_neg hle]
      have hgt : g.high < n := by omega
      rcases hc with rfl | ⟨hq, hqh⟩
      · go_enter Tryz.func134, Tryz.ntmps134
        go_wp2
        refine bodyPost_ret (v := gval g ao cap) (by simp [results, Tryz.results134, go_sem]) rfl ?_
        rw [HE.out]
        exact ⟨rfl, HB.out _ _⟩
      · have hqe : (q == 0) = false := by simp [hq]
        clear hq
        go_enter Tryz.func134, Tryz.ntmps134
        go_wp2
        refine bodyPost_ret (v := gval g ao cap) (by simp [results, Tryz.results134, go_sem]) rfl ?_
        rw [HE.out]
        exact ⟨rfl, HB.out _ _⟩
  · have HB2 : Hid (botN g q = q) := by show botN g q = _; unfold botN; rw [if_neg h0]
    have hqe : (q == 0) = false := by simp; omega
    have hqh : q ≤ g.high := by omega
    clear h0
    by_cases hle : n ≤ q
    · have HE : Hid (x = { g with top := n - 1, bottom := q, row := 0, col := 0 }) := by
        show x = _
        rw [HX.out]; unfold scrollG; rw [HB2.out, if_pos hle]
      go_enter Tryz.func134, Tryz.ntmps134
      go_wp2
      refine bodyPost_ret (v := gval { g with top := n - 1, bottom := q, row := 0, col := 0 } ao cap) (by simp [results, Tryz.results134, go_sem]) rfl ?_
      rw [HE.out]
      exact ⟨rfl, HB.out _ _⟩
    · have HE : Hid (x = g) := by
        show x = _
        rw [HX.out]; unfold scrollG; rw [HB2.out, if_neg hle]
      have hgt : q < n := by omega
      go_enter Tryz.func134, Tryz.ntmps134
      go_wp2
      refine bodyPost_ret (v := gval g ao cap) (by simp [results, Tryz.results134, go_sem]) rfl ?_
      rw [HE.out]
      exact ⟨rfl, HB.out _ _⟩

/-- The box holds a screen, the result's box nothing yet; what is old is as it was. -/
structure Box9 (w : World) (x : Gr) (ao : Option Addr) (cap : Nat) (wr : World) : Prop where
  box : wr.heap[w.heap.size]? = some (gbox x ao cap)
  res : wr.heap[w.heap.size + 1]? = some gzero
  below : Below w.heap.size w wr

theorem Box9.ink {w : World} {x : Gr} {ao : Option Addr} {cap : Nat} {wr : World} (h : Box9 w x ao cap wr) (k : Int) : Box9 w { x with ink := k } ao cap (wr.setCell ⟨w.heap.size, 5, none⟩ (.int .i64 k)) := by
  have h1 := heap_setCell_same wr w.heap.size 5 _ _ (.int .i64 k) h.box
  exact ⟨h1, other_set h.res (by omega), h.below.setCell (Nat.le_refl _) _⟩
theorem Box9.bold {w : World} {x : Gr} {ao : Option Addr} {cap : Nat} {wr : World} (h : Box9 w x ao cap wr) (k : Bool) : Box9 w { x with bold := k } ao cap (wr.setCell ⟨w.heap.size, 6, none⟩ (.bool k)) := by
  have h1 := heap_setCell_same wr w.heap.size 6 _ _ (.bool k) h.box
  exact ⟨h1, other_set h.res (by omega), h.below.setCell (Nat.le_refl _) _⟩

theorem ink_snoc {g : Gr} {l : List Int} {k : Nat} (hk : k < l.length) : inkG g (l.take (k + 1)) = ink1 (inkG g (l.take k)) (l.getD k 0) := by
  unfold inkG
  rw [List.take_succ_eq_append_getElem hk, List.foldl_append]
  simp [List.getD_eq_getElem?_getD, List.getElem?_eq_getElem hk]

set_option maxHeartbeats 2000000 in
theorem inked_any (g : Gr) (ao : Option Addr) (cap : Nat) (l : List Int) (lo : Option Addr) (lc : Nat) (w : World) (hr : RdL w lo l) (hl : l.length ≤ 140737488355328) (x : Gr) (hx : x = inkG g l) :
    Calls Tryz.prog 133 #[gval g ao cap, .slice lo l.length lc] w (GPlain w x ao cap) := by
  have HR : Hid (RdL w lo l) := hr
  have HX : Hid (x = inkG g l) := hx
  clear hr hx
  go_enter Tryz.func133, Tryz.ntmps133
  go_wp2
  go_loopw [9] (fun i wr => ∃ k : Nat, k ≤ l.length ∧ i = .int .i64 k ∧ Box9 w (inkG g (l.take k)) ao cap wr) (fun i _ => l.length - (intOf i).toNat)
  case atStart => exact ⟨0, Nat.zero_le _, rfl, at_old (at_new w _) _, at_new1 w _ _, (below1 _ _).alloc (by simp) _⟩
  case round =>
    obtain ⟨k, hk, rfl, hb⟩ := hrel
    obtain ⟨x0, hx0⟩ : ∃ x0, x0 = inkG g (l.take k) := ⟨_, rfl⟩
    rw [← hx0] at hb
    have HB : Hid (Box9 w x0 ao cap wr) := hb
    by_cases hlt : k < l.length
    · obtain ⟨b, off, rfl, hc⟩ := (HR.out.below hb.below).resolve_left (fun e => by rw [e] at hlt; simp at hlt)
      have t := hc k hlt
      obtain ⟨y, hy⟩ : ∃ y, y = l.getD k 0 := ⟨_, rfl⟩
      rw [← hy] at t
      have HN : Hid (inkG g (l.take (k + 1)) = ink1 x0 y) := by show inkG g (l.take (k + 1)) = _; rw [hx0, hy]; exact ink_snoc hlt
      obtain ⟨⟨x0', x1, x2, x3, x4, x5, x6, x7, x8⟩, z⟩ := nine hb.box
      have hlt' : (k : Int) < (l.length : Int) := by omega
      have hk0 : (0 : Int) ≤ (k : Int) := by omega
      clear hc hy hb hx0
      by_cases h0 : y = 0
      · subst h0
        go_wp2
        go_roundw
        case rel => exact ⟨k + 1, by omega, by go_num, by rw [HN.out]; exact (HB.out.ink 0).bold false⟩
        case measure => simp [intOf]; omega
      by_cases h1 : y = 1
      · subst h1
        go_wp2
        go_roundw
        case rel => exact ⟨k + 1, by omega, by go_num, by rw [HN.out]; exact HB.out.bold true⟩
        case measure => simp [intOf]; omega
      by_cases h2 : y = 22
      · subst h2
        go_wp2
        go_roundw
        case rel => exact ⟨k + 1, by omega, by go_num, by rw [HN.out]; exact HB.out.bold false⟩
        case measure => simp [intOf]; omega
      by_cases h4 : y = 39
      · subst h4
        go_wp2
        go_roundw
        case rel => exact ⟨k + 1, by omega, by go_num, by rw [HN.out]; exact HB.out.ink 0⟩
        case measure => simp [intOf]; omega
      have e0 : (y == 0) = false := by simp [h0]
      have e1 : (y == 1) = false := by simp [h1]
      have e2 : (y == 22) = false := by simp [h2]
      have e4 : (y == 39) = false := by simp [h4]
      by_cases h3 : 30 ≤ y ∧ y ≤ 37
      · have HN2 : Hid (inkG g (l.take (k + 1)) = { x0 with ink := y - 29 }) := by
          show inkG g (l.take (k + 1)) = _
          rw [HN.out]; unfold ink1; rw [if_neg h0, if_neg h1, if_neg h2, if_pos h3]
        obtain ⟨h31, h32⟩ := h3
        clear h0 h1 h2 h4
        go_wp2
        go_roundw
        case rel => exact ⟨k + 1, by omega, by go_num, by rw [HN2.out]; exact HB.out.ink (y - 29)⟩
        case measure => simp [intOf]; omega
      · have HN2 : Hid (inkG g (l.take (k + 1)) = x0) := by
          show inkG g (l.take (k + 1)) = _
          rw [HN.out]; unfold ink1; rw [if_neg h0, if_neg h1, if_neg h2, if_neg h3, if_neg h4]
        by_cases h31 : 30 ≤ y
        · have h32 : 37 < y := by omega
          clear h0 h1 h2 h4 h3
          go_wp2
          go_roundw
          case rel => exact ⟨k + 1, by omega, by go_num, by rw [HN2.out]; exact HB.out⟩
          case measure => simp [intOf]; omega
        · have h31' : y < 30 := by omega
          clear h0 h1 h2 h4 h3 h31
          go_wp2
          go_roundw
          case rel => exact ⟨k + 1, by omega, by go_num, by rw [HN2.out]; exact HB.out⟩
          case measure => simp [intOf]; omega
    · have HE : Hid (x = x0) := by
        show x = x0
        rw [HX.out, hx0, List.take_of_length_le (by omega)]
      obtain ⟨⟨x0', x1, x2, x3, x4, x5, x6, x7, x8⟩, z⟩ := nine hb.box
      obtain ⟨⟨u0, u1, u2, u3, u4, u5, u6, u7, u8⟩, v⟩ := nine hb.res
      clear hb hx0
      go_wp2
      refine bodyPost_ret (v := gval x0 ao cap) (by simp [results, Tryz.results133, go_sem, *]) rfl ?_
      rw [HE.out]
      exact ⟨rfl, below_set9 HB.out.below (by omega) _ _ _ _ _ _ _ _ _⟩

end Go.Proofs.YtpichplhidiokacGreatDoor
