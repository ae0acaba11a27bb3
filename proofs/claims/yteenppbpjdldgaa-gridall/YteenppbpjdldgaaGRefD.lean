/- What the document's own 'CellAt' answers. -/
import Derived.Test.YteenppbpjdldgaaGResize
namespace Go.Proofs.Yteenppbpjdldgaa
open Go.RowKit

set_option maxHeartbeats 1000000 in
theorem cellAt_out (g : Gr) (ao : Option Addr) (cap : Nat) (r c : Int) (w : World) (hh : ¬ (g.wide ≤ 24 ∧ g.high ≤ 10 ∧ 0 ≤ r ∧ r < g.high ∧ 0 ≤ c ∧ c < g.wide)) :
    Calls Try.prog 38 #[gval g ao cap, .int .i64 r, .int .i64 c] w fun e w' => e = .returned (cval noCel) ∧ Below w.heap.size w w' := by
  by_cases c1' : 24 < g.wide
  · clear hh
    go_enter Try.func38, Try.ntmps38
    go_wp2
    exact bodyPost_ret (v := cval noCel) (by simp [results, Try.results38, go_sem, noCel]) rfl ⟨rfl, below2 _ _ _⟩
  have c1 : g.wide ≤ 24 := by omega
  clear c1'
  by_cases c2' : 10 < g.high
  · clear hh
    go_enter Try.func38, Try.ntmps38
    go_wp2
    exact bodyPost_ret (v := cval noCel) (by simp [results, Try.results38, go_sem, noCel]) rfl ⟨rfl, below2 _ _ _⟩
  have c2 : g.high ≤ 10 := by omega
  clear c2'
  by_cases c3' : r < 0
  · clear hh
    go_enter Try.func38, Try.ntmps38
    go_wp2
    exact bodyPost_ret (v := cval noCel) (by simp [results, Try.results38, go_sem, noCel]) rfl ⟨rfl, below2 _ _ _⟩
  have c3 : 0 ≤ r := by omega
  clear c3'
  by_cases c4' : g.high ≤ r
  · clear hh
    go_enter Try.func38, Try.ntmps38
    go_wp2
    exact bodyPost_ret (v := cval noCel) (by simp [results, Try.results38, go_sem, noCel]) rfl ⟨rfl, below2 _ _ _⟩
  have c4 : r < g.high := by omega
  clear c4'
  by_cases c5' : c < 0
  · clear hh
    go_enter Try.func38, Try.ntmps38
    go_wp2
    exact bodyPost_ret (v := cval noCel) (by simp [results, Try.results38, go_sem, noCel]) rfl ⟨rfl, below2 _ _ _⟩
  have c5 : 0 ≤ c := by omega
  clear c5'
  by_cases c6' : g.wide ≤ c
  · clear hh
    go_enter Try.func38, Try.ntmps38
    go_wp2
    exact bodyPost_ret (v := cval noCel) (by simp [results, Try.results38, go_sem, noCel]) rfl ⟨rfl, below2 _ _ _⟩
  have c6 : c < g.wide := by omega
  clear c6'
  exact absurd ⟨c1, c2, c3, c4, c5, c6⟩ hh

theorem below_alloc1 {B : Nat} {a w : World} (h : Below B a w) (hB : B ≤ w.heap.size) (o : Obj) : Below B a (w.alloc o) := h.alloc hB o

set_option maxRecDepth 2000 in
set_option maxHeartbeats 2000000 in
theorem cellAt_in (g : Gr) (ao : Option Addr) (cap : Nat) (r c : Int) (w : World) (hr : RdS w ao g.n g.f) (hm : g.n ≤ 4398046511104) (c1 : g.wide ≤ 24) (c2 : g.high ≤ 10) (c3 : 0 ≤ r) (c4 : r < g.high) (c5 : 0 ≤ c) (c6 : c < g.wide) :
    Calls Try.prog 38 #[gval g ao cap, .int .i64 r, .int .i64 c] w fun e w' => e = .returned (cval (atG g r c)) ∧ Below w.heap.size w w' := by
  have HR : Hid (RdS w ao g.n g.f) := hr
  have hq := mul_bound c3 c4 (w := g.wide) (by omega)
  obtain ⟨P, hP⟩ : ∃ P : Nat, r * g.wide + c = P := ⟨(r * g.wide + c).toNat, by omega⟩
  have HYES : Hid (P < g.n → atG g r c = g.f P) := fun h => by
    unfold atG
    rw [if_pos ⟨c1, c2, c3, c4, c5, c6, by omega⟩]
    congr 1
    omega
  have HNO : Hid (g.n ≤ P → atG g r c = noCel) := fun h => atG_no (by omega)
  have hw1 : 1 ≤ g.wide := by omega
  have HDV : Hid (∀ k : Nat, ((k : Int) / g.wide = r ∧ (k : Int) % g.wide = c) ↔ k = P) := by
    intro k
    constructor
    · rintro ⟨e1, e2⟩
      have := Int.mul_ediv_add_emod (k : Int) g.wide
      rw [e1, e2, Int.mul_comm] at this
      omega
    · rintro rfl
      have hd := div_row (r := r) (c := c) (w := g.wide) c5 c6
      rw [← hP]
      exact hd
  have hw0 : ¬ g.wide = 0 := by omega
  have hw00 : (g.wide == 0) = false := by simp [hw0]
  clear hr hq hP
  go_enter Try.func38, Try.ntmps38
  go_wp2
  go_loopw [40] (fun i wr => ∃ k : Nat, k ≤ g.n ∧ k ≤ P ∧ i = .int .i64 k ∧ Below w.heap.size w wr ∧ wr.heap[w.heap.size]? = some (gbox g ao cap) ∧ wr.heap[w.heap.size + 1]? = some (.cells #[.int .i64 0, .int .i64 0, .int .i64 0, .bool false] 49)) (fun i _ => g.n - (intOf i).toNat)
  case atStart => exact ⟨0, Nat.zero_le _, Nat.zero_le _, rfl, below2 _ _ _, at_old (at_new w _) _, at_new1 w _ _⟩
  case round =>
    obtain ⟨k, hk, hkP, rfl, hb, hbx, hrs⟩ := hrel
    have HB : Hid (Below w.heap.size w wr ∧ wr.heap[w.heap.size]? = some (gbox g ao cap) ∧ wr.heap[w.heap.size + 1]? = some (.cells #[.int .i64 0, .int .i64 0, .int .i64 0, .bool false] 49)) := ⟨hb, hbx, hrs⟩
    obtain ⟨⟨x0, x1, x2, x3, x4, x5, x6, x7, x8⟩, z⟩ := nine hbx
    obtain ⟨⟨u0, u1, u2, u3⟩, v⟩ := four hrs
    have hsz : w.heap.size + 1 < wr.heap.size := (Array.getElem?_eq_some_iff.1 hrs).1
    have hsz0 : w.heap.size < wr.heap.size := by omega
    have hne : wr.heap.size ≠ w.heap.size + 1 := by omega
    by_cases hlt : k < g.n
    · obtain ⟨b, off, rfl, hc⟩ := (HR.out.below hb).resolve_left (by omega)
      obtain ⟨t0, t1, t2, t3⟩ := hc k hlt
      have hlt' : (k : Int) < (g.n : Int) := by omega
      have hk0 : (0 : Int) ≤ (k : Int) := by omega
      obtain ⟨y, hy⟩ : ∃ y, y = g.f k := ⟨_, rfl⟩
      rw [← hy] at t0 t1 t2 t3
      have hbl := World.block_lt_of_cell? _ _ t0
      simp only at hbl
      obtain ⟨q, hq⟩ : ∃ q, (k : Int) / g.wide = q := ⟨_, rfl⟩
      obtain ⟨m, hmm⟩ : ∃ m, (k : Int) % g.wide = m := ⟨_, rfl⟩
      have hqt : (k : Int).tdiv g.wide = q := by rw [Int.tdiv_eq_ediv_of_nonneg hk0]; exact hq
      have hmt : (k : Int).tmod g.wide = m := by rw [Int.tmod_eq_emod_of_nonneg hk0]; exact hmm
      have hd := HDV.out k
      rw [hq, hmm] at hd
      have hq0 : 0 ≤ q := by rw [← hq]; exact Int.ediv_nonneg hk0 (by omega)
      have hq1 : q ≤ 140737488355328 := by
        rw [← hq]
        have := Int.ediv_le_self g.wide hk0
        omega
      clear hc hb hbx hrs
      by_cases hkp : k = P
      · obtain ⟨e1, e2⟩ := hd.2 hkp
        have e1' : (q == r) = true := by simp [e1]
        have e2' : (m == c) = true := by simp [e2]
        have HX : Hid (atG g r c = y) := by
          show atG g r c = y
          rw [HYES.out (by omega), hy, hkp]
        clear hd hy hkp e1 e2
        go_wp2
        refine bodyPost_ret (v := cval y) (by simp [results, Try.results38, go_sem, *]) rfl ?_
        rw [HX.out]
        obtain ⟨h1, h2, h3⟩ := HB.out
        exact ⟨rfl, ((((h1.setCell (by simp) _).setCell (by simp) _).setCell (by simp) _).setCell (by simp) _).alloc (by have := h1.size; simp; omega) _⟩
      · have hkl : k < P := by omega
        by_cases e1 : q = r
        · have e2 : ¬ m = c := fun e => hkp (hd.1 ⟨e1, e⟩)
          have e1' : (q == r) = true := by simp [e1]
          have e2' : (m == c) = false := by simp [e2]
          clear hd hy e1 e2 hkp
          go_wp2
          go_roundw
          case rel =>
            obtain ⟨h1, h2, h3⟩ := HB.out
            exact ⟨k + 1, by omega, by omega, by go_num, h1.alloc h1.size _, at_old h2 _, at_old h3 _⟩
          case measure => simp [intOf]; omega
        · have e1' : (q == r) = false := by simp [e1]
          clear hd hy e1 hkp
          go_wp2
          go_roundw
          case rel =>
            obtain ⟨h1, h2, h3⟩ := HB.out
            exact ⟨k + 1, by omega, by omega, by go_num, h1.alloc h1.size _, at_old h2 _, at_old h3 _⟩
          case measure => simp [intOf]; omega
    · have hge : (g.n : Int) ≤ (k : Int) := by omega
      have HX : Hid (atG g r c = noCel) := HNO.out (by omega)
      clear hb hbx hrs
      go_wp2
      refine bodyPost_ret (v := cval noCel) (by simp [results, Try.results38, go_sem, noCel, *]) rfl ?_
      rw [HX.out]
      obtain ⟨h1, h2, h3⟩ := HB.out
      exact ⟨rfl, (((h1.setCell (by simp) _).setCell (by simp) _).setCell (by simp) _).setCell (by simp) _⟩

theorem cellAt_any (g : Gr) (ao : Option Addr) (cap : Nat) (r c : Int) (w : World) (hr : RdS w ao g.n g.f) (hm : g.n ≤ 4398046511104) :
    Calls Try.prog 38 #[gval g ao cap, .int .i64 r, .int .i64 c] w fun e w' => e = .returned (cval (atG g r c)) ∧ Below w.heap.size w w' := by
  by_cases h : g.wide ≤ 24 ∧ g.high ≤ 10 ∧ 0 ≤ r ∧ r < g.high ∧ 0 ≤ c ∧ c < g.wide
  · exact cellAt_in g ao cap r c w hr hm h.1 h.2.1 h.2.2.1 h.2.2.2.1 h.2.2.2.2.1 h.2.2.2.2.2
  · rw [atG_no (fun k => h ⟨k.1, k.2.1, k.2.2.1, k.2.2.2.1, k.2.2.2.2.1, k.2.2.2.2.2.1⟩)]
    exact cellAt_out g ao cap r c w h

end Go.Proofs.Yteenppbpjdldgaa
