/- What 'Resize' answers, at any screen. -/
import Derived.Test.YteenppbpjdldgaaGResize2
namespace Go.Proofs.Yteenppbpjdldgaa
open Go.RowKit

theorem ok_res {g : Gr} (h : OkG g) (wide high : Int) : OkG (resG g wide high) := by
  have k := ok_new wide high
  have := k.h1
  have := k.w1
  have := h.r1
  have := h.c1
  have hw : (newG wide high).wide ≠ 0 := by omega
  refine ⟨k.w1, k.w2, k.h1, k.h2, k.size, fun i hi => ?_, ?_, ?_, ?_, ?_, h.i1, h.i2, k.t1, k.t2, k.t3⟩
  · show goodC (resF g _ i) = true
    unfold resF atG
    split
    · next hh =>
      have hp := Int.mul_nonneg hh.2.2.1 (show 0 ≤ g.wide by omega)
      exact h.cells _ (by omega)
    · exact goodC_no
  · show 0 ≤ min g.row ((newG wide high).high - 1); omega
  · show min g.row ((newG wide high).high - 1) < (newG wide high).high; omega
  · show 0 ≤ min g.col ((newG wide high).wide - 1); omega
  · show min g.col ((newG wide high).wide - 1) ≤ (newG wide high).wide; omega

theorem atG_res {g : Gr} (h : OkG g) (wide high : Int) {r c : Int} (h1 : 0 ≤ r) (h2 : r < (resG g wide high).high) (h3 : 0 ≤ c) (h4 : c < (resG g wide high).wide) : atG (resG g wide high) r c = atG g r c := by
  obtain ⟨e, k1, _⟩ := atG_good (ok_res h wide high) h1 h2 h3 h4
  rw [e]
  show resF g _ _ = _
  unfold resF
  have hd := div_row (r := r) (c := c) (w := (resG g wide high).wide) h3 h4
  have e2 : (((r * (resG g wide high).wide + c).toNat : Nat) : Int) = r * (resG g wide high).wide + c := Int.toNat_of_nonneg k1
  rw [e2]
  show atG g ((r * (resG g wide high).wide + c) / (resG g wide high).wide) ((r * (resG g wide high).wide + c) % (resG g wide high).wide) = _
  rw [hd.1, hd.2]

/-- What 'Resize' answers. -/
def resR (g : Gr) (wide high : Int) : Gr × Int := if goodG g then (resG g wide high, 0) else (g, 1)

theorem resize_any (g : Gr) (ao : Option Addr) (cap : Nat) (wide high : Int) (w : World) (hr : RdS w ao g.n g.f) (hn : ao = none → g.n = 0 ∧ cap = 0) (hm : g.n ≤ 4398046511104) (hc : g.n ≤ cap) (r : Gr × Int) (hrr : r = resR g wide high) :
    Calls Try.prog 33 #[gval g ao cap, .int .i64 wide, .int .i64 high] w (AllEnd w r) := by
  unfold resR at hrr
  cases hg : goodG g
  · rw [hg] at hrr
    rw [hrr]
    exact resize_bad g ao cap wide high w hr hn hm hg
  · rw [hg] at hrr
    rw [hrr]
    have ok := (goodG_iff g).1 hg
    have hpos : 0 < g.n := by
      have h1 := ok.size
      have h2 : 1 * g.high ≤ g.wide * g.high := mul_mono ok.w1 (by have := ok.h1; omega)
      have := ok.h1
      omega
    obtain ⟨b0, off, rfl, _⟩ := hr.resolve_left (by omega)
    exact resize_good g ok b0 off cap wide high w hr hc _ rfl

end Go.Proofs.Yteenppbpjdldgaa
