/- Words for the laws of screens: two screens in their boxes; places of cells in numbers. -/
import Derived.Test.YteenppbpjdldgaaGShows
import Derived.Test.YteenppbpjdldgaaGDone2
namespace Go.Proofs.Yteenppbpjdldgaa
open Go.RowKit

theorem idx_inj {r r' c c' w : Int} (h1 : 0 ≤ c) (h2 : c < w) (h3 : 0 ≤ c') (h4 : c' < w) (h : r * w + c = r' * w + c') : r = r' ∧ c = c' := by
  have hw : 0 ≤ w := by omega
  rcases Int.lt_trichotomy r r' with hlt | he | hgt
  · have h5 : (r + 1) * w ≤ r' * w := mul_mono (by omega) hw
    rw [Int.add_mul] at h5
    omega
  · subst he
    exact ⟨rfl, by omega⟩
  · have h5 : (r' + 1) * w ≤ r * w := mul_mono (by omega) hw
    rw [Int.add_mul] at h5
    omega

theorem atG_good {g : Gr} (h : OkG g) {r c : Int} (h1 : 0 ≤ r) (h2 : r < g.high) (h3 : 0 ≤ c) (h4 : c < g.wide) : atG g r c = g.f (r * g.wide + c).toNat ∧ 0 ≤ r * g.wide + c ∧ r * g.wide + c < g.n := by
  obtain ⟨q1, q2, _⟩ := h.nums
  have hb := mul_bound h1 h2 (w := g.wide) (by omega)
  refine ⟨?_, by omega, by omega⟩
  unfold atG
  rw [if_pos ⟨h.w2, h.h2, h1, h2, h3, h4, by omega⟩]

theorem idx_lt {r t c w : Int} (h1 : 0 ≤ c) (h2 : c < w) : r * w + c < t * w ↔ r < t := by
  have hw : 0 ≤ w := by omega
  constructor
  · intro h
    by_cases h3 : r < t
    · exact h3
    · have := mul_mono (r := t) (h := r) (by omega) hw
      omega
  · intro h
    have h5 : (r + 1) * w ≤ t * w := mul_mono (by omega) hw
    rw [Int.add_mul] at h5
    omega

/-- What holds in the midst of the law: the two screens' boxes. -/
structure Two (w : World) (g x : Gr) (ao ax : Option Addr) (cap cx B : Nat) (wr : World) : Prop where
  one : wr.heap[w.heap.size]? = some (gbox g ao cap)
  two : wr.heap[B]? = some (gbox x ax cx)
  rg : RdS wr ao g.n g.f
  rx : RdS wr ax x.n x.f
  below : Below w.heap.size w wr
  lt1 : w.heap.size < wr.heap.size
  lt2 : B < wr.heap.size

theorem Two.later {w : World} {g x : Gr} {ao ax : Option Addr} {cap cx B : Nat} {wr w' : World} (h : Two w g x ao ax cap cx B wr) (hb : Below wr.heap.size wr w') : Two w g x ao ax cap cx B w' :=
  ⟨below_block hb h.one h.lt1, below_block hb h.two h.lt2, h.rg.below hb, h.rx.below hb, h.below.trans (hb.mono h.below.size), Nat.lt_of_lt_of_le h.lt1 hb.size, Nat.lt_of_lt_of_le h.lt2 hb.size⟩

theorem Two.drew {w : World} {g x : Gr} {ao ax : Option Addr} {cap cx B : Nat} {wr : World} (h : Two w g x ao ax cap cx B wr) : Two w g x ao ax cap cx B wr.drew :=
  ⟨h.one, h.two, h.rg, h.rx, h.below.drew, h.lt1, h.lt2⟩

theorem two_of {w w2 : World} {g x : Gr} {ao ax : Option Addr} {cap cx : Nat} {o : Obj} (hr : RdS w ao g.n g.f) (ho : o = gbox g ao cap) (h : Copied (w.alloc o) x.n x.f ax cx w2) : Two w g x ao ax cap cx w2.heap.size (w2.alloc (gbox x ax cx)) := by
  have hb : Below w.heap.size w w2 := below_up h.2.2
  have hsz : w.heap.size + 1 ≤ w2.heap.size := by have := h.2.2.size; simpa using this
  exact ⟨at_old (below_block h.2.2 (ho ▸ at_new w o) (by simp)) _, at_new _ _, (hr.below hb).below (below1 _ _), h.1.below (below1 _ _), hb.alloc hb.size _, by simp; omega, by simp⟩

theorem set4_same {w : World} {B : Nat} {c0 c1 c2 c3 : Value} {t : TypeId} (h : w.heap[B]? = some (.cells #[c0, c1, c2, c3] t (0, 0))) (u0 u1 u2 u3 : Value) :
    ((((w.setCell ⟨B, 0, none⟩ u0).setCell ⟨B, 1, none⟩ u1).setCell ⟨B, 2, none⟩ u2).setCell ⟨B, 3, none⟩ u3).heap[B]? = some (.cells #[u0, u1, u2, u3] t (0, 0)) := by
  have h0 : (w.setCell ⟨B, 0, none⟩ u0).heap[B]? = some (.cells #[u0, c1, c2, c3] t (0, 0)) := heap_setCell_same _ B 0 _ t u0 h
  have h1 : ((w.setCell ⟨B, 0, none⟩ u0).setCell ⟨B, 1, none⟩ u1).heap[B]? = some (.cells #[u0, u1, c2, c3] t (0, 0)) := heap_setCell_same _ B 1 _ t u1 h0
  have h2 : (((w.setCell ⟨B, 0, none⟩ u0).setCell ⟨B, 1, none⟩ u1).setCell ⟨B, 2, none⟩ u2).heap[B]? = some (.cells #[u0, u1, u2, c3] t (0, 0)) := heap_setCell_same _ B 2 _ t u2 h1
  exact heap_setCell_same _ B 3 _ t u3 h2

theorem two_of2 {w w2 : World} {g x : Gr} {ao ax : Option Addr} {cap cx : Nat} {o o2 : Obj} (hr : RdS w ao g.n g.f) (ho : o = gbox g ao cap) (h : Copied ((w.alloc o).alloc o2) x.n x.f ax cx w2) : Two w g x ao ax cap cx w2.heap.size (w2.alloc (gbox x ax cx)) := by
  have hb : Below w.heap.size w w2 := (below2 w o o2).trans (h.2.2.mono (by simp; omega))
  have hsz : w.heap.size + 2 ≤ w2.heap.size := by have := h.2.2.size; simpa using this
  exact ⟨at_old (below_block h.2.2 (ho ▸ at_old (at_new w o) o2) (by simp; omega)) _, at_new _ _, (hr.below hb).below (below1 _ _), h.1.below (below1 _ _), hb.alloc hb.size _, by simp; omega, by simp⟩

theorem act_cases {g : Gr} {e : Evt} {r : Gr × Int} (hr : r = actG g e) : (r.2 ≠ 0 ∧ r.1 = g) ∨ (OkG g ∧ checkE e = 0 ∧ r = (doneG g e, 0)) := by
  unfold actG at hr
  cases hg : goodG g
  · left; rw [hg] at hr; rw [hr]; exact ⟨by simp, rfl⟩
  · rw [hg] at hr
    by_cases hc : checkE e = 0
    · right
      rw [if_pos rfl, if_pos hc] at hr
      exact ⟨(goodG_iff g).1 hg, hc, hr⟩
    · left
      rw [if_pos rfl, if_neg hc] at hr
      rw [hr]
      exact ⟨hc, rfl⟩

end Go.Proofs.Yteenppbpjdldgaa
