/- Words for what 'Feed' has in memory at each round's head, and what one byte's step does to it. -/
import Derived.Test.YticjkfhhpilkmaaFold
namespace Go.Proofs.Yticjkfhhpilkmaa
open Go.RowKit

abbrev Item := Ev × Option Addr × Nat
def cellsOf (x : Item) : List Value := [.int .i64 x.1.kind, .int .i64 x.1.b, .slice x.2.1 x.1.ps.length x.2.2, .string x.1.pl]
def allCells (l : List Item) : List Value := l.flatMap cellsOf

/-- The events lie in memory, in a row of the call's own, and the numbers of each. -/
structure Told (base : Nat) (w : World) (tq : Option Addr) (tc : Nat) (evs : List Item) : Prop where
  row : w.ownsRow base 37 4 (.slice tq evs.length tc) evs.length (allCells evs)
  each : ∀ x ∈ evs, Own base w x.2.1 x.2.2 x.1.ps

theorem gcell {W w1 : World} {row : Option Nat} (hg : W.grownBy w1 row) : (∀ b o, b < W.heap.size → some b ≠ row → w1.cell? ⟨b, o, none⟩ = W.cell? ⟨b, o, none⟩) ∧ (∀ b o, b < W.heap.size → some b ≠ row → w1.frozen? ⟨b, o, none⟩ = W.frozen? ⟨b, o, none⟩) :=
  ⟨fun b o h hne => World.cell?_of_block (a := ⟨b, o, none⟩) (hg.block b h hne), fun b o h hne => World.frozen?_of_block (a := ⟨b, o, none⟩) (hg.block b h hne)⟩

/-- What holds at each round's head. -/
structure FInv (B : Nat) (w wr : World) (s0 : PS) (l : List UInt8) (ao : Option Addr) (cap : Nat) (tq : Option Addr) (tc : Nat) (evs : List Item) : Prop where
  below : Below B w wr
  size : B + 2 ≤ wr.heap.size
  box : wr.heap[B]? = some (.cells #[.int .i64 (feedS s0 l).place, .slice ao (feedS s0 l).ps.length cap, .string (feedS s0 l).pl, .bool (feedS s0 l).lg] 24 (0, 0))
  res : wr.heap[B + 1]? = some (.cells #[.int .i64 0, .slice none 0 0, .string ⟨#[]⟩, .bool false] 24 (0, 0))
  own : Own (B + 2) wr ao cap (feedS s0 l).ps
  told : Told (B + 2) wr tq tc evs
  says : evs.map (·.1) = feedE s0 l
  apart : ∀ x ∈ evs, blk x.2.1 = none ∨ blk x.2.1 ≠ blk ao

/-- Behind one byte's step, its results laid in two new variables. -/
def Mid (B : Nat) (wr wx : World) (a : Option Addr) (r : PS × Ev) (s9 s10 : Value) : Prop :=
  ∃ g9 g10 a3 c3 p3 pc3, s9 = .pointer (some ⟨g9, 0, none⟩) ∧ s10 = .pointer (some ⟨g10, 0, none⟩) ∧ wr.heap.size ≤ g9 ∧ wr.heap.size ≤ g10 ∧
    wx.heap[g9]? = some (.cells #[.int .i64 r.1.place, .slice a3 r.1.ps.length c3, .string r.1.pl, .bool r.1.lg] 24 (0, 0)) ∧
    wx.heap[g10]? = some (.cells #[.int .i64 r.2.kind, .int .i64 r.2.b, .slice p3 r.2.ps.length pc3, .string r.2.pl] 37 (0, 0)) ∧ Stepped (B + 2) wr a r a3 c3 p3 pc3 wx

/-- The ending of 'Feed'. -/
def FeedEnd (w : World) (s0 : PS) (s : ByteArray) (e : Ending) (w' : World) : Prop :=
  Below w.heap.size w w' ∧
  (goodB s0 = false → ∃ ao' cap', e = .returned (.tuple #[.agg #[.int .i64 s0.place, .slice ao' s0.ps.length cap', .string s0.pl, .bool s0.lg], .slice none 0 0, .int .i64 1]) ∧ Own w.heap.size w' ao' cap' s0.ps) ∧
  (goodB s0 = true → ∃ ao' cap' tq tc evs, e = .returned (.tuple #[.agg #[.int .i64 (feedS s0 s.data.toList).place, .slice ao' (feedS s0 s.data.toList).ps.length cap', .string (feedS s0 s.data.toList).pl, .bool (feedS s0 s.data.toList).lg], .slice tq (List.length (α := Item) evs) tc, .int .i64 0]) ∧
    Own w.heap.size w' ao' cap' (feedS s0 s.data.toList).ps ∧ Told w.heap.size w' tq tc evs ∧ evs.map (·.1) = feedE s0 s.data.toList)

/-- The box behind the clone's store. -/
theorem box_set {w : World} {B : Nat} {x0 x1 x2 x3 u : Value} {t : TypeId} (h : w.heap[B]? = some (.cells #[x0, x1, x2, x3] t (0, 0))) : (w.setCell ⟨B, 1, none⟩ u).heap[B]? = some (.cells #[x0, u, x2, x3] t (0, 0)) := by
  rw [heap_setCell_same w B 1 _ t u h]; rfl
theorem other_set {w : World} {B b : Nat} {o : Obj} {u : Value} {j : Nat} (h : w.heap[b]? = some o) (hne : b ≠ B) : (w.setCell ⟨B, j, none⟩ u).heap[b]? = some o := by
  rw [Below.heap_setCell _ _ _ _ hne]; exact h

theorem row_mono {base base' : Nat} {w : World} {e : TypeId} {sz : Nat} {v : Value} {n : Nat} {xs : List Value} (h : w.ownsRow base e sz v n xs) (hb : base' ≤ base) : w.ownsRow base' e sz v n xs := by
  refine ⟨h.1, ?_⟩
  rcases h.2 with hn | ⟨g, c, cur, hv, hg, rest⟩
  · exact .inl hn
  · exact .inr ⟨g, c, cur, hv, by omega, rest⟩
theorem own_mono {base base' : Nat} {w : World} {ao : Option Addr} {cap : Nat} {l : List Int} (h : Own base w ao cap l) (hb : base' ≤ base) : Own base' w ao cap l := row_mono h hb
theorem told_mono {base base' : Nat} {w : World} {tq : Option Addr} {tc : Nat} {evs : List Item} (h : Told base w tq tc evs) (hb : base' ≤ base) : Told base' w tq tc evs :=
  ⟨row_mono h.row hb, fun x hx => own_mono (h.each x hx) hb⟩

theorem wrap_byte (c : UInt8) : IntKind.i64.wrap (c.toNat : Int) = (c.toNat : Int) := by
  have := c.toNat_lt
  rw [IntKind.wrap_i64]
  omega

theorem told_set {base : Nat} {w : World} {tq : Option Addr} {tc : Nat} {evs : List Item} (h : Told base w tq tc evs) {p : Addr} (hp : p.block < base) (u : Value) : Told base (w.setCell p u) tq tc evs :=
  ⟨ownsRow_setCell_below h.row hp u, fun x hx => ownsRow_setCell_below (h.each x hx) hp u⟩
theorem own_setb {base : Nat} {w : World} {ao : Option Addr} {cap : Nat} {l : List Int} (h : Own base w ao cap l) {p : Addr} (hp : p.block < base) (u : Value) : Own base (w.setCell p u) ao cap l := ownsRow_setCell_below h hp u

theorem feed_finish {w wr : World} {s0 : PS} {s : ByteArray} {k : Nat} {a : Option Addr} {c : Nat} {tq : Option Addr} {tc : Nat} {evs : List Item} {st : PS} (h : FInv w.heap.size w wr s0 (s.data.toList.take k) a c tq tc evs) (hk : ¬ k < s.size) (hg : goodB s0 = true)
    (hst : st = feedS s0 (s.data.toList.take k)) (u0 u1 u2 u3 : Value) :
    FeedEnd w s0 s (.returned (.tuple #[.agg #[.int .i64 st.place, .slice a st.ps.length c, .string st.pl, .bool st.lg], .slice tq evs.length tc, .int .i64 0]))
      ((((wr.setCell ⟨w.heap.size + 1, 0, none⟩ u0).setCell ⟨w.heap.size + 1, 1, none⟩ u1).setCell ⟨w.heap.size + 1, 2, none⟩ u2).setCell ⟨w.heap.size + 1, 3, none⟩ u3) := by
  have e : s.data.toList.take k = s.data.toList := List.take_of_length_le (by simp; omega)
  rw [e] at h hst
  subst hst
  refine ⟨?_, fun h' => absurd (hg.symm.trans h') (by decide), fun _ => ⟨a, c, tq, tc, evs, rfl, ?_, ?_, h.says⟩⟩
  · exact (((h.below.setCell (by simp) _).setCell (by simp) _).setCell (by simp) _).setCell (by simp) _
  · refine own_mono (base := w.heap.size + 2) ?_ (by omega)
    iterate 4 (refine own_setb ?_ (by simp) _)
    exact h.own
  · refine told_mono (base := w.heap.size + 2) ?_ (by omega)
    iterate 4 (refine told_set ?_ (by simp) _)
    exact h.told


/-! Behind the step: the two new variables, made ahead of the call or behind it. -/
theorem set4 {w : World} {b : Nat} {c0 c1 c2 c3 : Value} {t : TypeId} (h : w.heap[b]? = some (.cells #[c0, c1, c2, c3] t (0, 0))) (u0 u1 u2 u3 : Value) :
    ((((w.setCell ⟨b, 0, none⟩ u0).setCell ⟨b, 1, none⟩ u1).setCell ⟨b, 2, none⟩ u2).setCell ⟨b, 3, none⟩ u3).heap[b]? = some (.cells #[u0, u1, u2, u3] t (0, 0)) := by
  have h0 := heap_setCell_same w b 0 _ t u0 h
  have h1 := heap_setCell_same _ b 1 _ t u1 h0
  have h2 := heap_setCell_same _ b 2 _ t u2 h1
  have h3 := heap_setCell_same _ b 3 _ t u3 h2
  rw [h3]
  rfl
theorem other4 {w : World} {b b' : Nat} {o : Obj} (h : w.heap[b']? = some o) (hne : b' ≠ b) (u0 u1 u2 u3 : Value) :
    ((((w.setCell ⟨b, 0, none⟩ u0).setCell ⟨b, 1, none⟩ u1).setCell ⟨b, 2, none⟩ u2).setCell ⟨b, 3, none⟩ u3).heap[b']? = some o :=
  other_set (other_set (other_set (other_set h hne) hne) hne) hne

theorem st_fresh {base : Nat} {wx w3 : World} {a : Option Addr} {r : PS × Ev} {a3 : Option Addr} {c3 : Nat} {p3 : Option Addr} {pc3 : Nat} (h : Stepped base wx a r a3 c3 p3 pc3 w3) {b : Nat} (hb : b < wx.heap.size) (hne : some b ≠ blk a) : blk a3 ≠ some b ∧ blk p3 ≠ some b := by
  constructor
  · intro e
    rcases h.lies with h1 | h1 | ⟨g, h1, h2⟩
    · rw [h1] at e; cases e
    · exact hne (h1 ▸ e).symm
    · rw [h1] at e; cases e; omega
  · intro e
    rcases h.plies with h1 | ⟨h1, _⟩
    · rw [h1] at e; cases e
    · exact hne (h1 ▸ e).symm

theorem st_set4 {base : Nat} {wr w3 : World} {a : Option Addr} {r : PS × Ev} {a3 : Option Addr} {c3 : Nat} {p3 : Option Addr} {pc3 : Nat} (h : Stepped base wr a r a3 c3 p3 pc3 w3) {b : Nat} (hb : wr.heap.size ≤ b) (h1 : blk a3 ≠ some b) (h2 : blk p3 ≠ some b) (u0 u1 u2 u3 : Value) :
    Stepped base wr a r a3 c3 p3 pc3 ((((w3.setCell ⟨b, 0, none⟩ u0).setCell ⟨b, 1, none⟩ u1).setCell ⟨b, 2, none⟩ u2).setCell ⟨b, 3, none⟩ u3) :=
  ⟨own_set (own_set (own_set (own_set h.own h1 _) h1 _) h1 _) h1 _, own_set (own_set (own_set (own_set h.pown h2 _) h2 _) h2 _) h2 _, grown_set (grown_set (grown_set (grown_set h.grown hb _) hb _) hb _) hb _, h.lies, h.plies⟩

theorem st_alloc {base : Nat} {wr w3 : World} {a : Option Addr} {r : PS × Ev} {a3 : Option Addr} {c3 : Nat} {p3 : Option Addr} {pc3 : Nat} (h : Stepped base wr a r a3 c3 p3 pc3 w3) (o : Obj) : Stepped base wr a r a3 c3 p3 pc3 (w3.alloc o) :=
  ⟨own_alloc h.own o, own_alloc h.pown o, grown_alloc h.grown o, h.lies, h.plies⟩

theorem st_base {base : Nat} {wr wx w3 : World} {a : Option Addr} {r : PS × Ev} {a3 : Option Addr} {c3 : Nat} {p3 : Option Addr} {pc3 : Nat} (h : Stepped base wx a r a3 c3 p3 pc3 w3) (hg : wr.grownBy wx (blk a)) : Stepped base wr a r a3 c3 p3 pc3 w3 :=
  ⟨h.own, h.pown, grown_trans hg h.grown, by
    rcases h.lies with h1 | h1 | ⟨g, h1, h2⟩
    · exact .inl h1
    · exact .inr (.inl h1)
    · exact .inr (.inr ⟨g, h1, Nat.le_trans hg.size h2⟩), h.plies⟩

theorem size4 {w : World} {b : Nat} {u0 u1 u2 u3 : Value} : ((((w.setCell ⟨b, 0, none⟩ u0).setCell ⟨b, 1, none⟩ u1).setCell ⟨b, 2, none⟩ u2).setCell ⟨b, 3, none⟩ u3).heap.size = w.heap.size := by simp

section
variable {B : Nat} {wr w3 : World} {a : Option Addr} {r : PS × Ev} {a3 : Option Addr} {c3 : Nat} {p3 : Option Addr} {pc3 : Nat}

theorem midA (h : Stepped (B + 2) wr.drew a r a3 c3 p3 pc3 w3) :
    Mid B wr ((w3.alloc (.cells #[.int .i64 r.1.place, .slice a3 r.1.ps.length c3, .string r.1.pl, .bool r.1.lg] 24)).alloc (.cells #[.int .i64 r.2.kind, .int .i64 r.2.b, .slice p3 r.2.ps.length pc3, .string r.2.pl] 37)) a r
      (.pointer (some ⟨w3.heap.size, 0, none⟩)) (.pointer (some ⟨w3.heap.size + 1, 0, none⟩)) := by
  have hs := h.grown.size
  simp at hs
  exact ⟨_, _, a3, c3, p3, pc3, rfl, rfl, hs, by omega, at_old (at_new _ _) _, at_new1 _ _ _, st_alloc (st_alloc (st_base h (grown_drew (grown_refl _ _))) _) _⟩
theorem midB (h : Stepped (B + 2) wr.drew a r a3 c3 p3 pc3 w3) :
    Mid B wr ((w3.alloc (.cells #[.int .i64 r.2.kind, .int .i64 r.2.b, .slice p3 r.2.ps.length pc3, .string r.2.pl] 37)).alloc (.cells #[.int .i64 r.1.place, .slice a3 r.1.ps.length c3, .string r.1.pl, .bool r.1.lg] 24)) a r
      (.pointer (some ⟨w3.heap.size + 1, 0, none⟩)) (.pointer (some ⟨w3.heap.size, 0, none⟩)) := by
  have hs := h.grown.size
  simp at hs
  exact ⟨_, _, a3, c3, p3, pc3, rfl, rfl, by omega, hs, at_new1 _ _ _, at_old (at_new _ _) _, st_alloc (st_alloc (st_base h (grown_drew (grown_refl _ _))) _) _⟩
theorem midC {x0 x1 x2 x3 : Value} (h : Stepped (B + 2) (wr.alloc (.cells #[x0, x1, x2, x3] 24)).drew a r a3 c3 p3 pc3 w3) (hn : some wr.heap.size ≠ blk a) :
    Mid B wr (((((w3.setCell ⟨wr.heap.size, 0, none⟩ (.int .i64 r.1.place)).setCell ⟨wr.heap.size, 1, none⟩ (.slice a3 r.1.ps.length c3)).setCell ⟨wr.heap.size, 2, none⟩ (.string r.1.pl)).setCell ⟨wr.heap.size, 3, none⟩ (.bool r.1.lg)).alloc (.cells #[.int .i64 r.2.kind, .int .i64 r.2.b, .slice p3 r.2.ps.length pc3, .string r.2.pl] 37)) a r
      (.pointer (some ⟨wr.heap.size, 0, none⟩)) (.pointer (some ⟨w3.heap.size, 0, none⟩)) := by
  have hs := h.grown.size
  simp at hs
  have hf := st_fresh h (b := wr.heap.size) (by simp) hn
  have hb := grown_block h.grown (show ((wr.alloc (.cells #[x0, x1, x2, x3] 24)).drew).heap[wr.heap.size]? = _ from at_new wr _) hn
  refine ⟨_, _, a3, c3, p3, pc3, rfl, rfl, Nat.le_refl _, by omega, at_old (set4 hb _ _ _ _) _, ?_, st_alloc (st_set4 (st_base h (grown_drew (World.grownBy_alloc _ _ _))) (Nat.le_refl _) hf.1 hf.2 _ _ _ _) _⟩
  have := at_new ((((w3.setCell ⟨wr.heap.size, 0, none⟩ (.int .i64 r.1.place)).setCell ⟨wr.heap.size, 1, none⟩ (.slice a3 r.1.ps.length c3)).setCell ⟨wr.heap.size, 2, none⟩ (.string r.1.pl)).setCell ⟨wr.heap.size, 3, none⟩ (.bool r.1.lg)) (.cells #[.int .i64 r.2.kind, .int .i64 r.2.b, .slice p3 r.2.ps.length pc3, .string r.2.pl] 37)
  rw [size4] at this
  exact this
theorem midD {x0 x1 x2 x3 : Value} (h : Stepped (B + 2) (wr.alloc (.cells #[x0, x1, x2, x3] 37)).drew a r a3 c3 p3 pc3 w3) (hn : some wr.heap.size ≠ blk a) :
    Mid B wr (((((w3.setCell ⟨wr.heap.size, 0, none⟩ (.int .i64 r.2.kind)).setCell ⟨wr.heap.size, 1, none⟩ (.int .i64 r.2.b)).setCell ⟨wr.heap.size, 2, none⟩ (.slice p3 r.2.ps.length pc3)).setCell ⟨wr.heap.size, 3, none⟩ (.string r.2.pl)).alloc (.cells #[.int .i64 r.1.place, .slice a3 r.1.ps.length c3, .string r.1.pl, .bool r.1.lg] 24)) a r
      (.pointer (some ⟨w3.heap.size, 0, none⟩)) (.pointer (some ⟨wr.heap.size, 0, none⟩)) := by
  have hs := h.grown.size
  simp at hs
  have hf := st_fresh h (b := wr.heap.size) (by simp) hn
  have hb := grown_block h.grown (show ((wr.alloc (.cells #[x0, x1, x2, x3] 37)).drew).heap[wr.heap.size]? = _ from at_new wr _) hn
  refine ⟨_, _, a3, c3, p3, pc3, rfl, rfl, by omega, Nat.le_refl _, ?_, at_old (set4 hb _ _ _ _) _, st_alloc (st_set4 (st_base h (grown_drew (World.grownBy_alloc _ _ _))) (Nat.le_refl _) hf.1 hf.2 _ _ _ _) _⟩
  have := at_new ((((w3.setCell ⟨wr.heap.size, 0, none⟩ (.int .i64 r.2.kind)).setCell ⟨wr.heap.size, 1, none⟩ (.int .i64 r.2.b)).setCell ⟨wr.heap.size, 2, none⟩ (.slice p3 r.2.ps.length pc3)).setCell ⟨wr.heap.size, 3, none⟩ (.string r.2.pl)) (.cells #[.int .i64 r.1.place, .slice a3 r.1.ps.length c3, .string r.1.pl, .bool r.1.lg] 24)
  rw [size4] at this
  exact this
theorem midE {x0 x1 x2 x3 y0 y1 y2 y3 : Value} (h : Stepped (B + 2) ((wr.alloc (.cells #[x0, x1, x2, x3] 24)).alloc (.cells #[y0, y1, y2, y3] 37)).drew a r a3 c3 p3 pc3 w3) (hn : some wr.heap.size ≠ blk a) (hn1 : some (wr.heap.size + 1) ≠ blk a) :
    Mid B wr ((((((((w3.setCell ⟨wr.heap.size, 0, none⟩ (.int .i64 r.1.place)).setCell ⟨wr.heap.size, 1, none⟩ (.slice a3 r.1.ps.length c3)).setCell ⟨wr.heap.size, 2, none⟩ (.string r.1.pl)).setCell ⟨wr.heap.size, 3, none⟩ (.bool r.1.lg)).setCell ⟨wr.heap.size + 1, 0, none⟩ (.int .i64 r.2.kind)).setCell ⟨wr.heap.size + 1, 1, none⟩ (.int .i64 r.2.b)).setCell ⟨wr.heap.size + 1, 2, none⟩ (.slice p3 r.2.ps.length pc3)).setCell ⟨wr.heap.size + 1, 3, none⟩ (.string r.2.pl)) a r
      (.pointer (some ⟨wr.heap.size, 0, none⟩)) (.pointer (some ⟨wr.heap.size + 1, 0, none⟩)) := by
  have hf := st_fresh h (b := wr.heap.size) (by simp; omega) hn
  have hf1 := st_fresh h (b := wr.heap.size + 1) (by simp) hn1
  have hb := grown_block h.grown (show (((wr.alloc (.cells #[x0, x1, x2, x3] 24)).alloc (.cells #[y0, y1, y2, y3] 37)).drew).heap[wr.heap.size]? = _ from at_old (at_new wr _) _) hn
  have hb1 := grown_block h.grown (show (((wr.alloc (.cells #[x0, x1, x2, x3] 24)).alloc (.cells #[y0, y1, y2, y3] 37)).drew).heap[wr.heap.size + 1]? = _ from at_new1 wr _ _) hn1
  exact ⟨_, _, a3, c3, p3, pc3, rfl, rfl, Nat.le_refl _, by omega, other4 (set4 hb _ _ _ _) (by omega) _ _ _ _, set4 (other4 hb1 (by omega) _ _ _ _) _ _ _ _, st_set4 (st_set4 (st_base h (grown_drew (grown_alloc (World.grownBy_alloc _ _ _) _))) (Nat.le_refl _) hf.1 hf.2 _ _ _ _) (by omega) hf1.1 hf1.2 _ _ _ _⟩
theorem midF {x0 x1 x2 x3 y0 y1 y2 y3 : Value} (h : Stepped (B + 2) ((wr.alloc (.cells #[y0, y1, y2, y3] 37)).alloc (.cells #[x0, x1, x2, x3] 24)).drew a r a3 c3 p3 pc3 w3) (hn : some wr.heap.size ≠ blk a) (hn1 : some (wr.heap.size + 1) ≠ blk a) :
    Mid B wr ((((((((w3.setCell ⟨wr.heap.size + 1, 0, none⟩ (.int .i64 r.1.place)).setCell ⟨wr.heap.size + 1, 1, none⟩ (.slice a3 r.1.ps.length c3)).setCell ⟨wr.heap.size + 1, 2, none⟩ (.string r.1.pl)).setCell ⟨wr.heap.size + 1, 3, none⟩ (.bool r.1.lg)).setCell ⟨wr.heap.size, 0, none⟩ (.int .i64 r.2.kind)).setCell ⟨wr.heap.size, 1, none⟩ (.int .i64 r.2.b)).setCell ⟨wr.heap.size, 2, none⟩ (.slice p3 r.2.ps.length pc3)).setCell ⟨wr.heap.size, 3, none⟩ (.string r.2.pl)) a r
      (.pointer (some ⟨wr.heap.size + 1, 0, none⟩)) (.pointer (some ⟨wr.heap.size, 0, none⟩)) := by
  have hf := st_fresh h (b := wr.heap.size) (by simp; omega) hn
  have hf1 := st_fresh h (b := wr.heap.size + 1) (by simp) hn1
  have hb := grown_block h.grown (show (((wr.alloc (.cells #[y0, y1, y2, y3] 37)).alloc (.cells #[x0, x1, x2, x3] 24)).drew).heap[wr.heap.size]? = _ from at_old (at_new wr _) _) hn
  have hb1 := grown_block h.grown (show (((wr.alloc (.cells #[y0, y1, y2, y3] 37)).alloc (.cells #[x0, x1, x2, x3] 24)).drew).heap[wr.heap.size + 1]? = _ from at_new1 wr _ _) hn1
  exact ⟨_, _, a3, c3, p3, pc3, rfl, rfl, by omega, Nat.le_refl _, other4 (set4 hb1 _ _ _ _) (by omega) _ _ _ _, set4 (other4 hb (by omega) _ _ _ _) _ _ _ _, st_set4 (st_set4 (st_base h (grown_drew (grown_alloc (World.grownBy_alloc _ _ _) _))) (by omega) hf1.1 hf1.2 _ _ _ _) (Nat.le_refl _) hf.1 hf.2 _ _ _ _⟩
end

end Go.Proofs.Yticjkfhhpilkmaa
