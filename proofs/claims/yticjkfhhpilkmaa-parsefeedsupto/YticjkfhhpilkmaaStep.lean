/- What 'step' does to the world: it answers what the plain machine answers to one byte. -/
import Derived.Test.YticjkfhhpilkmaaEsc
import Derived.Test.YticjkfhhpilkmaaGnd
import Derived.Test.YticjkfhhpilkmaaPic
import Derived.Test.YticjkfhhpilkmaaCmd
namespace Go.Proofs.Yticjkfhhpilkmaa
open Go.RowKit

/-- A parser that is good (P1.1), as far as a step leans on it. -/
structure GoodS (s : PS) : Prop where
  lo : 0 ≤ s.place
  hi : s.place ≤ 4
  len : s.ps.length ≤ 4
  some' : s.place = 2 ↔ 0 < s.ps.length
  nums : ∀ x ∈ s.ps, 0 ≤ x ∧ x ≤ 999
  size : s.pl.size ≤ 48
  empty : s.place ≠ 3 → s.place ≠ 4 → s.pl = ⟨#[]⟩ ∧ s.lg = false

theorem own_kept {base : Nat} {w w' : World} {ao : Option Addr} {cap : Nat} {l : List Int} {row : Option Nat} (h : Own base w ao cap l) (hg : w.grownBy w' row) (hne : blk ao = none ∨ blk ao ≠ row) : Own base w' ao cap l := by
  refine World.ownsRow.kept h hg ?_
  cases ao with
  | none => exact .inl rfl
  | some a => simpa [Value.ownBlock, blk] using hne

theorem own_blk {base : Nat} {w : World} {ao : Option Addr} {cap : Nat} {l : List Int} (h : Own base w ao cap l) {g : Nat} (hg : blk ao = some g) : base ≤ g ∧ g < w.heap.size := by
  refine World.ownsRow.lt h g ?_
  cases ao with
  | none => simp [blk] at hg
  | some a => simpa [Value.ownBlock, blk] using hg

/-- From the callee's ending to the step's own: its boxes lie beneath, the results are stored. -/
theorem step_up {base : Nat} {w w1 : World} {ao : Option Addr} {cap : Nat} {l : List Int} {r : PS × Ev} {a : Option Addr} {c : Nat} {p : Option Addr} {pc : Nat} {o1 o2 o3 : Obj} (hown : Own base w ao cap l)
    (h : Stepped base (((w.alloc o1).alloc o2).alloc o3) ao r a c p pc w1) (u0 u1 u2 u3 u4 u5 u6 u7 : Value) :
    Stepped base w ao r a c p pc ((((((((w1.setCell ⟨w.heap.size + 1, 0, none⟩ u0).setCell ⟨w.heap.size + 1, 1, none⟩ u1).setCell ⟨w.heap.size + 1, 2, none⟩ u2).setCell ⟨w.heap.size + 1, 3, none⟩ u3).setCell ⟨w.heap.size + 1 + 1, 0, none⟩ u4).setCell ⟨w.heap.size + 1 + 1, 1, none⟩ u5).setCell ⟨w.heap.size + 1 + 1, 2, none⟩ u6).setCell ⟨w.heap.size + 1 + 1, 3, none⟩ u7) := by
  obtain ⟨h1, h2, h3, h4, h5⟩ := h
  have ho : ∀ g, blk ao = some g → g < w.heap.size := fun g hg => (own_blk hown hg).2
  have hA : ∀ g, blk a = some g → g < w.heap.size ∨ w.heap.size + 3 ≤ g := by
    intro g hg
    rcases h4 with e | e | ⟨g', e, hle⟩
    · rw [hg] at e; cases e
    · exact .inl (ho g (e ▸ hg))
    · rw [hg] at e; cases e; right; simpa using hle
  have hP : ∀ g, blk p = some g → g < w.heap.size := by
    intro g hg
    rcases h5 with e | ⟨e, _⟩
    · subst e; simp [blk] at hg
    · exact ho g (e ▸ hg)
  refine ⟨?_, ?_, ?_, ?_, h5⟩
  · iterate 8 (refine own_set ?_ (fun e => by have := hA _ e; simp at this; omega) _)
    exact h1
  · iterate 8 (refine own_set ?_ (fun e => by have := hP _ e; simp at this; omega) _)
    exact h2
  · iterate 8 (refine grown_set ?_ (by simp; try omega) _)
    exact grown_trans (grown_alloc (grown_alloc (World.grownBy_alloc w _ _) _) _) h3
  · rcases h4 with e | e | ⟨g', e, hle⟩
    · exact .inl e
    · exact .inr (.inl e)
    · exact .inr (.inr ⟨g', e, by simp at hle; omega⟩)

/-- What the walk wants to know of the boxes behind the callee. -/
theorem boxes {base : Nat} {w w1 : World} {ao : Option Addr} {cap : Nat} {l : List Int} {row : Option Nat} (hown : Own base w ao cap l) {t0 t1 t2 : TypeId} {x0 x1 x2 x3 y0 y1 y2 y3 z0 z1 z2 z3 : Value}
    (hg : (((w.alloc (.cells #[x0, x1, x2, x3] t0)).alloc (.cells #[y0, y1, y2, y3] t1)).alloc (.cells #[z0, z1, z2, z3] t2)).grownBy w1 row) (hrow : row = blk ao ∨ row = none) :
    (w1.cell? ⟨w.heap.size + 1, 0, none⟩ = some y0 ∧ w1.cell? ⟨w.heap.size + 1, 1, none⟩ = some y1 ∧ w1.cell? ⟨w.heap.size + 1, 2, none⟩ = some y2 ∧ w1.cell? ⟨w.heap.size + 1, 3, none⟩ = some y3 ∧
    w1.frozen? ⟨w.heap.size + 1, 0, none⟩ = false ∧ w1.frozen? ⟨w.heap.size + 1, 1, none⟩ = false ∧ w1.frozen? ⟨w.heap.size + 1, 2, none⟩ = false ∧ w1.frozen? ⟨w.heap.size + 1, 3, none⟩ = false) ∧
    (w1.cell? ⟨w.heap.size + 1 + 1, 0, none⟩ = some z0 ∧ w1.cell? ⟨w.heap.size + 1 + 1, 1, none⟩ = some z1 ∧ w1.cell? ⟨w.heap.size + 1 + 1, 2, none⟩ = some z2 ∧ w1.cell? ⟨w.heap.size + 1 + 1, 3, none⟩ = some z3 ∧
    w1.frozen? ⟨w.heap.size + 1 + 1, 0, none⟩ = false ∧ w1.frozen? ⟨w.heap.size + 1 + 1, 1, none⟩ = false ∧ w1.frozen? ⟨w.heap.size + 1 + 1, 2, none⟩ = false ∧ w1.frozen? ⟨w.heap.size + 1 + 1, 3, none⟩ = false) := by
  have hbl : ∀ k, w.heap.size ≤ k → some k ≠ row := by
    intro k hk e
    rcases hrow with h | h
    · rw [h] at e
      have := (own_blk hown e.symm).2
      omega
    · rw [h] at e; cases e
  exact ⟨four (grown_block hg (at_old (at_new1 w _ _) _) (hbl _ (by omega))), four (grown_block hg (at_new2 w _ _ _) (hbl _ (by omega)))⟩

set_option maxHeartbeats 400000 in
theorem step_esc (base cap : Nat) (ao : Option Addr) (ps : List Int) (pl : ByteArray) (lg : Bool) (b : Int) (w : World) (hown : Own base w ao cap ps) (hbase : base ≤ w.heap.size) :
    Calls Try.prog 19 #[.agg #[.int .i64 1, .slice ao ps.length cap, .string pl, .bool lg], .int .i64 b] w fun e w' => StepEnd base w ao (stp ⟨1, ps, pl, lg⟩ b) e w' := by
  have HO : Hid (Own base w ao cap ps) := hown
  clear hown
  go_enter Try.func19, Try.ntmps19
  go_wp2_with fail
  refine (escaped_any base ao b _ (by simp; omega)).mono ?_
  rintro e w1 ⟨a, c, p, pc, rfl, hst⟩
  obtain ⟨⟨b0, b1, b2, b3, d0, d1, d2, d3⟩, ⟨e0, e1, e2, e3, j0, j1, j2, j3⟩⟩ := boxes HO.out hst.grown (.inl rfl)
  have HS : Hid _ := step_up HO.out hst
  clear hst
  go_wp2
  exact bodyPost_ret (v := .tuple #[.agg #[.int .i64 (escF b).1.place, .slice a (escF b).1.ps.length c, .string (escF b).1.pl, .bool (escF b).1.lg], .agg #[.int .i64 (escF b).2.kind, .int .i64 (escF b).2.b, .slice p (escF b).2.ps.length pc, .string (escF b).2.pl]])
    (by simp [results, Try.results19, go_sem, b0, b1, b2, b3, e0, e1, e2, e3]) rfl ⟨a, c, p, pc, rfl, HS.out _ _ _ _ _ _ _ _⟩

set_option maxHeartbeats 400000 in
theorem step_gnd (base cap : Nat) (ao : Option Addr) (ps : List Int) (pl : ByteArray) (lg : Bool) (b : Int) (w : World) (hown : Own base w ao cap ps) (_hbase : base ≤ w.heap.size) :
    Calls Try.prog 19 #[.agg #[.int .i64 0, .slice ao ps.length cap, .string pl, .bool lg], .int .i64 b] w fun e w' => StepEnd base w ao (stp ⟨0, ps, pl, lg⟩ b) e w' := by
  have HO : Hid (Own base w ao cap ps) := hown
  clear hown
  go_enter Try.func19, Try.ntmps19
  go_wp2_with fail
  refine (onGround_any base ao b _).mono ?_
  rintro e w1 ⟨a, c, p, pc, rfl, hst⟩
  obtain ⟨⟨b0, b1, b2, b3, d0, d1, d2, d3⟩, ⟨e0, e1, e2, e3, j0, j1, j2, j3⟩⟩ := boxes HO.out hst.grown (.inl rfl)
  have HS : Hid _ := step_up HO.out hst
  clear hst
  go_wp2
  exact bodyPost_ret (v := .tuple #[.agg #[.int .i64 (gndF b).1.place, .slice a (gndF b).1.ps.length c, .string (gndF b).1.pl, .bool (gndF b).1.lg], .agg #[.int .i64 (gndF b).2.kind, .int .i64 (gndF b).2.b, .slice p (gndF b).2.ps.length pc, .string (gndF b).2.pl]])
    (by simp [results, Try.results19, go_sem, b0, b1, b2, b3, e0, e1, e2, e3]) rfl ⟨a, c, p, pc, rfl, HS.out _ _ _ _ _ _ _ _⟩

set_option maxHeartbeats 400000 in
theorem step_end (base cap : Nat) (ao : Option Addr) (ps : List Int) (pl : ByteArray) (lg : Bool) (b : Int) (w : World) (hown : Own base w ao cap ps) (_hbase : base ≤ w.heap.size) :
    Calls Try.prog 19 #[.agg #[.int .i64 4, .slice ao ps.length cap, .string pl, .bool lg], .int .i64 b] w fun e w' => StepEnd base w ao (stp ⟨4, ps, pl, lg⟩ b) e w' := by
  have HO : Hid (Own base w ao cap ps) := hown
  clear hown
  go_enter Try.func19, Try.ntmps19
  go_wp2_with fail
  refine (ending_any base ao ps.length cap 4 ps pl lg b _).mono ?_
  rintro e w1 ⟨a, c, p, pc, rfl, hst⟩
  obtain ⟨⟨b0, b1, b2, b3, d0, d1, d2, d3⟩, ⟨e0, e1, e2, e3, j0, j1, j2, j3⟩⟩ := boxes HO.out hst.grown (.inl rfl)
  have HS : Hid _ := step_up HO.out hst
  clear hst
  go_wp2
  exact bodyPost_ret (v := .tuple #[.agg #[.int .i64 (endF ⟨4, ps, pl, lg⟩ b).1.place, .slice a (endF ⟨4, ps, pl, lg⟩ b).1.ps.length c, .string (endF ⟨4, ps, pl, lg⟩ b).1.pl, .bool (endF ⟨4, ps, pl, lg⟩ b).1.lg], .agg #[.int .i64 (endF ⟨4, ps, pl, lg⟩ b).2.kind, .int .i64 (endF ⟨4, ps, pl, lg⟩ b).2.b, .slice p (endF ⟨4, ps, pl, lg⟩ b).2.ps.length pc, .string (endF ⟨4, ps, pl, lg⟩ b).2.pl]])
    (by simp [results, Try.results19, go_sem, b0, b1, b2, b3, e0, e1, e2, e3]) rfl ⟨a, c, p, pc, rfl, HS.out _ _ _ _ _ _ _ _⟩

set_option maxHeartbeats 400000 in
theorem step_cmd (base cap : Nat) (ao : Option Addr) (ps : List Int) (pl : ByteArray) (lg : Bool) (b : Int) (w : World) (hown : Own base w ao cap ps) (hbase : base ≤ w.heap.size) (hl0 : 0 < ps.length) (hl4 : ps.length ≤ 4) (hx : ∀ x ∈ ps, 0 ≤ x ∧ x ≤ 999) :
    Calls Try.prog 19 #[.agg #[.int .i64 2, .slice ao ps.length cap, .string pl, .bool lg], .int .i64 b] w fun e w' => StepEnd base w ao (stp ⟨2, ps, pl, lg⟩ b) e w' := by
  have HO : Hid (Own base w ao cap ps) := hown
  clear hown
  go_enter Try.func19, Try.ntmps19
  go_wp2_with fail
  refine (inCommand_any base cap ao ps 2 pl lg b _ (own_alloc (own_alloc (own_alloc HO.out _) _) _) (by simp; omega) hl0 hl4 hx).mono ?_
  rintro e w1 ⟨a, c, p, pc, rfl, hst⟩
  obtain ⟨⟨b0, b1, b2, b3, d0, d1, d2, d3⟩, ⟨e0, e1, e2, e3, j0, j1, j2, j3⟩⟩ := boxes HO.out hst.grown (.inl rfl)
  have HS : Hid _ := step_up HO.out hst
  clear hst
  go_wp2
  exact bodyPost_ret (v := .tuple #[.agg #[.int .i64 (cmdF ⟨2, ps, pl, lg⟩ b).1.place, .slice a (cmdF ⟨2, ps, pl, lg⟩ b).1.ps.length c, .string (cmdF ⟨2, ps, pl, lg⟩ b).1.pl, .bool (cmdF ⟨2, ps, pl, lg⟩ b).1.lg], .agg #[.int .i64 (cmdF ⟨2, ps, pl, lg⟩ b).2.kind, .int .i64 (cmdF ⟨2, ps, pl, lg⟩ b).2.b, .slice p (cmdF ⟨2, ps, pl, lg⟩ b).2.ps.length pc, .string (cmdF ⟨2, ps, pl, lg⟩ b).2.pl]])
    (by simp [results, Try.results19, go_sem, b0, b1, b2, b3, e0, e1, e2, e3]) rfl ⟨a, c, p, pc, rfl, HS.out _ _ _ _ _ _ _ _⟩

theorem pic_stepped {base : Nat} {w w' : World} {a0 ao : Option Addr} {cap c : Nat} {ps : List Int} {r : PS} (hown : Own base w a0 cap ps) (h : (ao = a0 ∧ c = cap ∧ r.ps = ps) ∨ (ao = none ∧ c = 0 ∧ r.ps = [])) (hb : Below w.heap.size w w') : Stepped base w a0 (r, noEv) ao c none 0 w' := by
  rcases h with ⟨rfl, rfl, h⟩ | ⟨rfl, rfl, h⟩
  · refine ⟨?_, own_nil _ _, Below.toGrown hb _, .inr (.inl rfl), .inl rfl⟩
    show Own base w' ao c r.ps
    rw [h]
    exact own_kept hown (Below.toGrown hb none) (by cases ao <;> simp [blk])
  · refine ⟨?_, own_nil _ _, Below.toGrown hb _, .inl rfl, .inl rfl⟩
    show Own base w' none 0 r.ps
    rw [h]
    exact own_nil _ _

set_option maxHeartbeats 400000 in
theorem step_pic (base cap : Nat) (ao : Option Addr) (ps : List Int) (pl : ByteArray) (lg : Bool) (b : Int) (w : World) (hown : Own base w ao cap ps) (hpl : pl.size ≤ 48) (hb0 : 0 ≤ b) (hb1 : b ≤ 255) :
    Calls Try.prog 19 #[.agg #[.int .i64 3, .slice ao ps.length cap, .string pl, .bool lg], .int .i64 b] w fun e w' => StepEnd base w ao (stp ⟨3, ps, pl, lg⟩ b) e w' := by
  have HO : Hid (Own base w ao cap ps) := hown
  clear hown
  go_enter Try.func19, Try.ntmps19
  go_wp2_with fail
  refine (inPicture_any ao cap 3 ps pl lg b _ hpl hb0 hb1).mono ?_
  rintro e w1 ⟨a, c, rfl, hor, hbel⟩
  have hst := pic_stepped (own_alloc (own_alloc (own_alloc HO.out _) _) _) hor hbel
  obtain ⟨⟨b0, b1, b2, b3, d0, d1, d2, d3⟩, ⟨e0, e1, e2, e3, j0, j1, j2, j3⟩⟩ := boxes HO.out hst.grown (.inl rfl)
  have HS : Hid _ := step_up HO.out hst
  clear hst hor hbel
  go_wp2
  exact bodyPost_ret (v := .tuple #[.agg #[.int .i64 (picF ⟨3, ps, pl, lg⟩ b).place, .slice a (picF ⟨3, ps, pl, lg⟩ b).ps.length c, .string (picF ⟨3, ps, pl, lg⟩ b).pl, .bool (picF ⟨3, ps, pl, lg⟩ b).lg], .agg #[.int .i64 0, .int .i64 0, .slice none 0 0, .string ⟨#[]⟩]])
    (by simp [results, Try.results19, go_sem, b0, b1, b2, b3, e0, e1, e2, e3]) rfl ⟨a, c, none, 0, rfl, HS.out _ _ _ _ _ _ _ _⟩

theorem step_any (base cap : Nat) (ao : Option Addr) (s : PS) (b : Int) (w : World) (hown : Own base w ao cap s.ps) (hbase : base ≤ w.heap.size) (hg : GoodS s) (hb0 : 0 ≤ b) (hb1 : b ≤ 255) :
    Calls Try.prog 19 #[.agg #[.int .i64 s.place, .slice ao s.ps.length cap, .string s.pl, .bool s.lg], .int .i64 b] w fun e w' => StepEnd base w ao (stp s b) e w' := by
  obtain ⟨place, ps, pl, lg⟩ := s
  obtain ⟨h1, h2, h3, h4, h5, h6, h7⟩ := hg
  simp only at h1 h2 h3 h4 h5 h6 h7 hown ⊢
  have : place = 0 ∨ place = 1 ∨ place = 2 ∨ place = 3 ∨ place = 4 := by omega
  rcases this with h | h | h | h | h <;> subst h
  · exact step_gnd base cap ao ps pl lg b w hown hbase
  · exact step_esc base cap ao ps pl lg b w hown hbase
  · exact step_cmd base cap ao ps pl lg b w hown hbase (h4.1 rfl) h3 h5
  · exact step_pic base cap ao ps pl lg b w hown h6 hb0 hb1
  · exact step_end base cap ao ps pl lg b w hown hbase

end Go.Proofs.Yticjkfhhpilkmaa
