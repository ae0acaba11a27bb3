/- A view that came in, opened: what the walk is told of it, and what the bound on the bulk gives. -/
import Derived.Test.YteenppbpjdldgabPCur
import Derived.Test.YteenppbpjdldgabGOpen
import Derived.Test.YteenppbpjdldgabTOpen
namespace Go.Proofs.Yteenppbpjdldgab.Pt
open Go.ChangeShapes Go.WideShapes Go.ChangeAt Go.RowKit Go.Joins
open Go.Proofs.Yteenppbpjdldgab.Tl (Rc noRc whereT shareT inR findT goodT paneB CIt colsOf RdT RdL tval tbox rval rbox rcells zbox cv)

theorem cellsV62 : Try.prog.cellsOf 62 = 58 := by kernel_rfl
theorem cellsA60 : Try.prog.cellsOf 60 = 54 := by kernel_rfl
theorem one3 : Try.prog.cellsOf 3 = 1 := by kernel_rfl
theorem one4 : Try.prog.cellsOf 4 = 1 := by kernel_rfl
theorem one22 : Try.prog.cellsOf 22 = 1 := by kernel_rfl

theorem flat_le : ∀ (cols : List (List Int)) (M : Nat), (∀ c ∈ cols, c.length ≤ M) → cols.flatten.length ≤ cols.length * M
  | [], _, _ => by simp
  | c :: r, M, h => by
    have h1 := h c (by simp)
    have h2 := flat_le r M (fun d hd => h d (by simp [hd]))
    simp only [List.flatten_cons, List.length_append, List.length_cons]
    rw [Nat.add_mul]
    omega

section
variable {H : Type} {enc : TypeId × Value → H} {W : World} {base : Nat}

set_option maxRecDepth 100000 in
theorem open_gridL {sp : Nat → Bool} {hd : Bool} {n : Nat} {cs : List Value} {y : DataW H × List MemPlace} (h : DataW.trod enc Try.prog W 0 sp hd n 24 cs = some y) :
    ∃ (g : Gr) (ao : Option Addr) (cap : Nat), cs = (gcells g ao cap).toList ∧ RdS W ao g.n g.f ∧ g.n ≤ Rows.uptoBulk y.1 ∧ -9223372036854775808 ≤ g.row ∧ -9223372036854775808 ≤ g.col := by
  obtain ⟨xs, m, _, hx, hl, hlen, hfs⟩ := DataW.trod_struct Try.underlying24 h
  rw [cellsG] at hl
  obtain ⟨c0, c1, c2, c3, c4, c5, c6, c7, c8, rfl⟩ := list9 hl
  obtain ⟨y0, y1, y2, y3, y4, y5, y6, y7, y8, rfl⟩ := list9 (by simpa using hlen)
  have h0 : DataW.trod enc Try.prog W 0 sp hd m 3 [c0] = some y0 := by simpa [one3, one4, one22] using hfs 0 _ rfl
  have h1 : DataW.trod enc Try.prog W 0 sp hd m 3 [c1] = some y1 := by simpa [one3, one4, one22] using hfs 1 _ rfl
  have h2 : DataW.trod enc Try.prog W 0 sp hd m 22 [c2] = some y2 := by simpa [one3, one4, one22] using hfs 2 _ rfl
  have h3 : DataW.trod enc Try.prog W 0 sp hd m 3 [c3] = some y3 := by simpa [one3, one4, one22] using hfs 3 _ rfl
  have h4 : DataW.trod enc Try.prog W 0 sp hd m 3 [c4] = some y4 := by simpa [one3, one4, one22] using hfs 4 _ rfl
  have h5 : DataW.trod enc Try.prog W 0 sp hd m 3 [c5] = some y5 := by simpa [one3, one4, one22] using hfs 5 _ rfl
  have h6 : DataW.trod enc Try.prog W 0 sp hd m 4 [c6] = some y6 := by simpa [one3, one4, one22] using hfs 6 _ rfl
  have h7 : DataW.trod enc Try.prog W 0 sp hd m 3 [c7] = some y7 := by simpa [one3, one4, one22] using hfs 7 _ rfl
  have h8 : DataW.trod enc Try.prog W 0 sp hd m 3 [c8] = some y8 := by simpa [one3, one4, one22] using hfs 8 _ rfl
  obtain ⟨a0, e0, _⟩ := DataW.trod_int Try.underlying3 h0
  obtain ⟨a1, e1, _⟩ := DataW.trod_int Try.underlying3 h1
  obtain ⟨ao, len, cap, f, e2, hr, _, hb⟩ := open_cells h2
  obtain ⟨a3, e3, _, w3⟩ := DataW.trod_int Try.underlying3 h3
  obtain ⟨a4, e4, _, w4⟩ := DataW.trod_int Try.underlying3 h4
  obtain ⟨a5, e5, _⟩ := DataW.trod_int Try.underlying3 h5
  obtain ⟨a6, e6, _⟩ := DataW.trod_bool Try.underlying4 h6
  obtain ⟨a7, e7, _⟩ := DataW.trod_int Try.underlying3 h7
  obtain ⟨a8, e8, _⟩ := DataW.trod_int Try.underlying3 h8
  simp only [List.cons.injEq, and_true] at e0 e1 e3 e4 e5 e6 e7 e8
  subst e0 e1 e2 e3 e4 e5 e6 e7 e8
  refine ⟨⟨a0, a1, len, f, a3, a4, a5, a6, a7, a8⟩, ao, cap, rfl, hr, ?_, (bounds_i64 w3).1, (bounds_i64 w4).1⟩
  rw [hx]
  simp only [List.map_cons, List.map_nil, Rows.uptoBulk, Rows.uptoBulkAll]
  omega

theorem list5 {α : Type} {cs : List α} (h : cs.length = 5) : ∃ c0 c1 c2 c3 c4, cs = [c0, c1, c2, c3, c4] := by
  match cs, h with
  | [c0, c1, c2, c3, c4], _ => exact ⟨c0, c1, c2, c3, c4, rfl⟩
theorem list6 {α : Type} {cs : List α} (h : cs.length = 6) : ∃ c0 c1 c2 c3 c4 c5, cs = [c0, c1, c2, c3, c4, c5] := by
  match cs, h with
  | [c0, c1, c2, c3, c4, c5], _ => exact ⟨c0, c1, c2, c3, c4, c5, rfl⟩

/-- A list in six parts of nine. -/
theorem six_nine {cs : List Value} (h : cs.length = 54) : cs = (cs.drop 0).take 9 ++ (cs.drop 9).take 9 ++ (cs.drop 18).take 9 ++ (cs.drop 27).take 9 ++ (cs.drop 36).take 9 ++ (cs.drop 45).take 9 := by
  have e5 : (cs.drop 45).take 9 = cs.drop 45 := List.take_of_length_le (by simp; omega)
  have st : ∀ k, (cs.drop k).take 9 ++ cs.drop (k + 9) = cs.drop k := fun k => by
    have := List.take_append_drop 9 (cs.drop k)
    rwa [List.drop_drop] at this
  rw [e5, List.append_assoc, List.append_assoc, List.append_assoc, List.append_assoc, st 36, st 27, st 18, st 9, st 0]
  rfl

set_option maxRecDepth 100000 in
theorem open_grids {sp : Nat → Bool} {hd : Bool} {n : Nat} {cs : List Value} {y : DataW H × List MemPlace} (h : DataW.trod enc Try.prog W 0 sp hd n 60 cs = some y) :
    ∃ (gs : Nat → Gr) (ga : Nat → Option Addr) (gc : Nat → Nat), cs = (gcells (gs 0) (ga 0) (gc 0)).toList ++ (gcells (gs 1) (ga 1) (gc 1)).toList ++ (gcells (gs 2) (ga 2) (gc 2)).toList ++ (gcells (gs 3) (ga 3) (gc 3)).toList ++ (gcells (gs 4) (ga 4) (gc 4)).toList ++ (gcells (gs 5) (ga 5) (gc 5)).toList ∧
      ∀ p, p < 6 → RdS W (ga p) (gs p).n (gs p).f ∧ (gs p).n ≤ Rows.uptoBulk y.1 ∧ -9223372036854775808 ≤ (gs p).row ∧ -9223372036854775808 ≤ (gs p).col := by
  obtain ⟨xs, m, _, hx, hl, hlen, hfs⟩ := DataW.trod_array Try.underlying60 h
  rw [cellsA60] at hl
  obtain ⟨y0, y1, y2, y3, y4, y5, rfl⟩ := list6 hlen
  have ev : ∀ p, p < 6 → ∃ (x : Gr × Option Addr × Nat), (cs.drop (p * 9)).take 9 = (gcells x.1 x.2.1 x.2.2).toList ∧ RdS W x.2.1 x.1.n x.1.f ∧ x.1.n ≤ Rows.uptoBulk y.1 ∧ -9223372036854775808 ≤ x.1.row ∧ -9223372036854775808 ≤ x.1.col := by
    intro p hp
    have h1 := hfs p hp
    rw [cellsG] at h1
    obtain ⟨yp, hyp⟩ : ∃ yp, [y0, y1, y2, y3, y4, y5][p]? = some yp := ⟨_, List.getElem?_eq_getElem (by simpa using hp)⟩
    rw [hyp] at h1
    obtain ⟨g, ao, cap, e, hr, hb, l1, l2⟩ := open_gridL h1
    refine ⟨(g, ao, cap), e, hr, ?_, l1, l2⟩
    have hm : Rows.uptoBulk yp.1 ≤ Rows.uptoBulkAll ([y0, y1, y2, y3, y4, y5].map (·.1)) := Tl.bulk_mem (List.mem_map.2 ⟨yp, List.mem_of_getElem? hyp, rfl⟩)
    rw [hx]
    simp only [Rows.uptoBulk]
    omega
  obtain ⟨F, hF⟩ : ∃ F : Nat → Gr × Option Addr × Nat, ∀ p, p < 6 → (cs.drop (p * 9)).take 9 = (gcells (F p).1 (F p).2.1 (F p).2.2).toList ∧ RdS W (F p).2.1 (F p).1.n (F p).1.f ∧ (F p).1.n ≤ Rows.uptoBulk y.1 ∧ -9223372036854775808 ≤ (F p).1.row ∧ -9223372036854775808 ≤ (F p).1.col := by
    obtain ⟨x0, k0⟩ := ev 0 (by omega)
    obtain ⟨x1, k1⟩ := ev 1 (by omega)
    obtain ⟨x2, k2⟩ := ev 2 (by omega)
    obtain ⟨x3, k3⟩ := ev 3 (by omega)
    obtain ⟨x4, k4⟩ := ev 4 (by omega)
    obtain ⟨x5, k5⟩ := ev 5 (by omega)
    refine ⟨fun p => if p = 0 then x0 else if p = 1 then x1 else if p = 2 then x2 else if p = 3 then x3 else if p = 4 then x4 else x5, fun p hp => ?_⟩
    have h1 : p = 0 ∨ p = 1 ∨ p = 2 ∨ p = 3 ∨ p = 4 ∨ p = 5 := by omega
    rcases h1 with rfl | rfl | rfl | rfl | rfl | rfl
    · exact k0
    · exact k1
    · exact k2
    · exact k3
    · exact k4
    · exact k5
  refine ⟨fun p => (F p).1, fun p => (F p).2.1, fun p => (F p).2.2, ?_, fun p hp => (hF p hp).2⟩
  have e0 := (hF 0 (by omega)).1
  have e1 := (hF 1 (by omega)).1
  have e2 := (hF 2 (by omega)).1
  have e3 := (hF 3 (by omega)).1
  have e4 := (hF 4 (by omega)).1
  have e5 := (hF 5 (by omega)).1
  simp only [Nat.reduceMul] at e0 e1 e2 e3 e4 e5
  have hs := six_nine hl
  rw [e0, e1, e2, e3, e4, e5] at hs
  exact hs

set_option maxRecDepth 100000 in
theorem open_view {v : Value} {d : DataW H} {p : List MemPlace} (hv : Value.okWide Try.prog W .any base 62 v) (h : DataW.Trod enc Try.prog W 0 (fun _ => true) true 62 v d p) :
    ∃ (vw : Vw) (l : Lay), v = .agg (vcells vw l) ∧ (Rows.uptoBulk d ≤ 1048576 → RdV W vw l) ∧ LowV vw := by
  obtain ⟨cs, rfl, hsz⟩ := okWide_struct Try.underlying62 hv
  rw [cellsV62] at hsz
  obtain ⟨fuel, hf⟩ := h
  obtain ⟨xs, n, _, hx, _, hlen, hfs⟩ := DataW.trod_struct Try.underlying62 hf
  obtain ⟨y0, y1, y2, y3, y4, rfl⟩ := list5 (by simpa using hlen)
  obtain ⟨l⟩ := cs
  simp only [List.size_toArray] at hsz
  obtain ⟨c0, r, rfl⟩ : ∃ c0 r, l = c0 :: r := by
    cases l with
    | nil => simp at hsz
    | cons c0 r => exact ⟨c0, r, rfl⟩
  simp only [List.length_cons] at hsz
  have h0 : DataW.trod enc Try.prog W 0 (fun _ => true) true n 41 [c0] = some y0 := by simpa [Value.cells, Tl.cellsT] using hfs 0 _ rfl
  have h1 : DataW.trod enc Try.prog W 0 (fun _ => true) true n 60 (r.take 54) = some y1 := by simpa [Value.cells, cellsA60] using hfs 1 _ rfl
  have h2 : DataW.trod enc Try.prog W 0 (fun _ => true) true n 3 ((r.drop 54).take 1) = some y2 := by simpa [Value.cells, one3] using hfs 2 _ rfl
  have h3 : DataW.trod enc Try.prog W 0 (fun _ => true) true n 3 ((r.drop 55).take 1) = some y3 := by simpa [Value.cells, one3] using hfs 3 _ rfl
  have h4 : DataW.trod enc Try.prog W 0 (fun _ => true) true n 3 ((r.drop 56).take 1) = some y4 := by simpa [Value.cells, one3] using hfs 4 _ rfl
  obtain ⟨zs, m, _, hz, _, hzl, hzf⟩ := DataW.trod_struct Try.underlying41 h0
  obtain ⟨z0, rfl⟩ := Tl.list1 (by simpa using hzl)
  have k1 : DataW.trod enc Try.prog W 0 (fun _ => true) true m 39 [c0] = some z0 := by simpa [Tl.cellsLL] using hzf 0 _ rfl
  obtain ⟨gs, ga, gc, e1, hg⟩ := open_grids h1
  obtain ⟨a2, q2, _⟩ := DataW.trod_int Try.underlying3 h2
  obtain ⟨a3, q3, _⟩ := DataW.trod_int Try.underlying3 h3
  obtain ⟨a4, q4, _⟩ := DataW.trod_int Try.underlying3 h4
  obtain ⟨co, cap, its, rfl, hr, hb, hb2, _⟩ := Tl.open_cols k1
  have e1' : r.take 54 = gall ⟨colsOf its, gs, a2, a3, a4⟩ ⟨co, cap, its, ga, gc⟩ := e1
  have e5 : r.drop 54 = [.int .i64 a2, .int .i64 a3, .int .i64 a4] := by
    have s1 : r.drop 54 = (r.drop 54).take 1 ++ r.drop 55 := by
      have := List.take_append_drop 1 (r.drop 54)
      rw [List.drop_drop] at this
      exact this.symm
    have s2 : r.drop 55 = (r.drop 55).take 1 ++ r.drop 56 := by
      have := List.take_append_drop 1 (r.drop 55)
      rw [List.drop_drop] at this
      exact this.symm
    have s3 : (r.drop 56).take 1 = r.drop 56 := List.take_of_length_le (by simp; omega)
    rw [s1, s2, ← s3, q2, q3, q4]
    rfl
  refine ⟨⟨colsOf its, gs, a2, a3, a4⟩, ⟨co, cap, its, ga, gc⟩, ?_, fun hk => ?_, fun p hp => (hg p hp).2.2⟩
  · have : r = gall ⟨colsOf its, gs, a2, a3, a4⟩ ⟨co, cap, its, ga, gc⟩ ++ [.int .i64 a2, .int .i64 a3, .int .i64 a4] := by
      rw [← e1', ← e5, List.take_append_drop]
    rw [this]
    rfl
  · have hd1 : d = .agg ([y0, y1, y2, y3, y4].map (·.1)) := by simpa using congrArg Prod.fst hx
    have q0 : Rows.uptoBulk y0.1 ≤ Rows.uptoBulk d := by
      rw [hd1]
      simp only [List.map_cons, List.map_nil, Rows.uptoBulk, Rows.uptoBulkAll]
      omega
    have q1 : Rows.uptoBulk y1.1 ≤ Rows.uptoBulk d := by
      rw [hd1]
      simp only [List.map_cons, List.map_nil, Rows.uptoBulk, Rows.uptoBulkAll]
      omega
    have q2 : Rows.uptoBulk z0.1 ≤ Rows.uptoBulk y0.1 := by
      rw [hz]
      simp only [List.map_cons, List.map_nil, Rows.uptoBulk, Rows.uptoBulkAll]
      omega
    refine ⟨rfl, hr, fun p hp => (hg p hp).1, by simp only; omega, fun x hxx => ?_, fun p hp => ?_, ?_⟩
    · have := hb2 x hxx
      omega
    · have := (hg p hp).2.1
      simp only
      omega
    · have h1 := flat_le (colsOf its) 1048576 (fun c hc => by obtain ⟨x, hx, rfl⟩ := List.mem_map.1 hc; have := hb2 x hx; omega)
      simp only [colsOf, List.length_map] at h1
      have h2 : its.length * 1048576 ≤ 1048576 * 1048576 := Nat.mul_le_mul_right _ (by omega)
      simp only [colsOf]
      omega
end

end Go.Proofs.Yteenppbpjdldgab.Pt
