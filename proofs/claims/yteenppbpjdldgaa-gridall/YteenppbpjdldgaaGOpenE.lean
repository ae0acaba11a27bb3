/- An event that came in, opened. -/
import Derived.Test.YteenppbpjdldgaaGOpen
import Derived.Test.YteenppbpjdldgaaGDone2
namespace Go.Proofs.Yteenppbpjdldgaa
open Go.ChangeShapes Go.WideShapes Go.ChangeAt Go.RowKit Go.Joins
open Go.ChangeMaps (open_string shut_string)

theorem cellsE : Try.prog.cellsOf 37 = 4 := by kernel_rfl
theorem cells3 : Try.prog.cellsOf 3 = 1 := by kernel_rfl

section
variable {H : Type} {enc : TypeId × Value → H} {W : World} {base : Nat}

set_option maxRecDepth 100000 in
/-- An event's cells, opened. -/
theorem open_event_cells {sp : Nat → Bool} {hd : Bool} {n : Nat} {c0 c1 c2 c3 : Value} {y0 y1 y2 y3 : DataW H × List MemPlace} (h0 : DataW.trod enc Try.prog W 0 sp hd n 3 [c0] = some y0) (h1 : DataW.trod enc Try.prog W 0 sp hd n 3 [c1] = some y1) (h2 : DataW.trod enc Try.prog W 0 sp hd n 22 [c2] = some y2) (h3 : DataW.trod enc Try.prog W 0 sp hd n 9 [c3] = some y3) :
    ∃ (e : Evt) (eo : Option Addr) (ec : Nat), c0 = .int .i64 e.kind ∧ c1 = .int .i64 e.b ∧ c2 = .slice eo e.ps.length ec ∧ c3 = .string e.pl ∧ RdL W eo e.ps ∧ e.ps.length + e.pl.size ≤ Rows.uptoBulk (H := H) (.agg [y0.1, y1.1, y2.1, y3.1]) := by
  obtain ⟨a, e0, _⟩ := DataW.trod_int Try.underlying3 h0
  obtain ⟨b, e1, _⟩ := DataW.trod_int Try.underlying3 h1
  obtain ⟨pl, e3, rfl, _⟩ := DataW.trod_string Try.underlying9 h3
  simp only [List.cons.injEq, and_true] at e0 e1 e3
  subst e0 e1 e3
  have hpl : ∀ x : DataW H, pl.size + Rows.uptoBulk x ≤ Rows.uptoBulk (H := H) (.agg [y0.1, y1.1, x, .lit (.string pl.data.toList)]) := by
    intro x
    have e : pl.data.toList.length = pl.size := by rw [Array.length_toList]; rfl
    simp only [Rows.uptoBulk, Rows.uptoBulkAll]
    omega
  rcases open_ints Try.underlying22 Try.underlying3 cells3 h2 with ⟨hcs, hx⟩ | ⟨x, l, c, zs, hcs, _, hl, hm, hz, hx, hcell, _⟩
  · simp only [List.cons.injEq, and_true] at hcs
    subst hcs
    exact ⟨⟨a, b, [], pl⟩, none, 0, rfl, rfl, rfl, rfl, .inl rfl, by have := hpl y2.1; simp only [List.length_nil]; omega⟩
  · simp only [List.cons.injEq, and_true] at hcs
    subst hcs
    have hz' : l ≤ zs.length := by rw [hz]; split <;> omega
    have hlen : (zs.take l).length = l := by simp; omega
    refine ⟨⟨a, b, zs.take l, pl⟩, some x, c, rfl, rfl, by rw [hlen], rfl, ?_, ?_⟩
    · by_cases h0 : l = 0
      · left; simp [h0]
      · right
        obtain ⟨b, off, rfl, hcl⟩ := ints_at hcell (by omega)
        refine ⟨b, off, rfl, fun j hj => ?_⟩
        simp only [hlen] at hj
        rw [hcl j (by omega)]
        simp [hj]
    · have h1 := bulk_length (lits (H := H) .i64 (zs.take l))
      have h2 : (lits (H := H) .i64 (zs.take l)).length = l := by simp [lits]; omega
      have h3 := hpl y2.1
      have h4 : l ≤ Rows.uptoBulk y2.1 := by
        rw [hx]
        simp only [Rows.uptoBulk]
        omega
      simp only [hlen]
      omega

set_option maxRecDepth 100000 in
theorem open_event {v : Value} {d : DataW H} {p : List MemPlace} (hv : Value.okWide Try.prog W .any base 37 v) (h : DataW.Trod enc Try.prog W 0 (fun _ => true) true 37 v d p) :
    ∃ (e : Evt) (eo : Option Addr) (ec : Nat), v = eval e eo ec ∧ RdL W eo e.ps ∧ e.ps.length + e.pl.size ≤ Rows.uptoBulk d := by
  obtain ⟨c0, c1, c2, c3, y0, y1, y2, y3, m, rfl, rfl, rfl, hy0, hy1, hy2, hy3⟩ := open_agg4 Try.underlying37 (by kernel_rfl) cellsE hv h
  obtain ⟨e, eo, ec, rfl, rfl, rfl, rfl, hr, hb⟩ := open_event_cells hy0 hy1 hy2 hy3
  exact ⟨e, eo, ec, rfl, hr, hb⟩

set_option maxRecDepth 100000 in
/-- A screen that came in has room for its cells. -/
theorem grid_cap {g : Gr} {ao : Option Addr} {cap : Nat} {d : DataW H} {p : List MemPlace} (hv : Value.okWide Try.prog W .any base 41 (gval g ao cap)) (h : DataW.Trod enc Try.prog W 0 (fun _ => true) true 41 (gval g ao cap) d p) : g.n ≤ cap := by
  obtain ⟨c0, c1, c2, c3, c4, c5, c6, c7, c8, y0, y1, y2, y3, y4, y5, y6, y7, y8, n, he, _, _, _, h2, _⟩ := open_agg9 Try.underlying41 (by kernel_rfl) cellsG hv h
  simp only [Value.agg.injEq, Array.mk.injEq, List.cons.injEq, and_true] at he
  obtain ⟨_, _, e2, _⟩ := he
  rw [← e2] at h2
  rcases Deep.open_slice Try.underlying39 h2 with ⟨hcs, _⟩ | ⟨a, len, cap', m, n', D, Pl, hcs, _, hl, _⟩
  · simp only [List.cons.injEq, and_true, Value.slice.injEq] at hcs
    omega
  · simp only [List.cons.injEq, and_true, Value.slice.injEq] at hcs
    omega
set_option maxRecDepth 100000 in
theorem open_cell1 {v : Value} {d : DataW H} {p : List MemPlace} (hv : Value.okWide Try.prog W .any base 49 v) (h : DataW.Trod enc Try.prog W 0 (fun _ => true) true 49 v d p) : ∃ c : Cel, v = cval c := by
  obtain ⟨c0, c1, c2, c3, y0, y1, y2, y3, m, rfl, _, _, h0, h1, h2, h3⟩ := open_agg4 Try.underlying49 (by kernel_rfl) cellsC hv h
  obtain ⟨a0, e0, _⟩ := DataW.trod_int Try.underlying3 h0
  obtain ⟨a1, e1, _⟩ := DataW.trod_int Try.underlying3 h1
  obtain ⟨a2, e2, _⟩ := DataW.trod_int Try.underlying3 h2
  obtain ⟨a3, e3, _⟩ := DataW.trod_bool Try.underlying4 h3
  simp only [List.cons.injEq, and_true] at e0 e1 e2 e3
  subst e0 e1 e2 e3
  exact ⟨⟨a0, a1, a2, a3⟩, rfl⟩
end

end Go.Proofs.Yteenppbpjdldgaa
