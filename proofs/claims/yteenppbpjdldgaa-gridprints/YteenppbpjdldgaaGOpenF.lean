/- How great what came in may be: a screen, an event. -/
import Derived.Test.YteenppbpjdldgaaGOpenE
import Derived.SizedLaws
namespace Go.Proofs.Yteenppbpjdldgaa
open Go.ChangeShapes Go.WideShapes Go.ChangeAt Go.RowKit Go.Joins
open Go.ChangeMaps (open_string shut_string)

theorem bytesC : Try.prog.bytesOf 49 = 32 := by kernel_rfl
theorem bytes3 : Try.prog.bytesOf 3 = 8 := by kernel_rfl

section
variable {H : Type} {enc : TypeId × Value → H} {W : World} {base : Nat}

set_option maxRecDepth 100000 in
/-- A screen that came in. -/
theorem grid_size {g : Gr} {ao : Option Addr} {cap : Nat} {d : DataW H} {p : List MemPlace} (hv : Value.okWide Try.prog W .any base 41 (gval g ao cap)) (h : DataW.Trod enc Try.prog W 0 (fun _ => true) true 41 (gval g ao cap) d p) (hw : ∀ m ∈ d.weights Try.prog 41, m ≤ reachBytes) : g.n * 32 ≤ reachBytes := by
  obtain ⟨c0, c1, c2, c3, c4, c5, c6, c7, c8, y0, y1, y2, y3, y4, y5, y6, y7, y8, n, he, hd, _, _, h2, _⟩ := open_agg9 Try.underlying41 (by kernel_rfl) cellsG hv h
  simp only [Value.agg.injEq, Array.mk.injEq, List.cons.injEq, and_true] at he
  obtain ⟨_, _, e2, _⟩ := he
  rw [← e2] at h2
  have hw2 : ∀ m ∈ y2.1.weights Try.prog 39, m ≤ reachBytes := fun m hm => hw m (by
    rw [hd]
    simp only [DataW.weights, Try.underlying41, List.map_cons, List.map_nil, DataW.weightsEach]
    exact List.mem_append_right _ (List.mem_append_right _ (List.mem_append_left _ hm)))
  rcases Deep.open_slice Try.underlying39 h2 with ⟨hcs, _⟩ | ⟨a, len, cap', m, n', D, Pl, hcs, _, hl, _, _, hx, _⟩
  · simp only [List.cons.injEq, and_true, Value.slice.injEq] at hcs
    omega
  · simp only [List.cons.injEq, and_true, Value.slice.injEq] at hcs
    have h3 := hw2 _ (by rw [hx]; simp only [DataW.weights, Try.underlying39]; exact List.mem_cons_self ..)
    rw [bytesC] at h3
    simp only [List.length_map, List.length_range] at h3
    omega

set_option maxRecDepth 100000 in
/-- An event that came in. -/
theorem event_size {e : Evt} {eo : Option Addr} {ec : Nat} {d : DataW H} {p : List MemPlace} (hv : Value.okWide Try.prog W .any base 37 (eval e eo ec)) (h : DataW.Trod enc Try.prog W 0 (fun _ => true) true 37 (eval e eo ec) d p) (hw : ∀ m ∈ d.weights Try.prog 37, m ≤ reachBytes) : e.ps.length * 8 ≤ reachBytes ∧ e.pl.size ≤ reachBytes := by
  obtain ⟨c0, c1, c2, c3, y0, y1, y2, y3, m, he, hd, _, _, _, h2, h3⟩ := open_agg4 Try.underlying37 (by kernel_rfl) cellsE hv h
  simp only [Value.agg.injEq, Array.mk.injEq, List.cons.injEq, and_true] at he
  obtain ⟨_, _, e2, e3⟩ := he
  rw [← e2] at h2
  rw [← e3] at h3
  have hw2 : ∀ m ∈ y2.1.weights Try.prog 22, m ≤ reachBytes := fun m hm => hw m (by
    rw [hd]
    simp only [DataW.weights, Try.underlying37, List.map_cons, List.map_nil, DataW.weightsEach]
    exact List.mem_append_right _ (List.mem_append_right _ (List.mem_append_left _ hm)))
  have hw3 : ∀ m ∈ y3.1.weights Try.prog 9, m ≤ reachBytes := fun m hm => hw m (by
    rw [hd]
    simp only [DataW.weights, Try.underlying37, List.map_cons, List.map_nil, DataW.weightsEach]
    exact List.mem_append_right _ (List.mem_append_right _ (List.mem_append_right _ (List.mem_append_left _ hm))))
  constructor
  · rcases Deep.open_slice Try.underlying22 h2 with ⟨hcs, _⟩ | ⟨a, len, cap', m', n', D, Pl, hcs, _, hl, _, _, hx, _⟩
    · simp only [List.cons.injEq, and_true, Value.slice.injEq] at hcs
      omega
    · simp only [List.cons.injEq, and_true, Value.slice.injEq] at hcs
      have h4 := hw2 _ (by rw [hx]; simp only [DataW.weights, Try.underlying22]; exact List.mem_cons_self ..)
      rw [bytes3] at h4
      simp only [List.length_map, List.length_range] at h4
      omega
  · obtain ⟨pl, e4, e5, _⟩ := DataW.trod_string Try.underlying9 h3
    simp only [List.cons.injEq, and_true, Value.string.injEq] at e4
    have h4 := hw3 _ (by rw [e5]; simp only [DataW.weights]; exact List.mem_cons_self ..)
    rw [e4]
    have : pl.data.toList.length = pl.size := by rw [Array.length_toList]; rfl
    omega
end

end Go.Proofs.Yteenppbpjdldgaa
