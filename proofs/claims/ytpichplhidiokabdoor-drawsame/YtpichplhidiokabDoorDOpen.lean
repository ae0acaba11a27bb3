/- How great a screen that came in may be, and its list's capacity. -/
import Derived.Test.YtpichplhidiokabDoorGOpen
import Derived.SizedLaws
namespace Go.Proofs.YtpichplhidiokabDoor
open Go.ChangeShapes Go.WideShapes Go.ChangeAt Go.RowKit Go.Joins

theorem bytesCell : Tryd.prog.bytesOf 33 = 32 := by kernel_rfl

section
variable {H : Type} {enc : TypeId × Value → H} {W : World} {base : Nat}

set_option maxRecDepth 100000 in
theorem grid_sized {g : Gr} {ao : Option Addr} {cap : Nat} {d : DataW H} {p : List MemPlace} (hv : Value.okWide Tryd.prog W .any base 24 (gval g ao cap)) (h : DataW.Trod enc Tryd.prog W 0 (fun _ => true) true 24 (gval g ao cap) d p) (hw : ∀ m ∈ d.weights Tryd.prog 24, m ≤ reachBytes) : g.n * 32 ≤ reachBytes ∧ g.n ≤ cap := by
  obtain ⟨c0, c1, c2, c3, c4, c5, c6, c7, c8, y0, y1, y2, y3, y4, y5, y6, y7, y8, n, he, hd, _, _, h2, _⟩ := open_agg9 Tryd.underlying24 (by kernel_rfl) cellsG hv h
  simp only [Value.agg.injEq, Array.mk.injEq, List.cons.injEq, and_true] at he
  obtain ⟨_, _, e2, _⟩ := he
  rw [← e2] at h2
  have hw2 : ∀ m ∈ y2.1.weights Tryd.prog 22, m ≤ reachBytes := fun m hm => hw m (by
    rw [hd]
    simp only [DataW.weights, Tryd.underlying24, List.map_cons, List.map_nil, DataW.weightsEach]
    exact List.mem_append_right _ (List.mem_append_right _ (List.mem_append_left _ hm)))
  rcases Deep.open_slice Tryd.underlying22 h2 with ⟨hcs, _⟩ | ⟨a, len, cap', m, n', D, Pl, hcs, _, hl, _, _, hx, _⟩
  · simp only [List.cons.injEq, and_true, Value.slice.injEq] at hcs
    omega
  · simp only [List.cons.injEq, and_true, Value.slice.injEq] at hcs
    have h3 := hw2 _ (by rw [hx]; simp only [DataW.weights, Tryd.underlying22]; exact List.mem_cons_self ..)
    rw [bytesCell] at h3
    simp only [List.length_map, List.length_range] at h3
    omega
end

end Go.Proofs.YtpichplhidiokabDoor
