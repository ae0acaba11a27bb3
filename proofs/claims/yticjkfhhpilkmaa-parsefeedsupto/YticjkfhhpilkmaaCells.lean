/- What the cells of the events hold, one by one. -/
import Derived.Test.YticjkfhhpilkmaaRound
namespace Go.Proofs.Yticjkfhhpilkmaa
open Go.RowKit

theorem cell_of_told {base : Nat} {w : World} {g tc : Nat} {evs : List Item} (h : Told base w (some ⟨g, 0, none⟩) tc evs) (k : Nat) (hk : k < evs.length) :
    w.cell? ⟨g, k * 4, none⟩ = some (.int .i64 (evs[k].1.kind)) ∧ w.cell? ⟨g, k * 4 + 1, none⟩ = some (.int .i64 (evs[k].1.b)) ∧ w.cell? ⟨g, k * 4 + 2, none⟩ = some (.slice evs[k].2.1 evs[k].1.ps.length evs[k].2.2) ∧ w.cell? ⟨g, k * 4 + 3, none⟩ = some (.string evs[k].1.pl) := by
  have hf : ∀ (l : List Item) (k : Nat) (hk : k < l.length) (j : Nat), j < 4 → (allCells l)[k * 4 + j]? = (cellsOf l[k])[j]? := by
    intro l
    induction l with
    | nil => intro k hk; simp at hk
    | cons x r ih =>
      intro k hk j hj
      have e : allCells (x :: r) = cellsOf x ++ allCells r := by simp [allCells]
      rw [e]
      cases k with
      | zero =>
        rw [Nat.zero_mul, Nat.zero_add, List.getElem?_append_left (by simp [cellsOf]; omega)]
        rfl
      | succ k =>
        rw [List.getElem?_append_right (by simp [cellsOf]; omega)]
        have := ih k (by simpa using hk) j hj
        simp only [List.getElem_cons_succ]
        rw [← this]
        congr 1
        simp [cellsOf]
        omega
  have hc : ∀ j, j < 4 → w.cell? ⟨g, k * 4 + j, none⟩ = (cellsOf evs[k])[j]? := by
    intro j hj
    rw [World.ownsRow.cellAt h.row (k * 4 + j) (by omega), hf evs k hk j hj]
  exact ⟨by have := hc 0 (by omega); simpa [cellsOf] using this, by have := hc 1 (by omega); simpa [cellsOf] using this, by have := hc 2 (by omega); simpa [cellsOf] using this, by have := hc 3 (by omega); simpa [cellsOf] using this⟩

theorem told_form {base : Nat} {w : World} {tq : Option Addr} {tc : Nat} {evs : List Item} (h : Told base w tq tc evs) (hl : 0 < evs.length) : ∃ g, tq = some ⟨g, 0, none⟩ := by
  rcases h.row.2 with ⟨_, h0⟩ | ⟨g, c, cur, hv, _⟩
  · omega
  · simp only [Value.slice.injEq] at hv
    exact ⟨g, hv.1⟩

end Go.Proofs.Yticjkfhhpilkmaa
