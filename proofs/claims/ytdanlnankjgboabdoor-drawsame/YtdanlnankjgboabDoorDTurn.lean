/- Turn and Anew of the plain machine: the bytes make of the one screen the other; a screen that is shown needs none. -/
import Derived.Test.YtdanlnankjgboabDoorDRow
namespace Go.Proofs.YtdanlnankjgboabDoor

theorem turnB_iff (x t : Gr) : turnB x t = true ↔ OkG x ∧ OkG t ∧ t.col < t.wide ∧ x.wide = t.wide ∧ x.high = t.high := by
  unfold turnB showsB
  simp only [Bool.and_eq_true, decide_eq_true_eq, goodG_iff]
  constructor
  · rintro ⟨⟨⟨a, b, c⟩, d⟩, e⟩; exact ⟨a, b, c, d, e⟩
  · rintro ⟨a, b, c, d, e⟩; exact ⟨⟨⟨a, b, c⟩, d⟩, e⟩

/-- What the bytes are to do. -/
structure Draws (x t : Gr) (p : Pen) : Prop where
  sends : Sends x p.out p.g
  short : p.out.length ≤ 3580
  cells : ∀ i, i < t.n → p.g.f i = t.f i
  row : p.g.row = t.row
  col : p.g.col = t.col
  ok : OkG p.g
  wide : p.g.wide = t.wide
  high : p.g.high = t.high
  n : p.g.n = t.n

theorem turn_draws {x t : Gr} (okx : OkG x) (okt : OkG t) (hc : t.col < t.wide) (hw : x.wide = t.wide) (hh : x.high = t.high) : Draws x t (turnP x t) := by
  have s := shown (p := ⟨[], x⟩) okx t okt hw.symm hh.symm hc
  obtain ⟨m, m1, m2, m3⟩ := s.adds.more
  obtain ⟨ok, e1, e2, e3⟩ := s.adds.ok (p := ⟨[], x⟩) okx
  have hm : (turnP x t).out = m := m1
  refine ⟨?_, by rw [hm]; omega, s.cells, s.row, s.col, ok, e1.trans hw, e2.trans hh, e3.trans ?_⟩
  · rw [hm]; exact m3
  · show x.n = t.n
    rw [size_nat okx, size_nat okt, hw, hh]

theorem anew_draws {x t : Gr} (okt : OkG t) (hc : t.col < t.wide) (hw : x.wide = t.wide) (hh : x.high = t.high) : Draws x t (anewP t) := by
  obtain ⟨n1, n2, n3⟩ := new_sides okt
  have okn := ok_new t.wide t.high
  have s := shown (p := ⟨[27, 99], newG t.wide t.high⟩) okn t okt n1.symm n2.symm hc
  obtain ⟨m, m1, m2, m3⟩ := s.adds.more
  obtain ⟨ok, e1, e2, e3⟩ := s.adds.ok (p := ⟨[27, 99], newG t.wide t.high⟩) okn
  have hm : (anewP t).out = [27, 99] ++ m := m1
  refine ⟨?_, by rw [hm]; simp; omega, s.cells, s.row, s.col, ok, e1.trans n1, e2.trans n2, e3.trans n3⟩
  rw [hm]
  have r := sends_reset x
  rw [hw, hh] at r
  exact r.append m3

theorem celB_self (c : Cel) : celB c c = true := (celB_iff c c).2 rfl
theorem sur_same (h : Nat → Cel) (n : Nat) : ∀ k, surD h h n k = ((n : Int), -1)
  | 0 => rfl
  | k + 1 => by
    unfold surD
    rw [if_neg (by simp [surB, celB_self])]
    exact sur_same h n k
theorem erase_same (p : Pen) (r : Nat) : eraseP p r (shF p.g.f (r * p.g.wide.toNat)) = p := by
  unfold eraseP eraseAtP
  rw [sur_same, if_pos (by show (-1 : Int) < 0; decide)]
theorem cells_same (p : Pen) (r : Nat) : ∀ k, cellsP p r (shF p.g.f (r * p.g.wide.toNat)) k = p
  | 0 => rfl
  | k + 1 => by
    unfold cellsP
    rw [cells_same p r k]
    unfold cellP
    exact if_pos (celB_self _)
theorem rows_same (p : Pen) : ∀ k, rowsP p p.g k = p
  | 0 => rfl
  | k + 1 => by
    unfold rowsP
    rw [rows_same p k]
    unfold rowP
    rw [erase_same, cells_same]
/-- To turn a screen into itself no bytes are needed. -/
theorem turn_same {g : Gr} (ok : OkG g) (hc : g.col < g.wide) : turnP g g = ⟨[], g⟩ := by
  unfold turnP showP
  rw [rows_same ⟨[], g⟩]
  have := (len_moveD ok g.row g.col ok.r1 ok.r2 ok.c1 hc).2.2 rfl rfl
  unfold moveP
  rw [this]
  rfl

end Go.Proofs.YtdanlnankjgboabDoor
