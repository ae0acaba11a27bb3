/- A screen that came in, opened: what the walk is told of it, and what the bound on the bulk gives. -/
import Derived.Test.YtpichplhidiokabDoorGNew
import Derived.ProofKit
import Derived.OpenShut
import Derived.ShutString
import Derived.ChangeOld
import Derived.Below
import Derived.JoinedCond
import Derived.Lib.SmallJoins
import Derived.Deep.Slices
namespace Go.Proofs.YtpichplhidiokabDoor
open Go.ChangeShapes Go.WideShapes Go.ChangeAt Go.RowKit Go.Joins
open Go.ChangeMaps (open_string shut_string)

theorem own : ownKnob Tryd.prog.godebug = none := by kernel_rfl
theorem laidOut : laidOutB Tryd.prog = true := by kernel_rfl
theorem cellsG : Tryd.prog.cellsOf 24 = 9 := by kernel_rfl
theorem cellsC : Tryd.prog.cellsOf 33 = 4 := by kernel_rfl

theorem bulk_one {H : Type} (x : DataW H) : 1 ≤ Rows.uptoBulk x := by
  cases x with
  | lit l => cases l <;> simp [Rows.uptoBulk]
  | _ => simp [Rows.uptoBulk]
theorem bulk_length {H : Type} (l : List (DataW H)) : l.length ≤ Rows.uptoBulkAll l := by
  induction l with
  | nil => simp [Rows.uptoBulkAll]
  | cons x r ih =>
    have := bulk_one x
    simp only [Rows.uptoBulkAll, List.length_cons]; omega

theorem short {H : Type} {d : DataW H} {l : List (DataW H)} (hk : Rows.uptoSmall H l = true) (hd : d ∈ l) : Rows.uptoBulk d ≤ 1048576 := by
  have h : Rows.uptoBulkAll l ≤ 1048576 := of_decide_eq_true hk
  refine Nat.le_trans ?_ h
  clear h hk
  induction l with
  | nil => cases hd
  | cons x r ih =>
    simp only [Rows.uptoBulkAll]
    rcases List.mem_cons.1 hd with e | e
    · subst e; omega
    · have := ih e; omega

section
variable {H : Type} {enc : TypeId × Value → H} {W : World} {base : Nat}

theorem array9 {α : Type} {cs : Array α} (h : cs.size = 9) : ∃ c0 c1 c2 c3 c4 c5 c6 c7 c8, cs = #[c0, c1, c2, c3, c4, c5, c6, c7, c8] := by
  obtain ⟨l⟩ := cs
  match l, h with
  | [c0, c1, c2, c3, c4, c5, c6, c7, c8], _ => exact ⟨c0, c1, c2, c3, c4, c5, c6, c7, c8, rfl⟩
theorem list9 {α : Type} {cs : List α} (h : cs.length = 9) : ∃ c0 c1 c2 c3 c4 c5 c6 c7 c8, cs = [c0, c1, c2, c3, c4, c5, c6, c7, c8] := by
  match cs, h with
  | [c0, c1, c2, c3, c4, c5, c6, c7, c8], _ => exact ⟨c0, c1, c2, c3, c4, c5, c6, c7, c8, rfl⟩
theorem list4 {α : Type} {cs : List α} (h : cs.length = 4) : ∃ c0 c1 c2 c3, cs = [c0, c1, c2, c3] := by
  match cs, h with
  | [c0, c1, c2, c3], _ => exact ⟨c0, c1, c2, c3, rfl⟩

theorem open_cell {sp : Nat → Bool} {hd : Bool} {n : Nat} {cs : List Value} {x : DataW H × List MemPlace} (h : DataW.trod enc Tryd.prog W 0 sp hd n 33 cs = some x) :
    ∃ c : Cel, cs = [.int .i64 c.ch, .int .i64 c.ink, .int .i64 c.pic, .bool c.bold] := by
  obtain ⟨y0, y1, y2, y3, m, _, hl, h0, h1, h2, h3⟩ := trod_struct4 Tryd.underlying33 h
  rw [cellsC] at hl
  obtain ⟨c0, c1, c2, c3, rfl⟩ := list4 hl
  have one3 : Tryd.prog.cellsOf 3 = 1 := by kernel_rfl
  have one4 : Tryd.prog.cellsOf 4 = 1 := by kernel_rfl
  simp only [List.drop, one3, one4, List.take] at h0 h1 h2 h3
  obtain ⟨a0, e0, _⟩ := DataW.trod_int Tryd.underlying3 h0
  obtain ⟨a1, e1, _⟩ := DataW.trod_int Tryd.underlying3 h1
  obtain ⟨a2, e2, _⟩ := DataW.trod_int Tryd.underlying3 h2
  obtain ⟨a3, e3, _⟩ := DataW.trod_bool Tryd.underlying4 h3
  simp only [List.cons.injEq, and_true] at e0 e1 e2 e3
  subst e0 e1 e2 e3
  exact ⟨⟨a0, a1, a2, a3⟩, rfl⟩

theorem open_cells {sp : Nat → Bool} {hd : Bool} {n : Nat} {v : Value} {x : DataW H × List MemPlace} (h : DataW.trod enc Tryd.prog W 0 sp hd n 22 [v] = some x) :
    ∃ (ao : Option Addr) (len cap : Nat) (f : Nat → Cel), v = .slice ao len cap ∧ RdS W ao len f ∧ (ao = none → len = 0 ∧ cap = 0) ∧ len ≤ Rows.uptoBulk x.1 := by
  rcases Deep.open_slice Tryd.underlying22 h with ⟨hcs, _⟩ | ⟨a, len, cap, m, n', D, Pl, hcs, _, hl, hm, hmm, hx, each⟩
  · simp only [List.cons.injEq, and_true] at hcs
    subst hcs
    exact ⟨none, 0, 0, fun _ => noCel, rfl, .inl rfl, fun _ => ⟨rfl, rfl⟩, Nat.zero_le _⟩
  · simp only [List.cons.injEq, and_true] at hcs
    subst hcs
    have hlm : len ≤ m := by rw [hmm]; split <;> omega
    have hbk : len ≤ Rows.uptoBulk x.1 := by
      rw [hx]
      have h1 := bulk_length ((List.range len).map D)
      simp only [List.length_map, List.length_range] at h1
      simp only [Rows.uptoBulk]
      omega
    have ev : ∀ i, i < len → ∃ c : Cel, ∀ j, j < 4 → W.cell? (a.add (i * 4 + j)) = cel4 c j := by
      intro i hi
      obtain ⟨cs', h1, h2⟩ := each i (by omega)
      obtain ⟨_, _, hcell⟩ := World.cells?_some h1
      obtain ⟨c, rfl⟩ := open_cell h2
      refine ⟨c, fun j hj => ?_⟩
      have := hcell j (by rw [cellsC]; exact hj)
      rw [cellsC, Deep.add_add] at this
      rw [this]
      simp [cel4]
    rcases Nat.eq_zero_or_pos len with h0 | h0
    · subst h0
      exact ⟨some a, 0, cap, fun _ => noCel, rfl, .inl rfl, fun h => (by cases h), hbk⟩
    · obtain ⟨c0, hc0⟩ := ev 0 h0
      obtain ⟨b, off, spot⟩ := a
      have hspot : spot = none := by
        have h1 : W.cell? ((⟨b, off, spot⟩ : Addr).add (0 * 4 + 0)) = some (.int .i64 c0.ch) := hc0 0 (by omega)
        have h2 := World.cell?_spot h1
        simpa [Addr.add] using h2
      subst hspot
      refine ⟨some ⟨b, off, none⟩, len, cap, fun i => if h : i < len then Classical.choose (ev i h) else noCel, rfl, .inr ⟨b, off, rfl, fun i hi => ?_⟩, fun h => (by cases h), hbk⟩
      have hs := Classical.choose_spec (ev i hi)
      simp only [dif_pos hi]
      have key : ∀ j, j < 4 → W.cell? ⟨b, off + i * 4 + j, none⟩ = cel4 (Classical.choose (ev i hi)) j := by
        intro j hj
        have := hs j hj
        rw [add_at, ← Nat.add_assoc] at this
        exact this
      exact ⟨by simpa [cel4] using key 0 (by omega), by simpa [cel4] using key 1 (by omega), by simpa [cel4] using key 2 (by omega), by simpa [cel4] using key 3 (by omega)⟩

set_option maxRecDepth 100000 in
theorem open_agg9 {r : Reach} {b0 : Nat} {t : TypeId} {f0 f1 f2 f3 f4 f5 f6 f7 f8 : Field} {v : Value} {d : DataW H} {p : List MemPlace} (hs : Tryd.prog.underlying t = some (.struct #[f0, f1, f2, f3, f4, f5, f6, f7, f8])) (hone : Deep.oneCellFields Tryd.prog #[f0, f1, f2, f3, f4, f5, f6, f7, f8] = true) (hC : Tryd.prog.cellsOf t = 9)
    (hv : Value.okWide Tryd.prog W r b0 t v) (h : DataW.Trod enc Tryd.prog W 0 (fun _ => true) true t v d p) :
    ∃ (v0 v1 v2 v3 v4 v5 v6 v7 v8 : Value) (y0 y1 y2 y3 y4 y5 y6 y7 y8 : DataW H × List MemPlace) (n : Nat), v = .agg #[v0, v1, v2, v3, v4, v5, v6, v7, v8] ∧ d = .agg [y0.1, y1.1, y2.1, y3.1, y4.1, y5.1, y6.1, y7.1, y8.1] ∧
      DataW.trod enc Tryd.prog W 0 (fun _ => true) true n f0.type [v0] = some y0 ∧ DataW.trod enc Tryd.prog W 0 (fun _ => true) true n f1.type [v1] = some y1 ∧ DataW.trod enc Tryd.prog W 0 (fun _ => true) true n f2.type [v2] = some y2 ∧ DataW.trod enc Tryd.prog W 0 (fun _ => true) true n f3.type [v3] = some y3 ∧ DataW.trod enc Tryd.prog W 0 (fun _ => true) true n f4.type [v4] = some y4 ∧ DataW.trod enc Tryd.prog W 0 (fun _ => true) true n f5.type [v5] = some y5 ∧ DataW.trod enc Tryd.prog W 0 (fun _ => true) true n f6.type [v6] = some y6 ∧ DataW.trod enc Tryd.prog W 0 (fun _ => true) true n f7.type [v7] = some y7 ∧ DataW.trod enc Tryd.prog W 0 (fun _ => true) true n f8.type [v8] = some y8 := by
  obtain ⟨cs, rfl, hsz⟩ := okWide_struct hs hv
  obtain ⟨c0, c1, c2, c3, c4, c5, c6, c7, c8, rfl⟩ := array9 (hsz.trans hC)
  obtain ⟨fuel, hf⟩ := h
  obtain ⟨xs, n, _, hx, _, hlen, hfs⟩ := DataW.trod_struct hs hf
  obtain ⟨y0, y1, y2, y3, y4, y5, y6, y7, y8, rfl⟩ := list9 (by simpa using hlen)
  obtain ⟨o0, k0⟩ := Deep.hone_of hone 0 f0 rfl
  obtain ⟨o1, k1⟩ := Deep.hone_of hone 1 f1 rfl
  obtain ⟨o2, k2⟩ := Deep.hone_of hone 2 f2 rfl
  obtain ⟨o3, k3⟩ := Deep.hone_of hone 3 f3 rfl
  obtain ⟨o4, k4⟩ := Deep.hone_of hone 4 f4 rfl
  obtain ⟨o5, k5⟩ := Deep.hone_of hone 5 f5 rfl
  obtain ⟨o6, k6⟩ := Deep.hone_of hone 6 f6 rfl
  obtain ⟨o7, k7⟩ := Deep.hone_of hone 7 f7 rfl
  obtain ⟨o8, k8⟩ := Deep.hone_of hone 8 f8 rfl
  simp only [Prod.mk.injEq, List.map_cons, List.map_nil] at hx
  exact ⟨c0, c1, c2, c3, c4, c5, c6, c7, c8, y0, y1, y2, y3, y4, y5, y6, y7, y8, n, rfl, hx.1, by simpa [Value.cells, o0, k0] using hfs 0 f0 rfl, by simpa [Value.cells, o1, k1] using hfs 1 f1 rfl, by simpa [Value.cells, o2, k2] using hfs 2 f2 rfl, by simpa [Value.cells, o3, k3] using hfs 3 f3 rfl, by simpa [Value.cells, o4, k4] using hfs 4 f4 rfl, by simpa [Value.cells, o5, k5] using hfs 5 f5 rfl, by simpa [Value.cells, o6, k6] using hfs 6 f6 rfl, by simpa [Value.cells, o7, k7] using hfs 7 f7 rfl, by simpa [Value.cells, o8, k8] using hfs 8 f8 rfl⟩

set_option maxRecDepth 100000 in
theorem open_grid {v : Value} {d : DataW H} {p : List MemPlace} (hv : Value.okWide Tryd.prog W .any base 24 v) (h : DataW.Trod enc Tryd.prog W 0 (fun _ => true) true 24 v d p) :
    ∃ (g : Gr) (ao : Option Addr) (cap : Nat), v = gval g ao cap ∧ RdS W ao g.n g.f ∧ (ao = none → g.n = 0 ∧ cap = 0) ∧ g.n ≤ Rows.uptoBulk d := by
  obtain ⟨c0, c1, c2, c3, c4, c5, c6, c7, c8, y0, y1, y2, y3, y4, y5, y6, y7, y8, n, rfl, rfl, h0, h1, h2, h3, h4, h5, h6, h7, h8⟩ := open_agg9 Tryd.underlying24 (by kernel_rfl) cellsG hv h
  obtain ⟨a0, e0, _⟩ := DataW.trod_int Tryd.underlying3 h0
  obtain ⟨a1, e1, _⟩ := DataW.trod_int Tryd.underlying3 h1
  obtain ⟨ao, len, cap, f, e2, hr, hn, hb⟩ := open_cells h2
  obtain ⟨a3, e3, _⟩ := DataW.trod_int Tryd.underlying3 h3
  obtain ⟨a4, e4, _⟩ := DataW.trod_int Tryd.underlying3 h4
  obtain ⟨a5, e5, _⟩ := DataW.trod_int Tryd.underlying3 h5
  obtain ⟨a6, e6, _⟩ := DataW.trod_bool Tryd.underlying4 h6
  obtain ⟨a7, e7, _⟩ := DataW.trod_int Tryd.underlying3 h7
  obtain ⟨a8, e8, _⟩ := DataW.trod_int Tryd.underlying3 h8
  simp only [List.cons.injEq, and_true] at e0 e1 e3 e4 e5 e6 e7 e8
  subst e0 e1 e2 e3 e4 e5 e6 e7 e8
  refine ⟨⟨a0, a1, len, f, a3, a4, a5, a6, a7, a8⟩, ao, cap, rfl, hr, hn, ?_⟩
  simp only [Rows.uptoBulk, Rows.uptoBulkAll]
  omega
end

end Go.Proofs.YtpichplhidiokabDoor
