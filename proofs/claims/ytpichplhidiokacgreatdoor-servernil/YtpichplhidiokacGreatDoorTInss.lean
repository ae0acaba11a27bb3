/- Several texts in one, each as it was: TIns, TIns2. -/
import Derived.Test.YtpichplhidiokacGreatDoorTCopy
import Derived.Laws.CopyOwn
import Derived.Lib.AppendZerosOnto
import Derived.Lib.Overlaps
import Derived.Laws.Externs

/- What 'slices.Insert' makes of a list of one's own. -/
namespace Go.Proofs.YtpichplhidiokacGreatDoor.Tl
open Go.RowKit

theorem own_cap {w : World} {base sz n : Nat} {e : TypeId} {a : Addr} {c : Nat} {xs : List Value} (h : w.ownsRow base e sz (.slice (some a) n c) n xs) : n ≤ c := by
  rcases h.2 with ⟨hv, _⟩ | ⟨g, cap, cur, hv, hb, hg, hc, _⟩
  · cases hv
  · simp only [Value.slice.injEq, Option.some.injEq] at hv
    obtain ⟨rfl, _, rfl⟩ := hv
    exact hc
theorem own_cell {w : World} {base g n : Nat} {e : TypeId} {c : Nat} {xs : List Value} (h : w.ownsRow base e 1 (.slice (some ⟨g, 0, none⟩) n c) n xs) (j : Nat) (u : Value) (hu : xs[j]? = some u) : w.cell? ⟨g, j, none⟩ = some u := by
  have hj : j < xs.length := (List.getElem?_eq_some_iff.1 hu).1
  rcases h.2 with ⟨hv, _⟩ | ⟨g', cap, cur, hv, hb, hg, hc, _, hs, ht⟩
  · cases hv
  · simp only [Value.slice.injEq, Option.some.injEq, Addr.mk.injEq, and_true, true_and] at hv
    obtain ⟨rfl, rfl⟩ := hv
    have h1 := h.1
    rw [← ht, List.getElem?_take_of_lt (by omega)] at hu
    simp only [World.cell?, hg]
    simpa using hu
theorem splice_ins {α : Type} (Z xs : List α) (i : Nat) (X : α) (hi : i ≤ xs.length) (hZi : Z.take i = xs.take i) (hZl : xs.length + 1 ≤ Z.length) :
    (splice (splice Z i [X]) (i + 1) (xs.drop i)).take (xs.length + 1) = insL xs i X ∧ (splice (splice Z i [X]) (i + 1) (xs.drop i)).length = Z.length := by
  have hl1 : (splice Z i [X]).length = Z.length := length_splice _ _ _ (by simp; omega)
  have e2 : (splice Z i [X]).take (i + 1) = xs.take i ++ [X] := by
    unfold splice
    rw [hZi, ← List.append_assoc, List.take_append_of_le_length (by simp; omega), List.take_of_length_le (by simp; omega)]
  obtain ⟨Y, hY⟩ : ∃ Y, Y = splice Z i [X] := ⟨_, rfl⟩
  rw [← hY] at e2 hl1 ⊢
  refine ⟨?_, by rw [length_splice _ _ _ (by rw [List.length_drop]; omega)]; exact hl1⟩
  unfold splice
  rw [e2, ← List.append_assoc, List.take_append_of_le_length (by simp; omega), List.take_of_length_le (by simp; omega)]
  simp [insL]
theorem grown_setRow (w : World) (b : Nat) (cs : Array Value) : w.grownBy (w.setRow b cs) (some b) :=
  ⟨rfl, rfl, rfl, by simp [World.setRow], fun k _ hk => setRow_other w b k cs (fun e => hk (by rw [e]))⟩
theorem grown_refl (w : World) (row : Option Nat) : w.grownBy w row := ⟨rfl, rfl, rfl, Nat.le_refl _, fun _ _ _ => rfl⟩
theorem grown_trans {a b c : World} {row : Option Nat} (h : a.grownBy b row) (k : b.grownBy c row) : a.grownBy c row :=
  ⟨k.os.trans h.os, k.tape.trans h.tape, k.output.trans h.output, Nat.le_trans h.size k.size, fun i hi hne => (k.block i (Nat.lt_of_lt_of_le hi h.size) hne).trans (h.block i hi hne)⟩
theorem below_grown {w w' : World} (h : Below w.heap.size w w') (row : Option Nat) : w.grownBy w' row :=
  ⟨h.os, h.tape, h.output, h.size, fun k hk _ => h.block k hk⟩
theorem grown_below {w w' : World} {b B : Nat} (hg : w.grownBy w' (some b)) (hB : B ≤ w.heap.size) (hb : B ≤ b) : Below B w w' :=
  ⟨hg.os, hg.tape, hg.output, hg.size, fun k hk => hg.block k (by omega) (by simp; omega)⟩

theorem run_splice (W : World) (ty T e : TypeId) (hu : Tryz.prog.underlying T = some (.slice e)) (hsz : (Tryz.prog.info? e).map (·.size) = some 1) (g off dLen dCap : Nat) (ad : Addr) (sLen sCap : Nat) (cur : List Value) (hg : W.heap[g]? = some (.cells cur.toArray e (0, 0)))
    (cs : List Value) (hn : cs.length = Nat.min sLen dLen) (hsrc : ∀ j v, cs[j]? = some v → W.cell? (ad.add j) = some v) (hfit : off + cs.length ≤ cur.length) (h1 : ∀ v ∈ cs, v.oneCell' = true) :
    ∃ W1, (Builtin.copy_ #[T, T] ty #[.slice (some ⟨g, off, none⟩) dLen dCap, .slice (some ad) sLen sCap]).run Tryz.prog W = .ok (goInt cs.length) W1 ∧ W1.heap[g]? = some (.cells (splice cur off cs).toArray e (0, 0)) ∧ W.grownBy W1 (some g) := by
  refine ⟨_, run_copy_row (P := Tryz.prog) W T T ty e g off dLen dCap ad sLen sCap cur.toArray e cs hu hsz hg hn hsrc (by simpa using hfit) h1, ?_, grown_setRow _ _ _⟩
  simpa [splice] using setRow_heap W g _ _ e _ hg
theorem cell_one {w : World} {vb : Nat} {X : Value} {t : TypeId} (h : w.heap[vb]? = some (.cells #[X] t)) (j : Nat) (u : Value) (hu : ([X] : List Value)[j]? = some u) : w.cell? ((⟨vb, 0, none⟩ : Addr).add j) = some u := by
  have hj : j = 0 := by
    have := (List.getElem?_eq_some_iff.1 hu).1
    simpa using this
  subst hj
  simp only [List.getElem?_cons_zero, Option.some.injEq] at hu
  subst hu
  rw [add_at]
  exact cell_of_row _ _ 0 _ t _ h

theorem hszL : (Tryz.prog.info? 48).map (·.size) = some 1 := by kernel_rfl

set_option maxHeartbeats 1000000 in
set_option maxRecDepth 100000 in
/-- 'slices.Insert' at the end. -/
theorem ins_endL (base g n cap vb : Nat) (xs : List Value) (X : Value) (w : World) (hown : w.ownsRow base 48 1 (.slice (some ⟨g, 0, none⟩) n cap) n xs) (hn : n ≤ 1048576) (hv : w.heap[vb]? = some (.cells #[X] 48)) (hX : X.oneCell' = true) (hbase : base ≤ w.heap.size) :
    Calls Tryz.prog 92 #[.slice (some ⟨g, 0, none⟩) n cap, .int .i64 n, .slice (some ⟨vb, 0, none⟩) 1 1] w fun en w' => ∃ v', en = .returned v' ∧ w'.ownsRow base 48 1 v' (n + 1) (xs ++ [X]) ∧ w.grownBy w' (some g) := by
  obtain ⟨i0, hi, hz0, hz1, hz2⟩ := info_parts infoL
  have HS : Hid (∀ j u, [X][j]? = some u → w.cell? ((⟨vb, 0, none⟩ : Addr).add j) = some u) := cell_one hv
  have HO : Hid (w.ownsRow base 48 1 (.slice (some ⟨g, 0, none⟩) n cap) n xs) := hown
  have hnc : n ≤ cap := own_cap hown
  clear hown hv
  go_enter Tryz.func92, Tryz.ntmps92
  go_wp2_with (at_builtin; refine wpList_append_own _ rfl _ _ 32 rfl base 48 i0 (.slice none 0 0) 1 24 Tryz.underlying32 hi hz0 hz1 hz2 rfl (by decide) _ n xs rfl HO.out ⟨vb, 0, none⟩ 1 1 [X] rfl rfl HS.out (by intro u hu; simp at hu; subst hu; exact hX) (by unfold maxLen; omega) (by omega) hbase ?_)
  all_goals
    intro v' w1 hown1 hg1 _
    have HE : Hid (w1.ownsRow base 48 1 v' (n + 1) (xs ++ [X]) ∧ w.grownBy w1 (some g)) := ⟨hown1, hg1⟩
    clear hown1 hg1
    go_wp2
    go_ret
    exact ⟨v', rfl, HE.out⟩

set_option maxHeartbeats 2000000 in
set_option maxRecDepth 100000 in
/-- 'slices.Insert' in the midst, where there is no room: a new row. -/
theorem ins_growL (base g n cap i vb : Nat) (xs : List Value) (X : Value) (w : World) (hown : w.ownsRow base 48 1 (.slice (some ⟨g, 0, none⟩) n cap) n xs) (hn : n ≤ 1048576) (hin : i < n) (hfull : cap < n + 1) (hv : w.heap[vb]? = some (.cells #[X] 48)) (hX : X.oneCell' = true) (h1 : ∀ v ∈ xs, v.oneCell' = true) (hbase : base ≤ w.heap.size) :
    Calls Tryz.prog 92 #[.slice (some ⟨g, 0, none⟩) n cap, .int .i64 i, .slice (some ⟨vb, 0, none⟩) 1 1] w fun en w' => ∃ v', en = .returned v' ∧ w'.ownsRow base 48 1 v' (n + 1) (insL xs i X) ∧ w.grownBy w' (some g) := by
  obtain ⟨i0, hi, hz0, hz1, hz2⟩ := info_parts infoL
  have hxl : xs.length = n := by have := hown.1; omega
  have hnc : n ≤ cap := own_cap hown
  have hsrc : ∀ j u, xs[j]? = some u → w.cell? ⟨g, j, none⟩ = some u := own_cell hown
  have hgw : g < w.heap.size := (own_lt hown).2
  have hvw : vb < w.heap.size := at_lt hv
  obtain ⟨G, hG⟩ : ∃ G, G = grownCap w (n + 1) cap 48 := ⟨_, rfl⟩
  have hGn : n + 1 ≤ G := by rw [hG]; exact grownCap_ge w _ _ _
  have hGm : G ≤ maxLen := by rw [hG]; exact grownCap_le_maxLen w _ _ _ (by unfold maxLen; omega)
  have hG63 : G ≤ 9223372036854775807 := by unfold maxLen at hGm; omega
  have hold : (Builtin.firstCells i0.size i (.slice (some ⟨g, 0, none⟩) i cap)).run Tryz.prog w.drew = .ok (xs.take i).toArray w.drew := by
    rw [hz1]
    exact run_firstCells_some w.drew 1 i ⟨g, 0, none⟩ i cap (xs.take i) (by rw [List.length_take]; omega) (fun j v hj => by
      rw [add_at, Nat.zero_add]
      rw [List.getElem?_take] at hj
      split at hj
      · exact hsrc j v hj
      · cases hj)
  have hik : i + (n + 1 - i) = n + 1 := by omega
  have hkk : (n : Int) + 1 - (i : Int) = ((n + 1 - i : Nat) : Int) := by omega
  obtain ⟨Z, hZ⟩ : ∃ Z : List Value, Z = xs.take i ++ (Builtin.zeroCells (Value.slice none 0 0).cells (n + 1 - i)).toList ++ (Builtin.zeroCells (Value.slice none 0 0).cells (G - (n + 1))).toList := ⟨_, rfl⟩
  have hZl : Z.length = G := by
    rw [hZ]
    simp [Builtin.zeroCells, Value.cells, hxl]
    omega
  have HRZ : Hid (∀ ty, (Builtin.append_ #[32, 3] ty #[.slice (some ⟨g, 0, none⟩) i cap, .int .i64 ((n : Int) + 1 - (i : Int))]).run Tryz.prog w = .ok (.slice (some ⟨w.heap.size, 0, none⟩) (n + 1) G) (w.drew.alloc (.cells Z.toArray 48))) := fun ty => by
    have h := Lib.run_append_grow_zeros w 32 3 ty 48 i0 _ .i64 .i64 Tryz.underlying32 Tryz.underlying3 hi hz0 (some ⟨g, 0, none⟩) i cap (xs.take i) hold (n + 1 - i) (by omega) (by omega) (by omega) (by omega) (by rw [hz2]; omega) (by rw [hz2, hik]; exact growslice_fits hfull (by omega))
    rw [hik, ← hG] at h
    have e : Z.toArray = (xs.take i).toArray ++ Builtin.zeroCells (Value.slice none 0 0).cells (n + 1 - i) ++ Builtin.zeroCells (Value.slice none 0 0).cells (G - (n + 1)) := by
      rw [hZ]
      apply Array.ext'
      simp
    rw [hkk, h, e]
  have HV : Hid (∀ W : World, (∀ k, k < w.heap.size → W.heap[k]? = w.heap[k]?) → ∀ j u, [X][j]? = some u → W.cell? ((⟨vb, 0, none⟩ : Addr).add j) = some u) := fun W hW => cell_one (by rw [hW vb hvw]; exact hv)
  have HD : Hid (∀ W : World, (∀ k, k < w.heap.size → W.heap[k]? = w.heap[k]?) → ∀ j u, (xs.drop i)[j]? = some u → W.cell? ((⟨g, i, none⟩ : Addr).add j) = some u) := fun W hW j u hj => by
    rw [add_at]
    have h2 := hsrc (i + j) u (by rwa [List.getElem?_drop] at hj)
    simp only [World.cell?] at h2 ⊢
    rw [hW g hgw]
    exact h2
  obtain ⟨D, hD⟩ : ∃ D, D = xs.drop i := ⟨_, rfl⟩
  have hDl : D.length = n - i := by rw [hD, List.length_drop, hxl]
  have HD1 : Hid (∀ v ∈ D, v.oneCell' = true) := fun v hv => h1 v (List.mem_of_mem_drop (hD ▸ hv))
  rw [← hD] at HD
  have HFIN : Hid (∀ W : World, W.heap[w.heap.size]? = some (.cells (splice (splice Z i [X]) (i + 1) D).toArray 48 (0, 0)) → W.ownsRow base 48 1 (.slice (some ⟨w.heap.size, 0, none⟩) (n + 1) G) (n + 1) (insL xs i X)) := fun W hW => by
    have hZi : Z.take i = xs.take i := by
      rw [hZ, List.append_assoc, List.take_append_of_le_length (by rw [List.length_take]; omega), List.take_of_length_le (by rw [List.length_take]; omega)]
    obtain ⟨e1, e2⟩ := splice_ins Z xs i X (by omega) hZi (by omega)
    rw [hD] at hW
    exact ⟨by simp [insL]; omega, .inr ⟨w.heap.size, G, _, rfl, hbase, hW, hGn, hGm, by simp [e2, hZl], by simp only [Nat.mul_one]; rw [hxl] at e1; exact e1⟩⟩
  have hin0 : i ≤ n := by omega
  have hz2' : ¬ ((i : Int) = (n : Int)) := by omega
  have hc1 : (cap : Int) < (n : Int) + 1 := by omega
  have hci : ¬ cap = i := by omega
  have hGi : ¬ G = i := by omega
  have hGi1 : ¬ G = i + 1 := by omega
  have hi63 : (i : Int) ≤ (cap : Int) := by omega
  have hw1 : IntKind.i64.wrap ((i : Int) + 1) = (i : Int) + 1 := by rw [IntKind.wrap_i64]; omega
  have hb1 : (0 : Int) ≤ (i : Int) + 1 := by omega
  have htn : ((i : Int) + 1).toNat = i + 1 := by omega
  have hb3 : (i : Int) ≤ (n : Int) := by omega
  clear hown hv hold hik hkk hG hZ hD hz0 hz2 hi hsrc
  obtain ⟨W0, hW0⟩ : ∃ W0, W0 = (w.alloc (.cells Z.toArray 48)).drew := ⟨_, rfl⟩
  have hb0 : Below w.heap.size w W0 := by rw [hW0]; exact (below1 _ _).drew
  have hr0 : W0.heap[w.heap.size]? = some (.cells Z.toArray 48 (0, 0)) := by rw [hW0]; exact at_new w _
  obtain ⟨W1, r1, g1, q1⟩ := run_splice W0 3 32 48 Tryz.underlying32 hszL w.heap.size i (n + 1 - i) (G - i) ⟨vb, 0, none⟩ 1 1 Z hr0 [X] (by simp only [List.length_cons, List.length_nil, Nat.min_def]; split <;> omega) (HV.out W0 hb0.block) (by simp; omega) (by intro u hu; simp at hu; subst hu; exact hX)
  have hb1 : Below w.heap.size w W1 := hb0.trans (grown_below q1 hb0.size (Nat.le_refl _))
  have hsl : (splice Z i [X]).length = G := by rw [length_splice _ _ _ (by simp; omega)]; exact hZl
  obtain ⟨W2, r2, g2, q2⟩ := run_splice W1.drew 3 32 48 Tryz.underlying32 hszL w.heap.size (i + 1) (n - i) (G - (i + 1)) ⟨g, i, none⟩ (n - i) (cap - i) _ g1 D (by rw [hDl]; simp only [Nat.min_def]; split <;> omega) (HD.out W1.drew hb1.block) (by rw [hsl]; omega) HD1.out
  have hb2 : Below w.heap.size w W2 := hb1.drew.trans (grown_below q2 (by have := hb1.size; exact this) (Nat.le_refl _))
  have HE : Hid (W2.ownsRow base 48 1 (.slice (some ⟨w.heap.size, 0, none⟩) (n + 1) G) (n + 1) (insL xs i X) ∧ w.grownBy W2 (some g)) := ⟨HFIN.out W2 g2, below_grown hb2 _⟩
  rw [hW0] at r1
  simp only [List.length_cons, List.length_nil, Nat.zero_add] at r1
  clear hW0 hb0 hr0 g1 q1 hb1 hsl g2 q2 hb2 HFIN HV HD HD1
  go_enter Tryz.func92, Tryz.ntmps92
  go_wp2_with (at_builtin; refine Lib.wpList_append_run _ rfl _ _ _ _ rfl _ _ rfl rfl _ _ (HRZ.out _) ?_)
  go_region
  all_goals
    go_wp2
    go_ret
    exact ⟨_, rfl, HE.out⟩

theorem hszI : (Tryz.prog.info? 3).map (·.size) = some 1 := by kernel_rfl

set_option maxHeartbeats 1000000 in
set_option maxRecDepth 100000 in
/-- 'slices.Insert' at the end. -/
theorem ins_endI (base g n cap vb : Nat) (xs : List Value) (X : Value) (w : World) (hown : w.ownsRow base 3 1 (.slice (some ⟨g, 0, none⟩) n cap) n xs) (hn : n ≤ 1048576) (hv : w.heap[vb]? = some (.cells #[X] 3)) (hX : X.oneCell' = true) (hbase : base ≤ w.heap.size) :
    Calls Tryz.prog 93 #[.slice (some ⟨g, 0, none⟩) n cap, .int .i64 n, .slice (some ⟨vb, 0, none⟩) 1 1] w fun en w' => ∃ v', en = .returned v' ∧ w'.ownsRow base 3 1 v' (n + 1) (xs ++ [X]) ∧ w.grownBy w' (some g) := by
  obtain ⟨i0, hi, hz0, hz1, hz2⟩ := info_parts info3
  have HS : Hid (∀ j u, [X][j]? = some u → w.cell? ((⟨vb, 0, none⟩ : Addr).add j) = some u) := cell_one hv
  have HO : Hid (w.ownsRow base 3 1 (.slice (some ⟨g, 0, none⟩) n cap) n xs) := hown
  have hnc : n ≤ cap := own_cap hown
  clear hown hv
  go_enter Tryz.func93, Tryz.ntmps93
  go_wp2_with (at_builtin; refine wpList_append_own _ rfl _ _ 48 rfl base 3 i0 (.int .i64 0) 1 8 Tryz.underlying48 hi hz0 hz1 hz2 rfl (by decide) _ n xs rfl HO.out ⟨vb, 0, none⟩ 1 1 [X] rfl rfl HS.out (by intro u hu; simp at hu; subst hu; exact hX) (by unfold maxLen; omega) (by omega) hbase ?_)
  all_goals
    intro v' w1 hown1 hg1 _
    have HE : Hid (w1.ownsRow base 3 1 v' (n + 1) (xs ++ [X]) ∧ w.grownBy w1 (some g)) := ⟨hown1, hg1⟩
    clear hown1 hg1
    go_wp2
    go_ret
    exact ⟨v', rfl, HE.out⟩

set_option maxHeartbeats 2000000 in
set_option maxRecDepth 100000 in
/-- 'slices.Insert' in the midst, where there is no room: a new row. -/
theorem ins_growI (base g n cap i vb : Nat) (xs : List Value) (X : Value) (w : World) (hown : w.ownsRow base 3 1 (.slice (some ⟨g, 0, none⟩) n cap) n xs) (hn : n ≤ 1048576) (hin : i < n) (hfull : cap < n + 1) (hv : w.heap[vb]? = some (.cells #[X] 3)) (hX : X.oneCell' = true) (h1 : ∀ v ∈ xs, v.oneCell' = true) (hbase : base ≤ w.heap.size) :
    Calls Tryz.prog 93 #[.slice (some ⟨g, 0, none⟩) n cap, .int .i64 i, .slice (some ⟨vb, 0, none⟩) 1 1] w fun en w' => ∃ v', en = .returned v' ∧ w'.ownsRow base 3 1 v' (n + 1) (insL xs i X) ∧ w.grownBy w' (some g) := by
  obtain ⟨i0, hi, hz0, hz1, hz2⟩ := info_parts info3
  have hxl : xs.length = n := by have := hown.1; omega
  have hnc : n ≤ cap := own_cap hown
  have hsrc : ∀ j u, xs[j]? = some u → w.cell? ⟨g, j, none⟩ = some u := own_cell hown
  have hgw : g < w.heap.size := (own_lt hown).2
  have hvw : vb < w.heap.size := at_lt hv
  obtain ⟨G, hG⟩ : ∃ G, G = grownCap w (n + 1) cap 3 := ⟨_, rfl⟩
  have hGn : n + 1 ≤ G := by rw [hG]; exact grownCap_ge w _ _ _
  have hGm : G ≤ maxLen := by rw [hG]; exact grownCap_le_maxLen w _ _ _ (by unfold maxLen; omega)
  have hG63 : G ≤ 9223372036854775807 := by unfold maxLen at hGm; omega
  have hold : (Builtin.firstCells i0.size i (.slice (some ⟨g, 0, none⟩) i cap)).run Tryz.prog w.drew = .ok (xs.take i).toArray w.drew := by
    rw [hz1]
    exact run_firstCells_some w.drew 1 i ⟨g, 0, none⟩ i cap (xs.take i) (by rw [List.length_take]; omega) (fun j v hj => by
      rw [add_at, Nat.zero_add]
      rw [List.getElem?_take] at hj
      split at hj
      · exact hsrc j v hj
      · cases hj)
  have hik : i + (n + 1 - i) = n + 1 := by omega
  have hkk : (n : Int) + 1 - (i : Int) = ((n + 1 - i : Nat) : Int) := by omega
  obtain ⟨Z, hZ⟩ : ∃ Z : List Value, Z = xs.take i ++ (Builtin.zeroCells (Value.int .i64 0).cells (n + 1 - i)).toList ++ (Builtin.zeroCells (Value.int .i64 0).cells (G - (n + 1))).toList := ⟨_, rfl⟩
  have hZl : Z.length = G := by
    rw [hZ]
    simp [Builtin.zeroCells, Value.cells, hxl]
    omega
  have HRZ : Hid (∀ ty, (Builtin.append_ #[48, 3] ty #[.slice (some ⟨g, 0, none⟩) i cap, .int .i64 ((n : Int) + 1 - (i : Int))]).run Tryz.prog w = .ok (.slice (some ⟨w.heap.size, 0, none⟩) (n + 1) G) (w.drew.alloc (.cells Z.toArray 3))) := fun ty => by
    have h := Lib.run_append_grow_zeros w 48 3 ty 3 i0 _ .i64 .i64 Tryz.underlying48 Tryz.underlying3 hi hz0 (some ⟨g, 0, none⟩) i cap (xs.take i) hold (n + 1 - i) (by omega) (by omega) (by omega) (by omega) (by rw [hz2]; omega) (by rw [hz2, hik]; exact growslice_fits hfull (by omega))
    rw [hik, ← hG] at h
    have e : Z.toArray = (xs.take i).toArray ++ Builtin.zeroCells (Value.int .i64 0).cells (n + 1 - i) ++ Builtin.zeroCells (Value.int .i64 0).cells (G - (n + 1)) := by
      rw [hZ]
      apply Array.ext'
      simp
    rw [hkk, h, e]
  have HV : Hid (∀ W : World, (∀ k, k < w.heap.size → W.heap[k]? = w.heap[k]?) → ∀ j u, [X][j]? = some u → W.cell? ((⟨vb, 0, none⟩ : Addr).add j) = some u) := fun W hW => cell_one (by rw [hW vb hvw]; exact hv)
  have HD : Hid (∀ W : World, (∀ k, k < w.heap.size → W.heap[k]? = w.heap[k]?) → ∀ j u, (xs.drop i)[j]? = some u → W.cell? ((⟨g, i, none⟩ : Addr).add j) = some u) := fun W hW j u hj => by
    rw [add_at]
    have h2 := hsrc (i + j) u (by rwa [List.getElem?_drop] at hj)
    simp only [World.cell?] at h2 ⊢
    rw [hW g hgw]
    exact h2
  obtain ⟨D, hD⟩ : ∃ D, D = xs.drop i := ⟨_, rfl⟩
  have hDl : D.length = n - i := by rw [hD, List.length_drop, hxl]
  have HD1 : Hid (∀ v ∈ D, v.oneCell' = true) := fun v hv => h1 v (List.mem_of_mem_drop (hD ▸ hv))
  rw [← hD] at HD
  have HFIN : Hid (∀ W : World, W.heap[w.heap.size]? = some (.cells (splice (splice Z i [X]) (i + 1) D).toArray 3 (0, 0)) → W.ownsRow base 3 1 (.slice (some ⟨w.heap.size, 0, none⟩) (n + 1) G) (n + 1) (insL xs i X)) := fun W hW => by
    have hZi : Z.take i = xs.take i := by
      rw [hZ, List.append_assoc, List.take_append_of_le_length (by rw [List.length_take]; omega), List.take_of_length_le (by rw [List.length_take]; omega)]
    obtain ⟨e1, e2⟩ := splice_ins Z xs i X (by omega) hZi (by omega)
    rw [hD] at hW
    exact ⟨by simp [insL]; omega, .inr ⟨w.heap.size, G, _, rfl, hbase, hW, hGn, hGm, by simp [e2, hZl], by simp only [Nat.mul_one]; rw [hxl] at e1; exact e1⟩⟩
  have hin0 : i ≤ n := by omega
  have hz2' : ¬ ((i : Int) = (n : Int)) := by omega
  have hc1 : (cap : Int) < (n : Int) + 1 := by omega
  have hci : ¬ cap = i := by omega
  have hGi : ¬ G = i := by omega
  have hGi1 : ¬ G = i + 1 := by omega
  have hi63 : (i : Int) ≤ (cap : Int) := by omega
  have hw1 : IntKind.i64.wrap ((i : Int) + 1) = (i : Int) + 1 := by rw [IntKind.wrap_i64]; omega
  have hb1 : (0 : Int) ≤ (i : Int) + 1 := by omega
  have htn : ((i : Int) + 1).toNat = i + 1 := by omega
  have hb3 : (i : Int) ≤ (n : Int) := by omega
  clear hown hv hold hik hkk hG hZ hD hz0 hz2 hi hsrc
  obtain ⟨W0, hW0⟩ : ∃ W0, W0 = (w.alloc (.cells Z.toArray 3)).drew := ⟨_, rfl⟩
  have hb0 : Below w.heap.size w W0 := by rw [hW0]; exact (below1 _ _).drew
  have hr0 : W0.heap[w.heap.size]? = some (.cells Z.toArray 3 (0, 0)) := by rw [hW0]; exact at_new w _
  obtain ⟨W1, r1, g1, q1⟩ := run_splice W0 3 48 3 Tryz.underlying48 hszI w.heap.size i (n + 1 - i) (G - i) ⟨vb, 0, none⟩ 1 1 Z hr0 [X] (by simp only [List.length_cons, List.length_nil, Nat.min_def]; split <;> omega) (HV.out W0 hb0.block) (by simp; omega) (by intro u hu; simp at hu; subst hu; exact hX)
  have hb1 : Below w.heap.size w W1 := hb0.trans (grown_below q1 hb0.size (Nat.le_refl _))
  have hsl : (splice Z i [X]).length = G := by rw [length_splice _ _ _ (by simp; omega)]; exact hZl
  obtain ⟨W2, r2, g2, q2⟩ := run_splice W1.drew 3 48 3 Tryz.underlying48 hszI w.heap.size (i + 1) (n - i) (G - (i + 1)) ⟨g, i, none⟩ (n - i) (cap - i) _ g1 D (by rw [hDl]; simp only [Nat.min_def]; split <;> omega) (HD.out W1.drew hb1.block) (by rw [hsl]; omega) HD1.out
  have hb2 : Below w.heap.size w W2 := hb1.drew.trans (grown_below q2 (by have := hb1.size; exact this) (Nat.le_refl _))
  have HE : Hid (W2.ownsRow base 3 1 (.slice (some ⟨w.heap.size, 0, none⟩) (n + 1) G) (n + 1) (insL xs i X) ∧ w.grownBy W2 (some g)) := ⟨HFIN.out W2 g2, below_grown hb2 _⟩
  rw [hW0] at r1
  simp only [List.length_cons, List.length_nil, Nat.zero_add] at r1
  clear hW0 hb0 hr0 g1 q1 hb1 hsl g2 q2 hb2 HFIN HV HD HD1
  go_enter Tryz.func93, Tryz.ntmps93
  go_wp2_with (at_builtin; refine Lib.wpList_append_run _ rfl _ _ _ _ rfl _ _ rfl rfl _ _ (HRZ.out _) ?_)
  go_region
  all_goals
    go_wp2
    go_ret
    exact ⟨_, rfl, HE.out⟩

end Go.Proofs.YtpichplhidiokacGreatDoor.Tl

/- What 'slices.Insert' makes of a column of one's own that has room; all its ways. -/
namespace Go.Proofs.YtpichplhidiokacGreatDoor.Tl
open Go.RowKit

theorem splice_ins2 {α : Type} (Z xs : List α) (i : Nat) (X : α) (hi : i ≤ xs.length) (hZ : Z.take xs.length = xs) (hZl : xs.length + 1 ≤ Z.length) :
    (splice (splice Z (i + 1) (xs.drop i)) i [X]).take (xs.length + 1) = insL xs i X ∧ (splice (splice Z (i + 1) (xs.drop i)) i [X]).length = Z.length := by
  have hl1 : (splice Z (i + 1) (xs.drop i)).length = Z.length := length_splice _ _ _ (by simp; omega)
  have e1 : (splice Z (i + 1) (xs.drop i)).take i = xs.take i := by
    unfold splice
    rw [List.take_append_of_le_length (by simp; omega), List.take_take, ← hZ, List.take_take]
    congr 1
    omega
  have e2 : (splice Z (i + 1) (xs.drop i)).drop (i + 1) = xs.drop i ++ Z.drop (i + 1 + (xs.drop i).length) := by
    unfold splice
    rw [List.drop_append_of_le_length (by simp; omega), List.drop_eq_nil_of_le (by simp; omega)]
    simp
  obtain ⟨Y, hY⟩ : ∃ Y, Y = splice Z (i + 1) (xs.drop i) := ⟨_, rfl⟩
  rw [← hY] at e1 e2 hl1 ⊢
  refine ⟨?_, by rw [length_splice _ _ _ (by simp; omega)]; exact hl1⟩
  unfold splice
  rw [e1]
  simp only [List.length_cons, List.length_nil, Nat.zero_add]
  rw [e2]
  have e3 : xs.take i ++ ([X] ++ (xs.drop i ++ Z.drop (i + 1 + (xs.drop i).length))) = insL xs i X ++ Z.drop (i + 1 + (xs.drop i).length) := by simp [insL]
  rw [e3, List.take_append_of_le_length (by simp [insL]; omega), List.take_of_length_le (by simp [insL]; omega)]

theorem own_row {w : World} {base g n : Nat} {e : TypeId} {c : Nat} {xs : List Value} (h : w.ownsRow base e 1 (.slice (some ⟨g, 0, none⟩) n c) n xs) : ∃ cur : List Value, w.heap[g]? = some (.cells cur.toArray e (0, 0)) ∧ cur.length = c ∧ cur.take n = xs ∧ base ≤ g ∧ c ≤ maxLen := by
  rcases h.2 with ⟨hv, _⟩ | ⟨g', cap, cur, hv, hb, hg, hc, hm, hs, ht⟩
  · cases hv
  · simp only [Value.slice.injEq, Option.some.injEq, Addr.mk.injEq, and_true, true_and] at hv
    obtain ⟨rfl, rfl⟩ := hv
    exact ⟨cur.toList, by simpa using hg, by simp [hs], by simpa using ht, hb, hm⟩

set_option maxHeartbeats 2000000 in
set_option maxRecDepth 100000 in
/-- 'slices.Insert' in the midst, where there is room: in place. -/
theorem ins_shiftI (base g n cap i vb : Nat) (xs : List Value) (X : Value) (w : World) (hown : w.ownsRow base 3 1 (.slice (some ⟨g, 0, none⟩) n cap) n xs) (hn : n ≤ 1048576) (hin : i < n) (hroom : n + 1 ≤ cap) (hv : w.heap[vb]? = some (.cells #[X] 3)) (hvg : vb ≠ g) (hX : X.oneCell' = true) (h1 : ∀ v ∈ xs, v.oneCell' = true) :
    Calls Tryz.prog 93 #[.slice (some ⟨g, 0, none⟩) n cap, .int .i64 i, .slice (some ⟨vb, 0, none⟩) 1 1] w fun en w' => ∃ v', en = .returned v' ∧ w'.ownsRow base 3 1 v' (n + 1) (insL xs i X) ∧ w.grownBy w' (some g) := by
  have hxl : xs.length = n := by have := hown.1; omega
  have hsrc : ∀ j u, xs[j]? = some u → w.cell? ⟨g, j, none⟩ = some u := own_cell hown
  obtain ⟨cur, hg, hcl, hct, hbg, hcm⟩ := own_row hown
  have hc63 : cap ≤ 9223372036854775807 := by unfold maxLen at hcm; omega
  have hov : ∀ lb cb, (callFunc 115 #[.slice (some ⟨vb, 0, none⟩) 1 1, .slice (some ⟨g, i + 1, none⟩) lb cb]).run Tryz.prog w = .ok (.value (.bool false)) w := fun lb cb => by
    obtain ⟨i0, hi, hz0, hz1, hz2⟩ := info_parts info3
    rw [run_callFunc_extern Tryz.func115 (by kernel_rfl) (by kernel_rfl) (by kernel_rfl) (e := Extern.SlicesOverlaps.overlaps #[48, 48] #[4]) (by kernel_rfl),
      Lib.run_overlaps_apart w 48 4 3 Tryz.underlying48 1 (fun w => by simp [Go.sizeOf, typeInfo, hi, hz1]) ⟨vb, 0, none⟩ ⟨g, i + 1, none⟩ 1 1 lb cb hvg 3 3 1 cur.length (by simp [World.shape?, hv]) (by simp [World.shape?, hg]) (by omega) (frozen_of_row w vb 0 _ _ hv) (frozen_of_row w vb 1 _ _ hv)]
    rfl
  obtain ⟨D, hD⟩ : ∃ D, D = xs.drop i := ⟨_, rfl⟩
  have hDl : D.length = n - i := by rw [hD, List.length_drop, hxl]
  have hsrcD : ∀ j u, D[j]? = some u → w.drew.cell? ((⟨g, i, none⟩ : Addr).add j) = some u := fun j u hj => by
    rw [add_at]
    rw [hD, List.getElem?_drop] at hj
    exact hsrc (i + j) u hj
  obtain ⟨W1, r1, g1, q1⟩ := run_splice w.drew 3 48 3 Tryz.underlying48 hszI g (i + 1) (n - i) (cap - (i + 1)) ⟨g, i, none⟩ (n + 1 - i) (cap - i) cur hg D (by rw [hDl]; simp only [Nat.min_def]; split <;> omega) hsrcD (by rw [hDl]; omega) (fun v hv => h1 v (List.mem_of_mem_drop (hD ▸ hv)))
  have hv1 : W1.heap[vb]? = some (.cells #[X] 3) := by rw [q1.block vb (at_lt hv) (by simpa using hvg)]; exact hv
  have hsl : (splice cur (i + 1) D).length = cap := by rw [length_splice _ _ _ (by rw [hDl]; omega)]; exact hcl
  obtain ⟨W2, r2, g2, q2⟩ := run_splice W1 3 48 3 Tryz.underlying48 hszI g i (n + 1 - i) (cap - i) ⟨vb, 0, none⟩ 1 1 _ g1 [X] (by simp only [List.length_cons, List.length_nil, Nat.min_def]; split <;> omega) (cell_one hv1) (by rw [hsl]; simp; omega) (by intro u hu; simp at hu; subst hu; exact hX)
  have HE : Hid (W2.ownsRow base 3 1 (.slice (some ⟨g, 0, none⟩) (n + 1) cap) (n + 1) (insL xs i X) ∧ w.grownBy W2 (some g)) := by
    obtain ⟨e1, e2⟩ := splice_ins2 cur xs i X (by omega) (by rw [hxl]; exact hct) (by omega)
    rw [hD] at g2
    refine ⟨⟨by simp [insL]; omega, .inr ⟨g, cap, _, rfl, hbg, g2, hroom, hcm, by simp [e2, hcl], by simp only [Nat.mul_one]; rw [hxl] at e1; exact e1⟩⟩, ?_⟩
    have q1' : w.grownBy W1 (some g) := ⟨q1.os, q1.tape, q1.output, q1.size, q1.block⟩
    exact grown_trans q1' q2
  simp only [List.length_cons, List.length_nil, Nat.zero_add] at r2
  have hin0 : i ≤ n := by omega
  have hz2' : ¬ ((i : Int) = (n : Int)) := by omega
  have hc1 : (n : Int) + 1 ≤ (cap : Int) := by omega
  have hci : ¬ cap = i := by omega
  have hci1 : ¬ cap = i + 1 := by omega
  have hw1 : IntKind.i64.wrap ((i : Int) + 1) = (i : Int) + 1 := by rw [IntKind.wrap_i64]; omega
  have hb1 : (0 : Int) ≤ (i : Int) + 1 := by omega
  have htn : ((i : Int) + 1).toNat = i + 1 := by omega
  have hb3 : (i : Int) ≤ (n : Int) + 1 := by omega
  have hb4 : (i : Int) ≤ (n : Int) := by omega
  clear hown hv hg hcl hct hbg hcm hsrc hsrcD g1 q1 hv1 hsl g2 q2 hD
  go_enter Tryz.func93, Tryz.ntmps93
  go_wp2_with (simp only [hov])
  go_region
  all_goals
    go_wp2
    go_ret
    exact ⟨_, rfl, HE.out⟩

/-- 'slices.Insert' of one number into a column of one's own. -/
theorem ins_anyI (base g n cap i vb : Nat) (xs : List Value) (X : Value) (w : World) (hown : w.ownsRow base 3 1 (.slice (some ⟨g, 0, none⟩) n cap) n xs) (hn : n ≤ 1048576) (hin : i ≤ n) (hv : w.heap[vb]? = some (.cells #[X] 3)) (hvg : vb ≠ g) (hX : X.oneCell' = true) (h1 : ∀ v ∈ xs, v.oneCell' = true) (hbase : base ≤ w.heap.size) :
    Calls Tryz.prog 93 #[.slice (some ⟨g, 0, none⟩) n cap, .int .i64 i, .slice (some ⟨vb, 0, none⟩) 1 1] w fun en w' => ∃ v', en = .returned v' ∧ w'.ownsRow base 3 1 v' (n + 1) (insL xs i X) ∧ w.grownBy w' (some g) := by
  by_cases h : i = n
  · subst h
    have hxl : xs.length = i := by have := hown.1; omega
    have e : insL xs i X = xs ++ [X] := by rw [← hxl]; simp [insL]
    rw [e]
    exact ins_endI base g i cap vb xs X w hown hn hv hX hbase
  · by_cases h2 : cap < n + 1
    · exact ins_growI base g n cap i vb xs X w hown hn (by omega) h2 hv hX h1 hbase
    · exact ins_shiftI base g n cap i vb xs X w hown hn (by omega) (by omega) hv hvg hX h1

/-- 'slices.Insert' of one column into a list of one's own that is full. -/
theorem ins_anyL (base g n i vb : Nat) (xs : List Value) (X : Value) (w : World) (hown : w.ownsRow base 48 1 (.slice (some ⟨g, 0, none⟩) n n) n xs) (hn : n ≤ 1048576) (hin : i ≤ n) (hv : w.heap[vb]? = some (.cells #[X] 48)) (hX : X.oneCell' = true) (h1 : ∀ v ∈ xs, v.oneCell' = true) (hbase : base ≤ w.heap.size) :
    Calls Tryz.prog 92 #[.slice (some ⟨g, 0, none⟩) n n, .int .i64 i, .slice (some ⟨vb, 0, none⟩) 1 1] w fun en w' => ∃ v', en = .returned v' ∧ w'.ownsRow base 48 1 v' (n + 1) (insL xs i X) ∧ w.grownBy w' (some g) := by
  by_cases h : i = n
  · subst h
    have hxl : xs.length = i := by have := hown.1; omega
    have e : insL xs i X = xs ++ [X] := by rw [← hxl]; simp [insL]
    rw [e]
    exact ins_endL base g i i vb xs X w hown hn hv hX hbase
  · exact ins_growL base g n n i vb xs X w hown hn (by omega) (by omega) hv hX h1 hbase

end Go.Proofs.YtpichplhidiokacGreatDoor.Tl
