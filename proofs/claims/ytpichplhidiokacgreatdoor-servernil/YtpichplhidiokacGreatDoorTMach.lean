/- The plain machine of panes in columns: what is good, where a pane is, how a length is shared, what a split and a kill make. -/
namespace Go.Proofs.YtpichplhidiokacGreatDoor.Tl

def paneB (p : Int) : Bool := decide (0 ≤ p ∧ p < 6)

/-- Where a number stands in a list. -/
def idx (p : Int) : List Int → Option Nat
  | [] => none
  | x :: r => if x = p then some 0 else (idx p r).map (· + 1)
def idxI (p : Int) (c : List Int) : Int := match idx p c with
  | some j => (j : Int)
  | none => -1

def findT (p : Int) : List (List Int) → Option (Nat × Nat)
  | [] => none
  | c :: r => match idx p c with
    | some j => some (0, j)
    | none => (findT p r).map fun x => (x.1 + 1, x.2)
def hasT (cols : List (List Int)) (p : Int) : Bool := (findT p cols).isSome

def goodT (cols : List (List Int)) : Bool := decide (0 < cols.length ∧ (∀ c ∈ cols, 1 ≤ c.length ∧ c.length ≤ 3) ∧ (∀ p ∈ cols.flatten, paneB p = true) ∧ cols.flatten.Nodup)

structure OkT (cols : List (List Int)) : Prop where
  some : 0 < cols.length
  tall : ∀ c ∈ cols, 1 ≤ c.length ∧ c.length ≤ 3
  pane : ∀ p ∈ cols.flatten, paneB p = true
  once : cols.flatten.Nodup
theorem goodT_iff (cols : List (List Int)) : goodT cols = true ↔ OkT cols := by
  unfold goodT
  rw [decide_eq_true_eq]
  exact ⟨fun ⟨a, b, c, d⟩ => ⟨a, b, c, d⟩, fun ⟨a, b, c, d⟩ => ⟨a, b, c, d⟩⟩
theorem goodT_not {cols : List (List Int)} (h : ¬ OkT cols) : goodT cols = false := by
  cases e : goodT cols
  · rfl
  · exact absurd ((goodT_iff cols).1 e) h

def insL {α : Type} (l : List α) (i : Nat) (x : α) : List α := l.take i ++ x :: l.drop i

def splitT (cols : List (List Int)) (p n : Int) (right : Bool) : List (List Int) × Int :=
  if goodT cols = false ∨ paneB n = false then (cols, 1) else
  match findT p cols with
  | none => (cols, 3)
  | some (i, j) =>
    if hasT cols n then (cols, 4) else
    if right then (insL cols (i + 1) [n], 0) else
    if (cols.getD i []).length = 3 then (cols, 5) else (cols.set i (insL (cols.getD i []) (j + 1) n), 0)

def killT (cols : List (List Int)) (p : Int) : List (List Int) × Int :=
  if goodT cols = false then (cols, 1) else
  match findT p cols with
  | none => (cols, 3)
  | some (i, j) =>
    if (cols.getD i []).length = 1 then (if cols.length = 1 then (cols, 5) else (cols.eraseIdx i, 0)) else (cols.set i ((cols.getD i []).eraseIdx j), 0)

def shareT (length n k : Int) : Int × Int :=
  if n < 1 ∨ 6 < n ∨ k < 0 ∨ n ≤ k ∨ 24 < length ∨ length < n + (n - 1) then (0, 0) else
  (k * ((length - (n - 1)) / n + 1) + min k ((length - (n - 1)) % n), if k < (length - (n - 1)) % n then (length - (n - 1)) / n + 1 else (length - (n - 1)) / n)

structure Rc where
  row : Int
  col : Int
  high : Int
  wide : Int

def noRc : Rc := ⟨0, 0, 0, 0⟩

def whereT (cols : List (List Int)) (wide high p : Int) : Rc :=
  if goodT cols = false then noRc else
  match findT p cols with
  | none => noRc
  | some (i, j) =>
    if (shareT wide cols.length i).2 = 0 ∨ (shareT high (cols.getD i []).length j).2 = 0 then noRc else
    ⟨(shareT high (cols.getD i []).length j).1, (shareT wide cols.length i).1, (shareT high (cols.getD i []).length j).2, (shareT wide cols.length i).2⟩

theorem idx_some {p : Int} {c : List Int} {j : Nat} (h : idx p c = some j) : ∃ hj : j < c.length, c[j] = p := by
  induction c generalizing j with
  | nil => simp [idx] at h
  | cons x r ih =>
    unfold idx at h
    split at h
    · simp only [Option.some.injEq] at h; subst h; exact ⟨by simp, by assumption⟩
    · cases hr : idx p r with
      | none => simp [hr] at h
      | some k =>
        simp only [hr, Option.map_some, Option.some.injEq] at h
        subst h
        obtain ⟨h1, h2⟩ := ih hr
        exact ⟨by simp; omega, by simpa using h2⟩
theorem idx_none {p : Int} {c : List Int} : idx p c = none ↔ p ∉ c := by
  induction c with
  | nil => simp [idx]
  | cons x r ih =>
    unfold idx
    split
    · simp_all
    · rename_i h
      simp only [Option.map_eq_none_iff, ih, List.mem_cons, not_or]
      exact ⟨fun h2 => ⟨fun e => h e.symm, h2⟩, fun h2 => h2.2⟩
theorem idx_at {p : Int} {c : List Int} {j : Nat} (hj : j < c.length) (he : c[j] = p) (hb : ∀ i (hi : i < j), c[i] ≠ p) : idx p c = some j := by
  induction c generalizing j with
  | nil => simp at hj
  | cons x r ih =>
    unfold idx
    cases j with
    | zero => simp at he; simp [he]
    | succ j =>
      have h0 := hb 0 (by omega)
      simp only [List.getElem_cons_zero] at h0
      rw [if_neg h0, ih (j := j) (by simpa using hj) (by simpa using he) (fun i hi => by have := hb (i + 1) (by omega); simpa using this)]
      rfl
theorem idx_end {p : Int} {c : List Int} (hb : ∀ i (hi : i < c.length), c[i] ≠ p) : idx p c = none := by
  rw [idx_none]
  intro h
  obtain ⟨i, hi, e⟩ := List.getElem_of_mem h
  exact hb i hi e

theorem findT_at {p : Int} {cols : List (List Int)} {k j : Nat} (hk : k < cols.length) (he : idx p cols[k] = some j) (hb : ∀ i (hi : i < k), idx p cols[i] = none) : findT p cols = some (k, j) := by
  induction cols generalizing k with
  | nil => simp at hk
  | cons c r ih =>
    unfold findT
    cases k with
    | zero => simp at he; simp [he]
    | succ k =>
      have h0 := hb 0 (by omega)
      simp only [List.getElem_cons_zero] at h0
      rw [h0, ih (k := k) (by simpa using hk) (by simpa using he) (fun i hi => by have := hb (i + 1) (by omega); simpa using this)]
      rfl
theorem findT_end {p : Int} {cols : List (List Int)} (hb : ∀ i (hi : i < cols.length), idx p cols[i] = none) : findT p cols = none := by
  induction cols with
  | nil => rfl
  | cons c r ih =>
    have h0 := hb 0 (by simp)
    simp only [List.getElem_cons_zero] at h0
    unfold findT
    rw [h0, ih (fun i hi => by have := hb (i + 1) (by simpa using hi); simpa using this)]
    rfl
theorem findT_some {p : Int} {cols : List (List Int)} {i j : Nat} (h : findT p cols = some (i, j)) : ∃ hi : i < cols.length, idx p cols[i] = some j := by
  induction cols generalizing i with
  | nil => simp [findT] at h
  | cons c r ih =>
    unfold findT at h
    cases hc : idx p c with
    | some k =>
      simp only [hc, Option.some.injEq, Prod.mk.injEq] at h
      obtain ⟨rfl, rfl⟩ := h
      exact ⟨by simp, by simpa using hc⟩
    | none =>
      simp only [hc] at h
      cases hr : findT p r with
      | none => simp [hr] at h
      | some x =>
        simp only [hr, Option.map_some, Option.some.injEq, Prod.mk.injEq] at h
        obtain ⟨rfl, rfl⟩ := h
        obtain ⟨h1, h2⟩ := ih hr
        exact ⟨by simp; omega, by simpa using h2⟩
theorem findT_get {p : Int} {cols : List (List Int)} {i j : Nat} (h : findT p cols = some (i, j)) : ∃ (hi : i < cols.length) (hj : j < cols[i].length), cols[i][j] = p := by
  obtain ⟨hi, h1⟩ := findT_some h
  obtain ⟨hj, h2⟩ := idx_some h1
  exact ⟨hi, hj, h2⟩
theorem findT_none {p : Int} {cols : List (List Int)} : findT p cols = none ↔ p ∉ cols.flatten := by
  induction cols with
  | nil => simp [findT]
  | cons c r ih =>
    unfold findT
    cases hc : idx p c with
    | some k =>
      obtain ⟨hk, e⟩ := idx_some hc
      simp only [List.flatten_cons, List.mem_append, not_or, reduceCtorEq, false_iff, not_and]
      intro h
      exact absurd (e ▸ List.getElem_mem hk) h
    | none =>
      rw [idx_none] at hc
      simp only [Option.map_eq_none_iff, ih, List.flatten_cons, List.mem_append, not_or, hc, not_false_eq_true, true_and]
theorem hasT_iff {p : Int} {cols : List (List Int)} : hasT cols p = true ↔ p ∈ cols.flatten := by
  unfold hasT
  cases h : findT p cols with
  | none => simp [findT_none.1 h]
  | some x =>
    simp only [Option.isSome_some, true_iff]
    cases Classical.em (p ∈ cols.flatten) with
    | inl h => exact h
    | inr h2 => rw [findT_none.2 h2] at h; cases h

end Go.Proofs.YtpichplhidiokacGreatDoor.Tl
