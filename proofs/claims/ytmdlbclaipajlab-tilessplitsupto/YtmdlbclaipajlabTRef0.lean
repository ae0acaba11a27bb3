/- The document's own split and kill, of the plain machine: column by column. -/
import Derived.Test.YtmdlbclaipajlabTMach
namespace Go.Proofs.Ytmdlbclaipajlab.Tl

/-- A column behind the split. -/
def colS (p n : Int) (right : Bool) (c : List Int) : List Int := c.flatMap fun q => if q = p ∧ right = false then [q, n] else [q]
def outS (p n : Int) (right : Bool) (cols : List (List Int)) : List (List Int) := cols.flatMap fun c => colS p n right c :: (if right = true ∧ p ∈ c then [[n]] else [])
/-- A column behind the kill. -/
def colK (p : Int) (c : List Int) : List Int := c.flatMap fun q => if q = p then [] else [q]
def outK (p : Int) (cols : List (List Int)) : List (List Int) := cols.flatMap fun c => if colK p c = [] then [] else [colK p c]

theorem colS_snoc (p n : Int) (right : Bool) (c : List Int) (q : Int) : colS p n right (c ++ [q]) = colS p n right c ++ (if q = p ∧ right = false then [q, n] else [q]) := by
  simp [colS]
theorem colK_snoc (p : Int) (c : List Int) (q : Int) : colK p (c ++ [q]) = colK p c ++ (if q = p then [] else [q]) := by
  simp [colK]
theorem outS_snoc (p n : Int) (right : Bool) (cols : List (List Int)) (c : List Int) : outS p n right (cols ++ [c]) = outS p n right cols ++ colS p n right c :: (if right = true ∧ p ∈ c then [[n]] else []) := by
  simp [outS]
theorem outK_snoc (p : Int) (cols : List (List Int)) (c : List Int) : outK p (cols ++ [c]) = outK p cols ++ (if colK p c = [] then [] else [colK p c]) := by
  simp [outK]

theorem colS_no (p n : Int) (right : Bool) : ∀ (c : List Int), p ∉ c → colS p n right c = c
  | [], _ => rfl
  | q :: r, h => by
    simp only [List.mem_cons, not_or] at h
    have ih := colS_no p n right r h.2
    unfold colS at ih ⊢
    rw [List.flatMap_cons, ih, if_neg (fun e => h.1 e.1.symm)]
    rfl
theorem colS_right (p n : Int) (c : List Int) : colS p n true c = c := by
  induction c with
  | nil => rfl
  | cons q r ih =>
    unfold colS at ih ⊢
    rw [List.flatMap_cons, ih, if_neg (by simp)]
    rfl
theorem colK_no (p : Int) : ∀ (c : List Int), p ∉ c → colK p c = c
  | [], _ => rfl
  | q :: r, h => by
    simp only [List.mem_cons, not_or] at h
    have ih := colK_no p r h.2
    unfold colK at ih ⊢
    rw [List.flatMap_cons, ih, if_neg (fun e => h.1 e.symm)]
    rfl
theorem colS_append (p n : Int) (right : Bool) (a b : List Int) : colS p n right (a ++ b) = colS p n right a ++ colS p n right b := by simp [colS]
theorem colK_append (p : Int) (a b : List Int) : colK p (a ++ b) = colK p a ++ colK p b := by simp [colK]
theorem outS_append (p n : Int) (right : Bool) (a b : List (List Int)) : outS p n right (a ++ b) = outS p n right a ++ outS p n right b := by simp [outS]
theorem outK_append (p : Int) (a b : List (List Int)) : outK p (a ++ b) = outK p a ++ outK p b := by simp [outK]

theorem outS_no (p n : Int) (right : Bool) : ∀ (cols : List (List Int)), (∀ c ∈ cols, p ∉ c) → outS p n right cols = cols
  | [], _ => rfl
  | c :: r, h => by
    have ih := outS_no p n right r (fun d hd => h d (by simp [hd]))
    have hc := h c (by simp)
    unfold outS at ih ⊢
    rw [List.flatMap_cons, ih, colS_no p n right c hc, if_neg (fun e => hc e.2)]
    rfl
theorem outK_no (p : Int) : ∀ (cols : List (List Int)), (∀ c ∈ cols, p ∉ c ∧ c ≠ []) → outK p cols = cols
  | [], _ => rfl
  | c :: r, h => by
    have ih := outK_no p r (fun d hd => h d (by simp [hd]))
    have hc := h c (by simp)
    unfold outK at ih ⊢
    rw [List.flatMap_cons, ih, colK_no p c hc.1, if_neg hc.2]
    rfl

/-- A pane that is laid out stands in one place alone. -/
theorem parts {cols : List (List Int)} {p : Int} {i j : Nat} (ok : OkT cols) (hf : findT p cols = some (i, j)) :
    ∃ (hi : i < cols.length) (hj : j < cols[i].length), cols = cols.take i ++ cols[i] :: cols.drop (i + 1) ∧ cols[i] = cols[i].take j ++ p :: cols[i].drop (j + 1) ∧ p ∉ cols[i].take j ∧ p ∉ cols[i].drop (j + 1) ∧ (∀ c ∈ cols.take i, p ∉ c) ∧ (∀ c ∈ cols.drop (i + 1), p ∉ c) := by
  obtain ⟨hi, hj, he⟩ := findT_get hf
  have h1 : cols = cols.take i ++ cols[i] :: cols.drop (i + 1) := by rw [← List.drop_eq_getElem_cons hi, List.take_append_drop]
  have h2 : cols[i] = cols[i].take j ++ p :: cols[i].drop (j + 1) := by
    have := (List.take_append_drop j cols[i]).symm
    rw [List.drop_eq_getElem_cons hj, he] at this
    exact this
  have hn := ok.once
  have e1 : cols.flatten = (cols.take i).flatten ++ (cols[i] ++ (cols.drop (i + 1)).flatten) := by
    have e := congrArg List.flatten h1
    rw [List.flatten_append, List.flatten_cons] at e
    exact e
  rw [e1, List.nodup_append] at hn
  obtain ⟨_, hn2, hn3⟩ := hn
  rw [List.nodup_append] at hn2
  obtain ⟨hn4, _, hn5⟩ := hn2
  have hpm : p ∈ cols[i] := by rw [h2]; simp
  rw [h2, List.nodup_append] at hn4
  obtain ⟨_, hn6, hn7⟩ := hn4
  rw [List.nodup_cons] at hn6
  refine ⟨hi, hj, h1, h2, fun h => hn7 p h p (by simp) rfl, hn6.1, fun c hc h => ?_, fun c hc h => ?_⟩
  · exact hn3 p (List.mem_flatten.2 ⟨c, hc, h⟩) p (List.mem_append_left _ hpm) rfl
  · exact hn5 p hpm p (List.mem_flatten.2 ⟨c, hc, h⟩) rfl

theorem colS_at {cols : List (List Int)} {p n : Int} {i j : Nat} (ok : OkT cols) (hf : findT p cols = some (i, j)) (hi : i < cols.length) : colS p n false cols[i] = insL cols[i] (j + 1) n := by
  obtain ⟨_, hj, _, h2, h3, h4, _⟩ := parts ok hf
  have e : colS p n false cols[i] = cols[i].take j ++ (p :: n :: cols[i].drop (j + 1)) := by
    have : colS p n false cols[i] = colS p n false (cols[i].take j ++ p :: cols[i].drop (j + 1)) := by rw [← h2]
    rw [this, colS_append, colS_no _ _ _ _ h3]
    have e2 : colS p n false (p :: cols[i].drop (j + 1)) = [p, n] ++ colS p n false (cols[i].drop (j + 1)) := by
      unfold colS
      rw [List.flatMap_cons, if_pos ⟨rfl, rfl⟩]
    rw [e2, colS_no _ _ _ _ h4]
    rfl
  rw [e]
  unfold insL
  have e3 : cols[i].take (j + 1) = cols[i].take j ++ [p] := by
    obtain ⟨_, _, he⟩ := findT_get hf
    rw [List.take_succ_eq_append_getElem hj, he]
  rw [e3]
  simp
theorem colK_at {cols : List (List Int)} {p : Int} {i j : Nat} (ok : OkT cols) (hf : findT p cols = some (i, j)) (hi : i < cols.length) : colK p cols[i] = cols[i].eraseIdx j := by
  obtain ⟨_, hj, _, h2, h3, h4, _⟩ := parts ok hf
  have : colK p cols[i] = colK p (cols[i].take j ++ p :: cols[i].drop (j + 1)) := by rw [← h2]
  rw [this, colK_append, colK_no _ _ h3]
  have e2 : colK p (p :: cols[i].drop (j + 1)) = colK p (cols[i].drop (j + 1)) := by
    unfold colK
    rw [List.flatMap_cons, if_pos rfl]
    rfl
  rw [e2, colK_no _ _ h4, List.eraseIdx_eq_take_drop_succ]

theorem outS_right {cols : List (List Int)} {p n : Int} {i j : Nat} (ok : OkT cols) (hf : findT p cols = some (i, j)) : outS p n true cols = insL cols (i + 1) [n] := by
  obtain ⟨hi, hj, h1, h2, h3, h4, h5, h6⟩ := parts ok hf
  have : outS p n true cols = outS p n true (cols.take i ++ cols[i] :: cols.drop (i + 1)) := by rw [← h1]
  rw [this, outS_append, outS_no _ _ _ _ h5]
  have e : outS p n true (cols[i] :: cols.drop (i + 1)) = (cols[i] :: [[n]]) ++ outS p n true (cols.drop (i + 1)) := by
    unfold outS
    rw [List.flatMap_cons, colS_right, if_pos ⟨rfl, by rw [h2]; simp⟩]
  rw [e, outS_no _ _ _ _ h6]
  unfold insL
  rw [List.take_succ_eq_append_getElem hi, List.append_assoc]
  rfl
theorem outS_down {cols : List (List Int)} {p n : Int} {i j : Nat} (ok : OkT cols) (hf : findT p cols = some (i, j)) (hi : i < cols.length) : outS p n false cols = cols.set i (insL cols[i] (j + 1) n) := by
  obtain ⟨_, hj, h1, h2, h3, h4, h5, h6⟩ := parts ok hf
  have : outS p n false cols = outS p n false (cols.take i ++ cols[i] :: cols.drop (i + 1)) := by rw [← h1]
  rw [this, outS_append, outS_no _ _ _ _ h5]
  have e : outS p n false (cols[i] :: cols.drop (i + 1)) = [colS p n false cols[i]] ++ outS p n false (cols.drop (i + 1)) := by
    unfold outS
    rw [List.flatMap_cons, if_neg (by simp)]
  rw [e, outS_no _ _ _ _ h6, colS_at ok hf hi, List.set_eq_take_append_cons_drop, if_pos hi]
  rfl
theorem outK_is {cols : List (List Int)} {p : Int} {i j : Nat} (ok : OkT cols) (hf : findT p cols = some (i, j)) (hi : i < cols.length) : outK p cols = if cols[i].length = 1 then cols.eraseIdx i else cols.set i (cols[i].eraseIdx j) := by
  obtain ⟨_, hj, h1, h2, h3, h4, h5, h6⟩ := parts ok hf
  have hne : ∀ c ∈ cols, c ≠ [] := fun c hc e => by have := (ok.tall c hc).1; rw [e] at this; simp at this
  have : outK p cols = outK p (cols.take i ++ cols[i] :: cols.drop (i + 1)) := by rw [← h1]
  rw [this, outK_append, outK_no _ _ (fun c hc => ⟨h5 c hc, hne c (List.mem_of_mem_take hc)⟩)]
  have e : outK p (cols[i] :: cols.drop (i + 1)) = (if colK p cols[i] = [] then [] else [colK p cols[i]]) ++ outK p (cols.drop (i + 1)) := by
    unfold outK
    rw [List.flatMap_cons]
  rw [e, outK_no _ _ (fun c hc => ⟨h6 c hc, hne c (List.mem_of_mem_drop hc)⟩), colK_at ok hf hi]
  have hl : (cols[i].eraseIdx j).length = cols[i].length - 1 := by rw [List.length_eraseIdx]; simp [hj]
  by_cases h : cols[i].length = 1
  · rw [if_pos h, if_pos (List.length_eq_zero_iff.1 (by omega)), List.eraseIdx_eq_take_drop_succ]
    rfl
  · rw [if_neg h, if_neg (fun e => by rw [e] at hl; simp at hl; omega), List.set_eq_take_append_cons_drop, if_pos hi]
    rfl

end Go.Proofs.Ytmdlbclaipajlab.Tl
