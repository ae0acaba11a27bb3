/- A pane that is put in and killed again leaves all as it was: of the plain machine. -/
import Derived.Test.YtmdlbclaipajlabTMach
namespace Go.Proofs.Ytmdlbclaipajlab.Tl

theorem nodup_ins {P Q : List Int} {n : Int} (h : (P ++ Q).Nodup) (hn : n ∉ P ++ Q) : (P ++ n :: Q).Nodup := by
  rw [List.nodup_append] at h ⊢
  rw [List.mem_append, not_or] at hn
  refine ⟨h.1, List.nodup_cons.2 ⟨hn.2, h.2.1⟩, fun a ha b hb => ?_⟩
  rcases List.mem_cons.1 hb with e | e
  · subst e
    intro e
    subst e
    exact hn.1 ha
  · exact h.2.2 a ha b e

theorem ins_get {α : Type} (l : List α) (i : Nat) (x : α) (hi : i ≤ l.length) : (insL l i x)[i]? = some x := by
  unfold insL
  rw [List.getElem?_append_right (by simp; omega)]
  simp [Nat.min_eq_left hi]
theorem ins_before {α : Type} (l : List α) (i : Nat) (x : α) (k : Nat) (hk : k < i) (hi : i ≤ l.length) : (insL l i x)[k]? = l[k]? := by
  unfold insL
  rw [List.getElem?_append_left (by simp; omega), List.getElem?_take_of_lt hk]
theorem ins_len {α : Type} (l : List α) (i : Nat) (x : α) (hi : i ≤ l.length) : (insL l i x).length = l.length + 1 := by
  simp [insL]; omega
theorem ins_erase {α : Type} (l : List α) (i : Nat) (x : α) (hi : i ≤ l.length) : (insL l i x).eraseIdx i = l := by
  have h1 : (l.take i).length = i := by simp; omega
  unfold insL
  rw [List.eraseIdx_append_of_length_le (by omega), h1]
  simp

/-- What is laid out, and has one pane more. -/
theorem ok_ins {cols x : List (List Int)} {P Q : List Int} {n : Int} (ok : OkT cols) (hf : cols.flatten = P ++ Q) (hx : x.flatten = P ++ n :: Q) (hn : n ∉ cols.flatten) (hp : paneB n = true) (hl : 0 < x.length) (ht : ∀ c ∈ x, 1 ≤ c.length ∧ c.length ≤ 3) : OkT x := by
  refine ⟨hl, ht, fun p hpp => ?_, ?_⟩
  · rw [hx] at hpp
    rcases List.mem_append.1 hpp with h | h
    · exact ok.pane p (by rw [hf]; exact List.mem_append_left _ h)
    · rcases List.mem_cons.1 h with h | h
      · rw [h]; exact hp
      · exact ok.pane p (by rw [hf]; exact List.mem_append_right _ h)
  · rw [hx]
    exact nodup_ins (hf ▸ ok.once) (hf ▸ hn)

theorem back_right {cols : List (List Int)} {n : Int} {i : Nat} (ok : OkT cols) (hp : paneB n = true) (hn : n ∉ cols.flatten) (hi : i < cols.length) :
    goodT (insL cols (i + 1) [n]) = true ∧ findT n (insL cols (i + 1) [n]) = some (i + 1, 0) ∧ killT (insL cols (i + 1) [n]) n = (cols, 0) := by
  have hg : goodT (insL cols (i + 1) [n]) = true := by
    rw [goodT_iff]
    refine ok_ins (P := (cols.take (i + 1)).flatten) (Q := (cols.drop (i + 1)).flatten) ok ?_ ?_ hn hp ?_ ?_
    · rw [← List.flatten_append, List.take_append_drop]
    · simp [insL]
    · rw [ins_len _ _ _ (by omega)]; omega
    · intro c hc
      unfold insL at hc
      rcases List.mem_append.1 hc with h | h
      · exact ok.tall c (List.mem_of_mem_take h)
      · rcases List.mem_cons.1 h with h | h
        · subst h; simp
        · exact ok.tall c (List.mem_of_mem_drop h)
  have hfd : findT n (insL cols (i + 1) [n]) = some (i + 1, 0) := by
    have hl : i + 1 < (insL cols (i + 1) [n]).length := by rw [ins_len _ _ _ (by omega)]; omega
    have e0 := ins_get cols (i + 1) [n] (by omega)
    rw [List.getElem?_eq_getElem hl] at e0
    refine findT_at hl ?_ (fun k hk => ?_)
    · rw [Option.some.inj e0]
      simp [idx]
    · have e1 := ins_before cols (i + 1) [n] k hk (by omega)
      rw [List.getElem?_eq_getElem (by omega), List.getElem?_eq_getElem (by omega)] at e1
      rw [Option.some.inj e1, idx_none]
      intro h
      exact hn (List.mem_flatten.2 ⟨_, List.getElem_mem (by omega), h⟩)
  refine ⟨hg, hfd, ?_⟩
  unfold killT
  rw [if_neg (by simp [hg]), hfd]
  simp only
  have e2 : (insL cols (i + 1) [n]).getD (i + 1) [] = [n] := by
    rw [List.getD_eq_getElem?_getD, ins_get cols (i + 1) [n] (by omega)]
    rfl
  rw [e2, if_pos (show [n].length = 1 from rfl), if_neg (by rw [ins_len _ _ _ (by omega)]; omega), ins_erase _ _ _ (by omega)]

theorem back_down {cols : List (List Int)} {n : Int} {i j : Nat} (ok : OkT cols) (hp : paneB n = true) (hn : n ∉ cols.flatten) (hi : i < cols.length) (hj : j < cols[i].length) (h3 : cols[i].length ≠ 3) :
    goodT (cols.set i (insL cols[i] (j + 1) n)) = true ∧ findT n (cols.set i (insL cols[i] (j + 1) n)) = some (i, j + 1) ∧ killT (cols.set i (insL cols[i] (j + 1) n)) n = (cols, 0) := by
  have hc := ok.tall cols[i] (List.getElem_mem hi)
  have hnc : ∀ k (hk : k < cols.length), n ∉ cols[k] := fun k hk h => hn (List.mem_flatten.2 ⟨_, List.getElem_mem hk, h⟩)
  have hx : (cols.set i (insL cols[i] (j + 1) n)) = cols.take i ++ insL cols[i] (j + 1) n :: cols.drop (i + 1) := by
    rw [List.set_eq_take_append_cons_drop, if_pos hi]
  have hcols : cols = cols.take i ++ cols[i] :: cols.drop (i + 1) := by rw [← List.drop_eq_getElem_cons hi, List.take_append_drop]
  have hg : goodT (cols.set i (insL cols[i] (j + 1) n)) = true := by
    rw [goodT_iff]
    refine ok_ins (P := (cols.take i).flatten ++ cols[i].take (j + 1)) (Q := cols[i].drop (j + 1) ++ (cols.drop (i + 1)).flatten) ok ?_ ?_ hn hp ?_ ?_
    · have e := congrArg List.flatten hcols
      rw [List.flatten_append, List.flatten_cons] at e
      rw [e, List.append_assoc, ← List.append_assoc (cols[i].take (j + 1)), List.take_append_drop]
    · rw [hx]
      simp [insL]
    · simp; omega
    · intro c hcm
      rw [hx] at hcm
      rcases List.mem_append.1 hcm with h | h
      · exact ok.tall c (List.mem_of_mem_take h)
      · rcases List.mem_cons.1 h with h | h
        · subst h
          rw [ins_len _ _ _ (by omega)]
          omega
        · exact ok.tall c (List.mem_of_mem_drop h)
  have hxi : ∀ (h : i < (cols.set i (insL cols[i] (j + 1) n)).length), (cols.set i (insL cols[i] (j + 1) n))[i] = insL cols[i] (j + 1) n := fun h => by simp
  have hfd : findT n (cols.set i (insL cols[i] (j + 1) n)) = some (i, j + 1) := by
    refine findT_at (by simpa using hi) ?_ (fun k hk => ?_)
    · rw [hxi]
      have hl : j + 1 < (insL cols[i] (j + 1) n).length := by rw [ins_len _ _ _ (by omega)]; omega
      have e0 := ins_get cols[i] (j + 1) n (by omega)
      rw [List.getElem?_eq_getElem hl] at e0
      refine idx_at hl (Option.some.inj e0) (fun k hk => ?_)
      have e1 := ins_before cols[i] (j + 1) n k hk (by omega)
      rw [List.getElem?_eq_getElem (by omega), List.getElem?_eq_getElem (by omega)] at e1
      rw [Option.some.inj e1]
      intro e
      exact hnc i hi (e ▸ List.getElem_mem (by omega))
    · rw [List.getElem_set_ne (by omega), idx_none]
      exact hnc k (by omega)
  refine ⟨hg, hfd, ?_⟩
  unfold killT
  rw [if_neg (by simp [hg]), hfd]
  simp only
  have e2 : (cols.set i (insL cols[i] (j + 1) n)).getD i [] = insL cols[i] (j + 1) n := by
    rw [List.getD_eq_getElem?_getD, List.getElem?_set_self hi]
    rfl
  rw [e2, if_neg (by rw [ins_len _ _ _ (by omega)]; omega), ins_erase _ _ _ (by omega), List.set_set, List.set_getElem_self]

/-- What 'TilesBack' asks. -/
theorem back_all {cols x : List (List Int)} {p n : Int} {right : Bool} (h : splitT cols p n right = (x, 0)) : goodT x = true ∧ hasT x n = true ∧ killT x n = (cols, 0) ∧ goodT cols = true ∧ x.length ≤ cols.length + 1 := by
  unfold splitT at h
  by_cases hg : goodT cols = false ∨ paneB n = false
  · rw [if_pos hg] at h; simp at h
  · rw [if_neg hg] at h
    rw [not_or] at hg
    have hgc : goodT cols = true := by simpa using hg.1
    have hpn : paneB n = true := by simpa using hg.2
    have ok := (goodT_iff cols).1 hgc
    cases hf : findT p cols with
    | none => rw [hf] at h; simp at h
    | some y =>
      obtain ⟨i, j⟩ := y
      rw [hf] at h
      simp only at h
      cases hh : hasT cols n with
      | true => rw [hh] at h; simp at h
      | false =>
        rw [hh] at h
        have hn : n ∉ cols.flatten := by intro hm; rw [hasT_iff.2 hm] at hh; cases hh
        obtain ⟨hi, hj, _⟩ := findT_get hf
        cases right with
        | true =>
          simp only [Bool.false_eq_true, if_false, if_true, Prod.mk.injEq, and_true] at h
          subst h
          obtain ⟨a, b, c⟩ := back_right ok hpn hn hi
          exact ⟨a, by unfold hasT; rw [b]; rfl, c, hgc, by rw [ins_len _ _ _ (by omega)]; omega⟩
        | false =>
          have hgd : cols.getD i [] = cols[i] := by simp [hi]
          rw [hgd] at h
          simp only [Bool.false_eq_true, if_false] at h
          by_cases h3 : cols[i].length = 3
          · rw [if_pos h3] at h; simp at h
          · rw [if_neg h3] at h
            simp only [Prod.mk.injEq, and_true] at h
            subst h
            obtain ⟨a, b, c⟩ := back_down ok hpn hn hi hj h3
            exact ⟨a, by unfold hasT; rw [b]; rfl, c, hgc, by simp⟩

end Go.Proofs.Ytmdlbclaipajlab.Tl
