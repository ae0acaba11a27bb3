/- Colours: the picture that a pen writes lays just the colours that a row lacks from the cursor on. -/
import Derived.Test.YtdanlnankjgboabDoorDInk
namespace Go.Proofs.YtdanlnankjgboabDoor

theorem good_pic {c : Cel} (h : goodC c = true) (hp : 0 < c.pic) : c = ⟨0, 0, c.pic, false⟩ ∧ c.pic ≤ 8 := by
  unfold goodC at h
  simp only [Bool.or_eq_true, Bool.and_eq_true, decide_eq_true_eq, celB_iff] at h
  rcases h with (h | h) | h
  · rw [h] at hp
    exact absurd hp (by decide)
  · exact ⟨h.1, h.2.2⟩
  · omega
theorem good_letter {c : Cel} (h : goodC c = true) (hp : ¬ 0 < c.pic) (hn : celB c noCel = false) : c.pic = 0 ∧ plainN c.ch = true ∧ 0 ≤ c.ink ∧ c.ink ≤ 8 := by
  unfold goodC at h
  rw [hn] at h
  simp only [Bool.false_or, Bool.or_eq_true, Bool.and_eq_true, decide_eq_true_eq, inkN] at h
  rcases h with h | h
  · omega
  · exact ⟨h.1.1, h.1.2, h.2.1, h.2.2⟩

theorem paysD_succ (f want : Nat → Cel) (b c n : Nat) : paysD f want b c (n + 1) = paysD f want b c n ++ [payD f want b (c + n)] := by
  unfold paysD
  rw [List.range_succ, List.map_append]
  rfl
theorem paysD_length (f want : Nat → Cel) (b c n : Nat) : (paysD f want b c n).length = n := by simp [paysD]

theorem payD_lack {f want : Nat → Cel} {b j : Nat} (hg : goodC (want j) = true) (h : lackB (f (b + j)) (want j) = true) : (payD f want b j).toNat = 96 + (want j).pic.toNat ∧ 1 ≤ (want j).pic ∧ (want j).pic ≤ 8 ∧ want j = ⟨0, 0, (want j).pic, false⟩ := by
  unfold payD
  rw [if_pos h]
  simp only [lackB, Bool.and_eq_true, decide_eq_true_eq] at h
  obtain ⟨e, k⟩ := good_pic hg h.1
  refine ⟨?_, by omega, k, e⟩
  have h1 := h.1
  generalize (want j).pic = q at k h1
  simp
  omega
theorem payD_have {f want : Nat → Cel} {b j : Nat} (h : lackB (f (b + j)) (want j) = false) : payD f want b j = 32 := by
  unfold payD
  rw [if_neg (by rw [h]; simp)]

theorem colF_zero (f want : Nat → Cel) (b c : Nat) : colF f want b c 0 = f := by
  funext i
  unfold colF
  rw [if_neg (by omega)]
theorem colF_have {f want : Nat → Cel} {b c n : Nat} (h : lackB (f (b + (c + n))) (want (c + n)) = false) : colF f want b c (n + 1) = colF f want b c n := by
  funext i
  unfold colF
  by_cases e : i = b + (c + n)
  · subst e
    have : b + (c + n) - b = c + n := by omega
    rw [this, if_neg (by rw [h]; simp), if_neg (by rw [h]; simp)]
  · by_cases k : b + c ≤ i ∧ i < b + c + n ∧ lackB (f i) (want (i - b)) = true
    · rw [if_pos k, if_pos ⟨k.1, by omega, k.2.2⟩]
    · rw [if_neg k, if_neg (fun q => k ⟨q.1, by omega, q.2.2⟩)]
theorem colF_lack {f want : Nat → Cel} {b c n : Nat} (h : lackB (f (b + (c + n))) (want (c + n)) = true) : colF f want b c (n + 1) = putF (colF f want b c n) (b + (c + n)) (want (c + n)) := by
  funext i
  unfold putF colF
  by_cases e : i = b + (c + n)
  · subst e
    have : b + (c + n) - b = c + n := by omega
    rw [this, if_pos ⟨by omega, by omega, h⟩, if_pos rfl]
  · rw [if_neg e]
    by_cases k : b + c ≤ i ∧ i < b + c + n ∧ lackB (f i) (want (i - b)) = true
    · rw [if_pos k, if_pos ⟨k.1, by omega, k.2.2⟩]
    · rw [if_neg k, if_neg (fun q => k ⟨q.1, by omega, q.2.2⟩)]

theorem pic_fold {g : Gr} (ok : OkG g) (hcol : g.col < g.wide) (want : Nat → Cel) (hw : ∀ j, j < g.wide.toNat → goodC (want j) = true) : ∀ n, n ≤ leftD g →
    (paysD g.f want (rowAt g) g.col.toNat n).foldl (pic1 g) (g.f, g.row, hereC g) = (colF g.f want (rowAt g) g.col.toNat n, g.row, g.col + n) := by
  have hh : hereC g = g.col := by unfold hereC; omega
  have hc1 := ok.c1
  obtain ⟨q1, q2, q3, q4, _⟩ := ok.nums
  intro n
  induction n with
  | zero =>
    intro _
    rw [colF_zero, hh]
    simp [paysD]
  | succ n ih =>
    intro hn
    have hl : leftD g = g.wide.toNat - g.col.toNat := rfl
    rw [paysD_succ, List.foldl_append, ih (by omega)]
    show pic1 g (colF g.f want (rowAt g) g.col.toNat n, g.row, g.col + n) (payD g.f want (rowAt g) (g.col.toNat + n)) = _
    have hcast : g.col + ((n + 1 : Nat) : Int) = g.col + (n : Int) + 1 := by omega
    cases hk : lackB (g.f (rowAt g + (g.col.toNat + n))) (want (g.col.toNat + n))
    · rw [payD_have hk, colF_have hk, hcast]
      rfl
    · obtain ⟨e1, e2, e3, e4⟩ := payD_lack (hw _ (by omega)) hk
      rw [colF_lack hk, hcast]
      unfold pic1
      rw [if_neg (fun e => by rw [e] at e1; have : (45 : UInt8).toNat = 45 := rfl; omega)]
      simp only
      have ha : ((payD g.f want (rowAt g) (g.col.toNat + n)).toNat : Int) - 96 = (want (g.col.toNat + n)).pic := by omega
      have hb : (g.row * g.wide + (g.col + (n : Int))).toNat = rowAt g + (g.col.toNat + n) := by unfold rowAt; omega
      rw [if_pos ⟨by omega, by omega, ok.r2, by omega⟩, ha, hb, ← e4]

theorem pic_spaces (g : Gr) (s : (Nat → Cel) × Int × Int) (m : Nat) : ((List.replicate m (32 : UInt8)).foldl (pic1 g) s).1 = s.1 := by
  induction m generalizing s with
  | zero => rfl
  | succ m ih =>
    rw [List.replicate_succ, List.foldl_cons, ih]
    rfl

theorem takeWhile_eq_replicate (l : List UInt8) (c : UInt8) : l.takeWhile (· == c) = List.replicate (l.takeWhile (· == c)).length c := by
  rw [List.eq_replicate_iff]
  refine ⟨rfl, fun b hb => ?_⟩
  have := List.all_takeWhile (l := l) (p := (· == c))
  rw [List.all_eq_true] at this
  simpa using this b hb
theorem trim_split (l : List UInt8) (c : UInt8) : ∃ m, l = Lib.trimRightB l c ++ List.replicate m c := by
  refine ⟨(l.reverse.takeWhile (· == c)).length, ?_⟩
  have h := List.takeWhile_append_dropWhile (p := (· == c)) (l := l.reverse)
  have h2 := congrArg List.reverse h
  rw [List.reverse_append, List.reverse_reverse, takeWhile_eq_replicate, List.reverse_replicate] at h2
  unfold Lib.trimRightB
  simpa using h2.symm

theorem pays_plain {f want : Nat → Cel} {b c n : Nat} (hw : ∀ j, j < c + n → goodC (want j) = true) : ∀ x ∈ paysD f want b c n, 32 ≤ x.toNat ∧ x.toNat ≤ 126 := by
  intro x hx
  unfold paysD at hx
  rw [List.mem_map] at hx
  obtain ⟨j, hj, rfl⟩ := hx
  rw [List.mem_range] at hj
  cases hk : lackB (f (b + (c + j))) (want (c + j))
  · rw [payD_have hk]
    decide
  · obtain ⟨e1, e2, e3, _⟩ := payD_lack (hw _ (by omega)) hk
    omega

theorem adds_colour {p : Pen} (ok : OkG p.g) (hcol : p.g.col < p.g.wide) (want : Nat → Cel) (hw : ∀ j, j < p.g.wide.toNat → goodC (want j) = true) : Adds p (colourP p want) 28 := by
  have hc1 := ok.c1
  have hw2 := ok.w2
  have hl : leftD p.g = p.g.wide.toNat - p.g.col.toNat := rfl
  have hf := pic_fold ok hcol want hw (leftD p.g) (Nat.le_refl _)
  have hp : ∀ x ∈ paysD p.g.f want (rowAt p.g) p.g.col.toNat (leftD p.g), 32 ≤ x.toNat ∧ x.toNat ≤ 126 := pays_plain (fun j hj => hw j (by omega))
  have hn := paysD_length p.g.f want (rowAt p.g) p.g.col.toNat (leftD p.g)
  obtain ⟨m, hm⟩ := trim_split (paysD p.g.f want (rowAt p.g) p.g.col.toNat (leftD p.g)) 32
  have hb : colBytes p.g want = 27 :: 80 :: (Lib.trimRightB (paysD p.g.f want (rowAt p.g) p.g.col.toNat (leftD p.g)) 32 ++ [27, 92]) := rfl
  have hg : colG p.g want = { p.g with f := colF p.g.f want (rowAt p.g) p.g.col.toNat (leftD p.g) } := rfl
  generalize Lib.trimRightB (paysD p.g.f want (rowAt p.g) p.g.col.toNat (leftD p.g)) 32 = t at hm hb
  generalize paysD p.g.f want (rowAt p.g) p.g.col.toNat (leftD p.g) = l at hm hf hp hn
  have ht : t.length ≤ 24 := by
    have := congrArg List.length hm
    rw [List.length_append, hn] at this
    omega
  refine ⟨colBytes p.g want, rfl, by rw [hb]; simp; omega, ?_⟩
  show Sends p.g (colBytes p.g want) (colG p.g want)
  rw [hb, hg]
  refine sends_one (Ps.word_pic t (fun c hc => hp c (by rw [hm]; simp [hc])) (by omega)) rfl ?_
  show { p.g with f := (picS p.g t).1 } = _
  have : (picS p.g t).1 = (l.foldl (pic1 p.g) (p.g.f, p.g.row, hereC p.g)).1 := by
    rw [hm, List.foldl_append, pic_spaces]
    rfl
  rw [this, hf]

end Go.Proofs.YtdanlnankjgboabDoor
