/- Ink: the bytes that take it; a letter that is printed; how long they are. -/
import Derived.Test.YtdanlnankjgboabDoorDWay
namespace Go.Proofs.YtdanlnankjgboabDoor

theorem ink1_0 (g : Gr) : ink1 g 0 = { g with ink := 0, bold := false } := rfl
theorem ink1_1 (g : Gr) : ink1 g 1 = { g with bold := true } := rfl
theorem ink1_k (g : Gr) (i : Int) (h1 : 1 ≤ i) (h2 : i ≤ 8) : ink1 g (29 + i) = { g with ink := i } := by
  unfold ink1
  rw [if_neg (by omega), if_neg (by omega), if_neg (by omega), if_pos (by omega)]
  have : 29 + i - 29 = i := by omega
  rw [this]

theorem num_ink (i : Int) (h1 : 1 ≤ i) (h2 : i ≤ 8) : Num (Ps.dec (29 + i).toNat) (29 + i) := by
  have := num_dec (29 + i).toNat (by omega)
  rwa [Int.toNat_of_nonneg (by omega)] at this
theorem num_one : Num [49] 1 := num_dec 1 (by omega)
theorem len_ink (i : Int) (h1 : 1 ≤ i) (h2 : i ≤ 8) : (Ps.dec (29 + i).toNat).length = 2 := by
  unfold Ps.dec
  rw [if_neg (by omega), if_pos (by omega)]
  rfl

/-- The texts with their numbers. -/
structure InkTexts (g : Gr) (c : Cel) (x : List UInt8 × Int) (l : List (List UInt8 × Int)) : Prop where
  texts : inksD g c = x.1 :: l.map (·.1)
  first : Num x.1 x.2
  rest : ∀ y ∈ l, Num y.1 y.2
  few : l.length ≤ 2
  makes : inkG g (x.2 :: l.map (·.2)) = withInk g c
  short : (Lib.join (inksD g c) [59]).length ≤ 4

theorem ink_texts {g : Gr} (hg : 0 ≤ g.ink ∧ g.ink ≤ 8) (c : Cel) (hc : 0 ≤ c.ink ∧ c.ink ≤ 8) (hs : sameInk g c = false) : ∃ x l, InkTexts g c x l := by
  by_cases hz : goneD g c = true
  · -- all goes first
    by_cases hb : c.bold = false
    · by_cases hi : c.ink = 0
      · have e : inksD g c = [[]] := by simp [inksD, hz, hb, hi]
        refine ⟨([], 0), [], ⟨by rw [e]; rfl, num_no, by simp, by simp, ?_, by rw [e]; simp [Lib.join_one]⟩⟩
        simp [inkG, ink1_0, withInk, hb, hi]
      · have e : inksD g c = [[], Ps.dec (29 + c.ink).toNat] := by simp [inksD, hz, hb, hi]
        have k := num_ink c.ink (by omega) (by omega)
        refine ⟨([], 0), [(Ps.dec (29 + c.ink).toNat, 29 + c.ink)], ⟨by rw [e]; rfl, num_no, by simpa using k, by simp, ?_, ?_⟩⟩
        · simp [inkG, ink1_0, ink1_k _ c.ink (by omega) (by omega), withInk, hb]
        · rw [e, Lib.join_cons]
          have := len_ink c.ink (by omega) (by omega)
          simp [Lib.joinTail, this]
    · have hb' : c.bold = true := by simpa using hb
      by_cases hi : c.ink = 0
      · have e : inksD g c = [[], [49]] := by simp [inksD, hz, hb', hi]
        refine ⟨([], 0), [([49], 1)], ⟨by rw [e]; rfl, num_no, by simpa using num_one, by simp, ?_, by rw [e, Lib.join_cons]; simp [Lib.joinTail]⟩⟩
        simp [inkG, ink1_0, ink1_1, withInk, hb', hi]
      · -- not at once
        exfalso
        simp [goneD, hb', hi] at hz
  · have hz' : goneD g c = false := by simpa using hz
    have h1 : g.bold = true → c.bold = true := by
      intro h
      simp only [goneD, h, Bool.true_and, Bool.or_eq_false_iff, Bool.not_eq_false'] at hz'
      exact hz'.1
    have h2 : 0 < g.ink → c.ink ≠ 0 := by
      intro h h0
      simp [goneD, h, h0] at hz'
    by_cases hb : c.bold = g.bold
    · have hi : c.ink ≠ g.ink := by
        intro e
        simp [sameInk, e, hb] at hs
      have e : inksD g c = [Ps.dec (29 + c.ink).toNat] := by simp [inksD, hz', hb, hi]
      have k := num_ink c.ink (by omega) (by omega)
      refine ⟨(Ps.dec (29 + c.ink).toNat, 29 + c.ink), [], ⟨by rw [e]; rfl, k, by simp, by simp, ?_, ?_⟩⟩
      · simp [inkG, ink1_k _ c.ink (by omega) (by omega), withInk, hb]
      · rw [e, Lib.join_one]
        have := len_ink c.ink (by omega) (by omega)
        omega
    · have hcb : c.bold = true := by
        cases h : c.bold
        · cases h' : g.bold
          · rw [h, h'] at hb; exact absurd rfl hb
          · exact absurd (h1 h') (by simp [h])
        · rfl
      by_cases hi : c.ink = g.ink
      · have e : inksD g c = [[49]] := by simp [inksD, hz', hb, hi]
        refine ⟨([49], 1), [], ⟨by rw [e]; rfl, num_one, by simp, by simp, ?_, by rw [e]; simp [Lib.join_one]⟩⟩
        simp [inkG, ink1_1, withInk, hcb, hi]
      · have e : inksD g c = [[49], Ps.dec (29 + c.ink).toNat] := by simp [inksD, hz', hb, hi]
        have k := num_ink c.ink (by omega) (by omega)
        refine ⟨([49], 1), [(Ps.dec (29 + c.ink).toNat, 29 + c.ink)], ⟨by rw [e]; rfl, num_one, by simpa using k, by simp, ?_, ?_⟩⟩
        · simp [inkG, ink1_1, ink1_k _ c.ink (by omega) (by omega), withInk, hcb]
        · rw [e, Lib.join_cons]
          have := len_ink c.ink (by omega) (by omega)
          simp [Lib.joinTail, this]

theorem sends_inkD {g : Gr} (hg : 0 ≤ g.ink ∧ g.ink ≤ 8) (c : Cel) (hc : 0 ≤ c.ink ∧ c.ink ≤ 8) (hs : sameInk g c = false) : Sends g (27 :: 91 :: (inkNumsD g c ++ [109])) (withInk g c) ∧ (27 :: 91 :: (inkNumsD g c ++ [109])).length ≤ 7 := by
  obtain ⟨x, l, h⟩ := ink_texts hg c hc hs
  refine ⟨?_, ?_⟩
  · unfold inkNumsD
    rw [h.texts]
    refine sends_one (word_join x l 109 h.first h.rest (by have := h.few; omega) (by decide) (by decide)) rfl ?_
    show csiG g 109 (x.2 :: l.map (·.2)) = _
    rw [csi109, h.makes]
  · have := h.short
    unfold inkNumsD
    simp
    omega

theorem ok_withInk {g : Gr} (ok : OkG g) (c : Cel) (hc : 0 ≤ c.ink ∧ c.ink ≤ 8) : OkG (withInk g c) :=
  ⟨ok.w1, ok.w2, ok.h1, ok.h2, ok.size, ok.cells, ok.r1, ok.r2, ok.c1, ok.c2, hc.1, hc.2, ok.t1, ok.t2, ok.t3⟩

/-- What one step of the pen adds. -/
structure Adds (p q : Pen) (k : Nat) : Prop where
  more : ∃ m, q.out = p.out ++ m ∧ m.length ≤ k ∧ Sends p.g m q.g

theorem Adds.refl (p : Pen) : Adds p p 0 := ⟨[], by simp, by simp, sends_nil _⟩
theorem Adds.trans {p q r : Pen} {a b : Nat} (h : Adds p q a) (k : Adds q r b) : Adds p r (a + b) := by
  obtain ⟨m, h1, h2, h3⟩ := h.more
  obtain ⟨n, k1, k2, k3⟩ := k.more
  exact ⟨m ++ n, by rw [k1, h1, List.append_assoc], by simp; omega, h3.append k3⟩
theorem Adds.mono {p q : Pen} {a b : Nat} (h : Adds p q a) (hab : a ≤ b) : Adds p q b := by
  obtain ⟨m, h1, h2, h3⟩ := h.more
  exact ⟨m, h1, by omega, h3⟩
theorem Adds.ok {p q : Pen} {a : Nat} (h : Adds p q a) (ok : OkG p.g) : OkG q.g ∧ q.g.wide = p.g.wide ∧ q.g.high = p.g.high ∧ q.g.n = p.g.n := by
  obtain ⟨m, _, _, h3⟩ := h.more
  exact h3.ok ok

theorem adds_move {p : Pen} (ok : OkG p.g) (r c : Int) (h1 : 0 ≤ r) (h2 : r < p.g.high) (h3 : 0 ≤ c) (h4 : c < p.g.wide) : Adds p (moveP p r c) 8 :=
  ⟨_, rfl, (len_moveD ok r c h1 h2 h3 h4).1, sends_moveD ok r c h1 h2 h3 h4⟩
theorem adds_move5 {p : Pen} (ok : OkG p.g) (r c : Int) (h1 : 0 ≤ r) (h2 : r < p.g.high) (h3 : 0 ≤ c) (h4 : c < p.g.wide) (he : r = p.g.row) : Adds p (moveP p r c) 5 :=
  ⟨_, rfl, (len_moveD ok r c h1 h2 h3 h4).2.1 he, sends_moveD ok r c h1 h2 h3 h4⟩

theorem adds_ink {p : Pen} (ok : OkG p.g) (c : Cel) (hc : 0 ≤ c.ink ∧ c.ink ≤ 8) : Adds p (inkP p c) 7 ∧ (inkP p c).g = withInk p.g c := by
  unfold inkP
  by_cases hs : sameInk p.g c = true
  · rw [if_pos hs]
    refine ⟨(Adds.refl p).mono (by omega), ?_⟩
    simp only [sameInk, Bool.and_eq_true, decide_eq_true_eq, beq_iff_eq] at hs
    unfold withInk
    rw [← hs.1, ← hs.2]
  · have hs' : sameInk p.g c = false := by simpa using hs
    rw [if_neg hs]
    obtain ⟨a, b⟩ := sends_inkD ⟨ok.i1, ok.i2⟩ c hc hs'
    exact ⟨⟨_, rfl, b, a⟩, rfl⟩

theorem adds_print {p : Pen} (ok : OkG p.g) (c : Cel) (hc : 0 ≤ c.ink ∧ c.ink ≤ 8) (hp : c.pic = 0) (hb : plainN c.ch = true) (hcol : p.g.col < p.g.wide) : Adds p (printP p c) 8 ∧ (printP p c).g = withCell (withInk p.g c) c := by
  obtain ⟨a, e⟩ := adds_ink ok c hc
  simp only [plainN, decide_eq_true_eq] at hb
  have hn : (chD c).toNat = c.ch.toNat := by unfold chD; simp; omega
  have s := sends_print (g := withInk p.g c) (chD c) (by omega) (by omega) (by simp only [withInk]; omega)
  have e2 : withCell (inkP p c).g c = withCell (withInk p.g c) c := by rw [e]
  refine ⟨a.trans (b := 1) ⟨[chD c], rfl, by simp, ?_⟩, e2⟩
  show Sends (inkP p c).g [chD c] (withCell (inkP p c).g c)
  rw [e]
  have : (⟨((chD c).toNat : Int), (withInk p.g c).ink, 0, (withInk p.g c).bold⟩ : Cel) = c := by
    rw [hn, Int.toNat_of_nonneg (by omega), ← hp]
    rfl
  rw [this] at s
  exact s

end Go.Proofs.YtdanlnankjgboabDoor
