/- Several texts in one, each as it was: DWay, DInk, DCol, DRow, DTurn. -/
import Derived.Test.YtpichplhidiokacGreatDoorDMach
import Derived.Test.YtpichplhidiokacGreatDoorFEvs

/- Ways: the bytes of a move lead the cursor where they are to; how long they are. -/
namespace Go.Proofs.YtpichplhidiokacGreatDoor

/-- A text that is read as a number of a command. -/
def Num (t : List UInt8) (v : Int) : Prop := ∀ ps : List Int, Ps.feedS (Ps.inCmd (ps ++ [0])) t = Ps.inCmd (ps ++ [v]) ∧ Ps.feedE (Ps.inCmd (ps ++ [0])) t = []

theorem num_no : Num [] 0 := fun _ => ⟨rfl, rfl⟩
theorem num_dec (n : Nat) (h : n < 1000) : Num (Ps.dec n) n := fun ps => Ps.sq_num ps n h

theorem joinTail_cons (sep x : List UInt8) (r : List (List UInt8)) : Lib.joinTail sep (x :: r) = sep ++ x ++ Lib.joinTail sep r := by
  simp [Lib.joinTail]

theorem feed_tail : ∀ (l : List (List UInt8 × Int)) (ps : List Int), (∀ x ∈ l, Num x.1 x.2) → ps.length + l.length ≤ 4 → Ps.feedS (Ps.inCmd ps) (Lib.joinTail [59] (l.map (·.1))) = Ps.inCmd (ps ++ l.map (·.2)) ∧ Ps.feedE (Ps.inCmd ps) (Lib.joinTail [59] (l.map (·.1))) = []
  | [], ps, _, _ => by simp [Lib.joinTail, Ps.feedS, Ps.feedE]
  | x :: r, ps, h, hl => by
    have hx := h x (by simp) ps
    have h3 := Ps.sq_semi ps (by simp at hl; omega)
    have h4 := feed_tail r (ps ++ [x.2]) (fun y hy => h y (by simp [hy])) (by simp at hl ⊢; omega)
    have hb : Ps.bint 59 = 59 := rfl
    rw [List.map_cons, joinTail_cons, List.append_assoc, List.singleton_append]
    constructor
    · rw [Ps.feedS_cons, hb, h3, Ps.feedS_append, hx.1, h4.1]
      simp
    · rw [Ps.feedE_cons, hb, h3, Ps.feedE_append, hx.1, hx.2, h4.2]
      rfl

/-- A command of such texts. -/
theorem word_join (x : List UInt8 × Int) (l : List (List UInt8 × Int)) (c : UInt8) (hx : Num x.1 x.2) (h : ∀ y ∈ l, Num y.1 y.2) (hl : l.length ≤ 3) (h1 : 64 ≤ c.toNat) (h2 : c.toNat ≤ 126) :
    Ps.Word (27 :: 91 :: (Lib.join (x.1 :: l.map (·.1)) [59] ++ [c])) [⟨3, Ps.bint c, x.2 :: l.map (·.2), ⟨#[]⟩⟩] := by
  have e1 : Ps.stp Ps.ground (Ps.bint 27) = (⟨1, [], ⟨#[]⟩, false⟩, Ps.noEv) := rfl
  have e2 : Ps.stp ⟨1, [], ⟨#[]⟩, false⟩ (Ps.bint 91) = (Ps.inCmd ([] ++ [0]), Ps.noEv) := rfl
  have k1 := hx []
  have k2 := feed_tail l ([] ++ [x.2]) h (by simp; omega)
  have k3 := Ps.sq_end ([] ++ [x.2] ++ l.map (·.2)) c h1 h2
  rw [Lib.join_cons]
  refine ⟨?_, ?_⟩
  · rw [Ps.feedS_cons, e1, Ps.feedS_cons, e2, Ps.feedS_append, Ps.feedS_append, k1.1, k2.1, Ps.feedS_cons, k3]
    rfl
  · rw [Ps.feedE_cons, e1, Ps.feedE_cons, e2, Ps.feedE_append, Ps.feedE_append, Ps.feedS_append, k1.1, k1.2, k2.1, k2.2, Ps.feedE_cons, k3]
    rfl
theorem len_dec (n : Nat) (h : n < 100) : (Ps.dec n).length ≤ 2 := by
  unfold Ps.dec
  split
  · simp
  · simp

/-- One step: bytes that are one word with one event. -/
theorem sends_one {g x : Gr} {l : List UInt8} {k b : Int} {ps : List Int} {pl : ByteArray} (h : Ps.Word l [⟨k, b, ps, pl⟩]) (hc : checkE ⟨k, b, ps, pl⟩ = 0) (hx : doneG g ⟨k, b, ps, pl⟩ = x) : Sends g l x :=
  ⟨_, h, by rw [← hx]; exact did_one g _ hc⟩

theorem csiN_pos (n : Int) (r : List Int) (h1 : 1 ≤ n) (h2 : n < 999) : csiN (n :: r) = n := by
  have : numP (n :: r) 0 = n := by
    show max 0 (min n 999) = _
    omega
  unfold csiN
  rw [this]
  omega

theorem sends_jump {g : Gr} (ok : OkG g) (r c : Int) (h1 : 0 ≤ r) (h2 : r < g.high) (h3 : 0 ≤ c) (h4 : c < g.wide) : Sends g (jumpD r c) (toG g r c) := by
  have hw := ok.w2
  have hh := ok.h2
  have n1 : Num (Ps.dec (r + 1).toNat) (r + 1) := by
    have := num_dec (r + 1).toNat (by omega)
    rwa [Int.toNat_of_nonneg (by omega)] at this
  have n2 : Num (Ps.dec (c + 1).toNat) (c + 1) := by
    have := num_dec (c + 1).toNat (by omega)
    rwa [Int.toNat_of_nonneg (by omega)] at this
  unfold jumpD
  have hj : Ps.dec (r + 1).toNat ++ 59 :: (Ps.dec (c + 1).toNat ++ [72]) = Lib.join (Ps.dec (r + 1).toNat :: [(Ps.dec (c + 1).toNat, c + 1)].map (·.1)) [59] ++ [72] := by
    rw [Lib.join_cons]
    simp [Lib.joinTail]
  rw [hj]
  refine sends_one (word_join (Ps.dec (r + 1).toNat, r + 1) [(Ps.dec (c + 1).toNat, c + 1)] 72 n1 (fun y hy => ?_) (by simp) (by decide) (by decide)) rfl ?_
  · simp only [List.mem_singleton] at hy
    subst hy
    exact n2
  · show csiG g 72 [r + 1, c + 1] = _
    rw [csi72, csiN_pos (r + 1) _ (by omega) (by omega)]
    have e2 : max 1 (min (numP [r + 1, c + 1] 1) g.wide) - 1 = c := by
      have : numP [r + 1, c + 1] 1 = c + 1 := by
        show max 0 (min (c + 1) 999) = _
        omega
      rw [this]
      omega
    have e1 : min (r + 1) g.high - 1 = r := by omega
    rw [e1, e2]
    rfl

theorem ok_toG {g : Gr} (ok : OkG g) (r c : Int) (h1 : 0 ≤ r) (h2 : r < g.high) (h3 : 0 ≤ c) (h4 : c ≤ g.wide) : OkG (toG g r c) :=
  ⟨ok.w1, ok.w2, ok.h1, ok.h2, ok.size, ok.cells, h1, h2, h3, h4, ok.i1, ok.i2, ok.t1, ok.t2, ok.t3⟩

/-- The bytes of a move lead there. -/
theorem sends_moveD {g : Gr} (ok : OkG g) (r c : Int) (h1 : 0 ≤ r) (h2 : r < g.high) (h3 : 0 ≤ c) (h4 : c < g.wide) : Sends g (moveD g r c) (toG g r c) := by
  unfold moveD
  split
  · rename_i h
    have : toG g r c = g := by rw [← h.1, ← h.2]; rfl
    rw [this]
    exact sends_nil g
  · exact sends_jump ok r c h1 h2 h3 h4

theorem len_jump (r c : Int) (h1 : 0 ≤ r) (h2 : r < 10) (h3 : 0 ≤ c) (h4 : c < 24) : (jumpD r c).length ≤ 8 := by
  have a := len_dec (r + 1).toNat (by omega)
  have b := len_dec (c + 1).toNat (by omega)
  unfold jumpD
  simp
  omega

theorem len_moveD {g : Gr} (ok : OkG g) (r c : Int) (h1 : 0 ≤ r) (h2 : r < g.high) (h3 : 0 ≤ c) (h4 : c < g.wide) :
    (moveD g r c).length ≤ 8 ∧ (r = g.row → c = g.col → moveD g r c = []) := by
  have hw := ok.w2
  have hh := ok.h2
  have a := len_jump r c h1 (by omega) h3 (by omega)
  refine ⟨?_, ?_⟩
  · unfold moveD
    split
    · simp
    · exact a
  · intro e e2
    unfold moveD
    rw [if_pos ⟨e.symm, e2.symm⟩]

end Go.Proofs.YtpichplhidiokacGreatDoor

/- Ink: the bytes that take it; a letter that is printed; how long they are. -/
namespace Go.Proofs.YtpichplhidiokacGreatDoor

theorem ink1_0 (g : Gr) : ink1 g 0 = { g with ink := 0, bold := false } := rfl
theorem ink1_1 (g : Gr) : ink1 g 1 = { g with bold := true } := rfl
theorem ink1_k (g : Gr) (i : Int) (h1 : 1 ≤ i) (h2 : i ≤ 8) : ink1 g (29 + i) = { g with ink := i } := by
  unfold ink1
  rw [if_neg (by omega), if_neg (by omega), if_neg (by omega), if_pos (by omega)]
  have : 29 + i - 29 = i := by omega
  rw [this]

theorem num_ink (i : Int) (h1 : 1 ≤ i) (h2 : i ≤ 8) : Num (Ps.dec (29 + i).toNat) (29 + i) := by
  have := num_dec (29 + i).toNat (by omega)
  rwa [Int.toNat_of_nonneg (by omega)] at this
theorem num_one : Num [49] 1 := num_dec 1 (by omega)
theorem len_ink (i : Int) (h1 : 1 ≤ i) (h2 : i ≤ 8) : (Ps.dec (29 + i).toNat).length = 2 := by
  unfold Ps.dec
  rw [if_neg (by omega), if_pos (by omega)]
  rfl

/-- The texts with their numbers. -/
structure InkTexts (g : Gr) (c : Cel) (x : List UInt8 × Int) (l : List (List UInt8 × Int)) : Prop where
  texts : inksD g c = x.1 :: l.map (·.1)
  first : Num x.1 x.2
  rest : ∀ y ∈ l, Num y.1 y.2
  few : l.length ≤ 2
  makes : inkG g (x.2 :: l.map (·.2)) = withInk g c
  short : (Lib.join (inksD g c) [59]).length ≤ 4

theorem ink_texts {g : Gr} (hg : 0 ≤ g.ink ∧ g.ink ≤ 8) (c : Cel) (hc : 0 ≤ c.ink ∧ c.ink ≤ 8) (hs : sameInk g c = false) : ∃ x l, InkTexts g c x l := by
  by_cases hz : goneD g c = true
  · -- all goes first
    by_cases hb : c.bold = false
    · by_cases hi : c.ink = 0
      · have e : inksD g c = [[]] := by simp [inksD, hz, hb, hi]
        refine ⟨([], 0), [], ⟨by rw [e]; rfl, num_no, by simp, by simp, ?_, by rw [e]; simp [Lib.join_one]⟩⟩
        simp [inkG, ink1_0, withInk, hb, hi]
      · have e : inksD g c = [[], Ps.dec (29 + c.ink).toNat] := by simp [inksD, hz, hb, hi]
        have k := num_ink c.ink (by omega) (by omega)
        refine ⟨([], 0), [(Ps.dec (29 + c.ink).toNat, 29 + c.ink)], ⟨by rw [e]; rfl, num_no, by simpa using k, by simp, ?_, ?_⟩⟩
        · simp [inkG, ink1_0, ink1_k _ c.ink (by omega) (by omega), withInk, hb]
        · rw [e, Lib.join_cons]
          have := len_ink c.ink (by omega) (by omega)
          simp [Lib.joinTail, this]
    · have hb' : c.bold = true := by simpa using hb
      by_cases hi : c.ink = 0
      · have e : inksD g c = [[], [49]] := by simp [inksD, hz, hb', hi]
        refine ⟨([], 0), [([49], 1)], ⟨by rw [e]; rfl, num_no, by simpa using num_one, by simp, ?_, by rw [e, Lib.join_cons]; simp [Lib.joinTail]⟩⟩
        simp [inkG, ink1_0, ink1_1, withInk, hb', hi]
      · -- not at once
        exfalso
        simp [goneD, hb', hi] at hz
  · have hz' : goneD g c = false := by simpa using hz
    have h1 : g.bold = true → c.bold = true := by
      intro h
      simp only [goneD, h, Bool.true_and, Bool.or_eq_false_iff, Bool.not_eq_false'] at hz'
      exact hz'.1
    have h2 : 0 < g.ink → c.ink ≠ 0 := by
      intro h h0
      simp [goneD, h, h0] at hz'
    by_cases hb : c.bold = g.bold
    · have hi : c.ink ≠ g.ink := by
        intro e
        simp [sameInk, e, hb] at hs
      have e : inksD g c = [Ps.dec (29 + c.ink).toNat] := by simp [inksD, hz', hb, hi]
      have k := num_ink c.ink (by omega) (by omega)
      refine ⟨(Ps.dec (29 + c.ink).toNat, 29 + c.ink), [], ⟨by rw [e]; rfl, k, by simp, by simp, ?_, ?_⟩⟩
      · simp [inkG, ink1_k _ c.ink (by omega) (by omega), withInk, hb]
      · rw [e, Lib.join_one]
        have := len_ink c.ink (by omega) (by omega)
        omega
    · have hcb : c.bold = true := by
        cases h : c.bold
        · cases h' : g.bold
          · rw [h, h'] at hb; exact absurd rfl hb
          · exact absurd (h1 h') (by simp [h])
        · rfl
      by_cases hi : c.ink = g.ink
      · have e : inksD g c = [[49]] := by simp [inksD, hz', hb, hi]
        refine ⟨([49], 1), [], ⟨by rw [e]; rfl, num_one, by simp, by simp, ?_, by rw [e]; simp [Lib.join_one]⟩⟩
        simp [inkG, ink1_1, withInk, hcb, hi]
      · have e : inksD g c = [[49], Ps.dec (29 + c.ink).toNat] := by simp [inksD, hz', hb, hi]
        have k := num_ink c.ink (by omega) (by omega)
        refine ⟨([49], 1), [(Ps.dec (29 + c.ink).toNat, 29 + c.ink)], ⟨by rw [e]; rfl, num_one, by simpa using k, by simp, ?_, ?_⟩⟩
        · simp [inkG, ink1_1, ink1_k _ c.ink (by omega) (by omega), withInk, hcb]
        · rw [e, Lib.join_cons]
          have := len_ink c.ink (by omega) (by omega)
          simp [Lib.joinTail, this]

theorem sends_inkD {g : Gr} (hg : 0 ≤ g.ink ∧ g.ink ≤ 8) (c : Cel) (hc : 0 ≤ c.ink ∧ c.ink ≤ 8) (hs : sameInk g c = false) : Sends g (27 :: 91 :: (inkNumsD g c ++ [109])) (withInk g c) ∧ (27 :: 91 :: (inkNumsD g c ++ [109])).length ≤ 7 := by
  obtain ⟨x, l, h⟩ := ink_texts hg c hc hs
  refine ⟨?_, ?_⟩
  · unfold inkNumsD
    rw [h.texts]
    refine sends_one (word_join x l 109 h.first h.rest (by have := h.few; omega) (by decide) (by decide)) rfl ?_
    show csiG g 109 (x.2 :: l.map (·.2)) = _
    rw [csi109, h.makes]
  · have := h.short
    unfold inkNumsD
    simp
    omega

theorem ok_withInk {g : Gr} (ok : OkG g) (c : Cel) (hc : 0 ≤ c.ink ∧ c.ink ≤ 8) : OkG (withInk g c) :=
  ⟨ok.w1, ok.w2, ok.h1, ok.h2, ok.size, ok.cells, ok.r1, ok.r2, ok.c1, ok.c2, hc.1, hc.2, ok.t1, ok.t2, ok.t3⟩

/-- What one step of the pen adds. -/
structure Adds (p q : Pen) (k : Nat) : Prop where
  more : ∃ m, q.out = p.out ++ m ∧ m.length ≤ k ∧ Sends p.g m q.g

theorem Adds.refl (p : Pen) : Adds p p 0 := ⟨[], by simp, by simp, sends_nil _⟩
theorem Adds.trans {p q r : Pen} {a b : Nat} (h : Adds p q a) (k : Adds q r b) : Adds p r (a + b) := by
  obtain ⟨m, h1, h2, h3⟩ := h.more
  obtain ⟨n, k1, k2, k3⟩ := k.more
  exact ⟨m ++ n, by rw [k1, h1, List.append_assoc], by simp; omega, h3.append k3⟩
theorem Adds.mono {p q : Pen} {a b : Nat} (h : Adds p q a) (hab : a ≤ b) : Adds p q b := by
  obtain ⟨m, h1, h2, h3⟩ := h.more
  exact ⟨m, h1, by omega, h3⟩
theorem Adds.ok {p q : Pen} {a : Nat} (h : Adds p q a) (ok : OkG p.g) : OkG q.g ∧ q.g.wide = p.g.wide ∧ q.g.high = p.g.high ∧ q.g.n = p.g.n := by
  obtain ⟨m, _, _, h3⟩ := h.more
  exact h3.ok ok

theorem adds_move {p : Pen} (ok : OkG p.g) (r c : Int) (h1 : 0 ≤ r) (h2 : r < p.g.high) (h3 : 0 ≤ c) (h4 : c < p.g.wide) : Adds p (moveP p r c) 8 :=
  ⟨_, rfl, (len_moveD ok r c h1 h2 h3 h4).1, sends_moveD ok r c h1 h2 h3 h4⟩
/-- Where the cursor is, no bytes. -/
theorem adds_move0 {p : Pen} (ok : OkG p.g) (r c : Int) (h1 : 0 ≤ r) (h2 : r < p.g.high) (h3 : 0 ≤ c) (h4 : c < p.g.wide) (he : p.g.row = r) (hc : p.g.col = c) : Adds p (moveP p r c) 0 :=
  ⟨_, rfl, by rw [(len_moveD ok r c h1 h2 h3 h4).2 he.symm hc.symm]; simp, sends_moveD ok r c h1 h2 h3 h4⟩

theorem adds_ink {p : Pen} (ok : OkG p.g) (c : Cel) (hc : 0 ≤ c.ink ∧ c.ink ≤ 8) : Adds p (inkP p c) 7 ∧ (inkP p c).g = withInk p.g c := by
  unfold inkP
  by_cases hs : sameInk p.g c = true
  · rw [if_pos hs]
    refine ⟨(Adds.refl p).mono (by omega), ?_⟩
    simp only [sameInk, Bool.and_eq_true, decide_eq_true_eq, beq_iff_eq] at hs
    unfold withInk
    rw [← hs.1, ← hs.2]
  · have hs' : sameInk p.g c = false := by simpa using hs
    rw [if_neg hs]
    obtain ⟨a, b⟩ := sends_inkD ⟨ok.i1, ok.i2⟩ c hc hs'
    exact ⟨⟨_, rfl, b, a⟩, rfl⟩

theorem adds_print {p : Pen} (ok : OkG p.g) (c : Cel) (hc : 0 ≤ c.ink ∧ c.ink ≤ 8) (hp : c.pic = 0) (hb : plainN c.ch = true) (hcol : p.g.col < p.g.wide) : Adds p (printP p c) 8 ∧ (printP p c).g = withCell (withInk p.g c) c := by
  obtain ⟨a, e⟩ := adds_ink ok c hc
  simp only [plainN, decide_eq_true_eq] at hb
  have hn : (chD c).toNat = c.ch.toNat := by unfold chD; simp; omega
  have s := sends_print (g := withInk p.g c) (chD c) (by omega) (by omega) (by simp only [withInk]; omega)
  have e2 : withCell (inkP p c).g c = withCell (withInk p.g c) c := by rw [e]
  refine ⟨a.trans (b := 1) ⟨[chD c], rfl, by simp, ?_⟩, e2⟩
  show Sends (inkP p c).g [chD c] (withCell (inkP p c).g c)
  rw [e]
  have : (⟨((chD c).toNat : Int), (withInk p.g c).ink, 0, (withInk p.g c).bold⟩ : Cel) = c := by
    rw [hn, Int.toNat_of_nonneg (by omega), ← hp]
    rfl
  rw [this] at s
  exact s

end Go.Proofs.YtpichplhidiokacGreatDoor

/- Colours: the picture that a pen writes lays just the colours that a row lacks from the cursor on. -/
namespace Go.Proofs.YtpichplhidiokacGreatDoor

theorem good_pic {c : Cel} (h : goodC c = true) (hp : 0 < c.pic) : c = ⟨0, 0, c.pic, false⟩ ∧ c.pic ≤ 8 := by
  unfold goodC at h
  simp only [Bool.or_eq_true, Bool.and_eq_true, decide_eq_true_eq, celB_iff] at h
  rcases h with (h | h) | h
  · rw [h] at hp
    exact absurd hp (by decide)
  · exact ⟨h.1, h.2.2⟩
  · omega
theorem good_letter {c : Cel} (h : goodC c = true) (hp : ¬ 0 < c.pic) (hn : celB c noCel = false) : c.pic = 0 ∧ plainN c.ch = true ∧ 0 ≤ c.ink ∧ c.ink ≤ 8 := by
  unfold goodC at h
  rw [hn] at h
  simp only [Bool.false_or, Bool.or_eq_true, Bool.and_eq_true, decide_eq_true_eq, inkN] at h
  rcases h with h | h
  · omega
  · exact ⟨h.1.1, h.1.2, h.2.1, h.2.2⟩

theorem paysD_succ (f want : Nat → Cel) (b c n : Nat) : paysD f want b c (n + 1) = paysD f want b c n ++ [payD f want b (c + n)] := by
  unfold paysD
  rw [List.range_succ, List.map_append]
  rfl
theorem paysD_length (f want : Nat → Cel) (b c n : Nat) : (paysD f want b c n).length = n := by simp [paysD]

theorem payD_lack {f want : Nat → Cel} {b j : Nat} (hg : goodC (want j) = true) (h : lackB (f (b + j)) (want j) = true) : (payD f want b j).toNat = 96 + (want j).pic.toNat ∧ 1 ≤ (want j).pic ∧ (want j).pic ≤ 8 ∧ want j = ⟨0, 0, (want j).pic, false⟩ := by
  unfold payD
  rw [if_pos h]
  simp only [lackB, Bool.and_eq_true, decide_eq_true_eq] at h
  obtain ⟨e, k⟩ := good_pic hg h.1
  refine ⟨?_, by omega, k, e⟩
  have h1 := h.1
  generalize (want j).pic = q at k h1
  simp
  omega
theorem payD_have {f want : Nat → Cel} {b j : Nat} (h : lackB (f (b + j)) (want j) = false) : payD f want b j = 32 := by
  unfold payD
  rw [if_neg (by rw [h]; simp)]

theorem colF_zero (f want : Nat → Cel) (b c : Nat) : colF f want b c 0 = f := by
  funext i
  unfold colF
  rw [if_neg (by omega)]
theorem colF_have {f want : Nat → Cel} {b c n : Nat} (h : lackB (f (b + (c + n))) (want (c + n)) = false) : colF f want b c (n + 1) = colF f want b c n := by
  funext i
  unfold colF
  by_cases e : i = b + (c + n)
  · subst e
    have : b + (c + n) - b = c + n := by omega
    rw [this, if_neg (by rw [h]; simp), if_neg (by rw [h]; simp)]
  · by_cases k : b + c ≤ i ∧ i < b + c + n ∧ lackB (f i) (want (i - b)) = true
    · rw [if_pos k, if_pos ⟨k.1, by omega, k.2.2⟩]
    · rw [if_neg k, if_neg (fun q => k ⟨q.1, by omega, q.2.2⟩)]
theorem colF_lack {f want : Nat → Cel} {b c n : Nat} (h : lackB (f (b + (c + n))) (want (c + n)) = true) : colF f want b c (n + 1) = putF (colF f want b c n) (b + (c + n)) (want (c + n)) := by
  funext i
  unfold putF colF
  by_cases e : i = b + (c + n)
  · subst e
    have : b + (c + n) - b = c + n := by omega
    rw [this, if_pos ⟨by omega, by omega, h⟩, if_pos rfl]
  · rw [if_neg e]
    by_cases k : b + c ≤ i ∧ i < b + c + n ∧ lackB (f i) (want (i - b)) = true
    · rw [if_pos k, if_pos ⟨k.1, by omega, k.2.2⟩]
    · rw [if_neg k, if_neg (fun q => k ⟨q.1, by omega, q.2.2⟩)]

theorem pic_fold {g : Gr} (ok : OkG g) (hcol : g.col < g.wide) (want : Nat → Cel) (hw : ∀ j, j < g.wide.toNat → goodC (want j) = true) : ∀ n, n ≤ leftD g →
    (paysD g.f want (rowAt g) g.col.toNat n).foldl (pic1 g) (g.f, g.row, hereC g) = (colF g.f want (rowAt g) g.col.toNat n, g.row, g.col + n) := by
  have hh : hereC g = g.col := by unfold hereC; omega
  have hc1 := ok.c1
  obtain ⟨q1, q2, q3, q4, _⟩ := ok.nums
  intro n
  induction n with
  | zero =>
    intro _
    rw [colF_zero, hh]
    simp [paysD]
  | succ n ih =>
    intro hn
    have hl : leftD g = g.wide.toNat - g.col.toNat := rfl
    rw [paysD_succ, List.foldl_append, ih (by omega)]
    show pic1 g (colF g.f want (rowAt g) g.col.toNat n, g.row, g.col + n) (payD g.f want (rowAt g) (g.col.toNat + n)) = _
    have hcast : g.col + ((n + 1 : Nat) : Int) = g.col + (n : Int) + 1 := by omega
    cases hk : lackB (g.f (rowAt g + (g.col.toNat + n))) (want (g.col.toNat + n))
    · rw [payD_have hk, colF_have hk, hcast]
      rfl
    · obtain ⟨e1, e2, e3, e4⟩ := payD_lack (hw _ (by omega)) hk
      rw [colF_lack hk, hcast]
      unfold pic1
      rw [if_neg (fun e => by rw [e] at e1; have : (45 : UInt8).toNat = 45 := rfl; omega)]
      simp only
      have ha : ((payD g.f want (rowAt g) (g.col.toNat + n)).toNat : Int) - 96 = (want (g.col.toNat + n)).pic := by omega
      have hb : (g.row * g.wide + (g.col + (n : Int))).toNat = rowAt g + (g.col.toNat + n) := by unfold rowAt; omega
      rw [if_pos ⟨by omega, by omega, ok.r2, by omega⟩, ha, hb, ← e4]

theorem pic_spaces (g : Gr) (s : (Nat → Cel) × Int × Int) (m : Nat) : ((List.replicate m (32 : UInt8)).foldl (pic1 g) s).1 = s.1 := by
  induction m generalizing s with
  | zero => rfl
  | succ m ih =>
    rw [List.replicate_succ, List.foldl_cons, ih]
    rfl

theorem takeWhile_eq_replicate (l : List UInt8) (c : UInt8) : l.takeWhile (· == c) = List.replicate (l.takeWhile (· == c)).length c := by
  rw [List.eq_replicate_iff]
  refine ⟨rfl, fun b hb => ?_⟩
  have := List.all_takeWhile (l := l) (p := (· == c))
  rw [List.all_eq_true] at this
  simpa using this b hb
theorem trim_split (l : List UInt8) (c : UInt8) : ∃ m, l = Lib.trimRightB l c ++ List.replicate m c := by
  refine ⟨(l.reverse.takeWhile (· == c)).length, ?_⟩
  have h := List.takeWhile_append_dropWhile (p := (· == c)) (l := l.reverse)
  have h2 := congrArg List.reverse h
  rw [List.reverse_append, List.reverse_reverse, takeWhile_eq_replicate, List.reverse_replicate] at h2
  unfold Lib.trimRightB
  simpa using h2.symm

theorem pays_plain {f want : Nat → Cel} {b c n : Nat} (hw : ∀ j, j < c + n → goodC (want j) = true) : ∀ x ∈ paysD f want b c n, 32 ≤ x.toNat ∧ x.toNat ≤ 126 := by
  intro x hx
  unfold paysD at hx
  rw [List.mem_map] at hx
  obtain ⟨j, hj, rfl⟩ := hx
  rw [List.mem_range] at hj
  cases hk : lackB (f (b + (c + j))) (want (c + j))
  · rw [payD_have hk]
    decide
  · obtain ⟨e1, e2, e3, _⟩ := payD_lack (hw _ (by omega)) hk
    omega

theorem adds_colour {p : Pen} (ok : OkG p.g) (hcol : p.g.col < p.g.wide) (want : Nat → Cel) (hw : ∀ j, j < p.g.wide.toNat → goodC (want j) = true) : Adds p (colourP p want) 28 := by
  have hc1 := ok.c1
  have hw2 := ok.w2
  have hl : leftD p.g = p.g.wide.toNat - p.g.col.toNat := rfl
  have hf := pic_fold ok hcol want hw (leftD p.g) (Nat.le_refl _)
  have hp : ∀ x ∈ paysD p.g.f want (rowAt p.g) p.g.col.toNat (leftD p.g), 32 ≤ x.toNat ∧ x.toNat ≤ 126 := pays_plain (fun j hj => hw j (by omega))
  have hn := paysD_length p.g.f want (rowAt p.g) p.g.col.toNat (leftD p.g)
  obtain ⟨m, hm⟩ := trim_split (paysD p.g.f want (rowAt p.g) p.g.col.toNat (leftD p.g)) 32
  have hb : colBytes p.g want = 27 :: 80 :: (Lib.trimRightB (paysD p.g.f want (rowAt p.g) p.g.col.toNat (leftD p.g)) 32 ++ [27, 92]) := rfl
  have hg : colG p.g want = { p.g with f := colF p.g.f want (rowAt p.g) p.g.col.toNat (leftD p.g) } := rfl
  generalize Lib.trimRightB (paysD p.g.f want (rowAt p.g) p.g.col.toNat (leftD p.g)) 32 = t at hm hb
  generalize paysD p.g.f want (rowAt p.g) p.g.col.toNat (leftD p.g) = l at hm hf hp hn
  have ht : t.length ≤ 24 := by
    have := congrArg List.length hm
    rw [List.length_append, hn] at this
    omega
  refine ⟨colBytes p.g want, rfl, by rw [hb]; simp; omega, ?_⟩
  show Sends p.g (colBytes p.g want) (colG p.g want)
  rw [hb, hg]
  refine sends_one (Ps.word_pic t (fun c hc => hp c (by rw [hm]; simp [hc])) (by omega)) rfl ?_
  show { p.g with f := (picS p.g t).1 } = _
  have : (picS p.g t).1 = (l.foldl (pic1 p.g) (p.g.f, p.g.row, hereC p.g)).1 := by
    rw [hm, List.foldl_append, pic_spaces]
    rfl
  rw [this, hf]

end Go.Proofs.YtpichplhidiokacGreatDoor

/- A row, and all of them: what the pen makes of a screen, and by how many bytes. -/
namespace Go.Proofs.YtpichplhidiokacGreatDoor

theorem row_nat (r : Nat) (w : Int) (h : 0 ≤ w) : ((r : Int) * w).toNat = r * w.toNat := by
  obtain ⟨n, rfl⟩ := Int.eq_ofNat_of_zero_le h
  rw [← Int.natCast_mul]
  rfl

/-! What is to be empty. -/
theorem sur_spec (h want : Nat → Cel) (n : Nat) : ∀ k, ((surD h want n k).2 = -1 ∧ (surD h want n k).1 = n ∧ ∀ j, j < k → surB (h j) (want j) = false) ∨
    (∃ A L : Nat, (surD h want n k).1 = A ∧ (surD h want n k).2 = L ∧ A ≤ L ∧ L < k ∧ ∀ j, j < k → surB (h j) (want j) = true → A ≤ j ∧ j ≤ L)
  | 0 => .inl ⟨rfl, rfl, fun j hj => by omega⟩
  | k + 1 => by
    have ih := sur_spec h want n k
    unfold surD
    cases hs : surB (h k) (want k)
    · rw [if_neg (by simp)]
      rcases ih with ⟨a, b, c⟩ | ⟨A, L, a, b, c, d, e⟩
      · refine .inl ⟨a, b, fun j hj => ?_⟩
        by_cases q : j = k
        · rw [q]; exact hs
        · exact c j (by omega)
      · refine .inr ⟨A, L, a, b, c, by omega, fun j hj hb => ?_⟩
        by_cases q : j = k
        · rw [q, hs] at hb; simp at hb
        · exact e j (by omega) hb
    · rw [if_pos rfl]
      rcases ih with ⟨a, b, c⟩ | ⟨A, L, a, b, c, d, e⟩
      · refine .inr ⟨min n k, k, ?_, rfl, by omega, by omega, fun j hj hb => ?_⟩
        · show min (surD h want n k).1 (k : Int) = _
          rw [b]
          omega
        · by_cases q : j = k
          · omega
          · rw [c j (by omega)] at hb; simp at hb
      · refine .inr ⟨A, k, ?_, rfl, by omega, by omega, fun j hj hb => ?_⟩
        · show min (surD h want n k).1 (k : Int) = _
          rw [a]
          omega
        · by_cases q : j = k
          · omega
          · have := e j (by omega) hb
            omega

theorem ok_clearG {g : Gr} (ok : OkG g) (a b : Nat) : OkG (clearG g a b) :=
  ⟨ok.w1, ok.w2, ok.h1, ok.h2, ok.size, goodC_clr (n := g.n) ok.cells, ok.r1, ok.r2, ok.c1, ok.c2, ok.i1, ok.i2, ok.t1, ok.t2, ok.t3⟩

theorem sends_eraseRight {g : Gr} (hw : 0 ≤ g.wide) (r : Nat) (c : Nat) (hr : g.row = r) (hc : g.col = c) (hcw : g.col < g.wide) : Sends g [27, 91, 75] (clearG g (r * g.wide.toNat + c) (r * g.wide.toNat + g.wide.toNat)) := by
  refine sends_one (Ps.word_csi0 75 (by decide) (by decide)) rfl ?_
  show csiG g 75 [0] = _
  rw [csi75]
  have e : eraseF g.f (g.row * g.wide).toNat g.wide.toNat (hereC g).toNat (numP [0] 0) = clrF g.f ((g.row * g.wide).toNat + (hereC g).toNat) ((g.row * g.wide).toNat + g.wide.toNat) := rfl
  have h1 : (hereC g).toNat = c := by unfold hereC; omega
  rw [e, hr, row_nat r g.wide hw, h1]
  unfold clearG
  rw [hr]
theorem sends_eraseLeft {g : Gr} (hw : 0 ≤ g.wide) (r : Nat) (c : Nat) (hr : g.row = r) (hc : g.col = c) (hcw : g.col < g.wide) : Sends g [27, 91, 49, 75] (clearG g (r * g.wide.toNat) (r * g.wide.toNat + (c + 1))) := by
  refine sends_one (Ps.word_csi [1] 75 (by simp) (by simp) (by simp) (by decide) (by decide)) rfl ?_
  show csiG g 75 [1] = _
  rw [csi75]
  have e : eraseF g.f (g.row * g.wide).toNat g.wide.toNat (hereC g).toNat (numP [1] 0) = clrF g.f (g.row * g.wide).toNat ((g.row * g.wide).toNat + (hereC g).toNat + 1) := rfl
  have h1 : (hereC g).toNat = c := by unfold hereC; omega
  rw [e, hr, row_nat r g.wide hw, h1, Nat.add_assoc]
  unfold clearG
  rw [hr]

theorem sur_no {h c : Cel} (hs : surB h c = false) (hc : celB c noCel = true) : h = noCel := by
  simp only [surB, hc, Bool.true_and, Bool.not_eq_false'] at hs
  rw [celB_iff] at hs hc
  rw [hs, hc]

/-- Behind the erasure. -/
structure Erased (p q : Pen) (r : Nat) (want : Nat → Cel) : Prop where
  adds : Adds p q 12
  still : q = p ∨ q.g.row = r
  empty : ∀ j, j < p.g.wide.toNat → celB (want j) noCel = true → q.g.f (r * p.g.wide.toNat + j) = noCel
  other : ∀ i, i < r * p.g.wide.toNat ∨ r * p.g.wide.toNat + p.g.wide.toNat ≤ i → q.g.f i = p.g.f i

theorem erased {p : Pen} (ok : OkG p.g) (r : Nat) (hr : (r : Int) < p.g.high) (want : Nat → Cel) : Erased p (eraseP p r want) r want := by
  have w1 := ok.w1
  unfold eraseP eraseAtP
  rcases sur_spec (shF p.g.f (r * p.g.wide.toNat)) want p.g.wide.toNat p.g.wide.toNat with ⟨a, b, c⟩ | ⟨A, L, a, b, c, d, e⟩
  · rw [a, if_pos (by omega)]
    exact ⟨(Adds.refl p).mono (by omega), .inl rfl, fun j hj hc => sur_no (c j hj) hc, fun _ _ => rfl⟩
  · rw [a, b, if_neg (by omega)]
    have hA : ((A : Int)).toNat = A := by omega
    have hL : ((L : Int)).toNat = L := by omega
    have hL1 : ((L : Int) + 1).toNat = L + 1 := by omega
    rw [hA, hL1]
    split
    · have k := adds_move (p := p) ok r A (by omega) hr (by omega) (by omega)
      have s := sends_eraseRight (g := (moveP p r A).g) (by show 0 ≤ p.g.wide; omega) r A rfl rfl (by show (A : Int) < p.g.wide; omega)
      refine ⟨(k.trans (b := 3) ⟨[27, 91, 75], rfl, by simp, s⟩).mono (by omega), .inr rfl, fun j hj hc => ?_, fun i hi => ?_⟩
      · show clrF p.g.f (r * p.g.wide.toNat + A) (r * p.g.wide.toNat + p.g.wide.toNat) (r * p.g.wide.toNat + j) = noCel
        unfold clrF
        split
        · rfl
        · cases hs : surB (shF p.g.f (r * p.g.wide.toNat) j) (want j)
          · exact sur_no hs hc
          · have := e j hj hs
            omega
      · show clrF p.g.f (r * p.g.wide.toNat + A) (r * p.g.wide.toNat + p.g.wide.toNat) i = p.g.f i
        unfold clrF
        rw [if_neg (by omega)]
    · have k := adds_move (p := p) ok r L (by omega) hr (by omega) (by omega)
      have s := sends_eraseLeft (g := (moveP p r L).g) (by show 0 ≤ p.g.wide; omega) r L rfl rfl (by show (L : Int) < p.g.wide; omega)
      refine ⟨(k.trans (b := 4) ⟨[27, 91, 49, 75], rfl, by simp, s⟩).mono (by omega), .inr rfl, fun j hj hc => ?_, fun i hi => ?_⟩
      · show clrF p.g.f (r * p.g.wide.toNat) (r * p.g.wide.toNat + (L + 1)) (r * p.g.wide.toNat + j) = noCel
        unfold clrF
        split
        · rfl
        · cases hs : surB (shF p.g.f (r * p.g.wide.toNat) j) (want j)
          · exact sur_no hs hc
          · have := e j hj hs
            omega
      · show clrF p.g.f (r * p.g.wide.toNat) (r * p.g.wide.toNat + (L + 1)) i = p.g.f i
        unfold clrF
        rw [if_neg (by omega)]

/-! The cells of a row. -/
/-- Is the cursor in this row, at this column? -/
@[reducible] def atB (g : Gr) (r k : Nat) : Bool := decide (g.row = r ∧ g.col = k)
/-- Behind k columns; 'pic': a picture was written. -/
structure RowInv (p q : Pen) (r : Nat) (want : Nat → Cel) (k : Nat) (pic : Bool) : Prop where
  adds : Adds p q (12 + 8 * k + (if atB q.g r k then 8 else 0) + if pic then 36 else 0)
  done : ∀ j, j < k → q.g.f (r * p.g.wide.toNat + j) = want j
  empty : ∀ j, j < p.g.wide.toNat → celB (want j) noCel = true → q.g.f (r * p.g.wide.toNat + j) = noCel
  other : ∀ i, i < r * p.g.wide.toNat ∨ r * p.g.wide.toNat + p.g.wide.toNat ≤ i → q.g.f i = p.g.f i
  pics : pic = true → ∀ j, k ≤ j → j < p.g.wide.toNat → 0 < (want j).pic → q.g.f (r * p.g.wide.toNat + j) = want j

theorem move_f (p : Pen) (r c : Int) : (moveP p r c).g.f = p.g.f := rfl

theorem row_step {p q : Pen} (ok : OkG p.g) (r : Nat) (hr : (r : Int) < p.g.high) (want : Nat → Cel) (hw : ∀ j, j < p.g.wide.toNat → goodC (want j) = true) (k : Nat) (hk : k < p.g.wide.toNat) (pic : Bool)
    (h : RowInv p q r want k pic) : ∃ pic', RowInv p (cellP q r want k) r want (k + 1) pic' := by
  obtain ⟨okq, e1, e2, e3⟩ := h.adds.ok ok
  have w1 := ok.w1
  unfold cellP
  rw [e1]
  by_cases hc : celB (q.g.f (r * p.g.wide.toNat + k)) (want k) = true
  · rw [if_pos hc]
    rw [celB_iff] at hc
    refine ⟨pic, ⟨h.adds.mono (by split <;> split <;> omega), fun j hj => ?_, h.empty, h.other, fun hp j hj => h.pics hp j (by omega)⟩⟩
    by_cases e : j = k
    · rw [e]; exact hc
    · exact h.done j (by omega)
  · rw [if_neg hc]
    have hne : q.g.f (r * p.g.wide.toNat + k) ≠ want k := fun e => hc ((celB_iff _ _).2 e)
    have okm : OkG (moveP q r k).g := ok_toG okq r k (by omega) (by omega) (by omega) (by omega)
    have hmw : (moveP q r k).g.wide = p.g.wide := e1
    have hmove : ∀ (x : Pen) (m : Nat), Adds (moveP q r k) x m → ∀ b, 12 + 8 * k + (8 + m) + (if pic then 36 else 0) ≤ b → Adds p x b := by
      intro x m hx b h1
      by_cases hs : q.g.row = r ∧ q.g.col = k
      · have a := adds_move0 (p := q) okq r k (by omega) (by omega) (by omega) (by omega) hs.1 hs.2
        have z := h.adds
        rw [if_pos (decide_eq_true hs)] at z
        exact ((z.trans a).trans hx).mono (by omega)
      · have a := adds_move (p := q) okq r k (by omega) (by omega) (by omega) (by omega)
        have z := h.adds
        rw [if_neg (by rw [decide_eq_true_eq]; exact hs)] at z
        exact ((z.trans a).trans hx).mono (by omega)
    by_cases hp : 0 < (want k).pic
    · rw [if_pos hp]
      have hpf : pic = false := by
        cases hq : pic
        · rfl
        · exact absurd (h.pics hq k (Nat.le_refl _) hk hp) hne
      subst hpf
      have hb : rowAt (moveP q r k).g = r * p.g.wide.toNat := by
        show ((r : Int) * q.g.wide).toNat = _
        rw [e1, row_nat r p.g.wide (by omega)]
      have hcol : (moveP q r k).g.col.toNat = k := by show ((k : Int)).toNat = k; omega
      have hl : leftD (moveP q r k).g = p.g.wide.toNat - k := by
        show q.g.wide.toNat - ((k : Int)).toNat = _
        rw [e1]
        omega
      have a := adds_colour (p := moveP q r k) okm (by show (k : Int) < q.g.wide; omega) want (by rw [hmw]; exact hw)
      have hf : (colourP (moveP q r k) want).g.f = colF q.g.f want (r * p.g.wide.toNat) k (p.g.wide.toNat - k) := by
        show colF q.g.f want (rowAt (moveP q r k).g) (moveP q r k).g.col.toNat (leftD (moveP q r k).g) = _
        rw [hb, hcol, hl]
      have key : ∀ j, j < p.g.wide.toNat → (colourP (moveP q r k) want).g.f (r * p.g.wide.toNat + j) = if k ≤ j ∧ lackB (q.g.f (r * p.g.wide.toNat + j)) (want j) = true then want j else q.g.f (r * p.g.wide.toNat + j) := fun j hj => by
        rw [hf]
        unfold colF
        have : r * p.g.wide.toNat + j - r * p.g.wide.toNat = j := by omega
        rw [this]
        by_cases z : k ≤ j ∧ lackB (q.g.f (r * p.g.wide.toNat + j)) (want j) = true
        · rw [if_pos z, if_pos ⟨by omega, by omega, z.2⟩]
        · rw [if_neg z, if_neg (fun y => z ⟨by omega, y.2.2⟩)]
      have pk : ∀ j, k ≤ j → j < p.g.wide.toNat → 0 < (want j).pic → (colourP (moveP q r k) want).g.f (r * p.g.wide.toNat + j) = want j := fun j hj hj2 hj3 => by
        rw [key j hj2]
        by_cases z : lackB (q.g.f (r * p.g.wide.toNat + j)) (want j) = true
        · rw [if_pos ⟨hj, z⟩]
        · rw [if_neg (fun y => z y.2)]
          simp only [lackB, Bool.and_eq_true, decide_eq_true_eq, Bool.not_eq_true', not_and, Bool.not_eq_false] at z
          exact (celB_iff _ _).1 (z hj3)
      refine ⟨true, ⟨hmove _ 28 a _ (by simp; omega), fun j hj => ?_, fun j hj hc => ?_, fun i hi => ?_, fun _ j hj => pk j (by omega)⟩⟩
      · by_cases e : j = k
        · rw [e]; exact pk k (Nat.le_refl _) hk hp
        · rw [key j (by omega), if_neg (by omega)]
          exact h.done j (by omega)
      · rw [key j hj, if_neg]
        · exact h.empty j hj hc
        · intro y
          rw [celB_iff] at hc
          have := y.2
          rw [hc] at this
          simp [lackB, noCel] at this
      · rw [hf]
        unfold colF
        rw [if_neg (by omega)]
        exact h.other i hi
    · rw [if_neg hp]
      have hn : celB (want k) noCel = false := by
        cases z : celB (want k) noCel
        · rfl
        · have := h.empty k hk z
          rw [celB_iff] at z
          exact absurd (this.trans z.symm) hne
      obtain ⟨l1, l2, l3⟩ := good_letter (hw k hk) hp hn
      obtain ⟨a, e⟩ := adds_print (p := moveP q r k) okm (want k) l3 l1 l2 (by show (k : Int) < q.g.wide; omega)
      have hidx : ((r : Int) * q.g.wide + (k : Int)).toNat = r * p.g.wide.toNat + k := by
        have := row_nat r p.g.wide (by omega)
        have h0 : 0 ≤ (r : Int) * p.g.wide := Int.mul_nonneg (by omega) (by omega)
        rw [e1]
        omega
      have hf : (printP (moveP q r k) (want k)).g.f = putF q.g.f (r * p.g.wide.toNat + k) (want k) := by
        rw [e]
        show putF q.g.f ((r : Int) * q.g.wide + (k : Int)).toNat (want k) = _
        rw [hidx]
      have hat : atB (printP (moveP q r k) (want k)).g r (k + 1) = true := by
        rw [e]
        exact decide_eq_true ⟨rfl, by show (k : Int) + 1 = ((k + 1 : Nat) : Int); omega⟩
      refine ⟨pic, ⟨hmove _ 8 a _ (by rw [if_pos hat]; omega), fun j hj => ?_, fun j hj hc => ?_, fun i hi => ?_, fun hpp j hj hj2 hj3 => ?_⟩⟩
      · rw [hf]
        unfold putF
        by_cases z : j = k
        · rw [if_pos (by omega), z]
        · rw [if_neg (by omega)]
          exact h.done j (by omega)
      · rw [hf]
        unfold putF
        rw [if_neg]
        · exact h.empty j hj hc
        · intro z
          have : j = k := by omega
          rw [this, hn] at hc
          simp at hc
      · rw [hf]
        unfold putF
        rw [if_neg (by omega)]
        exact h.other i hi
      · rw [hf]
        unfold putF
        rw [if_neg (by omega)]
        exact h.pics hpp j (by omega) hj2 hj3

theorem row_cells {p : Pen} (ok : OkG p.g) (r : Nat) (hr : (r : Int) < p.g.high) (want : Nat → Cel) (hw : ∀ j, j < p.g.wide.toNat → goodC (want j) = true) : ∀ k, k ≤ p.g.wide.toNat → ∃ pic, RowInv p (cellsP (eraseP p r want) r want k) r want k pic
  | 0, _ => by
    have h := erased ok r hr want
    exact ⟨false, ⟨h.adds.mono (by omega), fun j hj => by omega, h.empty, h.other, fun e => by simp at e⟩⟩
  | k + 1, hk => by
    obtain ⟨pic, h⟩ := row_cells ok r hr want hw k (by omega)
    exact row_step ok r hr want hw k (by omega) pic h

/-- Behind a row. -/
structure RowEnd (p q : Pen) (r : Nat) (want : Nat → Cel) : Prop where
  adds : Adds p q 248
  done : ∀ j, j < p.g.wide.toNat → q.g.f (r * p.g.wide.toNat + j) = want j
  other : ∀ i, i < r * p.g.wide.toNat ∨ r * p.g.wide.toNat + p.g.wide.toNat ≤ i → q.g.f i = p.g.f i

theorem row_end {p : Pen} (ok : OkG p.g) (r : Nat) (hr : (r : Int) < p.g.high) (want : Nat → Cel) (hw : ∀ j, j < p.g.wide.toNat → goodC (want j) = true) : RowEnd p (rowP p r want) r want := by
  obtain ⟨pic, h⟩ := row_cells ok r hr want hw p.g.wide.toNat (Nat.le_refl _)
  have := ok.w2
  exact ⟨h.adds.mono (by split <;> split <;> omega), h.done, h.other⟩

theorem rows_end {p : Pen} (ok : OkG p.g) (t : Gr) (okt : OkG t) (hw : t.wide = p.g.wide) (hh : t.high = p.g.high) : ∀ k : Nat, (k : Int) ≤ p.g.high → Adds p (rowsP p t k) (248 * k) ∧ ∀ i, i < k * p.g.wide.toNat → (rowsP p t k).g.f i = t.f i
  | 0, _ => ⟨Adds.refl p, fun i hi => by omega⟩
  | k + 1, hk => by
    obtain ⟨a, b⟩ := rows_end ok t okt hw hh k (by omega)
    obtain ⟨okq, e1, e2, e3⟩ := a.ok ok
    have w1 := ok.w1
    have hcell : ∀ j, j < (rowsP p t k).g.wide.toNat → goodC (shF t.f (k * t.wide.toNat) j) = true := fun j hj => by
      unfold shF
      refine okt.cells _ ?_
      have h1 : (k + 1) * t.wide.toNat ≤ t.high.toNat * t.wide.toNat := Nat.mul_le_mul_right _ (by omega)
      have h2 : t.n = t.wide.toNat * t.high.toNat := by
        have := okt.size
        have h3 := okt.w1
        have h4 := okt.h1
        obtain ⟨w, hw'⟩ := Int.eq_ofNat_of_zero_le (a := t.wide) (by omega)
        obtain ⟨h, hh'⟩ := Int.eq_ofNat_of_zero_le (a := t.high) (by omega)
        rw [hw', hh'] at this ⊢
        have q : (t.n : Int) = ((w * h : Nat) : Int) := by rw [this]; simp
        exact Int.ofNat.inj q
      rw [h2, Nat.mul_comm t.wide.toNat]
      rw [e1] at hj
      rw [Nat.succ_mul] at h1
      rw [hw] at h1 ⊢
      omega
    have c := row_end (p := rowsP p t k) okq k (by omega) (shF t.f (k * t.wide.toNat)) hcell
    refine ⟨(a.trans c.adds).mono (by omega), fun i hi => ?_⟩
    rw [Nat.succ_mul] at hi
    by_cases z : i < k * p.g.wide.toNat
    · have := c.other i (.inl (by rw [e1]; exact z))
      exact this.trans (b i z)
    · have := c.done (i - k * p.g.wide.toNat) (by rw [e1]; omega)
      rw [e1] at this
      have e : k * p.g.wide.toNat + (i - k * p.g.wide.toNat) = i := by omega
      rw [e] at this
      refine this.trans ?_
      unfold shF
      rw [hw, e]

/-- Behind all: the screen is shown. -/
structure Shown (p q : Pen) (t : Gr) : Prop where
  adds : Adds p q 2488
  cells : ∀ i, i < t.n → q.g.f i = t.f i
  row : q.g.row = t.row
  col : q.g.col = t.col

theorem size_nat {g : Gr} (ok : OkG g) : g.n = g.high.toNat * g.wide.toNat := by
  have h := ok.nums.1
  have h3 := ok.w1
  have h4 := ok.h1
  obtain ⟨w, hw'⟩ := Int.eq_ofNat_of_zero_le (a := g.wide) (by omega)
  obtain ⟨h', hh'⟩ := Int.eq_ofNat_of_zero_le (a := g.high) (by omega)
  rw [hw', hh'] at h ⊢
  have q : (g.n : Int) = ((h' * w : Nat) : Int) := by rw [h]; simp
  exact Int.ofNat.inj q

theorem shown {p : Pen} (ok : OkG p.g) (t : Gr) (okt : OkG t) (hw : t.wide = p.g.wide) (hh : t.high = p.g.high) (hc : t.col < t.wide) : Shown p (showP p t) t := by
  have h1 := okt.h1
  have h2 := okt.h2
  have r1 := okt.r1
  have r2 := okt.r2
  have c1 := okt.c1
  obtain ⟨a, b⟩ := rows_end ok t okt hw hh t.high.toNat (by omega)
  obtain ⟨okq, e1, e2, e3⟩ := a.ok ok
  have m := adds_move (p := rowsP p t t.high.toNat) okq t.row t.col r1 (by omega) c1 (by omega)
  refine ⟨(a.trans m).mono (by omega), fun i hi => ?_, rfl, rfl⟩
  show (rowsP p t t.high.toNat).g.f i = t.f i
  refine b i ?_
  rw [size_nat okt, hw] at hi
  exact hi

end Go.Proofs.YtpichplhidiokacGreatDoor

/- Turn and Anew of the plain machine: the bytes make of the one screen the other; a screen that is shown needs none. -/
namespace Go.Proofs.YtpichplhidiokacGreatDoor

theorem turnB_iff (x t : Gr) : turnB x t = true ↔ OkG x ∧ OkG t ∧ t.col < t.wide ∧ x.wide = t.wide ∧ x.high = t.high := by
  unfold turnB showsB
  simp only [Bool.and_eq_true, decide_eq_true_eq, goodG_iff]
  constructor
  · rintro ⟨⟨⟨a, b, c⟩, d⟩, e⟩; exact ⟨a, b, c, d, e⟩
  · rintro ⟨a, b, c, d, e⟩; exact ⟨⟨⟨a, b, c⟩, d⟩, e⟩

/-- What the bytes are to do. -/
structure Draws (x t : Gr) (p : Pen) : Prop where
  sends : Sends x p.out p.g
  short : p.out.length ≤ 2490
  cells : ∀ i, i < t.n → p.g.f i = t.f i
  row : p.g.row = t.row
  col : p.g.col = t.col
  ok : OkG p.g
  wide : p.g.wide = t.wide
  high : p.g.high = t.high
  n : p.g.n = t.n

theorem turn_draws {x t : Gr} (okx : OkG x) (okt : OkG t) (hc : t.col < t.wide) (hw : x.wide = t.wide) (hh : x.high = t.high) : Draws x t (turnP x t) := by
  have s := shown (p := ⟨[], x⟩) okx t okt hw.symm hh.symm hc
  obtain ⟨m, m1, m2, m3⟩ := s.adds.more
  obtain ⟨ok, e1, e2, e3⟩ := s.adds.ok (p := ⟨[], x⟩) okx
  have hm : (turnP x t).out = m := m1
  refine ⟨?_, by rw [hm]; omega, s.cells, s.row, s.col, ok, e1.trans hw, e2.trans hh, e3.trans ?_⟩
  · rw [hm]; exact m3
  · show x.n = t.n
    rw [size_nat okx, size_nat okt, hw, hh]

theorem anew_draws {x t : Gr} (okt : OkG t) (hc : t.col < t.wide) (hw : x.wide = t.wide) (hh : x.high = t.high) : Draws x t (anewP t) := by
  obtain ⟨n1, n2, n3⟩ := new_sides okt
  have okn := ok_new t.wide t.high
  have s := shown (p := ⟨[27, 99], newG t.wide t.high⟩) okn t okt n1.symm n2.symm hc
  obtain ⟨m, m1, m2, m3⟩ := s.adds.more
  obtain ⟨ok, e1, e2, e3⟩ := s.adds.ok (p := ⟨[27, 99], newG t.wide t.high⟩) okn
  have hm : (anewP t).out = [27, 99] ++ m := m1
  refine ⟨?_, by rw [hm]; simp; omega, s.cells, s.row, s.col, ok, e1.trans n1, e2.trans n2, e3.trans n3⟩
  rw [hm]
  have r := sends_reset x
  rw [hw, hh] at r
  exact r.append m3

theorem celB_self (c : Cel) : celB c c = true := (celB_iff c c).2 rfl
theorem sur_same (h : Nat → Cel) (n : Nat) : ∀ k, surD h h n k = ((n : Int), -1)
  | 0 => rfl
  | k + 1 => by
    unfold surD
    rw [if_neg (by simp [surB, celB_self])]
    exact sur_same h n k
theorem erase_same (p : Pen) (r : Nat) : eraseP p r (shF p.g.f (r * p.g.wide.toNat)) = p := by
  unfold eraseP eraseAtP
  rw [sur_same, if_pos (by show (-1 : Int) < 0; decide)]
theorem cells_same (p : Pen) (r : Nat) : ∀ k, cellsP p r (shF p.g.f (r * p.g.wide.toNat)) k = p
  | 0 => rfl
  | k + 1 => by
    unfold cellsP
    rw [cells_same p r k]
    unfold cellP
    exact if_pos (celB_self _)
theorem rows_same (p : Pen) : ∀ k, rowsP p p.g k = p
  | 0 => rfl
  | k + 1 => by
    unfold rowsP
    rw [rows_same p k]
    unfold rowP
    rw [erase_same, cells_same]
/-- To turn a screen into itself no bytes are needed. -/
theorem turn_same {g : Gr} (ok : OkG g) (hc : g.col < g.wide) : turnP g g = ⟨[], g⟩ := by
  unfold turnP showP
  rw [rows_same ⟨[], g⟩]
  have := (len_moveD ok g.row g.col ok.r1 ok.r2 ok.c1 hc).2 rfl rfl
  unfold moveP
  rw [this]
  rfl

end Go.Proofs.YtpichplhidiokacGreatDoor
