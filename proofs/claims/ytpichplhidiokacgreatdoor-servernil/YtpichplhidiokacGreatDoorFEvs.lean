/- Several texts in one, each as it was: FEv, GDraw, FDraw. -/
import Derived.Test.YtpichplhidiokacGreatDoorFPures
import Derived.Test.YtpichplhidiokacGreatDoorGMach

/- An event that is told, as one that a screen does. -/
namespace Go.Proofs.YtpichplhidiokacGreatDoor

def toE (e : Ps.Ev) : Evt := ⟨e.kind, e.b, e.ps, e.pl⟩

end Go.Proofs.YtpichplhidiokacGreatDoor

/- Events that draw: of the plain machine: what one behind the other does; the cursor is put somewhere; an ink is taken; a byte is printed, a colour laid, a row or all erased. -/
namespace Go.Proofs.YtpichplhidiokacGreatDoor

/-- The events are all done, and make this screen. -/
def Did (g : Gr) (es : List Evt) (x : Gr) : Prop := allG g es = (x, 0)

theorem did_nil (g : Gr) : Did g [] g := rfl
theorem Did.append {g x y : Gr} {es fs : List Evt} (h : Did g es x) (k : Did x fs y) : Did g (es ++ fs) y := by
  induction es generalizing g with
  | nil =>
    have e : g = x := (Prod.mk.inj h).1
    rw [e]
    exact k
  | cons e r ih =>
    unfold Did at h ⊢
    rw [List.cons_append]
    unfold allG at h ⊢
    by_cases hc : checkE e = 0
    · rw [if_pos hc] at h ⊢
      exact ih h
    · rw [if_neg hc] at h
      exact absurd (Prod.mk.inj h).2 hc
theorem did_one (g : Gr) (e : Evt) (h : checkE e = 0) : Did g [e] (doneG g e) := by
  unfold Did allG
  rw [if_pos h]
  rfl
theorem did_ok {g x : Gr} {es : List Evt} (h : Did g es x) (ok : OkG g) : OkG x ∧ x.wide = g.wide ∧ x.high = g.high ∧ x.n = g.n := by
  induction es generalizing g with
  | nil =>
    have e : g = x := (Prod.mk.inj h).1
    rw [← e]
    exact ⟨ok, rfl, rfl, rfl⟩
  | cons e r ih =>
    unfold Did allG at h
    by_cases hc : checkE e = 0
    · rw [if_pos hc] at h
      obtain ⟨o1, e1, e2, e3⟩ := ok_done ok e hc
      obtain ⟨o2, f1, f2, f3⟩ := ih h o1
      exact ⟨o2, f1.trans e1, f2.trans e2, f3.trans e3⟩
    · rw [if_neg hc] at h
      exact absurd (Prod.mk.inj h).2 hc

@[reducible] def evCsi (b : Int) (ps : List Int) : Evt := ⟨3, b, ps, ⟨#[]⟩⟩
theorem check_csi (b : Int) (ps : List Int) : checkE (evCsi b ps) = 0 := rfl

/-- The cursor is put at a place. -/
theorem did_move {g : Gr} (ok : OkG g) (r c : Int) (h1 : 0 ≤ r) (h2 : r < g.high) (h3 : 0 ≤ c) (h4 : c < g.wide) : Did g [evCsi 72 [r + 1, c + 1]] { g with row := r, col := c } := by
  have hw := ok.w2
  have hh := ok.h2
  have e : doneG g (evCsi 72 [r + 1, c + 1]) = { g with row := r, col := c } := by
    show csiG g 72 [r + 1, c + 1] = _
    rw [csi72]
    have e1 : min (csiN [r + 1, c + 1]) g.high - 1 = r := by
      have : numP [r + 1, c + 1] 0 = r + 1 := by simp [numP]; omega
      unfold csiN
      rw [this]
      omega
    have e2 : max 1 (min (numP [r + 1, c + 1] 1) g.wide) - 1 = c := by
      have : numP [r + 1, c + 1] 1 = c + 1 := by simp [numP]; omega
      rw [this]
      omega
    rw [e1, e2]
  rw [← e]
  exact did_one g _ (check_csi _ _)

/-- The numbers that take an ink. -/
def inkNums (i : Int) (o : Bool) : List Int := 0 :: ((if o then [1] else []) ++ (if i = 0 then [] else [29 + i]))
theorem did_ink (g : Gr) (i : Int) (o : Bool) (h1 : 0 ≤ i) (h2 : i ≤ 8) : Did g [evCsi 109 (inkNums i o)] { g with ink := i, bold := o } := by
  have e : doneG g (evCsi 109 (inkNums i o)) = { g with ink := i, bold := o } := by
    show csiG g 109 (inkNums i o) = _
    rw [csi109]
    unfold inkG inkNums
    have z : ∀ x : Gr, ink1 x 0 = { x with ink := 0, bold := false } := fun x => rfl
    have b : ∀ x : Gr, ink1 x 1 = { x with bold := true } := fun x => rfl
    have k : ∀ x : Gr, i ≠ 0 → ink1 x (29 + i) = { x with ink := i } := fun x hi => by
      unfold ink1
      rw [if_neg (by omega), if_neg (by omega), if_neg (by omega), if_pos (by omega)]
      have : 29 + i - 29 = i := by omega
      rw [this]
    by_cases hi : i = 0
    · subst hi
      cases o <;> rfl
    · cases o
      · simp only [if_neg hi, Bool.false_eq_true, if_false, List.nil_append, List.foldl_cons, List.foldl_nil, z, k _ hi]
      · simp only [if_neg hi, if_true, List.cons_append, List.nil_append, List.foldl_cons, List.foldl_nil, z, b, k _ hi]
  rw [← e]
  exact did_one g _ (check_csi _ _)

/-- A byte is printed, not behind the last column. -/
theorem did_print {g : Gr} (b : Int) (hb : plainN b = true) (hc : g.col ≠ g.wide) : Did g [⟨1, b, [], ⟨#[]⟩⟩] { g with f := putF g.f (g.row * g.wide + g.col).toNat ⟨b, g.ink, 0, g.bold⟩, col := g.col + 1 } := by
  have hk : checkE ⟨1, b, [], ⟨#[]⟩⟩ = 0 := by simp [checkE, hb]
  have e : doneG g ⟨1, b, [], ⟨#[]⟩⟩ = { g with f := putF g.f (g.row * g.wide + g.col).toNat ⟨b, g.ink, 0, g.bold⟩, col := g.col + 1 } := by
    show putG (backG g) b = _
    have : backG g = g := by unfold backG; rw [if_neg hc]
    rw [this]
    rfl
  rw [← e]
  exact did_one g _ hk

/-- One colour is laid where the cursor is, which stays. -/
theorem did_pic {g : Gr} (ok : OkG g) (c : UInt8) (h1 : 97 ≤ c.toNat) (h2 : c.toNat ≤ 104) : Did g [⟨4, 0, [], ⟨#[c]⟩⟩] { g with f := putF g.f (g.row * g.wide + hereC g).toNat ⟨0, 0, (c.toNat : Int) - 96, false⟩ } := by
  have hw := ok.w1
  have hr := ok.r2
  have e : doneG g ⟨4, 0, [], ⟨#[c]⟩⟩ = { g with f := putF g.f (g.row * g.wide + hereC g).toNat ⟨0, 0, (c.toNat : Int) - 96, false⟩ } := by
    show picG g ⟨#[c]⟩ = _
    unfold picG picS
    have hne : c ≠ 45 := by rintro rfl; exact absurd h1 (by decide)
    show { g with f := (pic1 g (g.f, g.row, hereC g) c).1 } = _
    unfold pic1
    rw [if_neg hne]
    simp only
    rw [if_pos ⟨h1, h2, hr, by unfold hereC; omega⟩]
  rw [← e]
  exact did_one g _ rfl

/-- From the cursor to its row's end all is erased. -/
theorem did_rowEnd (g : Gr) : Did g [evCsi 75 [0]] { g with f := clrF g.f ((g.row * g.wide).toNat + (hereC g).toNat) ((g.row * g.wide).toNat + g.wide.toNat) } := did_one g _ rfl
/-- All is erased. -/
theorem did_clear (g : Gr) : Did g [evCsi 74 [2]] { g with f := clrF g.f 0 g.n } := by
  have e : doneG g (evCsi 74 [2]) = { g with f := clrF g.f 0 g.n } := by
    show csiG g 74 [2] = _
    rw [csi74]
    have : eraseF g.f 0 g.n (g.row * g.wide + hereC g).toNat (numP [2] 0) = clrF g.f (0) (0 + g.n) := rfl
    rw [this, Nat.zero_add]
  rw [← e]
  exact did_one g _ rfl
/-- All is as at the beginning. -/
theorem did_reset (g : Gr) : Did g [⟨5, 0, [], ⟨#[]⟩⟩] (newG g.wide g.high) := did_one g _ rfl

end Go.Proofs.YtpichplhidiokacGreatDoor

/- Bytes that draw: Fed from the ground they lead back to it, and what they tell, done on a screen, makes another one. -/
namespace Go.Proofs.YtpichplhidiokacGreatDoor

/-- The bytes make of the one screen the other. -/
def Sends (g : Gr) (l : List UInt8) (x : Gr) : Prop := ∃ es, Ps.Word l es ∧ Did g (es.map toE) x

theorem sends_nil (g : Gr) : Sends g [] g := ⟨[], Ps.word_nil, did_nil g⟩
theorem Sends.append {g x y : Gr} {l m : List UInt8} (h : Sends g l x) (k : Sends x m y) : Sends g (l ++ m) y := by
  obtain ⟨es, h1, h2⟩ := h
  obtain ⟨fs, k1, k2⟩ := k
  exact ⟨es ++ fs, h1.append k1, by rw [List.map_append]; exact h2.append k2⟩
theorem Sends.ok {g x : Gr} {l : List UInt8} (h : Sends g l x) (ok : OkG g) : OkG x ∧ x.wide = g.wide ∧ x.high = g.high ∧ x.n = g.n := by
  obtain ⟨es, _, h2⟩ := h
  exact did_ok h2 ok
/-- What is told of the bytes makes the screen. -/
theorem Sends.all {g x : Gr} {l : List UInt8} (h : Sends g l x) : Ps.feedS Ps.ground l = Ps.ground ∧ allG g ((Ps.feedE Ps.ground l).map toE) = (x, 0) := by
  obtain ⟨es, h1, h2⟩ := h
  exact ⟨h1.back, by rw [h1.told]; exact h2⟩

theorem sends_move {g : Gr} (ok : OkG g) (r c : Nat) (h1 : (r : Int) < g.high) (h2 : (c : Int) < g.wide) : Sends g (27 :: 91 :: (Ps.nums [r + 1, c + 1] ++ [72])) { g with row := r, col := c } := by
  have hw := ok.w2
  have hh := ok.h2
  refine ⟨_, Ps.word_csi [r + 1, c + 1] 72 (by simp) (fun n hn => ?_) (by simp) (by decide) (by decide), ?_⟩
  · simp only [List.mem_cons, List.not_mem_nil, or_false] at hn
    omega
  · have h := did_move ok r c (by omega) h1 (by omega) h2
    exact h
def inkNat (i : Nat) (o : Bool) : List Nat := 0 :: ((if o then [1] else []) ++ (if i = 0 then [] else [29 + i]))
theorem inkNat_cast (i : Nat) (o : Bool) : (inkNat i o).map (fun n : Nat => (n : Int)) = inkNums i o := by
  unfold inkNat inkNums
  by_cases hi : i = 0
  · subst hi
    cases o <;> rfl
  · have hi' : ¬ (i : Int) = 0 := by omega
    cases o <;> simp [hi]
theorem sends_ink (g : Gr) (i : Nat) (o : Bool) (h : i ≤ 8) : Sends g (27 :: 91 :: (Ps.nums (inkNat i o) ++ [109])) { g with ink := i, bold := o } := by
  refine ⟨_, Ps.word_csi (inkNat i o) 109 (by simp [inkNat]) (fun n hn => ?_) ?_ (by decide) (by decide), ?_⟩
  · unfold inkNat at hn
    simp only [List.mem_cons, List.mem_append] at hn
    rcases hn with e | e | e
    · omega
    · cases o <;> simp at e <;> omega
    · by_cases hi : i = 0 <;> simp [hi] at e <;> omega
  · unfold inkNat
    cases o <;> by_cases hi : i = 0 <;> simp [hi]
  · have := did_ink g i o (by omega) (by omega)
    rw [← inkNat_cast] at this
    exact this
theorem sends_print {g : Gr} (c : UInt8) (h1 : 32 ≤ c.toNat) (h2 : c.toNat ≤ 126) (hc : g.col ≠ g.wide) : Sends g [c] { g with f := putF g.f (g.row * g.wide + g.col).toNat ⟨(c.toNat : Int), g.ink, 0, g.bold⟩, col := g.col + 1 } :=
  ⟨_, Ps.word_plain c h1 h2, did_print (g := g) (c.toNat : Int) (by simp only [plainN, decide_eq_true_eq]; omega) hc⟩
theorem sends_pic {g : Gr} (ok : OkG g) (c : UInt8) (h1 : 97 ≤ c.toNat) (h2 : c.toNat ≤ 104) : Sends g [27, 80, c, 27, 92] { g with f := putF g.f (g.row * g.wide + hereC g).toNat ⟨0, 0, (c.toNat : Int) - 96, false⟩ } :=
  ⟨_, Ps.word_pic [c] (fun d hd => by simp only [List.mem_singleton] at hd; subst hd; omega) (by simp), did_pic ok c h1 h2⟩
theorem sends_reset (g : Gr) : Sends g [27, 99] (newG g.wide g.high) := ⟨_, Ps.word_reset, did_reset g⟩

end Go.Proofs.YtpichplhidiokacGreatDoor
