/- The plain machine of chapter 2: a screen as numbers and a function from places to cells, and what one event makes of it; nothing of the program is in it. -/
import Derived.WalkKit
namespace Go.Proofs.YtpichplhidiokacGreatDoor

/-- A cell as data. -/
structure Cel where
  ch : Int
  ink : Int
  pic : Int
  bold : Bool

def noCel : Cel := ⟨0, 0, 0, false⟩

/-- Are two cells alike? -/
def celB (c d : Cel) : Bool := decide (c.ch = d.ch) && decide (c.ink = d.ink) && decide (c.pic = d.pic) && (c.bold == d.bold)
theorem celB_iff (c d : Cel) : celB c d = true ↔ c = d := by
  obtain ⟨a1, a2, a3, a4⟩ := c
  obtain ⟨b1, b2, b3, b4⟩ := d
  simp [celB, and_assoc]

/-- A screen as data: 'n' cells, the i-th one is 'f i'. -/
structure Gr where
  wide : Int
  high : Int
  n : Nat
  f : Nat → Cel
  row : Int
  col : Int
  ink : Int
  bold : Bool
  top : Int
  bottom : Int

/-- An event as data. -/
structure Evt where
  kind : Int
  b : Int
  ps : List Int
  pl : ByteArray

def plainN (b : Int) : Bool := decide (32 ≤ b ∧ b ≤ 126)
def inkN (b : Int) : Bool := decide (0 ≤ b ∧ b ≤ 8)
def goodC (c : Cel) : Bool := celB c noCel || (celB c ⟨0, 0, c.pic, false⟩ && decide (1 ≤ c.pic ∧ c.pic ≤ 8)) || (decide (c.pic = 0) && plainN c.ch && inkN c.ink)

def sidesB (g : Gr) : Bool := decide (1 ≤ g.wide ∧ g.wide ≤ 24 ∧ 1 ≤ g.high ∧ g.high ≤ 10)
def upToB (f : Nat → Cel) (k : Nat) : Bool := (List.range k).all fun i => goodC (f i)
def cellsB (g : Gr) : Bool := decide ((g.n : Int) = g.wide * g.high) && upToB g.f g.n
def cursorB (g : Gr) : Bool := decide (0 ≤ g.row ∧ g.row < g.high ∧ 0 ≤ g.col ∧ g.col ≤ g.wide) && inkN g.ink
def goodG (g : Gr) : Bool := sidesB g && cellsB g && cursorB g && decide (0 ≤ g.top ∧ g.top < g.bottom ∧ g.bottom ≤ g.high)

/-- The same, part by part. -/
structure OkG (g : Gr) : Prop where
  w1 : 1 ≤ g.wide
  w2 : g.wide ≤ 24
  h1 : 1 ≤ g.high
  h2 : g.high ≤ 10
  size : (g.n : Int) = g.wide * g.high
  cells : ∀ i, i < g.n → goodC (g.f i) = true
  r1 : 0 ≤ g.row
  r2 : g.row < g.high
  c1 : 0 ≤ g.col
  c2 : g.col ≤ g.wide
  i1 : 0 ≤ g.ink
  i2 : g.ink ≤ 8
  t1 : 0 ≤ g.top
  t2 : g.top < g.bottom
  t3 : g.bottom ≤ g.high

theorem upToB_iff (f : Nat → Cel) (k : Nat) : upToB f k = true ↔ ∀ i, i < k → goodC (f i) = true := by
  simp [upToB, List.all_eq_true]

theorem upToB_succ (f : Nat → Cel) (k : Nat) : upToB f (k + 1) = (upToB f k && goodC (f k)) := by
  unfold upToB
  rw [List.range_succ, List.all_append]
  simp

theorem goodG_iff (g : Gr) : goodG g = true ↔ OkG g := by
  constructor
  · intro h
    simp only [goodG, sidesB, cellsB, cursorB, inkN, Bool.and_eq_true, decide_eq_true_eq, upToB_iff] at h
    obtain ⟨⟨⟨⟨a1, a2, a3, a4⟩, a5, a6⟩, ⟨b1, b2, b3, b4⟩, b5, b6⟩, c1, c2, c3⟩ := h
    exact ⟨a1, a2, a3, a4, a5, a6, b1, b2, b3, b4, b5, b6, c1, c2, c3⟩
  · intro h
    simp only [goodG, sidesB, cellsB, cursorB, inkN, Bool.and_eq_true, decide_eq_true_eq, upToB_iff]
    exact ⟨⟨⟨⟨h.w1, h.w2, h.h1, h.h2⟩, h.size, h.cells⟩, ⟨h.r1, h.r2, h.c1, h.c2⟩, h.i1, h.i2⟩, h.t1, h.t2, h.t3⟩

/-! What the cells become. -/
def upF (f : Nat → Cel) (a b k : Nat) : Nat → Cel := fun i => if a ≤ i ∧ i < b then (if i + k < b then f (i + k) else noCel) else f i
def downF (f : Nat → Cel) (a b k : Nat) : Nat → Cel := fun i => if a ≤ i ∧ i < b then (if a + k ≤ i then f (i - k) else noCel) else f i
def clrF (f : Nat → Cel) (a b : Nat) : Nat → Cel := fun i => if a ≤ i ∧ i < b then noCel else f i
def putF (f : Nat → Cel) (a : Nat) (c : Cel) : Nat → Cel := fun i => if i = a then c else f i

def hereC (g : Gr) : Int := min g.col (g.wide - 1)

def newG (wide high : Int) : Gr := ⟨max 1 (min wide 24), max 1 (min high 10), (max 1 (min wide 24) * max 1 (min high 10)).toNat, fun _ => noCel, 0, 0, 0, false, 0, max 1 (min high 10)⟩

def rowOnG (g : Gr) : Gr :=
  if g.row = g.bottom - 1 then { g with f := upF g.f (g.top * g.wide).toNat (g.bottom * g.wide).toNat g.wide.toNat }
  else { g with row := min (g.row + 1) (g.high - 1) }

def backG (g : Gr) : Gr := if g.col = g.wide then rowOnG { g with col := 0 } else g
def putG (g : Gr) (b : Int) : Gr := { g with f := putF g.f (g.row * g.wide + g.col).toNat ⟨b, g.ink, 0, g.bold⟩, col := g.col + 1 }
def printedG (g : Gr) (b : Int) : Gr := putG (backG g) b

def ctlG (g : Gr) (b : Int) : Gr :=
  if b = 8 then { g with col := max (hereC g - 1) 0 }
  else if b = 9 then { g with col := min ((g.col / 8 + 1) * 8) (g.wide - 1) }
  else if b = 10 then rowOnG g
  else if b = 13 then { g with col := 0 }
  else g

def numP (ps : List Int) (i : Nat) : Int := max 0 (min (ps.getD i 0) 999)

/-- 'erase' of m cells from place a on. -/
def eraseF (f : Nat → Cel) (a m p : Nat) (which : Int) : Nat → Cel :=
  if which = 0 then clrF f (a + p) (a + m) else if which = 1 then clrF f a (a + p + 1) else if which = 2 then clrF f a (a + m) else f

def pushG (g : Gr) (n : Int) (move : (Nat → Cel) → Nat → Nat → Nat → (Nat → Cel)) : Gr :=
  if g.row < g.top ∨ g.bottom ≤ g.row then g
  else { g with f := move g.f (g.row * g.wide).toNat (g.bottom * g.wide).toNat (min n (g.bottom - g.row) * g.wide).toNat, col := 0 }

def ink1 (g : Gr) (n : Int) : Gr :=
  if n = 0 then { g with ink := 0, bold := false }
  else if n = 1 then { g with bold := true }
  else if n = 22 then { g with bold := false }
  else if 30 ≤ n ∧ n ≤ 37 then { g with ink := n - 29 }
  else if n = 39 then { g with ink := 0 }
  else g
def inkG (g : Gr) (ps : List Int) : Gr := ps.foldl ink1 g

def botN (g : Gr) (bottom : Int) : Int := if bottom = 0 ∨ g.high < bottom then g.high else bottom
def scrollG (g : Gr) (n bottom : Int) : Gr :=
  if n ≤ botN g bottom then { g with top := n - 1, bottom := botN g bottom, row := 0, col := 0 } else g

def csiG (g : Gr) (b : Int) (ps : List Int) : Gr :=
  let n := max (numP ps 0) 1
  if b = 65 then { g with row := max (g.row - n) 0 }
  else if b = 66 then { g with row := min (g.row + n) (g.high - 1) }
  else if b = 67 then { g with col := min (g.col + n) (g.wide - 1) }
  else if b = 68 then { g with col := max (hereC g - n) 0 }
  else if b = 72 then { g with row := min n g.high - 1, col := max 1 (min (numP ps 1) g.wide) - 1 }
  else if b = 74 then { g with f := eraseF g.f 0 g.n (g.row * g.wide + hereC g).toNat (numP ps 0) }
  else if b = 75 then { g with f := eraseF g.f (g.row * g.wide).toNat g.wide.toNat (hereC g).toNat (numP ps 0) }
  else if b = 76 then pushG g n downF
  else if b = 77 then pushG g n upF
  else if b = 109 then inkG g ps
  else if b = 114 then scrollG g n (numP ps 1)
  else g

/-- One byte of a picture: the cells, the row, the column. -/
def pic1 (g : Gr) (s : (Nat → Cel) × Int × Int) (c : UInt8) : (Nat → Cel) × Int × Int :=
  if c = 45 then (s.1, s.2.1 + 1, hereC g)
  else (if 97 ≤ c.toNat ∧ c.toNat ≤ 104 ∧ (s.2.1 < g.high ∧ s.2.2 < g.wide) then putF s.1 (s.2.1 * g.wide + s.2.2).toNat ⟨0, 0, (c.toNat : Int) - 96, false⟩ else s.1, s.2.1, s.2.2 + 1)
def picS (g : Gr) (l : List UInt8) : (Nat → Cel) × Int × Int := l.foldl (pic1 g) (g.f, g.row, hereC g)
def picG (g : Gr) (pl : ByteArray) : Gr := { g with f := (picS g pl.data.toList).1 }

def checkE (e : Evt) : Int := if e.kind = 1 then (if plainN e.b then 0 else 6) else if 2 ≤ e.kind ∧ e.kind ≤ 5 then 0 else 2

def doneG (g : Gr) (e : Evt) : Gr :=
  if e.kind = 1 then printedG g e.b
  else if e.kind = 2 then ctlG g e.b
  else if e.kind = 3 then csiG g e.b e.ps
  else if e.kind = 4 then picG g e.pl
  else newG g.wide g.high

/-- The screen behind events, and the first error. -/
def allG : Gr → List Evt → Gr × Int
  | g, [] => (g, 0)
  | g, e :: l => if checkE e = 0 then allG (doneG g e) l else (g, checkE e)

def actG (g : Gr) (e : Evt) : Gr × Int := if goodG g then (if checkE e = 0 then (doneG g e, 0) else (g, checkE e)) else (g, 1)

/-! A good screen stays good. -/
theorem goodC_no : goodC noCel = true := by decide
theorem goodC_pic (k : Int) (h1 : 1 ≤ k) (h2 : k ≤ 8) : goodC ⟨0, 0, k, false⟩ = true := by simp [goodC, celB, h1, h2]
theorem goodC_ch (b i : Int) (o : Bool) (hb : plainN b = true) (h1 : 0 ≤ i) (h2 : i ≤ 8) : goodC ⟨b, i, 0, o⟩ = true := by simp [goodC, hb, inkN, h1, h2]

theorem goodC_up {f : Nat → Cel} {n a b k : Nat} (h : ∀ i, i < n → goodC (f i) = true) (hb : b ≤ n) : ∀ i, i < n → goodC (upF f a b k i) = true := by
  intro i hi
  unfold upF
  split
  · split
    · exact h _ (by omega)
    · exact goodC_no
  · exact h i hi
theorem goodC_down {f : Nat → Cel} {n a b k : Nat} (h : ∀ i, i < n → goodC (f i) = true) : ∀ i, i < n → goodC (downF f a b k i) = true := by
  intro i hi
  unfold downF
  split
  · split
    · exact h _ (by omega)
    · exact goodC_no
  · exact h i hi
theorem goodC_clr {f : Nat → Cel} {n a b : Nat} (h : ∀ i, i < n → goodC (f i) = true) : ∀ i, i < n → goodC (clrF f a b i) = true := by
  intro i hi
  unfold clrF
  split
  · exact goodC_no
  · exact h i hi
theorem goodC_put {f : Nat → Cel} {n a : Nat} {c : Cel} (h : ∀ i, i < n → goodC (f i) = true) (hc : goodC c = true) : ∀ i, i < n → goodC (putF f a c i) = true := by
  intro i hi
  unfold putF
  split
  · exact hc
  · exact h i hi

theorem mul_bound {r w h : Int} (hr : 0 ≤ r) (hr2 : r < h) (hw : 0 ≤ w) : 0 ≤ r * w ∧ r * w + w ≤ h * w := by
  refine ⟨Int.mul_nonneg hr hw, ?_⟩
  have h1 : (r + 1) * w ≤ h * w := Int.mul_le_mul_of_nonneg_right (by omega) hw
  rw [Int.add_mul] at h1
  omega
theorem mul_mono {r h w : Int} (hr : r ≤ h) (hw : 0 ≤ w) : r * w ≤ h * w := Int.mul_le_mul_of_nonneg_right hr hw

/-- What the places are, in numbers. -/
theorem OkG.nums {g : Gr} (h : OkG g) : (g.n : Int) = g.high * g.wide ∧ g.high * g.wide ≤ 240 ∧ 0 ≤ g.row * g.wide ∧ g.row * g.wide + g.wide ≤ g.high * g.wide ∧ 0 ≤ g.top * g.wide ∧ g.top * g.wide + g.wide ≤ g.bottom * g.wide ∧ g.bottom * g.wide ≤ g.high * g.wide := by
  have hw : 0 ≤ g.wide := by have := h.w1; omega
  have h1 := mul_bound h.r1 h.r2 hw
  have h2 := mul_bound h.t1 h.t2 hw
  have h3 := mul_mono h.t3 hw
  have h4 : g.high * g.wide ≤ 10 * g.wide := mul_mono h.h2 hw
  have := h.w2
  refine ⟨by rw [h.size, Int.mul_comm], by omega, h1.1, h1.2, h2.1, h2.2, h3⟩

theorem ok_rowOn {g : Gr} (h : OkG g) : OkG (rowOnG g) ∧ (rowOnG g).wide = g.wide ∧ (rowOnG g).high = g.high ∧ (rowOnG g).n = g.n := by
  obtain ⟨q1, q2, q3, q4, q5, q6, q7⟩ := h.nums
  have := h.r2
  have := h.r1
  have := h.h1
  unfold rowOnG
  split
  · exact ⟨⟨h.w1, h.w2, h.h1, h.h2, h.size, goodC_up (n := g.n) h.cells (by omega), h.r1, h.r2, h.c1, h.c2, h.i1, h.i2, h.t1, h.t2, h.t3⟩, rfl, rfl, rfl⟩
  · exact ⟨⟨h.w1, h.w2, h.h1, h.h2, h.size, h.cells, by simp only; omega, by simp only; omega, h.c1, h.c2, h.i1, h.i2, h.t1, h.t2, h.t3⟩, rfl, rfl, rfl⟩

theorem ok_back {g : Gr} (h : OkG g) : OkG (backG g) ∧ (backG g).col < (backG g).wide ∧ (backG g).wide = g.wide ∧ (backG g).high = g.high ∧ (backG g).n = g.n := by
  have := h.w1
  have := h.c1
  have := h.c2
  unfold backG
  split
  · have hz : OkG { g with col := 0 } := ⟨h.w1, h.w2, h.h1, h.h2, h.size, h.cells, h.r1, h.r2, by simp, by simp only; omega, h.i1, h.i2, h.t1, h.t2, h.t3⟩
    obtain ⟨k1, k2, k3, k4⟩ := ok_rowOn hz
    refine ⟨k1, ?_, k2, k3, k4⟩
    have e : (rowOnG { g with col := 0 }).col = 0 := by unfold rowOnG; split <;> rfl
    rw [e, k2]
    simp only
    omega
  · exact ⟨h, by omega, rfl, rfl, rfl⟩

theorem ok_printed {g : Gr} (h : OkG g) (b : Int) (hb : plainN b = true) : OkG (printedG g b) ∧ (printedG g b).wide = g.wide ∧ (printedG g b).high = g.high ∧ (printedG g b).n = g.n := by
  obtain ⟨k, hc, e1, e2, e3⟩ := ok_back h
  have := k.c1
  refine ⟨⟨k.w1, k.w2, k.h1, k.h2, k.size, goodC_put k.cells (goodC_ch _ _ _ hb k.i1 k.i2), k.r1, k.r2, ?_, ?_, k.i1, k.i2, k.t1, k.t2, k.t3⟩, e1, e2, e3⟩
  · show 0 ≤ (backG g).col + 1; omega
  · show (backG g).col + 1 ≤ (backG g).wide; omega

theorem ok_ctl {g : Gr} (h : OkG g) (b : Int) : OkG (ctlG g b) ∧ (ctlG g b).wide = g.wide ∧ (ctlG g b).high = g.high ∧ (ctlG g b).n = g.n := by
  have := h.w1
  have := h.c1
  have := h.c2
  unfold ctlG hereC
  split
  · exact ⟨⟨h.w1, h.w2, h.h1, h.h2, h.size, h.cells, h.r1, h.r2, by simp only; omega, by simp only; omega, h.i1, h.i2, h.t1, h.t2, h.t3⟩, rfl, rfl, rfl⟩
  · split
    · exact ⟨⟨h.w1, h.w2, h.h1, h.h2, h.size, h.cells, h.r1, h.r2, by simp only; omega, by simp only; omega, h.i1, h.i2, h.t1, h.t2, h.t3⟩, rfl, rfl, rfl⟩
    · split
      · exact ok_rowOn h
      · split
        · exact ⟨⟨h.w1, h.w2, h.h1, h.h2, h.size, h.cells, h.r1, h.r2, by simp only; omega, by simp only; omega, h.i1, h.i2, h.t1, h.t2, h.t3⟩, rfl, rfl, rfl⟩
        · exact ⟨h, rfl, rfl, rfl⟩

theorem goodC_erase {f : Nat → Cel} {n a m p : Nat} {w : Int} (h : ∀ i, i < n → goodC (f i) = true) : ∀ i, i < n → goodC (eraseF f a m p w i) = true := by
  unfold eraseF
  split
  · exact goodC_clr h
  · split
    · exact goodC_clr h
    · split
      · exact goodC_clr h
      · exact h

theorem ok_push {g : Gr} (h : OkG g) (n : Int) (move : (Nat → Cel) → Nat → Nat → Nat → (Nat → Cel)) (hm : move = upF ∨ move = downF) : OkG (pushG g n move) ∧ (pushG g n move).wide = g.wide ∧ (pushG g n move).high = g.high ∧ (pushG g n move).n = g.n := by
  obtain ⟨q1, q2, q3, q4, q5, q6, q7⟩ := h.nums
  have := h.w1
  unfold pushG
  split
  · exact ⟨h, rfl, rfl, rfl⟩
  · refine ⟨⟨h.w1, h.w2, h.h1, h.h2, h.size, ?_, h.r1, h.r2, by simp, by simp only; omega, h.i1, h.i2, h.t1, h.t2, h.t3⟩, rfl, rfl, rfl⟩
    rcases hm with rfl | rfl
    · exact goodC_up (n := g.n) h.cells (by omega)
    · exact goodC_down h.cells

theorem ok_ink1 {g : Gr} (h : OkG g) (n : Int) : OkG (ink1 g n) ∧ (ink1 g n).wide = g.wide ∧ (ink1 g n).high = g.high ∧ (ink1 g n).n = g.n ∧ (ink1 g n).f = g.f := by
  have a : ∀ (k : Int) (o : Bool), 0 ≤ k → k ≤ 8 → OkG { g with ink := k, bold := o } := fun k o h1 h2 => ⟨h.w1, h.w2, h.h1, h.h2, h.size, h.cells, h.r1, h.r2, h.c1, h.c2, h1, h2, h.t1, h.t2, h.t3⟩
  unfold ink1
  split
  · exact ⟨a 0 false (by omega) (by omega), rfl, rfl, rfl, rfl⟩
  · split
    · exact ⟨a g.ink true h.i1 h.i2, rfl, rfl, rfl, rfl⟩
    · split
      · exact ⟨a g.ink false h.i1 h.i2, rfl, rfl, rfl, rfl⟩
      · split
        · exact ⟨a (n - 29) g.bold (by omega) (by omega), rfl, rfl, rfl, rfl⟩
        · split
          · exact ⟨a 0 g.bold (by omega) (by omega), rfl, rfl, rfl, rfl⟩
          · exact ⟨h, rfl, rfl, rfl, rfl⟩

theorem ok_ink {g : Gr} (h : OkG g) (ps : List Int) : OkG (inkG g ps) ∧ (inkG g ps).wide = g.wide ∧ (inkG g ps).high = g.high ∧ (inkG g ps).n = g.n ∧ (inkG g ps).f = g.f := by
  unfold inkG
  induction ps generalizing g with
  | nil => exact ⟨h, rfl, rfl, rfl, rfl⟩
  | cons x r ih =>
    obtain ⟨k, e1, e2, e3, e4⟩ := ok_ink1 h x
    obtain ⟨k', d1, d2, d3, d4⟩ := ih k
    exact ⟨k', d1.trans e1, d2.trans e2, d3.trans e3, d4.trans e4⟩

theorem ok_scroll {g : Gr} (h : OkG g) (n b : Int) (hn : 1 ≤ n) : OkG (scrollG g n b) ∧ (scrollG g n b).wide = g.wide ∧ (scrollG g n b).high = g.high ∧ (scrollG g n b).n = g.n := by
  have hbot : botN g b ≤ g.high := by unfold botN; split <;> omega
  have := h.h1
  have := h.w1
  unfold scrollG
  split
  · exact ⟨⟨h.w1, h.w2, h.h1, h.h2, h.size, h.cells, by simp, by simp only; omega, by simp, by simp only; omega, h.i1, h.i2, by simp only; omega, by simp only; omega, hbot⟩, rfl, rfl, rfl⟩
  · exact ⟨h, rfl, rfl, rfl⟩

def csiN (ps : List Int) : Int := max (numP ps 0) 1
theorem csi65 (g : Gr) (ps : List Int) : csiG g 65 ps = { g with row := max (g.row - csiN ps) 0 } := rfl
theorem csi66 (g : Gr) (ps : List Int) : csiG g 66 ps = { g with row := min (g.row + csiN ps) (g.high - 1) } := rfl
theorem csi67 (g : Gr) (ps : List Int) : csiG g 67 ps = { g with col := min (g.col + csiN ps) (g.wide - 1) } := rfl
theorem csi68 (g : Gr) (ps : List Int) : csiG g 68 ps = { g with col := max (hereC g - csiN ps) 0 } := rfl
theorem csi72 (g : Gr) (ps : List Int) : csiG g 72 ps = { g with row := min (csiN ps) g.high - 1, col := max 1 (min (numP ps 1) g.wide) - 1 } := rfl
theorem csi74 (g : Gr) (ps : List Int) : csiG g 74 ps = { g with f := eraseF g.f 0 g.n (g.row * g.wide + hereC g).toNat (numP ps 0) } := rfl
theorem csi75 (g : Gr) (ps : List Int) : csiG g 75 ps = { g with f := eraseF g.f (g.row * g.wide).toNat g.wide.toNat (hereC g).toNat (numP ps 0) } := rfl
theorem csi76 (g : Gr) (ps : List Int) : csiG g 76 ps = pushG g (csiN ps) downF := rfl
theorem csi77 (g : Gr) (ps : List Int) : csiG g 77 ps = pushG g (csiN ps) upF := rfl
theorem csi109 (g : Gr) (ps : List Int) : csiG g 109 ps = inkG g ps := rfl
theorem csi114 (g : Gr) (ps : List Int) : csiG g 114 ps = scrollG g (csiN ps) (numP ps 1) := rfl
theorem csiNo (g : Gr) (b : Int) (ps : List Int) (h1 : b ≠ 65) (h2 : b ≠ 66) (h3 : b ≠ 67) (h4 : b ≠ 68) (h5 : b ≠ 72) (h6 : b ≠ 74) (h7 : b ≠ 75) (h8 : b ≠ 76) (h9 : b ≠ 77) (h10 : b ≠ 109) (h11 : b ≠ 114) : csiG g b ps = g := by
  unfold csiG
  rw [if_neg h1, if_neg h2, if_neg h3, if_neg h4, if_neg h5, if_neg h6, if_neg h7, if_neg h8, if_neg h9, if_neg h10, if_neg h11]

def Alike (g x : Gr) : Prop := x.wide = g.wide ∧ x.high = g.high ∧ x.n = g.n

theorem ok_csi {g : Gr} (h : OkG g) (b : Int) (ps : List Int) : OkG (csiG g b ps) ∧ (csiG g b ps).wide = g.wide ∧ (csiG g b ps).high = g.high ∧ (csiG g b ps).n = g.n := by
  have hn1 : 1 ≤ csiN ps := by unfold csiN; omega
  obtain ⟨m, hm⟩ : ∃ m, m = csiN ps := ⟨_, rfl⟩
  have hw1 := h.w1
  have := h.h1
  have := h.c1
  have := h.c2
  have := h.r1
  have := h.r2
  rw [← hm] at hn1
  by_cases h1 : b = 65
  · subst h1; rw [csi65, ← hm]; exact ⟨⟨h.w1, h.w2, h.h1, h.h2, h.size, h.cells, by simp only; omega, by simp only; omega, h.c1, h.c2, h.i1, h.i2, h.t1, h.t2, h.t3⟩, rfl, rfl, rfl⟩
  by_cases h2 : b = 66
  · subst h2; rw [csi66, ← hm]; exact ⟨⟨h.w1, h.w2, h.h1, h.h2, h.size, h.cells, by simp only; omega, by simp only; omega, h.c1, h.c2, h.i1, h.i2, h.t1, h.t2, h.t3⟩, rfl, rfl, rfl⟩
  by_cases h3 : b = 67
  · subst h3; rw [csi67, ← hm]; exact ⟨⟨h.w1, h.w2, h.h1, h.h2, h.size, h.cells, h.r1, h.r2, by simp only; omega, by simp only; omega, h.i1, h.i2, h.t1, h.t2, h.t3⟩, rfl, rfl, rfl⟩
  by_cases h4 : b = 68
  · subst h4; rw [csi68, ← hm]; unfold hereC; exact ⟨⟨h.w1, h.w2, h.h1, h.h2, h.size, h.cells, h.r1, h.r2, by simp only; omega, by simp only; omega, h.i1, h.i2, h.t1, h.t2, h.t3⟩, rfl, rfl, rfl⟩
  by_cases h5 : b = 72
  · subst h5; rw [csi72, ← hm]; exact ⟨⟨h.w1, h.w2, h.h1, h.h2, h.size, h.cells, by simp only; omega, by simp only; omega, by simp only; omega, by simp only; omega, h.i1, h.i2, h.t1, h.t2, h.t3⟩, rfl, rfl, rfl⟩
  by_cases h6 : b = 74
  · subst h6; rw [csi74]; exact ⟨⟨h.w1, h.w2, h.h1, h.h2, h.size, goodC_erase (n := g.n) h.cells, h.r1, h.r2, h.c1, h.c2, h.i1, h.i2, h.t1, h.t2, h.t3⟩, rfl, rfl, rfl⟩
  by_cases h7 : b = 75
  · subst h7; rw [csi75]; exact ⟨⟨h.w1, h.w2, h.h1, h.h2, h.size, goodC_erase (n := g.n) h.cells, h.r1, h.r2, h.c1, h.c2, h.i1, h.i2, h.t1, h.t2, h.t3⟩, rfl, rfl, rfl⟩
  by_cases h8 : b = 76
  · subst h8; rw [csi76]; exact ok_push h _ _ (.inr rfl)
  by_cases h9 : b = 77
  · subst h9; rw [csi77]; exact ok_push h _ _ (.inl rfl)
  by_cases h10 : b = 109
  · subst h10; rw [csi109]
    obtain ⟨k, e1, e2, e3, _⟩ := ok_ink h ps
    exact ⟨k, e1, e2, e3⟩
  by_cases h11 : b = 114
  · subst h11; rw [csi114]; exact ok_scroll h _ _ (by rw [← hm]; exact hn1)
  rw [csiNo g b ps h1 h2 h3 h4 h5 h6 h7 h8 h9 h10 h11]
  exact ⟨h, rfl, rfl, rfl⟩

theorem pic_good {g : Gr} (h : ∀ i, i < g.n → goodC (g.f i) = true) (l : List UInt8) : ∀ i, i < g.n → goodC ((picS g l).1 i) = true := by
  suffices H : ∀ (l : List UInt8) (s : (Nat → Cel) × Int × Int), (∀ i, i < g.n → goodC (s.1 i) = true) → ∀ i, i < g.n → goodC ((l.foldl (pic1 g) s).1 i) = true from H l _ h
  intro l
  induction l with
  | nil => intro s hs; exact hs
  | cons c r ih =>
    intro s hs
    refine ih _ ?_
    unfold pic1
    split
    · exact hs
    · simp only
      split
      · exact goodC_put hs (goodC_pic _ (by omega) (by omega))
      · exact hs

theorem ok_new (wide high : Int) : OkG (newG wide high) := by
  have h : 0 ≤ max 1 (min wide 24) * max 1 (min high 10) := Int.mul_nonneg (by omega) (by omega)
  refine ⟨?_, ?_, ?_, ?_, Int.toNat_of_nonneg h, fun _ _ => goodC_no, ?_, ?_, ?_, ?_, ?_, ?_, ?_, ?_, ?_⟩ <;> simp only [newG] <;> omega

theorem new_sides {g : Gr} (h : OkG g) : (newG g.wide g.high).wide = g.wide ∧ (newG g.wide g.high).high = g.high ∧ (newG g.wide g.high).n = g.n := by
  have := h.w1
  have := h.w2
  have := h.h1
  have := h.h2
  have e1 : max 1 (min g.wide 24) = g.wide := by omega
  have e2 : max 1 (min g.high 10) = g.high := by omega
  refine ⟨e1, e2, ?_⟩
  show (max 1 (min g.wide 24) * max 1 (min g.high 10)).toNat = g.n
  rw [e1, e2, ← h.size]
  exact Int.toNat_natCast _

theorem ok_done {g : Gr} (h : OkG g) (e : Evt) (he : checkE e = 0) : OkG (doneG g e) ∧ (doneG g e).wide = g.wide ∧ (doneG g e).high = g.high ∧ (doneG g e).n = g.n := by
  unfold doneG
  split
  · next hk =>
    refine ok_printed h _ ?_
    simp only [checkE, hk, if_true] at he
    cases hp : plainN e.b
    · simp [hp] at he
    · rfl
  · split
    · exact ok_ctl h _
    · split
      · exact ok_csi h _ _
      · split
        · exact ⟨⟨h.w1, h.w2, h.h1, h.h2, h.size, pic_good h.cells _, h.r1, h.r2, h.c1, h.c2, h.i1, h.i2, h.t1, h.t2, h.t3⟩, rfl, rfl, rfl⟩
        · exact ⟨ok_new _ _, new_sides h⟩

end Go.Proofs.YtpichplhidiokacGreatDoor
