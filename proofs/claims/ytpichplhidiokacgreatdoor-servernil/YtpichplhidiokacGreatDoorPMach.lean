/- The plain machine of chapter 4: what is to be seen at a place, the line at the foot, a client's screen. -/
import Derived.Test.YtpichplhidiokacGreatDoorGGood
import Derived.Test.YtpichplhidiokacGreatDoorTApart0
namespace Go.Proofs.YtpichplhidiokacGreatDoor.Pt
open Go.Proofs.YtpichplhidiokacGreatDoor.Tl (Rc noRc whereT shareT inR findT goodT paneB)

def inRb (r : Rc) (row col : Int) : Bool := decide (r.row ≤ row ∧ row < r.row + r.high ∧ r.col ≤ col ∧ col < r.col + r.wide)
theorem inRb_iff (r : Rc) (row col : Int) : inRb r row col = true ↔ inR r row col := by unfold inRb inR; exact decide_eq_true_iff
theorem inRb_not {r : Rc} {row col : Int} (h : inRb r row col = false) : ¬ inR r row col := fun k => by rw [← inRb_iff, h] at k; cases k

def sign (b : Int) : Cel := ⟨b, 0, 0, false⟩

/-- A view as data. -/
structure Vw where
  cols : List (List Int)
  gs : Nat → Gr
  wide : Int
  high : Int
  focus : Int

def Vw.place (v : Vw) (p : Int) : Rc := whereT v.cols v.wide v.high p
def Vw.share (v : Vw) (k : Int) : Int × Int := shareT v.wide v.cols.length k
abbrev withinV (v : Vw) (row col : Int) : Prop := 0 ≤ row ∧ row < v.high ∧ 0 ≤ col ∧ col < v.wide
/-- The pane in whose place a cell is. -/
def paneAt (v : Vw) (row col : Int) : Option Nat := (List.range 6).find? fun p => inRb (v.place p) row col
def lineB (v : Vw) (col : Int) : Bool := (List.range (v.cols.length - 1)).any fun k => decide (0 < (v.share k).2 ∧ col = (v.share k).1 + (v.share k).2)
def cellT (v : Vw) (row col : Int) : Cel :=
  if withinV v row col then
    match paneAt v row col with
    | some p => atG (v.gs p) (row - (v.place p).row) (col - (v.place p).col)
    | none => if lineB v col then sign 124 else sign 45
  else sign 46
def footT (v : Vw) (col : Int) : Cel :=
  if 0 ≤ col ∧ col % 2 = 0 ∧ col / 2 < v.cols.flatten.length then ⟨48 + max 0 (min (v.cols.flatten.getD (col / 2).toNat 0) 9), 0, 0, decide (v.cols.flatten.getD (col / 2).toNat 0 = v.focus)⟩ else sign 32

/-! Places, for all sides. -/
theorem share_far {length : Int} (h : ¬ (0 ≤ length ∧ length < 25)) (n k : Int) : shareT length n k = (0, 0) := Tl.share_no (by omega)
theorem where_far {cols : List (List Int)} {wide high : Int} (h : ¬ (0 ≤ wide ∧ wide < 25) ∨ ¬ (0 ≤ high ∧ high < 25)) (p : Int) : whereT cols wide high p = noRc := by
  rcases Tl.where_cases cols wide high p with e | ⟨i, j, _, h1, h2, _⟩
  · exact e
  · rcases h with h | h
    · rw [share_far h] at h1; exact absurd rfl h1
    · rw [share_far h] at h2; exact absurd rfl h2
theorem noRc_out (row col : Int) : ¬ inR noRc row col := by unfold inR noRc; simp only; omega
theorem place_apart (v : Vw) {p q row col : Int} (h1 : inR (v.place p) row col) (h2 : inR (v.place q) row col) : p = q := by
  by_cases hs : (0 ≤ v.wide ∧ v.wide < 25) ∧ (0 ≤ v.high ∧ v.high < 25)
  · by_cases e : p = q
    · exact e
    · exact (Tl.where_apart v.cols v.wide v.high p q row col hs.1.1 hs.1.2 hs.2.1 hs.2.2 e h1 h2).elim
  · unfold Vw.place at h1
    rw [where_far (by omega)] at h1
    exact (noRc_out _ _ h1).elim

/-- A place is none, or within all, of some cells, and of a pane that is there. -/
theorem place_cases (v : Vw) (p : Int) : v.place p = noRc ∨ (0 ≤ (v.place p).row ∧ 0 ≤ (v.place p).col ∧ 0 < (v.place p).high ∧ 0 < (v.place p).wide ∧ (v.place p).row + (v.place p).high ≤ 24 ∧ (v.place p).col + (v.place p).wide ≤ 24 ∧ 0 ≤ p ∧ p < 6) := by
  by_cases hs : (0 ≤ v.wide ∧ v.wide < 25) ∧ (0 ≤ v.high ∧ v.high < 25)
  · obtain ⟨⟨a1, a2, a3, a4, a5, a6⟩, h⟩ := Tl.where_in v.cols v.wide v.high p hs.1.1 hs.1.2 hs.2.1 hs.2.2 _ rfl
    rcases Tl.where_cases v.cols v.wide v.high p with e | ⟨i, j, hf, h1, h2, he⟩
    · exact .inl e
    · rcases h with h | ⟨h3, h4, h5⟩
      · rw [he] at h; exact absurd h.1 h2
      · have hg : goodT v.cols = true := by
          cases hg : goodT v.cols
          · have : whereT v.cols v.wide v.high p = noRc := by unfold whereT; rw [if_pos hg]
            rw [this] at h3; exact absurd h3 (by decide)
          · rfl
        have hp := ((Tl.goodT_iff _).1 hg).pane p (Tl.hasT_iff.1 h5)
        simp only [paneB, decide_eq_true_eq] at hp
        exact .inr ⟨a1, a2, h3, h4, by unfold Vw.place; omega, by unfold Vw.place; omega, hp.1, hp.2⟩
  · left
    exact where_far (by omega) p
theorem place_num (v : Vw) (p : Int) : 0 ≤ (v.place p).row ∧ 0 ≤ (v.place p).col ∧ 0 ≤ (v.place p).high ∧ 0 ≤ (v.place p).wide ∧ (v.place p).row ≤ 24 ∧ (v.place p).col ≤ 24 ∧ (v.place p).high ≤ 24 ∧ (v.place p).wide ≤ 24 := by
  rcases place_cases v p with h | h
  · rw [h]; decide
  · omega

theorem paneAt_some (v : Vw) {p : Nat} {row col : Int} (hp : p < 6) (h : inR (v.place p) row col) : paneAt v row col = some p := by
  cases e : paneAt v row col with
  | none =>
    have := List.find?_eq_none.1 e p (List.mem_range.2 hp)
    exact absurd ((inRb_iff _ _ _).2 h) this
  | some q =>
    have h2 := List.find?_some e
    have := place_apart v h ((inRb_iff _ _ _).1 h2)
    exact congrArg some (by omega)
theorem paneAt_none (v : Vw) {row col : Int} (h : ∀ p : Nat, p < 6 → ¬ inR (v.place p) row col) : paneAt v row col = none := by
  refine List.find?_eq_none.2 fun p hp e => h p (List.mem_range.1 hp) ((inRb_iff _ _ _).1 e)

theorem cellT_out (v : Vw) {row col : Int} (h : ¬ withinV v row col) : cellT v row col = sign 46 := by unfold cellT; rw [if_neg h]
theorem cellT_at (v : Vw) {row col : Int} (h : withinV v row col) {p : Nat} (hp : p < 6) (hi : inR (v.place p) row col) : cellT v row col = atG (v.gs p) (row - (v.place p).row) (col - (v.place p).col) := by
  unfold cellT; rw [if_pos h, paneAt_some v hp hi]
theorem cellT_line (v : Vw) {row col : Int} (h : withinV v row col) (hn : ∀ p : Nat, p < 6 → ¬ inR (v.place p) row col) {k : Nat} (hk : k + 1 < v.cols.length) (h1 : 0 < (v.share k).2) (h2 : col = (v.share k).1 + (v.share k).2) : cellT v row col = sign 124 := by
  unfold cellT
  rw [if_pos h, paneAt_none v hn]
  have : lineB v col = true := List.any_eq_true.2 ⟨k, List.mem_range.2 (by omega), decide_eq_true ⟨h1, h2⟩⟩
  simp only [this, if_true]
theorem cellT_bar (v : Vw) {row col : Int} (h : withinV v row col) (hn : ∀ p : Nat, p < 6 → ¬ inR (v.place p) row col) (hl : ∀ k : Nat, k + 1 < v.cols.length → ¬ (0 < (v.share k).2 ∧ col = (v.share k).1 + (v.share k).2)) : cellT v row col = sign 45 := by
  unfold cellT
  rw [if_pos h, paneAt_none v hn]
  have : lineB v col = false := by
    refine List.any_eq_false.2 fun k hk e => hl k ?_ (of_decide_eq_true e)
    have := List.mem_range.1 hk
    omega
  simp [this]

/-- One share begins where the one ahead of it has ended, and a cell. -/
def nxB (L n k : Nat) : Bool := decide (n + 1 ≤ k + 1) || decide ((0 < (shareT L (n + 1) k).2 ↔ 0 < (shareT L (n + 1) (k + 1 : Nat)).2) ∧ (0 < (shareT L (n + 1) k).2 → (shareT L (n + 1) (k + 1 : Nat)).1 - 1 = (shareT L (n + 1) k).1 + (shareT L (n + 1) k).2))
theorem all_nx : ((List.range 25).all fun L => (List.range 6).all fun n => (List.range (n + 1)).all fun k => nxB L n k) = true := by decide +kernel
theorem share_next (v : Vw) (k : Nat) (hk : k + 1 < v.cols.length) (col : Int) : (0 < (v.share k).2 ∧ col = (v.share k).1 + (v.share k).2) ↔ (0 < (v.share (k + 1 : Nat)).2 ∧ col = (v.share (k + 1 : Nat)).1 - 1) := by
  unfold Vw.share
  by_cases h : (v.cols.length : Int) < 1 ∨ 6 < (v.cols.length : Int) ∨ 24 < v.wide ∨ v.wide < 0
  · rw [Tl.share_no (by omega), Tl.share_no (k := (k + 1 : Nat)) (by omega)]
    simp
  · obtain ⟨L, hL⟩ : ∃ m : Nat, v.wide = m := ⟨v.wide.toNat, by omega⟩
    obtain ⟨n, hn⟩ : ∃ m : Nat, v.cols.length = m + 1 := ⟨v.cols.length - 1, by omega⟩
    rw [hL, hn]
    have h1 := all_nx
    rw [List.all_eq_true] at h1
    have h1 := h1 L (List.mem_range.2 (by omega))
    rw [List.all_eq_true] at h1
    have h1 := h1 n (List.mem_range.2 (by omega))
    rw [List.all_eq_true] at h1
    have h1 := h1 k (List.mem_range.2 (by omega))
    unfold nxB at h1
    simp only [Bool.or_eq_true, decide_eq_true_eq] at h1
    rcases h1 with h1 | ⟨h1, h2⟩
    · omega
    · push_cast at h1 h2 ⊢
      constructor
      · rintro ⟨a, b⟩; exact ⟨h1.1 a, by rw [h2 a]; exact b⟩
      · rintro ⟨a, b⟩; exact ⟨h1.2 a, by rw [← h2 (h1.2 a)]; exact b⟩

theorem footT_at (v : Vw) {col : Int} {k : Nat} {p : Int} (hc : col = 2 * k) (hk : k < v.cols.flatten.length) (hp : v.cols.flatten.getD k 0 = p) : footT v col = ⟨48 + max 0 (min p 9), 0, 0, decide (p = v.focus)⟩ := by
  unfold footT
  have e : (col / 2).toNat = k := by omega
  rw [if_pos ⟨by omega, by omega, by omega⟩, e, hp]
theorem footT_no (v : Vw) {col : Int} (h : ¬ (0 ≤ col ∧ col % 2 = 0 ∧ col / 2 < v.cols.flatten.length)) : footT v col = sign 32 := by
  unfold footT; rw [if_neg h]


/-- A client's screen. -/
def cellsV (v : Vw) (wide high : Int) (i : Nat) : Cel := if (i : Int) / wide = high - 1 then footT v ((i : Int) % wide) else cellT v ((i : Int) / wide) ((i : Int) % wide)
def cursorV (v : Vw) : Int × Int := if (v.place v.focus).wide = 0 then (0, 0) else ((v.place v.focus).row + min (v.gs v.focus.toNat).row ((v.place v.focus).high - 1), (v.place v.focus).col + min (v.gs v.focus.toNat).col ((v.place v.focus).wide - 1))
def screenV (v : Vw) (wide high : Int) : Gr :=
  { newG wide high with f := cellsV v (newG wide high).wide (newG wide high).high, row := max 0 (min (cursorV v).1 ((newG wide high).high - 1)), col := max 0 (min (cursorV v).2 ((newG wide high).wide - 1)) }

end Go.Proofs.YtpichplhidiokacGreatDoor.Pt
