/- Ways: the bytes of a move lead the cursor where they are to; how long they are. -/
import Derived.Test.YtdanlnankjgboabDoorDMach
import Derived.Test.YtdanlnankjgboabDoorFDraw
namespace Go.Proofs.YtdanlnankjgboabDoor

/-- A text that is read as a number of a command. -/
def Num (t : List UInt8) (v : Int) : Prop := ∀ ps : List Int, Ps.feedS (Ps.inCmd (ps ++ [0])) t = Ps.inCmd (ps ++ [v]) ∧ Ps.feedE (Ps.inCmd (ps ++ [0])) t = []

theorem num_no : Num [] 0 := fun _ => ⟨rfl, rfl⟩
theorem num_dec (n : Nat) (h : n < 1000) : Num (Ps.dec n) n := fun ps => Ps.sq_num ps n h

/-- The number that a text of 'times' is read as. -/
def timesV (n : Int) : Int := if n = 1 then 0 else n
theorem num_times (n : Int) (h1 : 0 ≤ n) (h2 : n < 1000) : Num (timesD n) (timesV n) := by
  unfold timesD timesV
  by_cases e : n = 1
  · rw [if_pos e, if_pos e]; exact num_no
  · rw [if_neg e, if_neg e]
    have := num_dec n.toNat (by omega)
    rwa [Int.toNat_of_nonneg h1] at this
theorem csiN_times (n : Int) (r : List Int) (h1 : 1 ≤ n) (h2 : n < 999) : csiN (timesV n :: r) = n := by
  have : numP (timesV n :: r) 0 = timesV n := by
    show max 0 (min (timesV n) 999) = _
    unfold timesV
    split <;> omega
  unfold csiN
  rw [this]
  unfold timesV
  split <;> omega

theorem joinTail_cons (sep x : List UInt8) (r : List (List UInt8)) : Lib.joinTail sep (x :: r) = sep ++ x ++ Lib.joinTail sep r := by
  simp [Lib.joinTail]

theorem feed_tail : ∀ (l : List (List UInt8 × Int)) (ps : List Int), (∀ x ∈ l, Num x.1 x.2) → ps.length + l.length ≤ 4 → Ps.feedS (Ps.inCmd ps) (Lib.joinTail [59] (l.map (·.1))) = Ps.inCmd (ps ++ l.map (·.2)) ∧ Ps.feedE (Ps.inCmd ps) (Lib.joinTail [59] (l.map (·.1))) = []
  | [], ps, _, _ => by simp [Lib.joinTail, Ps.feedS, Ps.feedE]
  | x :: r, ps, h, hl => by
    have hx := h x (by simp) ps
    have h3 := Ps.sq_semi ps (by simp at hl; omega)
    have h4 := feed_tail r (ps ++ [x.2]) (fun y hy => h y (by simp [hy])) (by simp at hl ⊢; omega)
    have hb : Ps.bint 59 = 59 := rfl
    rw [List.map_cons, joinTail_cons, List.append_assoc, List.singleton_append]
    constructor
    · rw [Ps.feedS_cons, hb, h3, Ps.feedS_append, hx.1, h4.1]
      simp
    · rw [Ps.feedE_cons, hb, h3, Ps.feedE_append, hx.1, hx.2, h4.2]
      rfl

/-- A command of such texts. -/
theorem word_join (x : List UInt8 × Int) (l : List (List UInt8 × Int)) (c : UInt8) (hx : Num x.1 x.2) (h : ∀ y ∈ l, Num y.1 y.2) (hl : l.length ≤ 3) (h1 : 64 ≤ c.toNat) (h2 : c.toNat ≤ 126) :
    Ps.Word (27 :: 91 :: (Lib.join (x.1 :: l.map (·.1)) [59] ++ [c])) [⟨3, Ps.bint c, x.2 :: l.map (·.2), ⟨#[]⟩⟩] := by
  have e1 : Ps.stp Ps.ground (Ps.bint 27) = (⟨1, [], ⟨#[]⟩, false⟩, Ps.noEv) := rfl
  have e2 : Ps.stp ⟨1, [], ⟨#[]⟩, false⟩ (Ps.bint 91) = (Ps.inCmd ([] ++ [0]), Ps.noEv) := rfl
  have k1 := hx []
  have k2 := feed_tail l ([] ++ [x.2]) h (by simp; omega)
  have k3 := Ps.sq_end ([] ++ [x.2] ++ l.map (·.2)) c h1 h2
  rw [Lib.join_cons]
  refine ⟨?_, ?_⟩
  · rw [Ps.feedS_cons, e1, Ps.feedS_cons, e2, Ps.feedS_append, Ps.feedS_append, k1.1, k2.1, Ps.feedS_cons, k3]
    rfl
  · rw [Ps.feedE_cons, e1, Ps.feedE_cons, e2, Ps.feedE_append, Ps.feedE_append, Ps.feedS_append, k1.1, k1.2, k2.1, k2.2, Ps.feedE_cons, k3]
    rfl
theorem word_times (n : Int) (c : UInt8) (h0 : 0 ≤ n) (hn : n < 1000) (h1 : 64 ≤ c.toNat) (h2 : c.toNat ≤ 126) : Ps.Word (27 :: 91 :: (timesD n ++ [c])) [⟨3, Ps.bint c, [timesV n], ⟨#[]⟩⟩] := by
  have := word_join (timesD n, timesV n) [] c (num_times n h0 hn) (by simp) (by simp) h1 h2
  simpa [Lib.join_one] using this

theorem len_times (n : Int) (h0 : 0 ≤ n) (hn : n < 100) : (timesD n).length ≤ 2 := by
  unfold timesD Ps.dec
  split
  · simp
  · split
    · simp
    · rw [if_pos (by omega)]; simp

/-- One step: bytes that are one word with one event. -/
theorem sends_one {g x : Gr} {l : List UInt8} {k b : Int} {ps : List Int} {pl : ByteArray} (h : Ps.Word l [⟨k, b, ps, pl⟩]) (hc : checkE ⟨k, b, ps, pl⟩ = 0) (hx : doneG g ⟨k, b, ps, pl⟩ = x) : Sends g l x :=
  ⟨_, h, by rw [← hx]; exact did_one g _ hc⟩

theorem sends_jump {g : Gr} (ok : OkG g) (r c : Int) (h1 : 0 ≤ r) (h2 : r < g.high) (h3 : 0 ≤ c) (h4 : c < g.wide) : Sends g (jumpD r c) (toG g r c) := by
  have hw := ok.w2
  have hh := ok.h2
  unfold jumpD
  by_cases e : c = 0
  · rw [if_pos e]
    refine sends_one (word_times (r + 1) 72 (by omega) (by omega) (by decide) (by decide)) rfl ?_
    show csiG g 72 [timesV (r + 1)] = _
    rw [csi72, csiN_times (r + 1) [] (by omega) (by omega)]
    have e2 : max 1 (min (numP [timesV (r + 1)] 1) g.wide) - 1 = c := by
      have : numP [timesV (r + 1)] 1 = 0 := by show max (0 : Int) (min 0 999) = 0; omega
      rw [this]
      omega
    have e1 : min (r + 1) g.high - 1 = r := by omega
    rw [e1, e2]
    rfl
  · rw [if_neg e]
    have hj : timesD (r + 1) ++ 59 :: (timesD (c + 1) ++ [72]) = Lib.join (timesD (r + 1) :: [(timesD (c + 1), timesV (c + 1))].map (·.1)) [59] ++ [72] := by
      rw [Lib.join_cons]
      simp [Lib.joinTail]
    rw [hj]
    refine sends_one (word_join (timesD (r + 1), timesV (r + 1)) [(timesD (c + 1), timesV (c + 1))] 72 (num_times _ (by omega) (by omega)) (fun y hy => ?_) (by simp) (by decide) (by decide)) rfl ?_
    · simp only [List.mem_singleton] at hy
      subst hy
      exact num_times _ (by omega) (by omega)
    · show csiG g 72 [timesV (r + 1), timesV (c + 1)] = _
      rw [csi72, csiN_times (r + 1) _ (by omega) (by omega)]
      have e2 : max 1 (min (numP [timesV (r + 1), timesV (c + 1)] 1) g.wide) - 1 = c := by
        have : numP [timesV (r + 1), timesV (c + 1)] 1 = c + 1 := by
          show max 0 (min (timesV (c + 1)) 999) = _
          unfold timesV
          rw [if_neg (by omega)]
          omega
        rw [this]
        omega
      have e1 : min (r + 1) g.high - 1 = r := by omega
      rw [e1, e2]
      rfl

theorem sends_upDown {g : Gr} (ok : OkG g) (r : Int) (h1 : 0 ≤ r) (h2 : r < g.high) : Sends g (upDownD g r) (toG g r g.col) := by
  have hh := ok.h2
  have r1 := ok.r1
  have r2 := ok.r2
  unfold upDownD
  by_cases e : r = g.row + 1 ∧ g.row ≠ g.bottom - 1
  · rw [if_pos e]
    refine sends_one (Ps.word_ctl 10 (by decide)) rfl ?_
    show rowOnG g = _
    unfold rowOnG
    rw [if_neg e.2]
    have : min (g.row + 1) (g.high - 1) = r := by omega
    rw [this]
    rfl
  · rw [if_neg e]
    by_cases e1 : g.row < r
    · rw [if_pos e1]
      refine sends_one (word_times (r - g.row) 66 (by omega) (by omega) (by decide) (by decide)) rfl ?_
      show csiG g 66 [timesV (r - g.row)] = _
      rw [csi66, csiN_times _ [] (by omega) (by omega)]
      have : min (g.row + (r - g.row)) (g.high - 1) = r := by omega
      rw [this]
      rfl
    · rw [if_neg e1]
      by_cases e2 : r < g.row
      · rw [if_pos e2]
        refine sends_one (word_times (g.row - r) 65 (by omega) (by omega) (by decide) (by decide)) rfl ?_
        show csiG g 65 [timesV (g.row - r)] = _
        rw [csi65, csiN_times _ [] (by omega) (by omega)]
        have : max (g.row - (g.row - r)) 0 = r := by omega
        rw [this]
        rfl
      · rw [if_neg e2]
        obtain rfl : r = g.row := by omega
        exact sends_nil g

theorem sends_side {g : Gr} (ok : OkG g) (c : Int) (h1 : 0 ≤ c) (h2 : c < g.wide) : Sends g (sideD g c) (toG g g.row c) := by
  have hw := ok.w2
  have c1 := ok.c1
  have c2 := ok.c2
  have hhere : hereC g = min g.col (g.wide - 1) := rfl
  obtain ⟨q, hq⟩ : ∃ q, q = hereC g := ⟨_, rfl⟩
  rw [← hq] at hhere
  unfold sideD
  by_cases e : c = g.col
  · rw [if_pos e]
    subst e
    exact sends_nil g
  · rw [if_neg e]
    by_cases e1 : c = 0
    · rw [if_pos e1]
      refine sends_one (Ps.word_ctl 13 (by decide)) rfl ?_
      rw [e1]
      rfl
    · rw [if_neg e1, ← hq]
      by_cases e2 : c = q - 1
      · rw [if_pos e2]
        refine sends_one (Ps.word_ctl 8 (by decide)) rfl ?_
        show { g with col := max (hereC g - 1) 0 } = _
        rw [← hq]
        have : max (q - 1) 0 = c := by omega
        rw [this]
        rfl
      · rw [if_neg e2]
        by_cases e3 : c < q
        · rw [if_pos e3]
          refine sends_one (word_times (q - c) 68 (by omega) (by omega) (by decide) (by decide)) rfl ?_
          show csiG g 68 [timesV (q - c)] = _
          rw [csi68, csiN_times _ [] (by omega) (by omega), ← hq]
          have : max (q - (q - c)) 0 = c := by omega
          rw [this]
          rfl
        · rw [if_neg e3]
          refine sends_one (word_times (max (c - q) 1) 67 (by omega) (by omega) (by decide) (by decide)) rfl ?_
          show csiG g 67 [timesV (max (c - q) 1)] = _
          rw [csi67, csiN_times _ [] (by omega) (by omega)]
          have : min (g.col + max (c - q) 1) (g.wide - 1) = c := by omega
          rw [this]
          rfl

theorem ok_toG {g : Gr} (ok : OkG g) (r c : Int) (h1 : 0 ≤ r) (h2 : r < g.high) (h3 : 0 ≤ c) (h4 : c ≤ g.wide) : OkG (toG g r c) :=
  ⟨ok.w1, ok.w2, ok.h1, ok.h2, ok.size, ok.cells, h1, h2, h3, h4, ok.i1, ok.i2, ok.t1, ok.t2, ok.t3⟩

/-- The bytes of a move lead there. -/
theorem sends_moveD {g : Gr} (ok : OkG g) (r c : Int) (h1 : 0 ≤ r) (h2 : r < g.high) (h3 : 0 ≤ c) (h4 : c < g.wide) : Sends g (moveD g r c) (toG g r c) := by
  unfold moveD shorterD
  split
  · exact sends_jump ok r c h1 h2 h3 h4
  · have a := sends_upDown ok r h1 h2
    have b := sends_side (ok_toG ok r g.col h1 h2 ok.c1 ok.c2) c h3 h4
    exact a.append b

theorem len_jump (r c : Int) (h1 : 0 ≤ r) (h2 : r < 10) (h3 : 0 ≤ c) (h4 : c < 24) : (jumpD r c).length ≤ 8 := by
  have a := len_times (r + 1) (by omega) (by omega)
  have b := len_times (c + 1) (by omega) (by omega)
  unfold jumpD
  split <;> simp <;> omega
theorem len_side {g : Gr} (ok : OkG g) (c : Int) (h1 : 0 ≤ c) (h2 : c < g.wide) : (sideD g c).length ≤ 5 := by
  have hw := ok.w2
  have c1 := ok.c1
  have c2 := ok.c2
  have hhere : hereC g = min g.col (g.wide - 1) := rfl
  unfold sideD
  split
  · simp
  · split
    · simp
    · split
      · simp
      · split
        · have := len_times (hereC g - c) (by omega) (by omega)
          simp; omega
        · have := len_times (max (c - hereC g) 1) (by omega) (by omega)
          simp; omega
theorem jump_ne (r c : Int) : 0 < (jumpD r c).length := by
  unfold jumpD
  split <;> simp

theorem len_moveD {g : Gr} (ok : OkG g) (r c : Int) (h1 : 0 ≤ r) (h2 : r < g.high) (h3 : 0 ≤ c) (h4 : c < g.wide) :
    (moveD g r c).length ≤ 8 ∧ (r = g.row → (moveD g r c).length ≤ 5) ∧ (r = g.row → c = g.col → moveD g r c = []) := by
  have hw := ok.w2
  have hh := ok.h2
  have a := len_jump r c h1 (by omega) h3 (by omega)
  have b := len_side ok c h3 h4
  have u : r = g.row → upDownD g r = [] := fun e => by
    unfold upDownD
    rw [if_neg (by omega), if_neg (by omega), if_neg (by omega)]
  refine ⟨?_, ?_, ?_⟩
  · unfold moveD shorterD
    split <;> omega
  · intro e
    unfold moveD shorterD
    rw [u e]
    split <;> simp at * <;> omega
  · intro e e2
    unfold moveD shorterD
    have : sideD g c = [] := by unfold sideD; rw [if_pos e2]
    rw [u e, this]
    rfl

end Go.Proofs.YtdanlnankjgboabDoor
