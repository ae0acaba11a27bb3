/- A row, and all of them: what the pen makes of a screen, and by how many bytes. -/
import Derived.Test.YtdanlnankjgboabDoorDCol
namespace Go.Proofs.YtdanlnankjgboabDoor

theorem row_nat (r : Nat) (w : Int) (h : 0 ≤ w) : ((r : Int) * w).toNat = r * w.toNat := by
  obtain ⟨n, rfl⟩ := Int.eq_ofNat_of_zero_le h
  rw [← Int.natCast_mul]
  rfl

/-! What is to be empty. -/
theorem sur_spec (h want : Nat → Cel) (n : Nat) : ∀ k, ((surD h want n k).2 = -1 ∧ (surD h want n k).1 = n ∧ ∀ j, j < k → surB (h j) (want j) = false) ∨
    (∃ A L : Nat, (surD h want n k).1 = A ∧ (surD h want n k).2 = L ∧ A ≤ L ∧ L < k ∧ ∀ j, j < k → surB (h j) (want j) = true → A ≤ j ∧ j ≤ L)
  | 0 => .inl ⟨rfl, rfl, fun j hj => by omega⟩
  | k + 1 => by
    have ih := sur_spec h want n k
    unfold surD
    cases hs : surB (h k) (want k)
    · rw [if_neg (by simp)]
      rcases ih with ⟨a, b, c⟩ | ⟨A, L, a, b, c, d, e⟩
      · refine .inl ⟨a, b, fun j hj => ?_⟩
        by_cases q : j = k
        · rw [q]; exact hs
        · exact c j (by omega)
      · refine .inr ⟨A, L, a, b, c, by omega, fun j hj hb => ?_⟩
        by_cases q : j = k
        · rw [q, hs] at hb; simp at hb
        · exact e j (by omega) hb
    · rw [if_pos rfl]
      rcases ih with ⟨a, b, c⟩ | ⟨A, L, a, b, c, d, e⟩
      · refine .inr ⟨min n k, k, ?_, rfl, by omega, by omega, fun j hj hb => ?_⟩
        · show min (surD h want n k).1 (k : Int) = _
          rw [b]
          omega
        · by_cases q : j = k
          · omega
          · rw [c j (by omega)] at hb; simp at hb
      · refine .inr ⟨A, k, ?_, rfl, by omega, by omega, fun j hj hb => ?_⟩
        · show min (surD h want n k).1 (k : Int) = _
          rw [a]
          omega
        · by_cases q : j = k
          · omega
          · have := e j (by omega) hb
            omega

theorem ok_clearG {g : Gr} (ok : OkG g) (a b : Nat) : OkG (clearG g a b) :=
  ⟨ok.w1, ok.w2, ok.h1, ok.h2, ok.size, goodC_clr (n := g.n) ok.cells, ok.r1, ok.r2, ok.c1, ok.c2, ok.i1, ok.i2, ok.t1, ok.t2, ok.t3⟩

theorem sends_eraseRight {g : Gr} (hw : 0 ≤ g.wide) (r : Nat) (c : Nat) (hr : g.row = r) (hc : g.col = c) (hcw : g.col < g.wide) : Sends g [27, 91, 75] (clearG g (r * g.wide.toNat + c) (r * g.wide.toNat + g.wide.toNat)) := by
  refine sends_one (Ps.word_csi0 75 (by decide) (by decide)) rfl ?_
  show csiG g 75 [0] = _
  rw [csi75]
  have e : eraseF g.f (g.row * g.wide).toNat g.wide.toNat (hereC g).toNat (numP [0] 0) = clrF g.f ((g.row * g.wide).toNat + (hereC g).toNat) ((g.row * g.wide).toNat + g.wide.toNat) := rfl
  have h1 : (hereC g).toNat = c := by unfold hereC; omega
  rw [e, hr, row_nat r g.wide hw, h1]
  unfold clearG
  rw [hr]
theorem sends_eraseLeft {g : Gr} (hw : 0 ≤ g.wide) (r : Nat) (c : Nat) (hr : g.row = r) (hc : g.col = c) (hcw : g.col < g.wide) : Sends g [27, 91, 49, 75] (clearG g (r * g.wide.toNat) (r * g.wide.toNat + (c + 1))) := by
  refine sends_one (Ps.word_csi [1] 75 (by simp) (by simp) (by simp) (by decide) (by decide)) rfl ?_
  show csiG g 75 [1] = _
  rw [csi75]
  have e : eraseF g.f (g.row * g.wide).toNat g.wide.toNat (hereC g).toNat (numP [1] 0) = clrF g.f (g.row * g.wide).toNat ((g.row * g.wide).toNat + (hereC g).toNat + 1) := rfl
  have h1 : (hereC g).toNat = c := by unfold hereC; omega
  rw [e, hr, row_nat r g.wide hw, h1, Nat.add_assoc]
  unfold clearG
  rw [hr]

theorem sur_no {h c : Cel} (hs : surB h c = false) (hc : celB c noCel = true) : h = noCel := by
  simp only [surB, hc, Bool.true_and, Bool.not_eq_false'] at hs
  rw [celB_iff] at hs hc
  rw [hs, hc]

/-- Behind the erasure. -/
structure Erased (p q : Pen) (r : Nat) (want : Nat → Cel) : Prop where
  adds : Adds p q 12
  still : q = p ∨ q.g.row = r
  empty : ∀ j, j < p.g.wide.toNat → celB (want j) noCel = true → q.g.f (r * p.g.wide.toNat + j) = noCel
  other : ∀ i, i < r * p.g.wide.toNat ∨ r * p.g.wide.toNat + p.g.wide.toNat ≤ i → q.g.f i = p.g.f i

theorem erased {p : Pen} (ok : OkG p.g) (r : Nat) (hr : (r : Int) < p.g.high) (want : Nat → Cel) : Erased p (eraseP p r want) r want := by
  have w1 := ok.w1
  unfold eraseP eraseAtP
  rcases sur_spec (shF p.g.f (r * p.g.wide.toNat)) want p.g.wide.toNat p.g.wide.toNat with ⟨a, b, c⟩ | ⟨A, L, a, b, c, d, e⟩
  · rw [a, if_pos (by omega)]
    exact ⟨(Adds.refl p).mono (by omega), .inl rfl, fun j hj hc => sur_no (c j hj) hc, fun _ _ => rfl⟩
  · rw [a, b, if_neg (by omega)]
    have hA : ((A : Int)).toNat = A := by omega
    have hL : ((L : Int)).toNat = L := by omega
    have hL1 : ((L : Int) + 1).toNat = L + 1 := by omega
    rw [hA, hL1]
    split
    · have k := adds_move (p := p) ok r A (by omega) hr (by omega) (by omega)
      have s := sends_eraseRight (g := (moveP p r A).g) (by show 0 ≤ p.g.wide; omega) r A rfl rfl (by show (A : Int) < p.g.wide; omega)
      refine ⟨(k.trans (b := 3) ⟨[27, 91, 75], rfl, by simp, s⟩).mono (by omega), .inr rfl, fun j hj hc => ?_, fun i hi => ?_⟩
      · show clrF p.g.f (r * p.g.wide.toNat + A) (r * p.g.wide.toNat + p.g.wide.toNat) (r * p.g.wide.toNat + j) = noCel
        unfold clrF
        split
        · rfl
        · cases hs : surB (shF p.g.f (r * p.g.wide.toNat) j) (want j)
          · exact sur_no hs hc
          · have := e j hj hs
            omega
      · show clrF p.g.f (r * p.g.wide.toNat + A) (r * p.g.wide.toNat + p.g.wide.toNat) i = p.g.f i
        unfold clrF
        rw [if_neg (by omega)]
    · have k := adds_move (p := p) ok r L (by omega) hr (by omega) (by omega)
      have s := sends_eraseLeft (g := (moveP p r L).g) (by show 0 ≤ p.g.wide; omega) r L rfl rfl (by show (L : Int) < p.g.wide; omega)
      refine ⟨(k.trans (b := 4) ⟨[27, 91, 49, 75], rfl, by simp, s⟩).mono (by omega), .inr rfl, fun j hj hc => ?_, fun i hi => ?_⟩
      · show clrF p.g.f (r * p.g.wide.toNat) (r * p.g.wide.toNat + (L + 1)) (r * p.g.wide.toNat + j) = noCel
        unfold clrF
        split
        · rfl
        · cases hs : surB (shF p.g.f (r * p.g.wide.toNat) j) (want j)
          · exact sur_no hs hc
          · have := e j hj hs
            omega
      · show clrF p.g.f (r * p.g.wide.toNat) (r * p.g.wide.toNat + (L + 1)) i = p.g.f i
        unfold clrF
        rw [if_neg (by omega)]

/-! The cells of a row. -/
/-- Behind k columns; 'pic': a picture was written. -/
structure RowInv (p q : Pen) (r : Nat) (want : Nat → Cel) (k : Nat) (pic : Bool) : Prop where
  adds : Adds p q (12 + 13 * k + if pic then 33 else 0)
  still : q = p ∨ q.g.row = r
  done : ∀ j, j < k → q.g.f (r * p.g.wide.toNat + j) = want j
  empty : ∀ j, j < p.g.wide.toNat → celB (want j) noCel = true → q.g.f (r * p.g.wide.toNat + j) = noCel
  other : ∀ i, i < r * p.g.wide.toNat ∨ r * p.g.wide.toNat + p.g.wide.toNat ≤ i → q.g.f i = p.g.f i
  pics : pic = true → ∀ j, k ≤ j → j < p.g.wide.toNat → 0 < (want j).pic → q.g.f (r * p.g.wide.toNat + j) = want j

theorem move_f (p : Pen) (r c : Int) : (moveP p r c).g.f = p.g.f := rfl

theorem row_step {p q : Pen} (ok : OkG p.g) (r : Nat) (hr : (r : Int) < p.g.high) (want : Nat → Cel) (hw : ∀ j, j < p.g.wide.toNat → goodC (want j) = true) (k : Nat) (hk : k < p.g.wide.toNat) (pic : Bool)
    (h : RowInv p q r want k pic) : ∃ pic', RowInv p (cellP q r want k) r want (k + 1) pic' := by
  obtain ⟨okq, e1, e2, e3⟩ := h.adds.ok ok
  have w1 := ok.w1
  unfold cellP
  rw [e1]
  by_cases hc : celB (q.g.f (r * p.g.wide.toNat + k)) (want k) = true
  · rw [if_pos hc]
    rw [celB_iff] at hc
    refine ⟨pic, ⟨h.adds.mono (by omega), h.still, fun j hj => ?_, h.empty, h.other, fun hp j hj => h.pics hp j (by omega)⟩⟩
    by_cases e : j = k
    · rw [e]; exact hc
    · exact h.done j (by omega)
  · rw [if_neg hc]
    have hne : q.g.f (r * p.g.wide.toNat + k) ≠ want k := fun e => hc ((celB_iff _ _).2 e)
    have okm : OkG (moveP q r k).g := ok_toG okq r k (by omega) (by omega) (by omega) (by omega)
    have hmw : (moveP q r k).g.wide = p.g.wide := e1
    have hmove : ∀ (x : Pen) (m : Nat), Adds (moveP q r k) x m → m ≤ 28 → ∀ b, 8 + m ≤ b → 12 + 13 * k + (if pic then 33 else 0) + (5 + m) ≤ b → Adds p x b := by
      intro x m hx _ b h1 h2
      rcases h.still with hs | hs
      · have a := adds_move (p := q) okq r k (by omega) (by omega) (by omega) (by omega)
        rw [hs] at a hx
        exact (a.trans hx).mono h1
      · have a := adds_move5 (p := q) okq r k (by omega) (by omega) (by omega) (by omega) hs.symm
        exact ((h.adds.trans a).trans hx).mono (by omega)
    by_cases hp : 0 < (want k).pic
    · rw [if_pos hp]
      have hpf : pic = false := by
        cases hq : pic
        · rfl
        · exact absurd (h.pics hq k (Nat.le_refl _) hk hp) hne
      subst hpf
      have hb : rowAt (moveP q r k).g = r * p.g.wide.toNat := by
        show ((r : Int) * q.g.wide).toNat = _
        rw [e1, row_nat r p.g.wide (by omega)]
      have hcol : (moveP q r k).g.col.toNat = k := by show ((k : Int)).toNat = k; omega
      have hl : leftD (moveP q r k).g = p.g.wide.toNat - k := by
        show q.g.wide.toNat - ((k : Int)).toNat = _
        rw [e1]
        omega
      have a := adds_colour (p := moveP q r k) okm (by show (k : Int) < q.g.wide; omega) want (by rw [hmw]; exact hw)
      have hf : (colourP (moveP q r k) want).g.f = colF q.g.f want (r * p.g.wide.toNat) k (p.g.wide.toNat - k) := by
        show colF q.g.f want (rowAt (moveP q r k).g) (moveP q r k).g.col.toNat (leftD (moveP q r k).g) = _
        rw [hb, hcol, hl]
      have key : ∀ j, j < p.g.wide.toNat → (colourP (moveP q r k) want).g.f (r * p.g.wide.toNat + j) = if k ≤ j ∧ lackB (q.g.f (r * p.g.wide.toNat + j)) (want j) = true then want j else q.g.f (r * p.g.wide.toNat + j) := fun j hj => by
        rw [hf]
        unfold colF
        have : r * p.g.wide.toNat + j - r * p.g.wide.toNat = j := by omega
        rw [this]
        by_cases z : k ≤ j ∧ lackB (q.g.f (r * p.g.wide.toNat + j)) (want j) = true
        · rw [if_pos z, if_pos ⟨by omega, by omega, z.2⟩]
        · rw [if_neg z, if_neg (fun y => z ⟨by omega, y.2.2⟩)]
      have pk : ∀ j, k ≤ j → j < p.g.wide.toNat → 0 < (want j).pic → (colourP (moveP q r k) want).g.f (r * p.g.wide.toNat + j) = want j := fun j hj hj2 hj3 => by
        rw [key j hj2]
        by_cases z : lackB (q.g.f (r * p.g.wide.toNat + j)) (want j) = true
        · rw [if_pos ⟨hj, z⟩]
        · rw [if_neg (fun y => z y.2)]
          simp only [lackB, Bool.and_eq_true, decide_eq_true_eq, Bool.not_eq_true', not_and, Bool.not_eq_false] at z
          exact (celB_iff _ _).1 (z hj3)
      refine ⟨true, ⟨hmove _ 28 a (by omega) _ (by simp; omega) (by simp; omega), .inr rfl, fun j hj => ?_, fun j hj hc => ?_, fun i hi => ?_, fun _ j hj => pk j (by omega)⟩⟩
      · by_cases e : j = k
        · rw [e]; exact pk k (Nat.le_refl _) hk hp
        · rw [key j (by omega), if_neg (by omega)]
          exact h.done j (by omega)
      · rw [key j hj, if_neg]
        · exact h.empty j hj hc
        · intro y
          rw [celB_iff] at hc
          have := y.2
          rw [hc] at this
          simp [lackB, noCel] at this
      · rw [hf]
        unfold colF
        rw [if_neg (by omega)]
        exact h.other i hi
    · rw [if_neg hp]
      have hn : celB (want k) noCel = false := by
        cases z : celB (want k) noCel
        · rfl
        · have := h.empty k hk z
          rw [celB_iff] at z
          exact absurd (this.trans z.symm) hne
      obtain ⟨l1, l2, l3⟩ := good_letter (hw k hk) hp hn
      obtain ⟨a, e⟩ := adds_print (p := moveP q r k) okm (want k) l3 l1 l2 (by show (k : Int) < q.g.wide; omega)
      have hidx : ((r : Int) * q.g.wide + (k : Int)).toNat = r * p.g.wide.toNat + k := by
        have := row_nat r p.g.wide (by omega)
        have h0 : 0 ≤ (r : Int) * p.g.wide := Int.mul_nonneg (by omega) (by omega)
        rw [e1]
        omega
      have hf : (printP (moveP q r k) (want k)).g.f = putF q.g.f (r * p.g.wide.toNat + k) (want k) := by
        rw [e]
        show putF q.g.f ((r : Int) * q.g.wide + (k : Int)).toNat (want k) = _
        rw [hidx]
      refine ⟨pic, ⟨hmove _ 8 a (by omega) _ (by omega) (by omega), .inr (by rw [e]; rfl), fun j hj => ?_, fun j hj hc => ?_, fun i hi => ?_, fun hpp j hj hj2 hj3 => ?_⟩⟩
      · rw [hf]
        unfold putF
        by_cases z : j = k
        · rw [if_pos (by omega), z]
        · rw [if_neg (by omega)]
          exact h.done j (by omega)
      · rw [hf]
        unfold putF
        rw [if_neg]
        · exact h.empty j hj hc
        · intro z
          have : j = k := by omega
          rw [this, hn] at hc
          simp at hc
      · rw [hf]
        unfold putF
        rw [if_neg (by omega)]
        exact h.other i hi
      · rw [hf]
        unfold putF
        rw [if_neg (by omega)]
        exact h.pics hpp j (by omega) hj2 hj3

theorem row_cells {p : Pen} (ok : OkG p.g) (r : Nat) (hr : (r : Int) < p.g.high) (want : Nat → Cel) (hw : ∀ j, j < p.g.wide.toNat → goodC (want j) = true) : ∀ k, k ≤ p.g.wide.toNat → ∃ pic, RowInv p (cellsP (eraseP p r want) r want k) r want k pic
  | 0, _ => by
    have h := erased ok r hr want
    exact ⟨false, ⟨h.adds.mono (by simp), h.still, fun j hj => by omega, h.empty, h.other, fun e => by simp at e⟩⟩
  | k + 1, hk => by
    obtain ⟨pic, h⟩ := row_cells ok r hr want hw k (by omega)
    exact row_step ok r hr want hw k (by omega) pic h

/-- Behind a row. -/
structure RowEnd (p q : Pen) (r : Nat) (want : Nat → Cel) : Prop where
  adds : Adds p q 357
  done : ∀ j, j < p.g.wide.toNat → q.g.f (r * p.g.wide.toNat + j) = want j
  other : ∀ i, i < r * p.g.wide.toNat ∨ r * p.g.wide.toNat + p.g.wide.toNat ≤ i → q.g.f i = p.g.f i

theorem row_end {p : Pen} (ok : OkG p.g) (r : Nat) (hr : (r : Int) < p.g.high) (want : Nat → Cel) (hw : ∀ j, j < p.g.wide.toNat → goodC (want j) = true) : RowEnd p (rowP p r want) r want := by
  obtain ⟨pic, h⟩ := row_cells ok r hr want hw p.g.wide.toNat (Nat.le_refl _)
  have := ok.w2
  exact ⟨h.adds.mono (by cases pic <;> simp <;> omega), h.done, h.other⟩

theorem rows_end {p : Pen} (ok : OkG p.g) (t : Gr) (okt : OkG t) (hw : t.wide = p.g.wide) (hh : t.high = p.g.high) : ∀ k : Nat, (k : Int) ≤ p.g.high → Adds p (rowsP p t k) (357 * k) ∧ ∀ i, i < k * p.g.wide.toNat → (rowsP p t k).g.f i = t.f i
  | 0, _ => ⟨Adds.refl p, fun i hi => by omega⟩
  | k + 1, hk => by
    obtain ⟨a, b⟩ := rows_end ok t okt hw hh k (by omega)
    obtain ⟨okq, e1, e2, e3⟩ := a.ok ok
    have w1 := ok.w1
    have hcell : ∀ j, j < (rowsP p t k).g.wide.toNat → goodC (shF t.f (k * t.wide.toNat) j) = true := fun j hj => by
      unfold shF
      refine okt.cells _ ?_
      have h1 : (k + 1) * t.wide.toNat ≤ t.high.toNat * t.wide.toNat := Nat.mul_le_mul_right _ (by omega)
      have h2 : t.n = t.wide.toNat * t.high.toNat := by
        have := okt.size
        have h3 := okt.w1
        have h4 := okt.h1
        obtain ⟨w, hw'⟩ := Int.eq_ofNat_of_zero_le (a := t.wide) (by omega)
        obtain ⟨h, hh'⟩ := Int.eq_ofNat_of_zero_le (a := t.high) (by omega)
        rw [hw', hh'] at this ⊢
        have q : (t.n : Int) = ((w * h : Nat) : Int) := by rw [this]; simp
        exact Int.ofNat.inj q
      rw [h2, Nat.mul_comm t.wide.toNat]
      rw [e1] at hj
      rw [Nat.succ_mul] at h1
      rw [hw] at h1 ⊢
      omega
    have c := row_end (p := rowsP p t k) okq k (by omega) (shF t.f (k * t.wide.toNat)) hcell
    refine ⟨(a.trans c.adds).mono (by omega), fun i hi => ?_⟩
    rw [Nat.succ_mul] at hi
    by_cases z : i < k * p.g.wide.toNat
    · have := c.other i (.inl (by rw [e1]; exact z))
      exact this.trans (b i z)
    · have := c.done (i - k * p.g.wide.toNat) (by rw [e1]; omega)
      rw [e1] at this
      have e : k * p.g.wide.toNat + (i - k * p.g.wide.toNat) = i := by omega
      rw [e] at this
      refine this.trans ?_
      unfold shF
      rw [hw, e]

/-- Behind all: the screen is shown. -/
structure Shown (p q : Pen) (t : Gr) : Prop where
  adds : Adds p q 3578
  cells : ∀ i, i < t.n → q.g.f i = t.f i
  row : q.g.row = t.row
  col : q.g.col = t.col

theorem size_nat {g : Gr} (ok : OkG g) : g.n = g.high.toNat * g.wide.toNat := by
  have h := ok.nums.1
  have h3 := ok.w1
  have h4 := ok.h1
  obtain ⟨w, hw'⟩ := Int.eq_ofNat_of_zero_le (a := g.wide) (by omega)
  obtain ⟨h', hh'⟩ := Int.eq_ofNat_of_zero_le (a := g.high) (by omega)
  rw [hw', hh'] at h ⊢
  have q : (g.n : Int) = ((h' * w : Nat) : Int) := by rw [h]; simp
  exact Int.ofNat.inj q

theorem shown {p : Pen} (ok : OkG p.g) (t : Gr) (okt : OkG t) (hw : t.wide = p.g.wide) (hh : t.high = p.g.high) (hc : t.col < t.wide) : Shown p (showP p t) t := by
  have h1 := okt.h1
  have h2 := okt.h2
  have r1 := okt.r1
  have r2 := okt.r2
  have c1 := okt.c1
  obtain ⟨a, b⟩ := rows_end ok t okt hw hh t.high.toNat (by omega)
  obtain ⟨okq, e1, e2, e3⟩ := a.ok ok
  have m := adds_move (p := rowsP p t t.high.toNat) okq t.row t.col r1 (by omega) c1 (by omega)
  refine ⟨(a.trans m).mono (by omega), fun i hi => ?_, rfl, rfl⟩
  show (rowsP p t t.high.toNat).g.f i = t.f i
  refine b i ?_
  rw [size_nat okt, hw] at hi
  exact hi

end Go.Proofs.YtdanlnankjgboabDoor
