/- The numbers that lead from one ink to another: all cases; the pen takes an ink. -/
import Derived.Test.YtpichplhidiokabDoorDNums2
import Derived.Test.YtpichplhidiokabDoorDMove
import Derived.Deep.QuietTactic
import Derived.BigQuiet
namespace Go.Proofs.YtpichplhidiokabDoor
open Go.RowKit
set_option maxRecDepth 100000

theorem inkNumbers_any (g : Gr) (ao : Option Addr) (cap : Nat) (c : Cel) (hg : 0 ≤ g.ink ∧ g.ink ≤ 8) (hc : 0 ≤ c.ink ∧ c.ink ≤ 8) (hs : sameInk g c = false) (w : World) :
    Calls Tryd.prog 38 #[gval g ao cap, cval c] w fun e w' => e = .returned (.string (bs (inkNumsD g c))) ∧ Below w.heap.size w w' := by
  obtain ⟨wide, high, n, f, row, col, ink, bold, top, bottom⟩ := g
  obtain ⟨ch, cink, pic, cbold⟩ := c
  simp only at hg hc
  unfold inkNumsD
  by_cases h0 : cink = 0
  · subst h0
    by_cases hi : 0 < ink
    · have hn : ¬ (0 : Int) = ink := by omega
      cases bold <;> cases cbold
      · have R : inksD ⟨wide, high, n, f, row, col, ink, false, top, bottom⟩ ⟨ch, 0, pic, false⟩ = [[]] := by simp [inksD, goneD, hi]
        rw [R]; exact nums_FF0 wide high n f row col top bottom ch pic ink ao cap hi w
      · have R : inksD ⟨wide, high, n, f, row, col, ink, false, top, bottom⟩ ⟨ch, 0, pic, true⟩ = [[], [49]] := by simp [inksD, goneD, hi]
        rw [R]; exact nums_FT0 wide high n f row col top bottom ch pic ink ao cap hi w
      · have R : inksD ⟨wide, high, n, f, row, col, ink, true, top, bottom⟩ ⟨ch, 0, pic, false⟩ = [[]] := by simp [inksD, goneD]
        rw [R]; exact nums_TF0 wide high n f row col top bottom ch pic ink ao cap w
      · have R : inksD ⟨wide, high, n, f, row, col, ink, true, top, bottom⟩ ⟨ch, 0, pic, true⟩ = [[], [49]] := by simp [inksD, goneD, hi]
        rw [R]; exact nums_TT0 wide high n f row col top bottom ch pic ink ao cap hi w
    · obtain rfl : ink = 0 := by omega
      cases bold <;> cases cbold
      · simp [sameInk] at hs
      · have R : inksD ⟨wide, high, n, f, row, col, 0, false, top, bottom⟩ ⟨ch, 0, pic, true⟩ = [[49]] := by simp [inksD, goneD]
        rw [R]; exact nums_FTt wide high n f row col top bottom ch pic ao cap w
      · have R : inksD ⟨wide, high, n, f, row, col, 0, true, top, bottom⟩ ⟨ch, 0, pic, false⟩ = [[]] := by simp [inksD, goneD]
        rw [R]; exact nums_TF0 wide high n f row col top bottom ch pic 0 ao cap w
      · simp [sameInk] at hs
  · have h1 : 1 ≤ cink := by omega
    by_cases hi : 0 < ink
    · by_cases he : cink = ink
      · subst he
        cases bold <;> cases cbold
        · simp [sameInk] at hs
        · have R : inksD ⟨wide, high, n, f, row, col, cink, false, top, bottom⟩ ⟨ch, cink, pic, true⟩ = [[49]] := by simp [inksD, goneD, h0]
          rw [R]; exact nums_FTs wide high n f row col top bottom ch pic cink ao cap hi w
        · have R : inksD ⟨wide, high, n, f, row, col, cink, true, top, bottom⟩ ⟨ch, cink, pic, false⟩ = [[], Ps.dec (29 + cink).toNat] := by simp [inksD, goneD, h0]
          rw [R]; exact nums_TF1 wide high n f row col top bottom ch pic cink cink ao cap h1 hc.2 w
        · simp [sameInk] at hs
      · cases bold <;> cases cbold
        · have R : inksD ⟨wide, high, n, f, row, col, ink, false, top, bottom⟩ ⟨ch, cink, pic, false⟩ = [Ps.dec (29 + cink).toNat] := by simp [inksD, goneD, h0, he]
          rw [R]; exact nums_FFi wide high n f row col top bottom ch pic ink cink ao cap h1 hc.2 hi he w
        · have R : inksD ⟨wide, high, n, f, row, col, ink, false, top, bottom⟩ ⟨ch, cink, pic, true⟩ = [[49], Ps.dec (29 + cink).toNat] := by simp [inksD, goneD, h0, he]
          rw [R]; exact nums_FTi wide high n f row col top bottom ch pic ink cink ao cap h1 hc.2 hi he w
        · have R : inksD ⟨wide, high, n, f, row, col, ink, true, top, bottom⟩ ⟨ch, cink, pic, false⟩ = [[], Ps.dec (29 + cink).toNat] := by simp [inksD, goneD, h0]
          rw [R]; exact nums_TF1 wide high n f row col top bottom ch pic ink cink ao cap h1 hc.2 w
        · have R : inksD ⟨wide, high, n, f, row, col, ink, true, top, bottom⟩ ⟨ch, cink, pic, true⟩ = [Ps.dec (29 + cink).toNat] := by simp [inksD, goneD, h0, he]
          rw [R]; exact nums_TTi wide high n f row col top bottom ch pic ink cink ao cap h1 hc.2 hi he w
    · obtain rfl : ink = 0 := by omega
      cases bold <;> cases cbold
      · have R : inksD ⟨wide, high, n, f, row, col, 0, false, top, bottom⟩ ⟨ch, cink, pic, false⟩ = [Ps.dec (29 + cink).toNat] := by simp [inksD, goneD, h0]
        rw [R]; exact nums_FFz wide high n f row col top bottom ch pic cink ao cap h1 hc.2 w
      · have R : inksD ⟨wide, high, n, f, row, col, 0, false, top, bottom⟩ ⟨ch, cink, pic, true⟩ = [[49], Ps.dec (29 + cink).toNat] := by simp [inksD, goneD, h0]
        rw [R]; exact nums_FTz wide high n f row col top bottom ch pic cink ao cap h1 hc.2 w
      · have R : inksD ⟨wide, high, n, f, row, col, 0, true, top, bottom⟩ ⟨ch, cink, pic, false⟩ = [[], Ps.dec (29 + cink).toNat] := by simp [inksD, goneD, h0]
        rw [R]; exact nums_TF1 wide high n f row col top bottom ch pic 0 cink ao cap h1 hc.2 w
      · have R : inksD ⟨wide, high, n, f, row, col, 0, true, top, bottom⟩ ⟨ch, cink, pic, true⟩ = [Ps.dec (29 + cink).toNat] := by simp [inksD, goneD, h0]
        rw [R]; exact nums_TTz wide high n f row col top bottom ch pic cink ao cap h1 hc.2 w

@[reducible] def cbox (c : Cel) : Obj := .cells (ccells c) 33

set_option maxHeartbeats 2000000 in
theorem ink_same (pb b cap : Nat) (oo : Option Addr) (oc : Nat) (p : Pen) (c : Cel) (hs : sameInk p.g c = true) (w : World) (h : PenIn w pb b cap oo oc p) :
    Calls Tryd.prog 32 #[.pointer (some ⟨pb, 0, none⟩), cval c] w fun e w' => e = .returned (.tuple #[]) ∧ PenTo w pb b cap oo (inkP p c) w' := by
  have HE : Hid (∀ n, PenTo w pb b cap oo (inkP p c) ((w.alloc (cbox c)).drewN n)) := fun n => by
    unfold inkP
    rw [if_pos hs]
    exact h.stay (below_drewN (below1 w _) n)
  simp only [sameInk, Bool.and_eq_true, decide_eq_true_eq, beq_iff_eq] at hs
  have e1 : (p.g.ink == c.ink) = true := by simpa using hs.1
  have e2 : (p.g.bold == c.bold) = true := by simpa using hs.2
  obtain ⟨⟨c0, c1, c2, c3, c4, c5, c6, c7, c8, c9⟩, cf⟩ := ten h.box
  have hlt := h.lt
  clear h hs
  go_enter Tryd.func32, Tryd.ntmps32
  go_wp2_with fail
  go_quiet (fail)
  go_wp2
  exact bodyPost_ret (v := .tuple #[]) (by simp [results, Tryd.results32, go_sem]) rfl ⟨rfl, HE.out _⟩

set_option maxHeartbeats 2000000 in
theorem ink_other (pb b cap : Nat) (oo : Option Addr) (oc : Nat) (p : Pen) (ok : OkG p.g) (c : Cel) (hc : 0 ≤ c.ink ∧ c.ink ≤ 8) (hs : sameInk p.g c = false) (hl : p.out.length ≤ 1000000) (w : World) (h : PenIn w pb b cap oo oc p) :
    Calls Tryd.prog 32 #[.pointer (some ⟨pb, 0, none⟩), cval c] w fun e w' => e = .returned (.tuple #[]) ∧ PenTo w pb b cap oo (inkP p c) w' := by
  obtain ⟨T, hT, HT⟩ : ∃ T : ByteArray, T.size ≤ 4 ∧ Hid (T = bs (inkNumsD p.g c)) := ⟨_, by
    obtain ⟨x, l, k⟩ := ink_texts ⟨ok.i1, ok.i2⟩ c hc hs
    rw [bs_size]
    exact k.short, rfl⟩
  have HN : Hid (∀ w, Calls Tryd.prog 38 #[gval p.g (some ⟨b, 0, none⟩) cap, cval c] w fun e w' => e = .returned (.string T) ∧ Below w.heap.size w w') := fun w => by rw [HT.out]; exact inkNumbers_any p.g _ _ c ⟨ok.i1, ok.i2⟩ hc hs w
  have HWR : Hid (∀ w1, Below w.heap.size w w1 → Calls Tryd.prog 27 #[.pointer (some ⟨pb, 0, none⟩), .string (⟨#[27, 91]⟩ ++ T ++ ⟨#[109]⟩)] w1 fun e w' => e = .returned (.tuple #[]) ∧ PenTo w pb b cap oo ⟨p.out ++ 27 :: 91 :: (inkNumsD p.g c ++ [109]), p.g⟩ w' ∧ ∀ k, w.heap.size ≤ k → k < w1.heap.size → w'.heap[k]? = w1.heap[k]?) := fun w1 hb => write_at h hb _ (by simp only [ByteArray.size_append]; show p.out.length + (2 + T.size + 1) ≤ _; omega) _ (by rw [HT.out]; simp)
  have HE : Hid (∀ w5, PenTo w pb b cap oo ⟨p.out ++ 27 :: 91 :: (inkNumsD p.g c ++ [109]), p.g⟩ w5 → PenTo w pb b cap oo (inkP p c) ((w5.setCell ⟨pb, 6, none⟩ (.int .i64 c.ink)).setCell ⟨pb, 7, none⟩ (.bool c.bold))) := fun w5 h5 => by
    unfold inkP
    rw [if_neg (by rw [hs]; simp)]
    exact h5.set2 6 7 _ _ rfl rfl (fun _ _ => rfl)
  have e1 : ¬ 9223372036854775807 < 2 + T.size := by omega
  have e2 : ¬ 9223372036854775807 < 2 + T.size + 1 := by omega
  have HBX : Hid (∀ w1, Below w.heap.size w w1 → w1.heap[pb]? = some (pbox p.out.length oo oc p.g b cap)) := fun w1 hb => below_block hb h.box h.lt
  obtain ⟨⟨c0, c1, c2, c3, c4, c5, c6, c7, c8, c9⟩, cf⟩ := ten h.box
  have hlt := h.lt
  clear h HT ok hl
  have HC0 : Hid (∀ nq w1, Below ((w.alloc (cbox c)).drewN nq).heap.size ((w.alloc (cbox c)).drewN nq) w1 → Below w.heap.size w w1 ∧ w.heap.size < w1.heap.size ∧ w1.heap[w.heap.size]? = some (cbox c)) := fun nq w1 hb => by
    have hb0 : Below (w.alloc (cbox c)).heap.size (w.alloc (cbox c)) w1 := ⟨hb.os, hb.tape, hb.output, hb.size, hb.block⟩
    have := hb0.size
    simp at this
    exact ⟨below_up hb0, by omega, below_block hb0 (at_new w _) (by simp)⟩
  have hor : (p.g.ink == c.ink) = true ∧ (p.g.bold == c.bold) = false ∨ (p.g.ink == c.ink) = false := by
    by_cases hi : p.g.ink = c.ink
    · exact .inl ⟨by simpa using hi, by simpa [sameInk, hi] using hs⟩
    · exact .inr (by simpa using hi)
  clear hs
  rcases hor with ⟨f1, f2⟩ | f1
  all_goals (
    go_enter Tryd.func32, Tryd.ntmps32
    go_wp2_with fail
    go_quiet (fail)
    go_wp2_with fail
    obtain ⟨hw0, hw1, hw2⟩ := HC0.out nq _ (Below.refl _ _)
    have HC1 : Hid (∀ w1, Below ((w.alloc (cbox c)).drewN nq).heap.size ((w.alloc (cbox c)).drewN nq) w1 → Below w.heap.size w w1 ∧ w.heap.size < w1.heap.size ∧ w1.heap[w.heap.size]? = some (cbox c)) := HC0.out nq
    clear HC0 c0 c1 c2 c3 c4 c5 c6 c7 c8 c9 cf
    obtain ⟨⟨c0, c1, c2, c3, c4, c5, c6, c7, c8, c9⟩, cf⟩ := ten (HBX.out _ hw0)
    obtain ⟨⟨z0, z1, z2, z3⟩, zf⟩ := four hw2
    generalize (w.alloc (cbox c)).drewN nq = W at *
    clear hw0 hw1 hw2
    go_region_held3 (fun w' => w'.cell? ⟨pb, 1, none⟩ = some (.int .i64 p.g.wide) ∧ w'.cell? ⟨pb, 2, none⟩ = some (.int .i64 p.g.high) ∧ w'.cell? ⟨pb, 3, none⟩ = some (.slice (some ⟨b, 0, none⟩) p.g.n cap) ∧ w'.cell? ⟨pb, 4, none⟩ = some (.int .i64 p.g.row) ∧ w'.cell? ⟨pb, 5, none⟩ = some (.int .i64 p.g.col) ∧ w'.cell? ⟨pb, 6, none⟩ = some (.int .i64 p.g.ink) ∧ w'.cell? ⟨pb, 7, none⟩ = some (.bool p.g.bold) ∧ w'.cell? ⟨pb, 8, none⟩ = some (.int .i64 p.g.top) ∧ w'.cell? ⟨pb, 9, none⟩ = some (.int .i64 p.g.bottom) ∧ w'.cell? ⟨w.heap.size, 0, none⟩ = some (.int .i64 c.ch) ∧ w'.cell? ⟨w.heap.size, 1, none⟩ = some (.int .i64 c.ink) ∧ w'.cell? ⟨w.heap.size, 2, none⟩ = some (.int .i64 c.pic) ∧ w'.cell? ⟨w.heap.size, 3, none⟩ = some (.bool c.bold)) (first | go_keep | (simp [*]))
      (first
      | (go_at_call 38; refine (HN.out _).mono ?_; rintro e w1 ⟨rfl, hb1⟩; obtain ⟨k1, k2, k3⟩ := HC1.out w1 (undrew hb1); have HB1 : Hid (Below w.heap.size w w1 ∧ w.heap.size < w1.heap.size ∧ w1.heap[w.heap.size]? = some (cbox c)) := ⟨k1, k2, k3⟩; clear hb1 k2 c0 c1 c2 c3 c4 c5 c6 c7 c8 c9 cf z0 z1 z2 z3 zf; obtain ⟨⟨c0, c1, c2, c3, c4, c5, c6, c7, c8, c9⟩, cf⟩ := ten (HBX.out w1 k1); obtain ⟨⟨z0, z1, z2, z3⟩, zf⟩ := four k3; clear k1 k3)
      | (go_at_call 27; refine (HWR.out _ HB1.out.1).mono ?_; rintro e w5 ⟨rfl, hk5, hx0⟩; have hx5 := (hx0 _ (Nat.le_refl _) HB1.out.2.1).trans HB1.out.2.2; clear hx0; have HP5 : Hid (PenTo w pb b cap oo ⟨p.out ++ 27 :: 91 :: (inkNumsD p.g c ++ [109]), p.g⟩ w5) := hk5; clear c0 c1 c2 c3 c4 c5 c6 c7 c8 c9 cf z0 z1 z2 z3 zf; obtain ⟨o5, q5, hp5, _⟩ := hk5; obtain ⟨⟨c0, c1, c2, c3, c4, c5, c6, c7, c8, c9⟩, cf⟩ := ten hp5.box; obtain ⟨⟨z0, z1, z2, z3⟩, zf⟩ := four hx5; clear hp5 hx5))
    have HE5 : Hid (PenTo w pb b cap oo (inkP p c) ((w5.setCell ⟨pb, 6, none⟩ (.int .i64 c.ink)).setCell ⟨pb, 7, none⟩ (.bool c.bold))) := HE.out w5 HP5.out
    clear HE HP5 HWR HN HC1 HBX HB1
    have hne : w.heap.size ≠ pb := by omega
    have hne2 : pb ≠ w.heap.size := by omega
    go_wp2_with fail
    go_region
    go_end0
    exact ⟨rfl, HE5.out.drew⟩)

/-- The pen takes an ink. -/
theorem ink_pen (pb b cap : Nat) (oo : Option Addr) (oc : Nat) (p : Pen) (ok : OkG p.g) (c : Cel) (hc : 0 ≤ c.ink ∧ c.ink ≤ 8) (hl : p.out.length ≤ 1000000) (w : World) (h : PenIn w pb b cap oo oc p) :
    Calls Tryd.prog 32 #[.pointer (some ⟨pb, 0, none⟩), cval c] w fun e w' => e = .returned (.tuple #[]) ∧ PenTo w pb b cap oo (inkP p c) w' := by
  cases hs : sameInk p.g c
  · exact ink_other pb b cap oo oc p ok c hc hs hl w h
  · exact ink_same pb b cap oo oc p c hs w h

end Go.Proofs.YtpichplhidiokabDoor
