/- Texts of ways: the functions that make them. -/
import Derived.Test.YtdanlnankjgboabGreatDoorDPen
import Derived.Test.YtdanlnankjgboabGreatDoorDShelf
import Derived.Lib.MinMax
namespace Go.Proofs.YtdanlnankjgboabGreatDoor
open Go.RowKit
set_option maxRecDepth 100000

/-- A text of bytes. -/
@[reducible] def bs (l : List UInt8) : ByteArray := ⟨l.toArray⟩
theorem bs_append (l m : List UInt8) : bs l ++ bs m = bs (l ++ m) := by
  apply ByteArray.ext
  simp
theorem bs_size (l : List UInt8) : (bs l).size = l.length := by simp [ByteArray.size]
theorem bs_list (l : List UInt8) : (bs l).data.toList = l := by simp
theorem ret_str {a b : ByteArray} (h : a = b) : Ending.returned (.string a) = .returned (.string b) := by rw [h]

theorem dec_same : ∀ i, i < 100 → Lib.decDigits i = Ps.dec i := by decide +kernel

theorem itoa_any (n : Int) (h1 : 0 ≤ n) (h2 : n < 100) (w : World) : Calls Tryz.prog 82 #[.int .i64 n] w fun e w' => e = .returned (.string (bs (Ps.dec n.toNat))) ∧ w' = w := by
  have h := Tryz.strconv_Itoa_small n.toNat (by omega) w
  rw [Int.toNat_of_nonneg h1, dec_same _ (by omega)] at h
  exact h

theorem times_any (n : Int) (h1 : 0 ≤ n) (h2 : n < 100) (w : World) : Calls Tryz.prog 61 #[.int .i64 n] w fun e w' => e = .returned (.string (bs (timesD n))) ∧ w' = w := by
  by_cases h : n = 1
  · subst h
    go_enter Tryz.func61, Tryz.ntmps61
    go_wp2
    go_ret
    exact ⟨rfl, rfl⟩
  · have h' : (n == 1) = false := by simpa using h
    have HT : Hid (timesD n = Ps.dec n.toNat) := by show timesD n = _; unfold timesD; rw [if_neg h]
    clear h
    go_enter Tryz.func61, Tryz.ntmps61
    go_wp2_with (go_at_call 82; refine (itoa_any _ h1 h2 _).mono ?_; rintro e w1 ⟨rfl, rfl⟩)
    go_ret
    exact ⟨ret_str (by rw [HT.out]), rfl⟩

theorem len_times2 (n : Int) (h1 : 0 ≤ n) (h2 : n < 100) : (bs (timesD n)).size ≤ 2 := by
  rw [bs_size]
  unfold timesD Ps.dec
  split
  · simp
  · split
    · simp
    · rw [if_pos (by omega)]; simp
/-- The same, the text a letter. -/
theorem times_letter (n : Int) (h1 : 0 ≤ n) (h2 : n < 100) : ∃ T : ByteArray, T.size ≤ 2 ∧ Hid (T = bs (timesD n)) ∧ Hid (∀ w, Calls Tryz.prog 61 #[.int .i64 n] w fun e w' => e = .returned (.string T) ∧ w' = w) :=
  ⟨_, len_times2 n h1 h2, rfl, fun w => times_any n h1 h2 w⟩

theorem jump_any (r c : Int) (h1 : 0 ≤ r) (h2 : r < 90) (h3 : 0 ≤ c) (h4 : c < 90) (w : World) : Calls Tryz.prog 43 #[.int .i64 r, .int .i64 c] w fun e w' => e = .returned (.string (bs (jumpD r c))) ∧ w' = w := by
  obtain ⟨T, hT, HT, HC⟩ := times_letter (r + 1) (by omega) (by omega)
  by_cases h : c = 0
  · have HJ : Hid (jumpD r c = 27 :: 91 :: (timesD (r + 1) ++ [72])) := by show jumpD r c = _; unfold jumpD; rw [if_pos h]
    have h' : (c == 0) = true := by simpa using h
    clear h
    go_enter Tryz.func43, Tryz.ntmps43
    go_wp2_with (go_at_call 61; refine (HC.out _).mono ?_; rintro e w1 ⟨rfl, rfl⟩)
    go_ret
    refine ⟨ret_str ?_, rfl⟩
    rw [HJ.out, HT.out]
    show bs [27, 91] ++ _ ++ bs [72] = _
    rw [bs_append, bs_append]
    rfl
  · obtain ⟨U, hU, HU, HD⟩ := times_letter (c + 1) (by omega) (by omega)
    have HJ : Hid (jumpD r c = 27 :: 91 :: (timesD (r + 1) ++ 59 :: (timesD (c + 1) ++ [72]))) := by show jumpD r c = _; unfold jumpD; rw [if_neg h]
    have h' : (c == 0) = false := by simpa using h
    clear h
    go_enter Tryz.func43, Tryz.ntmps43
    go_wp2_with (first
      | (go_at_call 61; refine (HC.out _).mono ?_; rintro e w1 ⟨rfl, rfl⟩)
      | (go_at_call 61; refine (HD.out _).mono ?_; rintro e w2 ⟨rfl, rfl⟩))
    go_ret
    refine ⟨ret_str ?_, rfl⟩
    rw [HJ.out, HT.out, HU.out]
    show bs [27, 91] ++ _ ++ bs [59] ++ _ ++ bs [72] = _
    rw [bs_append, bs_append, bs_append, bs_append]
    simp

set_option maxHeartbeats 1000000 in
theorem upDown_any (g : Gr) (ao : Option Addr) (cap : Nat) (r : Int) (h1 : 0 ≤ r) (h2 : r < 90) (h3 : 0 ≤ g.row) (h4 : g.row < 90) (h5 : 0 ≤ g.bottom) (h6 : g.bottom < 90) (w : World) :
    Calls Tryz.prog 41 #[gval g ao cap, .int .i64 r] w fun e w' => e = .returned (.string (bs (upDownD g r))) ∧ Below w.heap.size w w' := by
  by_cases ha : r = g.row + 1
  · by_cases hb : g.row = g.bottom - 1
    · obtain ⟨T, hT, HT, HC⟩ := times_letter (r - g.row) (by omega) (by omega)
      have HU : Hid (upDownD g r = 27 :: 91 :: (timesD (r - g.row) ++ [66])) := by show upDownD g r = _; unfold upDownD; rw [if_neg (by omega), if_pos (by omega)]
      have e1 : (r == g.row + 1) = true := by simpa using ha
      have e2 : (g.row != g.bottom - 1) = false := by simpa using hb
      have e3 : g.row < r := by omega
      clear ha hb
      go_enter Tryz.func41, Tryz.ntmps41
      go_wp2_with (go_at_call 61; refine (HC.out _).mono ?_; rintro e w1 ⟨rfl, rfl⟩)
      go_ret
      refine ⟨ret_str ?_, below1 _ _⟩
      rw [HU.out, HT.out]
      show bs [27, 91] ++ _ ++ bs [66] = _
      rw [bs_append, bs_append]
      rfl
    · have HU : Hid (upDownD g r = [10]) := by show upDownD g r = _; unfold upDownD; rw [if_pos ⟨ha, hb⟩]
      have e1 : (r == g.row + 1) = true := by simpa using ha
      have e2 : (g.row != g.bottom - 1) = true := by simpa using hb
      clear ha hb
      go_enter Tryz.func41, Tryz.ntmps41
      go_wp2
      go_ret
      exact ⟨ret_str (by rw [HU.out]), below1 _ _⟩
  · have e1 : (r == g.row + 1) = false := by simpa using ha
    by_cases hb : g.row < r
    · obtain ⟨T, hT, HT, HC⟩ := times_letter (r - g.row) (by omega) (by omega)
      have HU : Hid (upDownD g r = 27 :: 91 :: (timesD (r - g.row) ++ [66])) := by show upDownD g r = _; unfold upDownD; rw [if_neg (by omega), if_pos (by omega)]
      clear ha
      go_enter Tryz.func41, Tryz.ntmps41
      go_wp2_with (go_at_call 61; refine (HC.out _).mono ?_; rintro e w1 ⟨rfl, rfl⟩)
      go_ret
      refine ⟨ret_str ?_, below1 _ _⟩
      rw [HU.out, HT.out]
      show bs [27, 91] ++ _ ++ bs [66] = _
      rw [bs_append, bs_append]
      rfl
    · by_cases hc : r < g.row
      · obtain ⟨T, hT, HT, HC⟩ := times_letter (g.row - r) (by omega) (by omega)
        have HU : Hid (upDownD g r = 27 :: 91 :: (timesD (g.row - r) ++ [65])) := by show upDownD g r = _; unfold upDownD; rw [if_neg (by omega), if_neg (by omega), if_pos (by omega)]
        clear ha
        go_enter Tryz.func41, Tryz.ntmps41
        go_wp2_with (go_at_call 61; refine (HC.out _).mono ?_; rintro e w1 ⟨rfl, rfl⟩)
        go_ret
        refine ⟨ret_str ?_, below1 _ _⟩
        rw [HU.out, HT.out]
        show bs [27, 91] ++ _ ++ bs [65] = _
        rw [bs_append, bs_append]
        rfl
      · have HU : Hid (upDownD g r = []) := by show upDownD g r = _; unfold upDownD; rw [if_neg (by omega), if_neg (by omega), if_neg (by omega)]
        clear ha
        go_enter Tryz.func41, Tryz.ntmps41
        go_wp2
        go_ret
        exact ⟨ret_str (by rw [HU.out]), below1 _ _⟩

set_option maxHeartbeats 1000000 in
theorem side_any (g : Gr) (ao : Option Addr) (cap : Nat) (c : Int) (h1 : 0 ≤ c) (h2 : c < 90) (h3 : 0 ≤ g.col) (h4 : g.col < 90) (h5 : 1 ≤ g.wide) (h6 : g.wide < 90) (w : World) :
    Calls Tryz.prog 42 #[gval g ao cap, .int .i64 c] w fun e w' => e = .returned (.string (bs (sideD g c))) ∧ Below w.heap.size w w' := by
  obtain ⟨q, hq⟩ : ∃ q, q = hereC g := ⟨_, rfl⟩
  have hqq : q = min g.col (g.wide - 1) := hq
  have q1 : 0 ≤ q := by omega
  have q2 : q < 90 := by omega
  have hmin : min g.col (g.wide - 1) = q := hqq.symm
  clear hqq
  by_cases ha : c = g.col
  · have HU : Hid (sideD g c = []) := by show sideD g c = _; unfold sideD; rw [if_pos ha]
    have e1 : (c == g.col) = true := by simpa using ha
    clear ha hq
    go_enter Tryz.func42, Tryz.ntmps42
    go_wp2
    go_ret
    exact ⟨ret_str (by rw [HU.out]), below1 _ _⟩
  have e1 : (c == g.col) = false := by simpa using ha
  by_cases hb : c = 0
  · have HU : Hid (sideD g c = [13]) := by show sideD g c = _; unfold sideD; rw [if_neg ha, if_pos hb]
    have e2 : (c == 0) = true := by simpa using hb
    clear ha hq hb
    go_enter Tryz.func42, Tryz.ntmps42
    go_wp2
    go_ret
    exact ⟨ret_str (by rw [HU.out]), below1 _ _⟩
  have e2 : (c == 0) = false := by simpa using hb
  by_cases hc : c = q - 1
  · have HU : Hid (sideD g c = [8]) := by show sideD g c = _; unfold sideD; rw [if_neg ha, if_neg hb, ← hq, if_pos hc]
    have e3 : (c == q - 1) = true := by simpa using hc
    clear ha hq hb hc
    go_enter Tryz.func42, Tryz.ntmps42
    go_wp2
    go_ret
    exact ⟨ret_str (by rw [HU.out]), below1 _ _⟩
  have e3 : (c == q - 1) = false := by simpa using hc
  by_cases hd : c < q
  · obtain ⟨T, hT, HT, HC⟩ := times_letter (q - c) (by omega) (by omega)
    have HU : Hid (sideD g c = 27 :: 91 :: (timesD (q - c) ++ [68])) := by show sideD g c = _; unfold sideD; rw [if_neg ha, if_neg hb, ← hq, if_neg hc, if_pos hd]
    clear ha hq hb hc
    go_enter Tryz.func42, Tryz.ntmps42
    go_wp2_with (go_at_call 61; refine (HC.out _).mono ?_; rintro e w1 ⟨rfl, rfl⟩)
    go_ret
    refine ⟨ret_str ?_, below1 _ _⟩
    rw [HU.out, HT.out]
    show bs [27, 91] ++ _ ++ bs [68] = _
    rw [bs_append, bs_append]
    rfl
  · obtain ⟨m, hm⟩ : ∃ m, m = max (c - q) 1 := ⟨_, rfl⟩
    obtain ⟨T, hT, HT, HC⟩ := times_letter m (by omega) (by omega)
    have HU : Hid (sideD g c = 27 :: 91 :: (timesD m ++ [67])) := by show sideD g c = _; unfold sideD; rw [if_neg ha, if_neg hb, ← hq, if_neg hc, if_neg hd, hm]
    have hmm : max (c - q) 1 = m := hm.symm
    clear ha hq hb hc hm
    go_enter Tryz.func42, Tryz.ntmps42
    go_wp2_with (go_at_call 61; refine (HC.out _).mono ?_; rintro e w1 ⟨rfl, rfl⟩)
    go_ret
    refine ⟨ret_str ?_, below1 _ _⟩
    rw [HU.out, HT.out]
    show bs [27, 91] ++ _ ++ bs [67] = _
    rw [bs_append, bs_append]
    rfl

theorem shorter_any (a b : ByteArray) (_ha : a.size ≤ 1000) (_hb : b.size ≤ 1000) (w : World) : Calls Tryz.prog 40 #[.string a, .string b] w fun e w' => e = .returned (.string (if b.size < a.size then b else a)) ∧ w' = w := by
  by_cases h : b.size < a.size
  · have h' : (b.size : Int) < (a.size : Int) := by omega
    go_enter Tryz.func40, Tryz.ntmps40
    go_wp2
    go_ret
    exact ⟨ret_str rfl, rfl⟩
  · have h' : ¬ (b.size : Int) < (a.size : Int) := by omega
    go_enter Tryz.func40, Tryz.ntmps40
    go_wp2
    go_ret
    exact ⟨ret_str rfl, rfl⟩

end Go.Proofs.YtdanlnankjgboabGreatDoor
