/- The numbers that lead from one ink to another: the walks, a case each (laid by wip/tools/gen_nums.py). -/
import Derived.Test.YtpichplhidiokabDoorDNums
import Derived.Test.YtpichplhidiokabDoorDPures
namespace Go.Proofs.YtpichplhidiokabDoor
open Go.RowKit
set_option maxRecDepth 100000

set_option maxHeartbeats 2000000 in
theorem nums_TF0 (wide high : Int) (n : Nat) (f : Nat → Cel) (row col top bottom ch pic : Int) (ink : Int) (ao : Option Addr) (cap : Nat)  (w : World) :
    Calls Tryd.prog 38 #[gval ⟨wide, high, n, f, row, col, ink, true, top, bottom⟩ ao cap, cval ⟨ch, 0, pic, false⟩] w fun e w' => e = .returned (.string (bs (Lib.join [[]] [59]))) ∧ Below w.heap.size w w' := by
  have HS0 : Hid (InkS w ((w.alloc (gbox ⟨wide, high, n, f, row, col, ink, true, top, bottom⟩ ao cap)).alloc (.cells (ccells ⟨ch, 0, pic, false⟩) 33)) (gcells ⟨wide, high, n, f, row, col, ink, true, top, bottom⟩ ao cap) (ccells ⟨ch, 0, pic, false⟩) none 0 []) := ink_start w _ _
  go_enter Tryd.func38, Tryd.ntmps38
  go_wp2_with (first
    | (have _t := HS0; at_builtin; refine wpList_append_ink rfl _ _ rfl none 0 0 [] rfl (⟨#[]⟩) HS0.out (by omega) _ (by simp) rfl rfl ?_; intro b1 q1 w1 HS1; have HZ : Hid (InkS w ((w1.setCell ⟨w.heap.size, 5, none⟩ (.int .i64 0)).setCell ⟨w.heap.size, 6, none⟩ (.bool false)) (gcells ⟨wide, high, n, f, row, col, 0, false, top, bottom⟩ ao cap) (ccells ⟨ch, 0, pic, false⟩) (some ⟨b1, 0, none⟩) q1 ([] ++ [⟨#[]⟩])) := (HS1.out.set 5 (.int .i64 0)).set 6 (.bool false); obtain ⟨⟨x00, x01, x02, x03, x04, x05, x06, x07, x08⟩, y0⟩ := nine HS1.out.gb; obtain ⟨⟨z00, z01, z02, z03⟩, v0⟩ := four HS1.out.cb; clear HS0)
    | (go_at_call 43; refine (join_ink HZ.out (by simp) [[]] (by simp) (by simp [Lib.join_cons, Lib.joinTail])).mono ?_; rintro e wj ⟨rfl, hbj⟩)
    | go_in)
  go_ret
  exact ⟨rfl, hbj⟩

set_option maxHeartbeats 2000000 in
theorem nums_TF1 (wide high : Int) (n : Nat) (f : Nat → Cel) (row col top bottom ch pic : Int) (ink : Int) (cink : Int) (ao : Option Addr) (cap : Nat) (h1 : 1 ≤ cink) (h2 : cink ≤ 8) (w : World) :
    Calls Tryd.prog 38 #[gval ⟨wide, high, n, f, row, col, ink, true, top, bottom⟩ ao cap, cval ⟨ch, cink, pic, false⟩] w fun e w' => e = .returned (.string (bs (Lib.join [[], Ps.dec (29 + cink).toNat] [59]))) ∧ Below w.heap.size w w' := by
  have e1 : (cink != 0) = true := by simp; omega
  have HIT : Hid (∀ w, Calls Tryd.prog 28 #[.int .i64 (29 + cink)] w fun e w' => e = .returned (.string (bs (Ps.dec (29 + cink).toNat))) ∧ w' = w) := fun w => itoa_any (29 + cink) (by omega) (by omega) w
  have HLN : Hid ((Ps.dec (29 + cink).toNat).length ≤ 2) := by show (Ps.dec (29 + cink).toNat).length ≤ 2; rw [len_ink cink (by omega) (by omega)]; exact Nat.le_refl _
  have HS0 : Hid (InkS w ((w.alloc (gbox ⟨wide, high, n, f, row, col, ink, true, top, bottom⟩ ao cap)).alloc (.cells (ccells ⟨ch, cink, pic, false⟩) 33)) (gcells ⟨wide, high, n, f, row, col, ink, true, top, bottom⟩ ao cap) (ccells ⟨ch, cink, pic, false⟩) none 0 []) := ink_start w _ _
  go_enter Tryd.func38, Tryd.ntmps38
  go_wp2_with (first
    | (have _t := HZ; at_builtin; refine wpList_append_ink rfl _ _ rfl (some ⟨b1, 0, none⟩) q1 1 ([] ++ [⟨#[]⟩]) rfl (bs (Ps.dec (29 + cink).toNat)) HZ.out (by omega) _ (by simp) rfl rfl ?_; intro b2 q2 w2 HS2; obtain ⟨⟨x10, x11, x12, x13, x14, x15, x16, x17, x18⟩, y1⟩ := nine HS2.out.gb; obtain ⟨⟨z10, z11, z12, z13⟩, v1⟩ := four HS2.out.cb; clear HZ)
    | (have _t := HS0; at_builtin; refine wpList_append_ink rfl _ _ rfl none 0 0 [] rfl (⟨#[]⟩) HS0.out (by omega) _ (by simp) rfl rfl ?_; intro b1 q1 w1 HS1; have HZ : Hid (InkS w ((w1.setCell ⟨w.heap.size, 5, none⟩ (.int .i64 0)).setCell ⟨w.heap.size, 6, none⟩ (.bool false)) (gcells ⟨wide, high, n, f, row, col, 0, false, top, bottom⟩ ao cap) (ccells ⟨ch, cink, pic, false⟩) (some ⟨b1, 0, none⟩) q1 ([] ++ [⟨#[]⟩])) := (HS1.out.set 5 (.int .i64 0)).set 6 (.bool false); obtain ⟨⟨x00, x01, x02, x03, x04, x05, x06, x07, x08⟩, y0⟩ := nine HS1.out.gb; obtain ⟨⟨z00, z01, z02, z03⟩, v0⟩ := four HS1.out.cb; clear HS0)
    | (go_at_call 28; refine (HIT.out _).mono ?_; rintro e w9 ⟨rfl, hw9⟩; subst hw9)
    | (go_at_call 43; refine (join_ink HS2.out (by simp) [[], Ps.dec (29 + cink).toNat] (by simp) (by have := HLN.out; simp [Lib.join_cons, Lib.joinTail]; omega)).mono ?_; rintro e wj ⟨rfl, hbj⟩)
    | go_in)
  go_ret
  exact ⟨rfl, hbj⟩

set_option maxHeartbeats 2000000 in
theorem nums_FF0 (wide high : Int) (n : Nat) (f : Nat → Cel) (row col top bottom ch pic : Int) (ink : Int) (ao : Option Addr) (cap : Nat) (hi : 0 < ink) (w : World) :
    Calls Tryd.prog 38 #[gval ⟨wide, high, n, f, row, col, ink, false, top, bottom⟩ ao cap, cval ⟨ch, 0, pic, false⟩] w fun e w' => e = .returned (.string (bs (Lib.join [[]] [59]))) ∧ Below w.heap.size w w' := by
  have HS0 : Hid (InkS w ((w.alloc (gbox ⟨wide, high, n, f, row, col, ink, false, top, bottom⟩ ao cap)).alloc (.cells (ccells ⟨ch, 0, pic, false⟩) 33)) (gcells ⟨wide, high, n, f, row, col, ink, false, top, bottom⟩ ao cap) (ccells ⟨ch, 0, pic, false⟩) none 0 []) := ink_start w _ _
  go_enter Tryd.func38, Tryd.ntmps38
  go_wp2_with (first
    | (have _t := HS0; at_builtin; refine wpList_append_ink rfl _ _ rfl none 0 0 [] rfl (⟨#[]⟩) HS0.out (by omega) _ (by simp) rfl rfl ?_; intro b1 q1 w1 HS1; have HZ : Hid (InkS w ((w1.setCell ⟨w.heap.size, 5, none⟩ (.int .i64 0)).setCell ⟨w.heap.size, 6, none⟩ (.bool false)) (gcells ⟨wide, high, n, f, row, col, 0, false, top, bottom⟩ ao cap) (ccells ⟨ch, 0, pic, false⟩) (some ⟨b1, 0, none⟩) q1 ([] ++ [⟨#[]⟩])) := (HS1.out.set 5 (.int .i64 0)).set 6 (.bool false); obtain ⟨⟨x00, x01, x02, x03, x04, x05, x06, x07, x08⟩, y0⟩ := nine HS1.out.gb; obtain ⟨⟨z00, z01, z02, z03⟩, v0⟩ := four HS1.out.cb; clear HS0)
    | (go_at_call 43; refine (join_ink HZ.out (by simp) [[]] (by simp) (by simp [Lib.join_cons, Lib.joinTail])).mono ?_; rintro e wj ⟨rfl, hbj⟩)
    | go_in)
  go_ret
  exact ⟨rfl, hbj⟩

set_option maxHeartbeats 2000000 in
theorem nums_FFi (wide high : Int) (n : Nat) (f : Nat → Cel) (row col top bottom ch pic : Int) (ink : Int) (cink : Int) (ao : Option Addr) (cap : Nat) (h1 : 1 ≤ cink) (h2 : cink ≤ 8) (hi : 0 < ink) (hne : cink ≠ ink) (w : World) :
    Calls Tryd.prog 38 #[gval ⟨wide, high, n, f, row, col, ink, false, top, bottom⟩ ao cap, cval ⟨ch, cink, pic, false⟩] w fun e w' => e = .returned (.string (bs (Lib.join [Ps.dec (29 + cink).toNat] [59]))) ∧ Below w.heap.size w w' := by
  have e1 : (cink == 0) = false := by simp; omega
  have e2 : (cink != ink) = true := by simpa using hne
  have HIT : Hid (∀ w, Calls Tryd.prog 28 #[.int .i64 (29 + cink)] w fun e w' => e = .returned (.string (bs (Ps.dec (29 + cink).toNat))) ∧ w' = w) := fun w => itoa_any (29 + cink) (by omega) (by omega) w
  have HLN : Hid ((Ps.dec (29 + cink).toNat).length ≤ 2) := by show (Ps.dec (29 + cink).toNat).length ≤ 2; rw [len_ink cink (by omega) (by omega)]; exact Nat.le_refl _
  have HS0 : Hid (InkS w ((w.alloc (gbox ⟨wide, high, n, f, row, col, ink, false, top, bottom⟩ ao cap)).alloc (.cells (ccells ⟨ch, cink, pic, false⟩) 33)) (gcells ⟨wide, high, n, f, row, col, ink, false, top, bottom⟩ ao cap) (ccells ⟨ch, cink, pic, false⟩) none 0 []) := ink_start w _ _
  go_enter Tryd.func38, Tryd.ntmps38
  go_wp2_with (first
    | (have _t := HS0; at_builtin; refine wpList_append_ink rfl _ _ rfl none 0 0 [] rfl (bs (Ps.dec (29 + cink).toNat)) HS0.out (by omega) _ (by simp) rfl rfl ?_; intro b1 q1 w1 HS1; obtain ⟨⟨x00, x01, x02, x03, x04, x05, x06, x07, x08⟩, y0⟩ := nine HS1.out.gb; obtain ⟨⟨z00, z01, z02, z03⟩, v0⟩ := four HS1.out.cb; clear HS0)
    | (go_at_call 28; refine (HIT.out _).mono ?_; rintro e w9 ⟨rfl, hw9⟩; subst hw9)
    | (go_at_call 43; refine (join_ink HS1.out (by simp) [Ps.dec (29 + cink).toNat] (by simp) (by have := HLN.out; simp [Lib.join_cons, Lib.joinTail]; omega)).mono ?_; rintro e wj ⟨rfl, hbj⟩)
    | go_in)
  go_ret
  exact ⟨rfl, hbj⟩

set_option maxHeartbeats 2000000 in
theorem nums_FFz (wide high : Int) (n : Nat) (f : Nat → Cel) (row col top bottom ch pic : Int) (cink : Int) (ao : Option Addr) (cap : Nat) (h1 : 1 ≤ cink) (h2 : cink ≤ 8) (w : World) :
    Calls Tryd.prog 38 #[gval ⟨wide, high, n, f, row, col, 0, false, top, bottom⟩ ao cap, cval ⟨ch, cink, pic, false⟩] w fun e w' => e = .returned (.string (bs (Lib.join [Ps.dec (29 + cink).toNat] [59]))) ∧ Below w.heap.size w w' := by
  have e1 : (cink != 0) = true := by simp; omega
  have HIT : Hid (∀ w, Calls Tryd.prog 28 #[.int .i64 (29 + cink)] w fun e w' => e = .returned (.string (bs (Ps.dec (29 + cink).toNat))) ∧ w' = w) := fun w => itoa_any (29 + cink) (by omega) (by omega) w
  have HLN : Hid ((Ps.dec (29 + cink).toNat).length ≤ 2) := by show (Ps.dec (29 + cink).toNat).length ≤ 2; rw [len_ink cink (by omega) (by omega)]; exact Nat.le_refl _
  have HS0 : Hid (InkS w ((w.alloc (gbox ⟨wide, high, n, f, row, col, 0, false, top, bottom⟩ ao cap)).alloc (.cells (ccells ⟨ch, cink, pic, false⟩) 33)) (gcells ⟨wide, high, n, f, row, col, 0, false, top, bottom⟩ ao cap) (ccells ⟨ch, cink, pic, false⟩) none 0 []) := ink_start w _ _
  go_enter Tryd.func38, Tryd.ntmps38
  go_wp2_with (first
    | (have _t := HS0; at_builtin; refine wpList_append_ink rfl _ _ rfl none 0 0 [] rfl (bs (Ps.dec (29 + cink).toNat)) HS0.out (by omega) _ (by simp) rfl rfl ?_; intro b1 q1 w1 HS1; obtain ⟨⟨x00, x01, x02, x03, x04, x05, x06, x07, x08⟩, y0⟩ := nine HS1.out.gb; obtain ⟨⟨z00, z01, z02, z03⟩, v0⟩ := four HS1.out.cb; clear HS0)
    | (go_at_call 28; refine (HIT.out _).mono ?_; rintro e w9 ⟨rfl, hw9⟩; subst hw9)
    | (go_at_call 43; refine (join_ink HS1.out (by simp) [Ps.dec (29 + cink).toNat] (by simp) (by have := HLN.out; simp [Lib.join_cons, Lib.joinTail]; omega)).mono ?_; rintro e wj ⟨rfl, hbj⟩)
    | go_in)
  go_ret
  exact ⟨rfl, hbj⟩

set_option maxHeartbeats 2000000 in
theorem nums_TT0 (wide high : Int) (n : Nat) (f : Nat → Cel) (row col top bottom ch pic : Int) (ink : Int) (ao : Option Addr) (cap : Nat) (hi : 0 < ink) (w : World) :
    Calls Tryd.prog 38 #[gval ⟨wide, high, n, f, row, col, ink, true, top, bottom⟩ ao cap, cval ⟨ch, 0, pic, true⟩] w fun e w' => e = .returned (.string (bs (Lib.join [[], [49]] [59]))) ∧ Below w.heap.size w w' := by
  have HS0 : Hid (InkS w ((w.alloc (gbox ⟨wide, high, n, f, row, col, ink, true, top, bottom⟩ ao cap)).alloc (.cells (ccells ⟨ch, 0, pic, true⟩) 33)) (gcells ⟨wide, high, n, f, row, col, ink, true, top, bottom⟩ ao cap) (ccells ⟨ch, 0, pic, true⟩) none 0 []) := ink_start w _ _
  go_enter Tryd.func38, Tryd.ntmps38
  go_wp2_with (first
    | (have _t := HZ; at_builtin; refine wpList_append_ink rfl _ _ rfl (some ⟨b1, 0, none⟩) q1 1 ([] ++ [⟨#[]⟩]) rfl (⟨#[49]⟩) HZ.out (by omega) _ (by simp) rfl rfl ?_; intro b2 q2 w2 HS2; obtain ⟨⟨x10, x11, x12, x13, x14, x15, x16, x17, x18⟩, y1⟩ := nine HS2.out.gb; obtain ⟨⟨z10, z11, z12, z13⟩, v1⟩ := four HS2.out.cb; clear HZ)
    | (have _t := HS0; at_builtin; refine wpList_append_ink rfl _ _ rfl none 0 0 [] rfl (⟨#[]⟩) HS0.out (by omega) _ (by simp) rfl rfl ?_; intro b1 q1 w1 HS1; have HZ : Hid (InkS w ((w1.setCell ⟨w.heap.size, 5, none⟩ (.int .i64 0)).setCell ⟨w.heap.size, 6, none⟩ (.bool false)) (gcells ⟨wide, high, n, f, row, col, 0, false, top, bottom⟩ ao cap) (ccells ⟨ch, 0, pic, true⟩) (some ⟨b1, 0, none⟩) q1 ([] ++ [⟨#[]⟩])) := (HS1.out.set 5 (.int .i64 0)).set 6 (.bool false); obtain ⟨⟨x00, x01, x02, x03, x04, x05, x06, x07, x08⟩, y0⟩ := nine HS1.out.gb; obtain ⟨⟨z00, z01, z02, z03⟩, v0⟩ := four HS1.out.cb; clear HS0)
    | (go_at_call 43; refine (join_ink HS2.out (by simp) [[], [49]] (by simp) (by simp [Lib.join_cons, Lib.joinTail])).mono ?_; rintro e wj ⟨rfl, hbj⟩)
    | go_in)
  go_ret
  exact ⟨rfl, hbj⟩

set_option maxHeartbeats 2000000 in
theorem nums_TTi (wide high : Int) (n : Nat) (f : Nat → Cel) (row col top bottom ch pic : Int) (ink : Int) (cink : Int) (ao : Option Addr) (cap : Nat) (h1 : 1 ≤ cink) (h2 : cink ≤ 8) (hi : 0 < ink) (hne : cink ≠ ink) (w : World) :
    Calls Tryd.prog 38 #[gval ⟨wide, high, n, f, row, col, ink, true, top, bottom⟩ ao cap, cval ⟨ch, cink, pic, true⟩] w fun e w' => e = .returned (.string (bs (Lib.join [Ps.dec (29 + cink).toNat] [59]))) ∧ Below w.heap.size w w' := by
  have e1 : (cink == 0) = false := by simp; omega
  have e2 : (cink != ink) = true := by simpa using hne
  have HIT : Hid (∀ w, Calls Tryd.prog 28 #[.int .i64 (29 + cink)] w fun e w' => e = .returned (.string (bs (Ps.dec (29 + cink).toNat))) ∧ w' = w) := fun w => itoa_any (29 + cink) (by omega) (by omega) w
  have HLN : Hid ((Ps.dec (29 + cink).toNat).length ≤ 2) := by show (Ps.dec (29 + cink).toNat).length ≤ 2; rw [len_ink cink (by omega) (by omega)]; exact Nat.le_refl _
  have HS0 : Hid (InkS w ((w.alloc (gbox ⟨wide, high, n, f, row, col, ink, true, top, bottom⟩ ao cap)).alloc (.cells (ccells ⟨ch, cink, pic, true⟩) 33)) (gcells ⟨wide, high, n, f, row, col, ink, true, top, bottom⟩ ao cap) (ccells ⟨ch, cink, pic, true⟩) none 0 []) := ink_start w _ _
  go_enter Tryd.func38, Tryd.ntmps38
  go_wp2_with (first
    | (have _t := HS0; at_builtin; refine wpList_append_ink rfl _ _ rfl none 0 0 [] rfl (bs (Ps.dec (29 + cink).toNat)) HS0.out (by omega) _ (by simp) rfl rfl ?_; intro b1 q1 w1 HS1; obtain ⟨⟨x00, x01, x02, x03, x04, x05, x06, x07, x08⟩, y0⟩ := nine HS1.out.gb; obtain ⟨⟨z00, z01, z02, z03⟩, v0⟩ := four HS1.out.cb; clear HS0)
    | (go_at_call 28; refine (HIT.out _).mono ?_; rintro e w9 ⟨rfl, hw9⟩; subst hw9)
    | (go_at_call 43; refine (join_ink HS1.out (by simp) [Ps.dec (29 + cink).toNat] (by simp) (by have := HLN.out; simp [Lib.join_cons, Lib.joinTail]; omega)).mono ?_; rintro e wj ⟨rfl, hbj⟩)
    | go_in)
  go_ret
  exact ⟨rfl, hbj⟩

set_option maxHeartbeats 2000000 in
theorem nums_TTz (wide high : Int) (n : Nat) (f : Nat → Cel) (row col top bottom ch pic : Int) (cink : Int) (ao : Option Addr) (cap : Nat) (h1 : 1 ≤ cink) (h2 : cink ≤ 8) (w : World) :
    Calls Tryd.prog 38 #[gval ⟨wide, high, n, f, row, col, 0, true, top, bottom⟩ ao cap, cval ⟨ch, cink, pic, true⟩] w fun e w' => e = .returned (.string (bs (Lib.join [Ps.dec (29 + cink).toNat] [59]))) ∧ Below w.heap.size w w' := by
  have e1 : (cink != 0) = true := by simp; omega
  have HIT : Hid (∀ w, Calls Tryd.prog 28 #[.int .i64 (29 + cink)] w fun e w' => e = .returned (.string (bs (Ps.dec (29 + cink).toNat))) ∧ w' = w) := fun w => itoa_any (29 + cink) (by omega) (by omega) w
  have HLN : Hid ((Ps.dec (29 + cink).toNat).length ≤ 2) := by show (Ps.dec (29 + cink).toNat).length ≤ 2; rw [len_ink cink (by omega) (by omega)]; exact Nat.le_refl _
  have HS0 : Hid (InkS w ((w.alloc (gbox ⟨wide, high, n, f, row, col, 0, true, top, bottom⟩ ao cap)).alloc (.cells (ccells ⟨ch, cink, pic, true⟩) 33)) (gcells ⟨wide, high, n, f, row, col, 0, true, top, bottom⟩ ao cap) (ccells ⟨ch, cink, pic, true⟩) none 0 []) := ink_start w _ _
  go_enter Tryd.func38, Tryd.ntmps38
  go_wp2_with (first
    | (have _t := HS0; at_builtin; refine wpList_append_ink rfl _ _ rfl none 0 0 [] rfl (bs (Ps.dec (29 + cink).toNat)) HS0.out (by omega) _ (by simp) rfl rfl ?_; intro b1 q1 w1 HS1; obtain ⟨⟨x00, x01, x02, x03, x04, x05, x06, x07, x08⟩, y0⟩ := nine HS1.out.gb; obtain ⟨⟨z00, z01, z02, z03⟩, v0⟩ := four HS1.out.cb; clear HS0)
    | (go_at_call 28; refine (HIT.out _).mono ?_; rintro e w9 ⟨rfl, hw9⟩; subst hw9)
    | (go_at_call 43; refine (join_ink HS1.out (by simp) [Ps.dec (29 + cink).toNat] (by simp) (by have := HLN.out; simp [Lib.join_cons, Lib.joinTail]; omega)).mono ?_; rintro e wj ⟨rfl, hbj⟩)
    | go_in)
  go_ret
  exact ⟨rfl, hbj⟩

set_option maxHeartbeats 2000000 in
theorem nums_FT0 (wide high : Int) (n : Nat) (f : Nat → Cel) (row col top bottom ch pic : Int) (ink : Int) (ao : Option Addr) (cap : Nat) (hi : 0 < ink) (w : World) :
    Calls Tryd.prog 38 #[gval ⟨wide, high, n, f, row, col, ink, false, top, bottom⟩ ao cap, cval ⟨ch, 0, pic, true⟩] w fun e w' => e = .returned (.string (bs (Lib.join [[], [49]] [59]))) ∧ Below w.heap.size w w' := by
  have HS0 : Hid (InkS w ((w.alloc (gbox ⟨wide, high, n, f, row, col, ink, false, top, bottom⟩ ao cap)).alloc (.cells (ccells ⟨ch, 0, pic, true⟩) 33)) (gcells ⟨wide, high, n, f, row, col, ink, false, top, bottom⟩ ao cap) (ccells ⟨ch, 0, pic, true⟩) none 0 []) := ink_start w _ _
  go_enter Tryd.func38, Tryd.ntmps38
  go_wp2_with (first
    | (have _t := HZ; at_builtin; refine wpList_append_ink rfl _ _ rfl (some ⟨b1, 0, none⟩) q1 1 ([] ++ [⟨#[]⟩]) rfl (⟨#[49]⟩) HZ.out (by omega) _ (by simp) rfl rfl ?_; intro b2 q2 w2 HS2; obtain ⟨⟨x10, x11, x12, x13, x14, x15, x16, x17, x18⟩, y1⟩ := nine HS2.out.gb; obtain ⟨⟨z10, z11, z12, z13⟩, v1⟩ := four HS2.out.cb; clear HZ)
    | (have _t := HS0; at_builtin; refine wpList_append_ink rfl _ _ rfl none 0 0 [] rfl (⟨#[]⟩) HS0.out (by omega) _ (by simp) rfl rfl ?_; intro b1 q1 w1 HS1; have HZ : Hid (InkS w ((w1.setCell ⟨w.heap.size, 5, none⟩ (.int .i64 0)).setCell ⟨w.heap.size, 6, none⟩ (.bool false)) (gcells ⟨wide, high, n, f, row, col, 0, false, top, bottom⟩ ao cap) (ccells ⟨ch, 0, pic, true⟩) (some ⟨b1, 0, none⟩) q1 ([] ++ [⟨#[]⟩])) := (HS1.out.set 5 (.int .i64 0)).set 6 (.bool false); obtain ⟨⟨x00, x01, x02, x03, x04, x05, x06, x07, x08⟩, y0⟩ := nine HS1.out.gb; obtain ⟨⟨z00, z01, z02, z03⟩, v0⟩ := four HS1.out.cb; clear HS0)
    | (go_at_call 43; refine (join_ink HS2.out (by simp) [[], [49]] (by simp) (by simp [Lib.join_cons, Lib.joinTail])).mono ?_; rintro e wj ⟨rfl, hbj⟩)
    | go_in)
  go_ret
  exact ⟨rfl, hbj⟩

set_option maxHeartbeats 2000000 in
theorem nums_FTs (wide high : Int) (n : Nat) (f : Nat → Cel) (row col top bottom ch pic : Int) (ink : Int) (ao : Option Addr) (cap : Nat) (hi : 0 < ink) (w : World) :
    Calls Tryd.prog 38 #[gval ⟨wide, high, n, f, row, col, ink, false, top, bottom⟩ ao cap, cval ⟨ch, ink, pic, true⟩] w fun e w' => e = .returned (.string (bs (Lib.join [[49]] [59]))) ∧ Below w.heap.size w w' := by
  have e1 : (ink == 0) = false := by simp; omega
  have HS0 : Hid (InkS w ((w.alloc (gbox ⟨wide, high, n, f, row, col, ink, false, top, bottom⟩ ao cap)).alloc (.cells (ccells ⟨ch, ink, pic, true⟩) 33)) (gcells ⟨wide, high, n, f, row, col, ink, false, top, bottom⟩ ao cap) (ccells ⟨ch, ink, pic, true⟩) none 0 []) := ink_start w _ _
  go_enter Tryd.func38, Tryd.ntmps38
  go_wp2_with (first
    | (have _t := HS0; at_builtin; refine wpList_append_ink rfl _ _ rfl none 0 0 [] rfl (⟨#[49]⟩) HS0.out (by omega) _ (by simp) rfl rfl ?_; intro b1 q1 w1 HS1; obtain ⟨⟨x00, x01, x02, x03, x04, x05, x06, x07, x08⟩, y0⟩ := nine HS1.out.gb; obtain ⟨⟨z00, z01, z02, z03⟩, v0⟩ := four HS1.out.cb; clear HS0)
    | (go_at_call 43; refine (join_ink HS1.out (by simp) [[49]] (by simp) (by simp [Lib.join_cons, Lib.joinTail])).mono ?_; rintro e wj ⟨rfl, hbj⟩)
    | go_in)
  go_ret
  exact ⟨rfl, hbj⟩

set_option maxHeartbeats 2000000 in
theorem nums_FTt (wide high : Int) (n : Nat) (f : Nat → Cel) (row col top bottom ch pic : Int) (ao : Option Addr) (cap : Nat)  (w : World) :
    Calls Tryd.prog 38 #[gval ⟨wide, high, n, f, row, col, 0, false, top, bottom⟩ ao cap, cval ⟨ch, 0, pic, true⟩] w fun e w' => e = .returned (.string (bs (Lib.join [[49]] [59]))) ∧ Below w.heap.size w w' := by
  have HS0 : Hid (InkS w ((w.alloc (gbox ⟨wide, high, n, f, row, col, 0, false, top, bottom⟩ ao cap)).alloc (.cells (ccells ⟨ch, 0, pic, true⟩) 33)) (gcells ⟨wide, high, n, f, row, col, 0, false, top, bottom⟩ ao cap) (ccells ⟨ch, 0, pic, true⟩) none 0 []) := ink_start w _ _
  go_enter Tryd.func38, Tryd.ntmps38
  go_wp2_with (first
    | (have _t := HS0; at_builtin; refine wpList_append_ink rfl _ _ rfl none 0 0 [] rfl (⟨#[49]⟩) HS0.out (by omega) _ (by simp) rfl rfl ?_; intro b1 q1 w1 HS1; obtain ⟨⟨x00, x01, x02, x03, x04, x05, x06, x07, x08⟩, y0⟩ := nine HS1.out.gb; obtain ⟨⟨z00, z01, z02, z03⟩, v0⟩ := four HS1.out.cb; clear HS0)
    | (go_at_call 43; refine (join_ink HS1.out (by simp) [[49]] (by simp) (by simp [Lib.join_cons, Lib.joinTail])).mono ?_; rintro e wj ⟨rfl, hbj⟩)
    | go_in)
  go_ret
  exact ⟨rfl, hbj⟩

set_option maxHeartbeats 2000000 in
theorem nums_FTi (wide high : Int) (n : Nat) (f : Nat → Cel) (row col top bottom ch pic : Int) (ink : Int) (cink : Int) (ao : Option Addr) (cap : Nat) (h1 : 1 ≤ cink) (h2 : cink ≤ 8) (hi : 0 < ink) (hne : cink ≠ ink) (w : World) :
    Calls Tryd.prog 38 #[gval ⟨wide, high, n, f, row, col, ink, false, top, bottom⟩ ao cap, cval ⟨ch, cink, pic, true⟩] w fun e w' => e = .returned (.string (bs (Lib.join [[49], Ps.dec (29 + cink).toNat] [59]))) ∧ Below w.heap.size w w' := by
  have e1 : (cink == 0) = false := by simp; omega
  have e2 : (cink != ink) = true := by simpa using hne
  have HIT : Hid (∀ w, Calls Tryd.prog 28 #[.int .i64 (29 + cink)] w fun e w' => e = .returned (.string (bs (Ps.dec (29 + cink).toNat))) ∧ w' = w) := fun w => itoa_any (29 + cink) (by omega) (by omega) w
  have HLN : Hid ((Ps.dec (29 + cink).toNat).length ≤ 2) := by show (Ps.dec (29 + cink).toNat).length ≤ 2; rw [len_ink cink (by omega) (by omega)]; exact Nat.le_refl _
  have HS0 : Hid (InkS w ((w.alloc (gbox ⟨wide, high, n, f, row, col, ink, false, top, bottom⟩ ao cap)).alloc (.cells (ccells ⟨ch, cink, pic, true⟩) 33)) (gcells ⟨wide, high, n, f, row, col, ink, false, top, bottom⟩ ao cap) (ccells ⟨ch, cink, pic, true⟩) none 0 []) := ink_start w _ _
  go_enter Tryd.func38, Tryd.ntmps38
  go_wp2_with (first
    | (have _t := HS1; at_builtin; refine wpList_append_ink rfl _ _ rfl (some ⟨b1, 0, none⟩) q1 1 ([] ++ [⟨#[49]⟩]) rfl (bs (Ps.dec (29 + cink).toNat)) HS1.out (by omega) _ (by simp) rfl rfl ?_; intro b2 q2 w2 HS2; obtain ⟨⟨x10, x11, x12, x13, x14, x15, x16, x17, x18⟩, y1⟩ := nine HS2.out.gb; obtain ⟨⟨z10, z11, z12, z13⟩, v1⟩ := four HS2.out.cb; clear HS1)
    | (have _t := HS0; at_builtin; refine wpList_append_ink rfl _ _ rfl none 0 0 [] rfl (⟨#[49]⟩) HS0.out (by omega) _ (by simp) rfl rfl ?_; intro b1 q1 w1 HS1; obtain ⟨⟨x00, x01, x02, x03, x04, x05, x06, x07, x08⟩, y0⟩ := nine HS1.out.gb; obtain ⟨⟨z00, z01, z02, z03⟩, v0⟩ := four HS1.out.cb; clear HS0)
    | (go_at_call 28; refine (HIT.out _).mono ?_; rintro e w9 ⟨rfl, hw9⟩; subst hw9)
    | (go_at_call 43; refine (join_ink HS2.out (by simp) [[49], Ps.dec (29 + cink).toNat] (by simp) (by have := HLN.out; simp [Lib.join_cons, Lib.joinTail]; omega)).mono ?_; rintro e wj ⟨rfl, hbj⟩)
    | go_in)
  go_ret
  exact ⟨rfl, hbj⟩

set_option maxHeartbeats 2000000 in
theorem nums_FTz (wide high : Int) (n : Nat) (f : Nat → Cel) (row col top bottom ch pic : Int) (cink : Int) (ao : Option Addr) (cap : Nat) (h1 : 1 ≤ cink) (h2 : cink ≤ 8) (w : World) :
    Calls Tryd.prog 38 #[gval ⟨wide, high, n, f, row, col, 0, false, top, bottom⟩ ao cap, cval ⟨ch, cink, pic, true⟩] w fun e w' => e = .returned (.string (bs (Lib.join [[49], Ps.dec (29 + cink).toNat] [59]))) ∧ Below w.heap.size w w' := by
  have e1 : (cink != 0) = true := by simp; omega
  have HIT : Hid (∀ w, Calls Tryd.prog 28 #[.int .i64 (29 + cink)] w fun e w' => e = .returned (.string (bs (Ps.dec (29 + cink).toNat))) ∧ w' = w) := fun w => itoa_any (29 + cink) (by omega) (by omega) w
  have HLN : Hid ((Ps.dec (29 + cink).toNat).length ≤ 2) := by show (Ps.dec (29 + cink).toNat).length ≤ 2; rw [len_ink cink (by omega) (by omega)]; exact Nat.le_refl _
  have HS0 : Hid (InkS w ((w.alloc (gbox ⟨wide, high, n, f, row, col, 0, false, top, bottom⟩ ao cap)).alloc (.cells (ccells ⟨ch, cink, pic, true⟩) 33)) (gcells ⟨wide, high, n, f, row, col, 0, false, top, bottom⟩ ao cap) (ccells ⟨ch, cink, pic, true⟩) none 0 []) := ink_start w _ _
  go_enter Tryd.func38, Tryd.ntmps38
  go_wp2_with (first
    | (have _t := HS1; at_builtin; refine wpList_append_ink rfl _ _ rfl (some ⟨b1, 0, none⟩) q1 1 ([] ++ [⟨#[49]⟩]) rfl (bs (Ps.dec (29 + cink).toNat)) HS1.out (by omega) _ (by simp) rfl rfl ?_; intro b2 q2 w2 HS2; obtain ⟨⟨x10, x11, x12, x13, x14, x15, x16, x17, x18⟩, y1⟩ := nine HS2.out.gb; obtain ⟨⟨z10, z11, z12, z13⟩, v1⟩ := four HS2.out.cb; clear HS1)
    | (have _t := HS0; at_builtin; refine wpList_append_ink rfl _ _ rfl none 0 0 [] rfl (⟨#[49]⟩) HS0.out (by omega) _ (by simp) rfl rfl ?_; intro b1 q1 w1 HS1; obtain ⟨⟨x00, x01, x02, x03, x04, x05, x06, x07, x08⟩, y0⟩ := nine HS1.out.gb; obtain ⟨⟨z00, z01, z02, z03⟩, v0⟩ := four HS1.out.cb; clear HS0)
    | (go_at_call 28; refine (HIT.out _).mono ?_; rintro e w9 ⟨rfl, hw9⟩; subst hw9)
    | (go_at_call 43; refine (join_ink HS2.out (by simp) [[49], Ps.dec (29 + cink).toNat] (by simp) (by have := HLN.out; simp [Lib.join_cons, Lib.joinTail]; omega)).mono ?_; rintro e wj ⟨rfl, hbj⟩)
    | go_in)
  go_ret
  exact ⟨rfl, hbj⟩

end Go.Proofs.YtpichplhidiokabDoor
