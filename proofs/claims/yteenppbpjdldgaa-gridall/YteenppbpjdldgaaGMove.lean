/- What 'rows', 'goUp', 'goDown' and 'erase' do to a screen's list. -/
import Derived.Test.YteenppbpjdldgaaGMem
namespace Go.Proofs.Yteenppbpjdldgaa
open Go.RowKit

theorem rows_any (g : Gr) (b cap : Nat) (r s : Int) (w : World) (hr : 0 ≤ r * g.wide) (hrs : r * g.wide < s * g.wide) (hs : s * g.wide ≤ g.n) (hn : g.n ≤ 240) (hc : g.n ≤ cap) :
    Calls Try.prog 64 #[gval g (some ⟨b, 0, none⟩) cap, .int .i64 r, .int .i64 s] w fun e w' => e = .returned (.slice (some ⟨b, (r * g.wide).toNat * 4, none⟩) ((s * g.wide).toNat - (r * g.wide).toNat) (cap - (r * g.wide).toNat)) ∧ w' = w.alloc (gbox g (some ⟨b, 0, none⟩) cap) := by
  obtain ⟨p, hp⟩ : ∃ p, p = r * g.wide := ⟨_, rfl⟩
  obtain ⟨q, hq⟩ : ∃ q, q = s * g.wide := ⟨_, rfl⟩
  go_enter Try.func64, Try.ntmps64
  go_wp2
  go_ret
  exact ⟨rfl, rfl⟩

theorem Scr.at {w : World} {b n : Nat} {f : Nat → Cel} (h : Scr w b n f) (i j off : Nat) (hi : i < n) (hj : j < 4) (ho : off = i * 4 + j) : w.cell? ⟨b, off, none⟩ = cel4 (f i) j := by
  obtain ⟨cur, hc, hs, hr⟩ := h
  rw [ho, ← hr i hi j hj]
  simp [World.cell?, hc]

theorem add_at (b o j : Nat) : (⟨b, o, none⟩ : Addr).add j = ⟨b, o + j, none⟩ := by unfold Addr.add; split <;> simp_all

theorem up_eq (f : Nat → Cel) (a q k i : Nat) : clrF (layF f a q fun i => f (a + k + i)) (a + q) (a + q + k) i = upF f a (a + (q + k)) k i := by
  unfold clrF layF upF
  by_cases h1 : a ≤ i
  · by_cases h2 : i < a + q
    · rw [if_neg (by omega), if_pos (by omega), if_pos (by omega), if_pos (by omega)]
      show f (a + k + (i - a)) = f (i + k)
      congr 1
      omega
    · by_cases h3 : i < a + (q + k)
      · rw [if_pos (by omega), if_pos (by omega), if_neg (by omega)]
      · rw [if_neg (by omega), if_neg (by omega), if_neg (by omega)]
  · rw [if_neg (by omega), if_neg (by omega), if_neg (by omega)]

theorem down_eq (f : Nat → Cel) (a q k i : Nat) : clrF (layF f (a + k) q fun i => f (a + i)) a (a + k) i = downF f a (a + (q + k)) k i := by
  unfold clrF layF downF
  by_cases h1 : a ≤ i
  · by_cases h2 : i < a + k
    · rw [if_pos (by omega), if_pos (by omega), if_neg (by omega)]
    · by_cases h3 : i < a + (q + k)
      · rw [if_neg (by omega), if_pos (by omega), if_pos (by omega), if_pos (by omega)]
        show f (a + (i - (a + k))) = f (i - k)
        congr 1
        omega
      · rw [if_neg (by omega), if_neg (by omega), if_neg (by omega)]
  · rw [if_neg (by omega), if_neg (by omega), if_neg (by omega)]

theorem src_of {w : World} {b n : Nat} {f : Nat → Cel} (h : Scr w b n f) (s m off : Nat) (hs : s + m ≤ n) (ho : off = s * 4) (i : Nat) (hi : i < m) (j : Nat) (hj : j < 4) : w.cell? ((⟨b, off, none⟩ : Addr).add (i * 4 + j)) = cel4 (f (s + i)) j := by
  rw [add_at]
  exact h.at (s + i) j _ (by omega) hj (by omega)

theorem goUp_any (b n : Nat) (f : Nat → Cel) (a q c k : Nat) (w : World) (hS : Scr w b n f) (hm : a + (q + k) ≤ n) (hc : q + k ≤ c) :
    Calls Try.prog 94 #[.slice (some ⟨b, a * 4, none⟩) (q + k) c, .int .i64 k] w fun e w' => e = .returned (.tuple #[]) ∧ Scr w' b n (upF f a (a + (q + k)) k) ∧ w.grownBy w' (some b) := by
  have FIN : Hid (∀ (w1 w2 : World), w.grownBy w1 (some b) → w1.grownBy w2 (some b) → Scr w2 b n (clrF (layF f a q fun i => f (a + k + i)) (a + q) (a + q + k)) → Scr w2 b n (upF f a (a + (q + k)) k) ∧ w.grownBy w2 (some b)) := by
    intro w1 w2 g1 g2 h2
    exact ⟨h2.congr fun i _ => up_eq f a q k i, grown_trans g1 g2⟩
  by_cases hck : c = k
  · subst hck
    obtain rfl : q = 0 := by omega
    obtain ⟨w1, r1, h1, g1⟩ := run_copy4 w 3 b n f hS a c c (some ⟨b, a * 4, none⟩) (some ⟨b, a * 4, none⟩) 0 0 0 (fun i => f (a + c + i)) (by simp) (by omega) (fun h => absurd h (by omega))
    obtain ⟨w2, r2, h2, g2⟩ := run_clear4 w1 0 b n _ h1 (a + 0) c c (some ⟨b, a * 4, none⟩) (by omega) (fun _ => rfl)
    have HF : Hid (Scr w2 b n (upF f a (a + (0 + c)) c) ∧ w.grownBy w2 (some b)) := FIN.out w1 w2 g1 g2 h2
    clear h1 g1 h2 g2 FIN hS
    go_enter Try.func94, Try.ntmps94
    go_wp2
    go_end0
    exact ⟨rfl, HF.out⟩
  · obtain ⟨w1, r1, h1, g1⟩ := run_copy4 w 3 b n f hS a (q + k) c (some ⟨b, a * 4, none⟩) (some ⟨b, a * 4 + k * 4, none⟩) q (c - k) q (fun i => f (a + k + i)) (by simp) (by omega) (fun _ => ⟨rfl, _, rfl, src_of hS (a + k) q _ (by omega) (by omega)⟩)
    by_cases hcq : c = q
    · subst hcq
      obtain rfl : k = 0 := by omega
      obtain ⟨w2, r2, h2, g2⟩ := run_clear4 w1 0 b n _ h1 (a + c) 0 0 (some ⟨b, a * 4, none⟩) (by omega) (fun h => absurd h (by omega))
      have HF : Hid (Scr w2 b n (upF f a (a + (c + 0)) 0) ∧ w.grownBy w2 (some b)) := FIN.out w1 w2 g1 g2 h2
      clear h1 g1 h2 g2 FIN hS
      simp only [Nat.add_zero, Nat.zero_mul, Nat.sub_zero] at r1
      go_enter Try.func94, Try.ntmps94
      go_wp2
      go_end0
      exact ⟨rfl, HF.out⟩
    · obtain ⟨w2, r2, h2, g2⟩ := run_clear4 w1 0 b n _ h1 (a + q) k (c - q) (some ⟨b, a * 4 + q * 4, none⟩) (by omega) (fun _ => by rw [show a * 4 + q * 4 = (a + q) * 4 by omega])
      have HF : Hid (Scr w2 b n (upF f a (a + (q + k)) k) ∧ w.grownBy w2 (some b)) := FIN.out w1 w2 g1 g2 h2
      clear h1 g1 h2 g2 FIN hS
      go_enter Try.func94, Try.ntmps94
      go_wp2
      go_end0
      exact ⟨rfl, HF.out⟩

theorem goDown_any (b n : Nat) (f : Nat → Cel) (a q c k : Nat) (w : World) (hS : Scr w b n f) (hm : a + (q + k) ≤ n) (hc : q + k ≤ c) :
    Calls Try.prog 93 #[.slice (some ⟨b, a * 4, none⟩) (q + k) c, .int .i64 k] w fun e w' => e = .returned (.tuple #[]) ∧ Scr w' b n (downF f a (a + (q + k)) k) ∧ w.grownBy w' (some b) := by
  have FIN : Hid (∀ (w1 w2 : World), w.grownBy w1 (some b) → w1.grownBy w2 (some b) → Scr w2 b n (clrF (layF f (a + k) q fun i => f (a + i)) a (a + k)) → Scr w2 b n (downF f a (a + (q + k)) k) ∧ w.grownBy w2 (some b)) := by
    intro w1 w2 g1 g2 h2
    exact ⟨h2.congr fun i _ => down_eq f a q k i, grown_trans g1 g2⟩
  by_cases hck : c = k
  · subst hck
    obtain rfl : q = 0 := by omega
    obtain ⟨w1, r1, h1, g1⟩ := run_copy4 w 3 b n f hS (a + c) 0 0 (some ⟨b, a * 4, none⟩) (some ⟨b, a * 4, none⟩) c c 0 (fun i => f (a + i)) (by simp) (by omega) (fun h => absurd h (by omega))
    obtain ⟨w2, r2, h2, g2⟩ := run_clear4 w1 0 b n _ h1 a c c (some ⟨b, a * 4, none⟩) (by omega) (fun _ => rfl)
    have HF : Hid (Scr w2 b n (downF f a (a + (0 + c)) c) ∧ w.grownBy w2 (some b)) := FIN.out w1 w2 g1 g2 h2
    clear h1 g1 h2 g2 FIN hS
    go_enter Try.func93, Try.ntmps93
    go_wp2
    go_end0
    exact ⟨rfl, HF.out⟩
  · obtain ⟨w1, r1, h1, g1⟩ := run_copy4 w 3 b n f hS (a + k) q (c - k) (some ⟨b, a * 4 + k * 4, none⟩) (some ⟨b, a * 4, none⟩) (q + k) c q (fun i => f (a + i)) (by simp) (by omega) (fun _ => ⟨by rw [show a * 4 + k * 4 = (a + k) * 4 by omega], _, rfl, src_of hS a q _ (by omega) (by omega)⟩)
    obtain ⟨w2, r2, h2, g2⟩ := run_clear4 w1 0 b n _ h1 a k c (some ⟨b, a * 4, none⟩) (by omega) (fun _ => rfl)
    have HF : Hid (Scr w2 b n (downF f a (a + (q + k)) k) ∧ w.grownBy w2 (some b)) := FIN.out w1 w2 g1 g2 h2
    clear h1 g1 h2 g2 FIN hS
    go_enter Try.func93, Try.ntmps93
    go_wp2
    go_end0
    exact ⟨rfl, HF.out⟩

theorem goUp_at (b n : Nat) (f : Nat → Cel) (a m c : Nat) (k : Int) (w : World) (hS : Scr w b n f) (hm : a + m ≤ n) (hc : m ≤ c) (hk : 0 ≤ k) (hk2 : k ≤ m) :
    Calls Try.prog 94 #[.slice (some ⟨b, a * 4, none⟩) m c, .int .i64 k] w fun e w' => e = .returned (.tuple #[]) ∧ Scr w' b n (upF f a (a + m) k.toNat) ∧ w.grownBy w' (some b) := by
  obtain ⟨j, rfl⟩ : ∃ j : Nat, k = j := ⟨k.toNat, (Int.toNat_of_nonneg hk).symm⟩
  obtain ⟨q, rfl⟩ : ∃ q, m = q + j := ⟨m - j, by omega⟩
  exact goUp_any b n f a q c j w hS hm hc

theorem goDown_at (b n : Nat) (f : Nat → Cel) (a m c : Nat) (k : Int) (w : World) (hS : Scr w b n f) (hm : a + m ≤ n) (hc : m ≤ c) (hk : 0 ≤ k) (hk2 : k ≤ m) :
    Calls Try.prog 93 #[.slice (some ⟨b, a * 4, none⟩) m c, .int .i64 k] w fun e w' => e = .returned (.tuple #[]) ∧ Scr w' b n (downF f a (a + m) k.toNat) ∧ w.grownBy w' (some b) := by
  obtain ⟨j, rfl⟩ : ∃ j : Nat, k = j := ⟨k.toNat, (Int.toNat_of_nonneg hk).symm⟩
  obtain ⟨q, rfl⟩ : ∃ q, m = q + j := ⟨m - j, by omega⟩
  exact goDown_any b n f a q c j w hS hm hc

theorem erase_any (b n : Nat) (f : Nat → Cel) (a m c p : Nat) (which : Int) (w : World) (hS : Scr w b n f) (hm : a + m ≤ n) (hp : p < m) (hc : m ≤ c) (hn : n ≤ 240) :
    Calls Try.prog 91 #[.slice (some ⟨b, a * 4, none⟩) m c, .int .i64 p, .int .i64 which] w fun e w' => e = .returned (.tuple #[]) ∧ Scr w' b n (eraseF f a m p which) ∧ w.grownBy w' (some b) := by
  have hcp : ¬ c = p := by omega
  by_cases h0 : which = 0
  · subst h0
    obtain ⟨w1, r1, h1, g1⟩ := run_clear4 w 0 b n f hS (a + p) (m - p) (c - p) (some ⟨b, a * 4 + p * 4, none⟩) (by omega) (fun _ => by rw [show a * 4 + p * 4 = (a + p) * 4 by omega])
    have e : a + p + (m - p) = a + m := by omega
    rw [e] at h1
    have HF : Hid (Scr w1 b n (clrF f (a + p) (a + m)) ∧ w.grownBy w1 (some b)) := ⟨h1, g1⟩
    clear h1 g1 hS e
    go_enter Try.func91, Try.ntmps91
    go_wp2
    go_end0
    exact ⟨rfl, HF.out⟩
  by_cases h1 : which = 1
  · subst h1
    obtain ⟨w1, r1, h1, g1⟩ := run_clear4 w 0 b n f hS a (p + 1) c (some ⟨b, a * 4, none⟩) (by omega) (fun _ => rfl)
    have HF : Hid (Scr w1 b n (clrF f a (a + (p + 1))) ∧ w.grownBy w1 (some b)) := ⟨h1, g1⟩
    clear h1 g1 hS
    go_enter Try.func91, Try.ntmps91
    go_wp2
    go_end0
    exact ⟨rfl, HF.out⟩
  by_cases h2 : which = 2
  · subst h2
    obtain ⟨w1, r1, h1, g1⟩ := run_clear4 w 0 b n f hS a m c (some ⟨b, a * 4, none⟩) (by omega) (fun _ => rfl)
    have HF : Hid (Scr w1 b n (clrF f a (a + m)) ∧ w.grownBy w1 (some b)) := ⟨h1, g1⟩
    clear h1 g1 hS
    go_enter Try.func91, Try.ntmps91
    go_wp2
    go_end0
    exact ⟨rfl, HF.out⟩
  have HF : Hid (Scr w b n (eraseF f a m p which)) := by
    show Scr w b n (eraseF f a m p which)
    unfold eraseF
    rw [if_neg h0, if_neg h1, if_neg h2]
    exact hS
  have e0 : (which == 0) = false := by simp [h0]
  have e1 : (which == 1) = false := by simp [h1]
  have e2 : (which == 2) = false := by simp [h2]
  clear hS
  go_enter Try.func91, Try.ntmps91
  go_wp2
  go_end0
  exact ⟨rfl, HF.out, grown_refl _ _⟩

end Go.Proofs.Yteenppbpjdldgaa
