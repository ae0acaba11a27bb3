/- What the verifier's own comparison of two lists of events answers where they are alike: true; it changes nothing. -/
import Derived.Test.YticjkfhhpilkmaaSame
import Derived.Test.YticjkfhhpilkmaaCells
import Derived.Deep.QuietTactic
import Derived.BigQuiet
namespace Go.Proofs.Yticjkfhhpilkmaa
open Go.RowKit

set_option maxHeartbeats 1000000 in
theorem sameEvents_eq (e1 e2 : List Item) (b1 b2 : Nat) (t1 t2 : Option Addr) (c1 c2 : Nat) (w : World) (h1 : Told b1 w t1 c1 e1) (h2 : Told b2 w t2 c2 e2) (he : e1.map (·.1) = e2.map (·.1)) (hm : e1.length ≤ 9223372036854775807) (hps : ∀ x ∈ e1, x.1.ps.length ≤ 9223372036854775807) :
    Calls Try.prog 17 #[.slice t1 e1.length c1, .slice t2 e2.length c2] w fun e w' => e = .returned (.bool true) ∧ Below w.heap.size w w' := by
  have hl : e2.length = e1.length := by have := congrArg List.length he; simpa using this.symm
  have HE : Hid (e1.map (·.1) = e2.map (·.1)) := he
  have HL : Hid (e2.length = e1.length) := hl
  have HT1 : Hid (Told b1 w t1 c1 e1) := h1
  have HT2 : Hid (Told b2 w t2 c2 e2) := h2
  have HPS : Hid (∀ x ∈ e1, x.1.ps.length ≤ 9223372036854775807) := hps
  rw [hl]
  clear h1 h2 he hl hps
  go_enter Try.func17, Try.ntmps17
  go_wp2
  go_loopw [13] (fun i wr => ∃ k : Nat, k ≤ e1.length ∧ i = .int .i64 k ∧ ∃ n, wr = w.drewN n) (fun i _ => e1.length - (intOf i).toNat)
  case atStart => exact ⟨0, Nat.zero_le _, rfl, 0, rfl⟩
  case round =>
    obtain ⟨k, hk, rfl, nn, hb⟩ := hrel
    have HB : Hid (wr = w.drewN nn) := hb
    by_cases hlt : k < e1.length
    · have hlt2 : k < e2.length := by rw [HL.out]; exact hlt
      obtain ⟨g1, rfl⟩ := told_form HT1.out (by omega)
      obtain ⟨g2, rfl⟩ := told_form HT2.out (by omega)
      have hb' : Below w.heap.size w wr := by rw [hb]; exact below_drewN (Below.refl _ _) _
      obtain ⟨p0, p1, p2, p3⟩ := cell_of_told (HT1.out.later hb') k hlt
      obtain ⟨q0, q1, q2, q3⟩ := cell_of_told (HT2.out.later hb') k hlt2
      have hev : e2[k].1 = e1[k].1 := by
        have h1 : (e1.map (·.1))[k]? = (e2.map (·.1))[k]? := by rw [HE.out]
        rw [List.getElem?_map, List.getElem?_map, List.getElem?_eq_getElem hlt, List.getElem?_eq_getElem hlt2] at h1
        exact (Option.some.inj h1).symm
      have R1 := Own.rd ((HT1.out.later hb').each e1[k] (List.getElem_mem hlt))
      have R2 := Own.rd ((HT2.out.later hb').each e2[k] (List.getElem_mem hlt2))
      rw [hev] at q0 q1 q2 q3 R2
      obtain ⟨ev, hev1⟩ : ∃ ev, ev = e1[k].1 := ⟨_, rfl⟩
      have hpl := HPS.out e1[k] (List.getElem_mem hlt)
      rw [← hev1] at p0 p1 p2 p3 q0 q1 q2 q3 R1 R2 hpl
      obtain ⟨a1, ha1⟩ : ∃ a1, a1 = e1[k].2.1 := ⟨_, rfl⟩
      obtain ⟨d1, hd1⟩ : ∃ d1, d1 = e1[k].2.2 := ⟨_, rfl⟩
      obtain ⟨a2, ha2⟩ : ∃ a2, a2 = e2[k].2.1 := ⟨_, rfl⟩
      obtain ⟨d2, hd2⟩ : ∃ d2, d2 = e2[k].2.2 := ⟨_, rfl⟩
      rw [← ha1, ← hd1] at p2
      rw [← ha2, ← hd2] at q2
      rw [← ha1] at R1
      rw [← ha2] at R2
      have HQ : Hid (∀ n, Calls Try.prog 27 #[.slice a1 ev.ps.length d1, .slice a2 ev.ps.length d2] (wr.drewN n) fun e w' => e = .returned (.bool true) ∧ ∃ m, w' = (wr.drewN n).drewN m) := fun n => sameNumbers_quiet ev.ps a1 a2 d1 d2 (wr.drewN n) (R1.below (below_drewN (Below.refl _ _) n)) (R2.below (below_drewN (Below.refl _ _) n)) hpl
      have hlt' : (k : Int) < (e1.length : Int) := by omega
      have hk0 : (0 : Int) ≤ (k : Int) := by omega
      clear hev1 ha1 hd1 ha2 hd2 R1 R2 hev hb hb' hlt2
      go_wp2
      go_quiet ((go_at_call 27; exact Calls.quiet_of (HQ.out _)))
      go_wp2
      go_roundw
      case rel => exact ⟨k + 1, by omega, by go_num, _, by rw [HB.out, World.drewN_drewN]⟩
      case measure => simp [intOf]; omega
    · clear hb
      go_wp2
      go_ret
      exact ⟨rfl, by rw [HB.out]; exact below_drewN (Below.refl _ _) _⟩

end Go.Proofs.Yticjkfhhpilkmaa
