/- What the comparisons of the document's own answer say where two are alike: true; and 'reads' beside them. -/
import Derived.Test.YticjkfhhpilkmaaReads
import Derived.Test.YticjkfhhpilkmaaSameEv
namespace Go.Proofs.Yticjkfhhpilkmaa
open Go.RowKit

set_option maxHeartbeats 400000 in
theorem ref_sameNumbers_quiet (l : List Int) (a1 a2 : Option Addr) (c1 c2 : Nat) (w : World) (h1 : Rd w a1 l) (h2 : Rd w a2 l) (hm : l.length ≤ 9223372036854775807) :
    Calls Try.prog 23 #[.slice a1 l.length c1, .slice a2 l.length c2] w fun e w' => e = .returned (.bool true) ∧ ∃ n, w' = w.drewN n := by
  by_cases hl : l = []
  · subst hl
    go_enter Try.func23, Try.ntmps23
    go_wp2
    go_loop [13] (fun i => i = .int .i64 0) (fun _ => 0)
    case atStart => rfl
    case round =>
      subst hrel
      go_wp2
      go_ret
      exact ⟨rfl, 0, rfl⟩
  · rcases h1 with h | ⟨b1, o1, rfl, k1⟩
    · exact absurd h hl
    rcases h2 with h | ⟨b2, o2, rfl, k2⟩
    · exact absurd h hl
    have H1 : Hid (∀ j, j < l.length → w.cell? ⟨b1, o1 + j, none⟩ = some (.int .i64 (l.getD j 0))) := k1
    have H2 : Hid (∀ j, j < l.length → w.cell? ⟨b2, o2 + j, none⟩ = some (.int .i64 (l.getD j 0))) := k2
    clear k1 k2 hl
    go_enter Try.func23, Try.ntmps23
    go_wp2
    go_loopw [13] (fun i wr => ∃ k : Nat, k ≤ l.length ∧ i = .int .i64 k ∧ ∃ n, wr = w.drewN n) (fun i _ => l.length - (intOf i).toNat)
    case atStart => exact ⟨0, Nat.zero_le _, rfl, 0, rfl⟩
    case round =>
      obtain ⟨k, hk, rfl, nn, hb⟩ := hrel
      by_cases hlt : k < l.length
      · have d1 : wr.cell? ⟨b1, o1 + k, none⟩ = some (.int .i64 (l.getD k 0)) := by rw [hb]; exact H1.out k hlt
        have d2 : wr.cell? ⟨b2, o2 + k, none⟩ = some (.int .i64 (l.getD k 0)) := by rw [hb]; exact H2.out k hlt
        obtain ⟨x, hx⟩ : ∃ x, x = l.getD k 0 := ⟨_, rfl⟩
        rw [← hx] at d1 d2
        have HB : Hid (wr = w.drewN nn) := hb
        have hlt' : (k : Int) < (l.length : Int) := by omega
        have hk0 : (0 : Int) ≤ (k : Int) := by omega
        clear hx hb
        go_wp2
        go_region
        go_wp2
        go_roundw
        case rel => exact ⟨k + 1, by omega, by go_num, nn + 1, by rw [HB.out]; rfl⟩
        case measure => simp [intOf]; omega
      · have HB : Hid (wr = w.drewN nn) := hb
        clear hb
        go_wp2
        go_ret
        exact ⟨rfl, nn, HB.out⟩

theorem ref_sameNumbers_eq (l : List Int) (a1 a2 : Option Addr) (c1 c2 : Nat) (w : World) (h1 : Rd w a1 l) (h2 : Rd w a2 l) (hm : l.length ≤ 9223372036854775807) :
    Calls Try.prog 23 #[.slice a1 l.length c1, .slice a2 l.length c2] w fun e w' => e = .returned (.bool true) ∧ Below w.heap.size w w' := by
  refine (ref_sameNumbers_quiet l a1 a2 c1 c2 w h1 h2 hm).mono ?_
  rintro e w' ⟨rfl, n, rfl⟩
  exact ⟨rfl, below_drewN (Below.refl _ _) n⟩

set_option maxHeartbeats 400000 in
theorem ref_sameParser_eq (s : PS) (a1 a2 : Option Addr) (c1 c2 : Nat) (w : World) (h1 : Rd w a1 s.ps) (h2 : Rd w a2 s.ps) (hm : s.ps.length ≤ 9223372036854775807) :
    Calls Try.prog 10 #[.agg #[.int .i64 s.place, .slice a1 s.ps.length c1, .string s.pl, .bool s.lg], .agg #[.int .i64 s.place, .slice a2 s.ps.length c2, .string s.pl, .bool s.lg]] w fun e w' => e = .returned (.bool true) ∧ Below w.heap.size w w' := by
  have H1 : Hid (Rd w a1 s.ps) := h1
  have H2 : Hid (Rd w a2 s.ps) := h2
  clear h1 h2
  go_enter Try.func10, Try.ntmps10
  go_wp2_with fail
  refine (ref_sameNumbers_eq s.ps a1 a2 c1 c2 _ (H1.out.below (((Below.refl _ _).alloc (Nat.le_refl _) _).alloc (by simp) _)) (H2.out.below (((Below.refl _ _).alloc (Nat.le_refl _) _).alloc (by simp) _)) hm).mono ?_
  rintro e w1 ⟨rfl, hb⟩
  obtain ⟨a0, a1', a2', a3, f0, f1, f2, f3⟩ := four (below_block hb (at_old (at_new w _) _) (by simp; omega))
  obtain ⟨e0, e1, e2, e3, g0, g1, g2, g3⟩ := four (below_block hb (at_new1 w _ _) (by simp))
  have HB : Hid (Below w.heap.size w w1) := (((Below.refl _ _).alloc (Nat.le_refl _) _).alloc (by simp) _).trans (hb.mono (by simp; omega))
  clear hb
  go_wp2
  go_ret
  refine ⟨ret_bool ?_, HB.out⟩
  simp

set_option maxHeartbeats 1000000 in
theorem ref_sameEvents_eq (e1 e2 : List Item) (b1 b2 : Nat) (t1 t2 : Option Addr) (c1 c2 : Nat) (w : World) (h1 : Told b1 w t1 c1 e1) (h2 : Told b2 w t2 c2 e2) (he : e1.map (·.1) = e2.map (·.1)) (hm : e1.length ≤ 9223372036854775807) (hps : ∀ x ∈ e1, x.1.ps.length ≤ 9223372036854775807) :
    Calls Try.prog 11 #[.slice t1 e1.length c1, .slice t2 e2.length c2] w fun e w' => e = .returned (.bool true) ∧ Below w.heap.size w w' := by
  have hl : e2.length = e1.length := by have := congrArg List.length he; simpa using this.symm
  have HE : Hid (e1.map (·.1) = e2.map (·.1)) := he
  have HL : Hid (e2.length = e1.length) := hl
  have HT1 : Hid (Told b1 w t1 c1 e1) := h1
  have HT2 : Hid (Told b2 w t2 c2 e2) := h2
  have HPS : Hid (∀ x ∈ e1, x.1.ps.length ≤ 9223372036854775807) := hps
  rw [hl]
  clear h1 h2 he hl hps
  go_enter Try.func11, Try.ntmps11
  go_wp2
  go_loopw [13] (fun i wr => ∃ k : Nat, k ≤ e1.length ∧ i = .int .i64 k ∧ ∃ n, wr = w.drewN n) (fun i _ => e1.length - (intOf i).toNat)
  case atStart => exact ⟨0, Nat.zero_le _, rfl, 0, rfl⟩
  case round =>
    obtain ⟨k, hk, rfl, nn, hb⟩ := hrel
    have HB : Hid (wr = w.drewN nn) := hb
    by_cases hlt : k < e1.length
    · have hlt2 : k < e2.length := by rw [HL.out]; exact hlt
      obtain ⟨g1, rfl⟩ := told_form HT1.out (by omega)
      obtain ⟨g2, rfl⟩ := told_form HT2.out (by omega)
      have hb' : Below w.heap.size w wr := by rw [hb]; exact below_drewN (Below.refl _ _) _
      obtain ⟨p0, p1, p2, p3⟩ := cell_of_told (HT1.out.later hb') k hlt
      obtain ⟨q0, q1, q2, q3⟩ := cell_of_told (HT2.out.later hb') k hlt2
      have hev : e2[k].1 = e1[k].1 := by
        have h1 : (e1.map (·.1))[k]? = (e2.map (·.1))[k]? := by rw [HE.out]
        rw [List.getElem?_map, List.getElem?_map, List.getElem?_eq_getElem hlt, List.getElem?_eq_getElem hlt2] at h1
        exact (Option.some.inj h1).symm
      have R1 := Own.rd ((HT1.out.later hb').each e1[k] (List.getElem_mem hlt))
      have R2 := Own.rd ((HT2.out.later hb').each e2[k] (List.getElem_mem hlt2))
      rw [hev] at q0 q1 q2 q3 R2
      obtain ⟨ev, hev1⟩ : ∃ ev, ev = e1[k].1 := ⟨_, rfl⟩
      have hpl := HPS.out e1[k] (List.getElem_mem hlt)
      rw [← hev1] at p0 p1 p2 p3 q0 q1 q2 q3 R1 R2 hpl
      obtain ⟨a1, ha1⟩ : ∃ a1, a1 = e1[k].2.1 := ⟨_, rfl⟩
      obtain ⟨d1, hd1⟩ : ∃ d1, d1 = e1[k].2.2 := ⟨_, rfl⟩
      obtain ⟨a2, ha2⟩ : ∃ a2, a2 = e2[k].2.1 := ⟨_, rfl⟩
      obtain ⟨d2, hd2⟩ : ∃ d2, d2 = e2[k].2.2 := ⟨_, rfl⟩
      rw [← ha1, ← hd1] at p2
      rw [← ha2, ← hd2] at q2
      rw [← ha1] at R1
      rw [← ha2] at R2
      have HQ : Hid (∀ n, Calls Try.prog 23 #[.slice a1 ev.ps.length d1, .slice a2 ev.ps.length d2] (wr.drewN n) fun e w' => e = .returned (.bool true) ∧ ∃ m, w' = (wr.drewN n).drewN m) := fun n => ref_sameNumbers_quiet ev.ps a1 a2 d1 d2 (wr.drewN n) (R1.below (below_drewN (Below.refl _ _) n)) (R2.below (below_drewN (Below.refl _ _) n)) hpl
      have hlt' : (k : Int) < (e1.length : Int) := by omega
      have hk0 : (0 : Int) ≤ (k : Int) := by omega
      clear hev1 ha1 hd1 ha2 hd2 R1 R2 hev hb hb' hlt2
      go_wp2
      go_quiet ((go_at_call 23; exact Calls.quiet_of (HQ.out _)))
      go_wp2
      go_roundw
      case rel => exact ⟨k + 1, by omega, by go_num, _, by rw [HB.out, World.drewN_drewN]⟩
      case measure => simp [intOf]; omega
    · clear hb
      go_wp2
      go_ret
      exact ⟨rfl, by rw [HB.out]; exact below_drewN (Below.refl _ _) _⟩

set_option maxHeartbeats 400000 in
theorem ref_reads_any (w : World) : Calls Try.prog 14 #[] w fun e w' => e = .returned (.bool true) ∧ Below w.heap.size w w' := by
  go_enter Try.func14, Try.ntmps14
  go_wp2_with fail
  refine (feed_any ground none 0 probe _ (.inl rfl) (fun _ => ⟨rfl, rfl⟩) (by decide) (by decide)).mono ?_
  rintro e w1 ⟨hb, _, hgood⟩
  obtain ⟨ao, cap, tq, tc, evs, rfl, _, ht, hsay⟩ := hgood ground_good
  rw [probe_s]
  rw [probe_e] at hsay
  obtain ⟨hl, g, po, pc, rfl, q4, q5, q6⟩ := told_two ht hsay
  rw [hl]
  have HB : Hid (Below w.heap.size w w1) := hb
  have hg := World.block_lt_of_cell? w1 _ q4
  clear hgood ht hsay hb hl
  simp only at hg
  go_wp2
  go_ret
  exact ⟨rfl, HB.out.alloc HB.out.size _⟩

end Go.Proofs.Yticjkfhhpilkmaa
