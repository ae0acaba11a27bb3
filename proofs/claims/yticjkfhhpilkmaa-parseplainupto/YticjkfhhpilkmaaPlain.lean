/- ParsePlain, walked: for every text the call answers true, and nothing that was there has turned. -/
import Derived.Test.YticjkfhhpilkmaaStops
import Derived.Test.YticjkfhhpilkmaaCells
import Derived.Deep.QuietTactic
import Derived.BigQuiet
namespace Go.Proofs.Yticjkfhhpilkmaa
open Go.RowKit

def prEv (c : UInt8) : Ev := ⟨1, bint c, [], ⟨#[]⟩⟩
def Plain (l : List UInt8) : Prop := ∀ c ∈ l, 32 ≤ bint c ∧ bint c ≤ 126

theorem plain_stp (c : UInt8) (h : 32 ≤ bint c ∧ bint c ≤ 126) : stp ground (bint c) = (ground, prEv c) := by
  have h27 : ¬ bint c = 27 := by omega
  simp [stp, ground, gndF, h27, h, prEv]
theorem plain_s (l : List UInt8) (h : Plain l) : feedS ground l = ground := by
  induction l with
  | nil => rfl
  | cons c r ih =>
    show feedS (stp ground (bint c)).1 r = _
    rw [plain_stp c (h c (by simp))]
    exact ih (fun x hx => h x (by simp [hx]))
theorem plain_e (l : List UInt8) (h : Plain l) : feedE ground l = l.map prEv := by
  induction l with
  | nil => rfl
  | cons c r ih =>
    have hc := plain_stp c (h c (by simp))
    simp only [feedE, hc, List.map_cons]
    rw [ih (fun x hx => h x (by simp [hx]))]
    rfl

set_option maxHeartbeats 1000000 in
theorem plain_any (s : ByteArray) (w : World) (hs : s.size ≤ 1048576) :
    Calls Try.prog 5 #[.string s] w fun e w' => e = .returned (.bool true) ∧ Below w.heap.size w w' := by
  go_enter Try.func5, Try.ntmps5
  go_wp2_with fail
  refine (feed_any ground none 0 s _ (.inl rfl) (fun _ => ⟨rfl, rfl⟩) (by decide) hs).mono ?_
  rintro e w1 ⟨hb, _, hgood⟩
  obtain ⟨a1, c1, tq, tc, evs, rfl, hown, ht, hsay⟩ := hgood ground_good
  have HB : Hid (Below w.heap.size w w1) := hb
  obtain ⟨st, hst⟩ : ∃ st, st = feedS ground s.data.toList := ⟨_, rfl⟩
  rw [← hst] at hown
  rw [← hst]
  have HT : Hid (Told w.heap.size w1 tq tc evs) := ht
  have HSAY : Hid (evs.map (·.1) = feedE ground s.data.toList) := hsay
  have HST : Hid (st = feedS ground s.data.toList) := hst
  have HO : Hid (Own w.heap.size w1 a1 c1 st.ps) := hown
  clear hgood hb ht hsay hst hown
  go_wp2
  go_loop [17] (fun i => ∃ k : Nat, k ≤ s.size ∧ i = .int .i64 k ∧ Plain (s.data.toList.take k)) (fun i => s.size - (intOf i).toNat)
  case atStart => exact ⟨0, Nat.zero_le _, rfl, fun c hc => by simp at hc⟩
  case round =>
    obtain ⟨k, hk, rfl, hpl⟩ := hrel
    have HP : Hid (Plain (s.data.toList.take k)) := hpl
    clear hpl
    by_cases hlt : k < s.size
    · have hlt' : (k : Int) < (s.size : Int) := by omega
      have HTS : Hid (s.data.toList.take (k + 1) = s.data.toList.take k ++ [s[k]]) := take_snoc s k hlt
      by_cases h32 : (s[k].toNat : Int) < 32
      · go_wp2_with fail
        refine (reads_any _).mono ?_
        rintro e w2 ⟨rfl, hb2⟩
        have HB2 : Hid (Below w.heap.size w w2) := (HB.out.alloc HB.out.size _).trans (hb2.mono (by have := HB.out.size; simp; omega))
        clear hb2
        go_wp2
        go_ret
        exact ⟨rfl, HB2.out⟩
      · by_cases h126 : 126 < (s[k].toNat : Int)
        · go_wp2_with fail
          refine (reads_any _).mono ?_
          rintro e w2 ⟨rfl, hb2⟩
          have HB2 : Hid (Below w.heap.size w w2) := (HB.out.alloc HB.out.size _).trans (hb2.mono (by have := HB.out.size; simp; omega))
          clear hb2
          go_wp2
          go_ret
          exact ⟨rfl, HB2.out⟩
        · go_wp2
          go_round
          case rel =>
            refine ⟨k + 1, by omega, by go_num, ?_⟩
            rw [HTS.out]
            intro c hc
            rcases List.mem_append.1 hc with h | h
            · exact HP.out c h
            · simp at h; subst h; unfold bint; omega
          case measure => simp [intOf]; omega
    · have hall : Plain s.data.toList := by
        have := HP.out
        rw [List.take_of_length_le (by simp; omega)] at this
        exact this
      have HG : Hid (st = ground) := by show st = ground; rw [HST.out, plain_s _ hall]
      have HE : Hid (evs.map (·.1) = s.data.toList.map prEv) := by show evs.map (·.1) = _; rw [HSAY.out, plain_e _ hall]
      have HL : Hid (evs.length = s.size) := by
        have := congrArg List.length HE.out
        have e : s.data.toList.length = s.size := by rw [Array.length_toList]; rfl
        rw [List.length_map, List.length_map, e] at this
        exact this
      have hne : ((evs.length : Int) != (s.size : Int)) = false := by simp [HL.out]
      have hstg := HG.out
      subst hstg
      clear HG HST HSAY HO
      go_wp2_with fail
      refine (sameParser_eq ground a1 none c1 0 _ (.inl rfl) (.inl rfl) (by decide)).mono ?_
      rintro e w2 ⟨rfl, hb2⟩
      have HT2 : Hid (Told w.heap.size w2 tq tc evs) := (HT.out.later ((Below.refl _ _).alloc (Nat.le_refl _) _)).later hb2
      have HB2 : Hid (Below w.heap.size w w2) := (HB.out.alloc HB.out.size _).trans (hb2.mono (by have := HB.out.size; simp; omega))
      clear hb2 HT HB
      go_wp2_with fail
      refine (reads_any _).mono ?_
      rintro e w3 ⟨rfl, hb3⟩
      have HT3 : Hid (Told w.heap.size w3 tq tc evs) := HT2.out.later hb3
      have HB3 : Hid (Below w.heap.size w w3) := HB2.out.trans (hb3.mono HB2.out.size)
      clear hb3 HT2 HB2
      go_wp2
      go_loopw [53] (fun i wr => ∃ k : Nat, k ≤ s.size ∧ i = .int .i64 k ∧ Below w3.heap.size w3 wr) (fun i _ => s.size - (intOf i).toNat)
      case atStart => exact ⟨0, Nat.zero_le _, rfl, Below.refl _ _⟩
      case round =>
        obtain ⟨j, hj, rfl, hbr⟩ := hrel
        have HBR : Hid (Below w3.heap.size w3 wr) := hbr
        clear hbr
        by_cases hjl : j < s.size
        · have hjl' : (j : Int) < (s.size : Int) := by omega
          have hj0 : (0 : Int) ≤ (j : Int) := by omega
          have hje : j < evs.length := by rw [HL.out]; exact hjl
          have hje' : (j : Int) < (evs.length : Int) := by omega
          obtain ⟨g, rfl⟩ := told_form HT3.out (by omega)
          obtain ⟨q0, q1, _, _⟩ := cell_of_told (HT3.out.later HBR.out) j hje
          have hev : evs[j].1 = prEv s[j] := by
            have h1 : (evs.map (·.1))[j]? = (s.data.toList.map prEv)[j]? := by rw [HE.out]
            have e : s.data.toList.length = s.size := by rw [Array.length_toList]; rfl
            rw [List.getElem?_map, List.getElem?_map, List.getElem?_eq_getElem hje, List.getElem?_eq_getElem (by omega)] at h1
            exact Option.some.inj h1
          rw [hev] at q0 q1
          have q0' : wr.cell? ⟨g, j * 4, none⟩ = some (.int .i64 1) := q0
          have q1' : wr.cell? ⟨g, j * 4 + 1, none⟩ = some (.int .i64 (s[j].toNat : Int)) := q1
          have hwr : IntKind.i64.wrap (s[j].toNat : Int) = (s[j].toNat : Int) := wrap_byte _
          clear q0 q1 hev
          go_wp2
          go_quiet (fail)
          go_wp2
          go_roundw
          case rel => exact ⟨j + 1, by omega, by go_num, below_drewN HBR.out _⟩
          case measure => simp [intOf]; omega
        · have hjn : ¬ (j : Int) < (evs.length : Int) := by have := HL.out; omega
          go_wp2
          go_ret
          exact ⟨rfl, HB3.out.trans (HBR.out.mono HB3.out.size)⟩

end Go.Proofs.Yticjkfhhpilkmaa
