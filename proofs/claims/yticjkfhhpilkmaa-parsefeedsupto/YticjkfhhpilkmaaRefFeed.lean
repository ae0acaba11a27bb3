/- What the document's own 'FeedBytes' does to the world: it answers what the plain machine answers to all bytes. -/
import Derived.Test.YticjkfhhpilkmaaRefPut
import Derived.Test.YticjkfhhpilkmaaAppAny
import Derived.Deep.CutRange
namespace Go.Proofs.Yticjkfhhpilkmaa
open Go.RowKit

/-- The ending of 'FeedBytes'. -/
def RefEnd (w : World) (s0 : PS) (s : ByteArray) (ao : Option Addr) (cap : Nat) (e : Ending) (w' : World) : Prop :=
  Below w.heap.size w w' ∧
  (goodB s0 = false → e = .returned (.tuple #[.agg #[.int .i64 s0.place, .slice ao s0.ps.length cap, .string s0.pl, .bool s0.lg], .slice none 0 0, .int .i64 1])) ∧
  (goodB s0 = true → ∃ ao' cap' tq tc evs, e = .returned (.tuple #[.agg #[.int .i64 (feedS s0 s.data.toList).place, .slice ao' (feedS s0 s.data.toList).ps.length cap', .string (feedS s0 s.data.toList).pl, .bool (feedS s0 s.data.toList).lg], .slice tq (List.length (α := Item) evs) tc, .int .i64 0]) ∧
    Own w.heap.size w' ao' cap' (feedS s0 s.data.toList).ps ∧ Told w.heap.size w' tq tc evs ∧ evs.map (·.1) = feedE s0 s.data.toList)

theorem conv_bytes (W : World) (s : ByteArray) (N : Nat) (hN : W.heap.size = N) : ∃ C, (convert 9 44 (.string s)).run Try.prog W = .ok (.slice (some ⟨N, 0, none⟩) s.size C) (W.alloc (.cells (bytesRow s C) 5 ((bytesRow s C).size, (bytesRow s C).size + 1))).drew := by
  subst hN
  exact ⟨_, run_bytes_of_string (P := Try.prog) W 9 44 5 s Try.underlying9 Try.underlying44 Try.underlying5⟩

/-- From one byte's answer to the next round's head. -/
theorem ref_next {B L Y : Nat} {w w' : World} {ys : Array Value} {ym : Nat × Nat} {s0 st : PS} {s : ByteArray} {k : Nat} {b : Int} {x : UInt8} {a : Option Addr} {c : Nat} {tq : Option Addr} {tc : Nat} {evs evs' : List Item} {r : PS × Ev}
    (hts : s.data.toList.take (k + 1) = s.data.toList.take k ++ [x]) (hst : st = feedS s0 (s.data.toList.take k)) (hb : b = bint x) (hsay : evs.map (·.1) = feedE s0 (s.data.toList.take k)) (hr : stp st b = r)
    (hg : GInv B L Y w w' ys ym r.1 a c tq tc evs') (he : evs'.map (·.1) = evs.map (·.1) ++ one r.2) :
    GInv B L Y w w' ys ym (feedS s0 (s.data.toList.take (k + 1))) a c tq tc evs' ∧ evs'.map (·.1) = feedE s0 (s.data.toList.take (k + 1)) := by
  rw [hts, feedS_snoc, feedE_snoc, ← hst, ← hb, hr, he, hsay]
  exact ⟨hg, rfl⟩

theorem GoodS.nil01 {s : PS} (h : GoodS s) (hp : s.place = 0 ∨ s.place = 1) : s.ps = [] ∧ s.pl = ⟨#[]⟩ ∧ s.lg = false := by
  have h2 : ¬ 0 < s.ps.length := fun h' => by have := h.some'.2 h'; omega
  have h3 := h.empty (by omega) (by omega)
  exact ⟨List.length_eq_zero_iff.1 (by omega), h3.1, h3.2⟩
theorem GoodS.nil34 {s : PS} (h : GoodS s) (hp : s.place = 3 ∨ s.place = 4) : s.ps = [] := by
  have h2 : ¬ 0 < s.ps.length := fun h' => by have := h.some'.2 h'; omega
  exact List.length_eq_zero_iff.1 (by omega)

/-- The loop's first head. -/
theorem g_start {w w2 : World} {s0 : PS} {ao2 : Option Addr} {cap2 : Nat} (s : ByteArray) (C : Nat) (hb : Below w.heap.size w w2) (hz : w.heap.size + 2 ≤ w2.heap.size) {x0 x1 x2 x3 : Value} (h0 : w2.heap[w.heap.size]? = some (.cells #[x0, x1, x2, x3] 24 (0, 0)))
    (h1 : w2.heap[w.heap.size + 1]? = some (.cells #[.int .i64 0, .slice none 0 0, .string ⟨#[]⟩, .bool false] 24 (0, 0))) (hown : Own (w.heap.size + 2) w2 ao2 cap2 s0.ps) :
    GInv w.heap.size w2.heap.size (w2.heap.size + 1) w ((((((w2.setCell ⟨w.heap.size, 0, none⟩ (.int .i64 s0.place)).setCell ⟨w.heap.size, 1, none⟩ (.slice ao2 s0.ps.length cap2)).setCell ⟨w.heap.size, 2, none⟩ (.string s0.pl)).setCell ⟨w.heap.size, 3, none⟩ (.bool s0.lg)).alloc (.cells #[.slice none 0 0] 26)).alloc (.cells (bytesRow s C) 5 ((bytesRow s C).size, (bytesRow s C).size + 1))).drew
      (bytesRow s C) ((bytesRow s C).size, (bytesRow s C).size + 1) s0 ao2 cap2 none 0 [] := by
  have hb4 : Below w.heap.size w ((((w2.setCell ⟨w.heap.size, 0, none⟩ (.int .i64 s0.place)).setCell ⟨w.heap.size, 1, none⟩ (.slice ao2 s0.ps.length cap2)).setCell ⟨w.heap.size, 2, none⟩ (.string s0.pl)).setCell ⟨w.heap.size, 3, none⟩ (.bool s0.lg)) :=
    (((hb.setCell (by simp) _).setCell (by simp) _).setCell (by simp) _).setCell (by simp) _
  have hown4 := own_setb (own_setb (own_setb (own_setb hown (p := ⟨w.heap.size, 0, none⟩) (by simp) (.int .i64 s0.place)) (p := ⟨w.heap.size, 1, none⟩) (by simp) (.slice ao2 s0.ps.length cap2)) (p := ⟨w.heap.size, 2, none⟩) (by simp) (.string s0.pl)) (p := ⟨w.heap.size, 3, none⟩) (by simp) (.bool s0.lg)
  refine ⟨((hb4.alloc (by rw [size4]; omega) _).alloc (by simp; omega) _).drew, hz, by omega, ?_, ?_, ?_, ?_, own_drew (own_alloc (own_alloc hown4 _) _), ⟨World.ownsRow_nil _ _ _ _, fun x hx => absurd hx (by simp)⟩, fun x hx => absurd hx (by simp)⟩
  · exact at_old (at_old (set4 h0 _ _ _ _) _) _
  · exact at_old (at_old (other4 h1 (by omega) _ _ _ _) _) _
  · have := at_new ((((w2.setCell ⟨w.heap.size, 0, none⟩ (.int .i64 s0.place)).setCell ⟨w.heap.size, 1, none⟩ (.slice ao2 s0.ps.length cap2)).setCell ⟨w.heap.size, 2, none⟩ (.string s0.pl)).setCell ⟨w.heap.size, 3, none⟩ (.bool s0.lg)) (.cells #[.slice none 0 0] 26)
    rw [size4] at this
    exact at_old this _
  · have := at_new1 ((((w2.setCell ⟨w.heap.size, 0, none⟩ (.int .i64 s0.place)).setCell ⟨w.heap.size, 1, none⟩ (.slice ao2 s0.ps.length cap2)).setCell ⟨w.heap.size, 2, none⟩ (.string s0.pl)).setCell ⟨w.heap.size, 3, none⟩ (.bool s0.lg)) (.cells #[.slice none 0 0] 26) (.cells (bytesRow s C) 5 ((bytesRow s C).size, (bytesRow s C).size + 1))
    rw [size4] at this
    exact this

set_option maxHeartbeats 20000000 in      -- twenty ways of one round in one proof: the purse of the whole, no single way is dear
set_option maxRecDepth 100000 in
theorem refFeed_any (s0 : PS) (ao : Option Addr) (cap : Nat) (s : ByteArray) (w : World) (hr : Rd w ao s0.ps) (hn : ao = none → s0.ps.length = 0 ∧ cap = 0) (hm : s0.ps.length * 8 ≤ 140737488355328) (hs : s.size ≤ 1048576) :
    Calls Try.prog 9 #[.agg #[.int .i64 s0.place, .slice ao s0.ps.length cap, .string s0.pl, .bool s0.lg], .string s] w fun e w' => RefEnd w s0 s ao cap e w' := by
  have HR : Hid (Rd w ao s0.ps) := hr
  have HN : Hid (ao = none → s0.ps.length = 0 ∧ cap = 0) := hn
  clear hr hn
  go_enter Try.func9, Try.ntmps9
  go_wp2_with fail
  refine (goodParser_any s0 ao cap _ (HR.out.below (((Below.refl _ _).alloc (Nat.le_refl _) _).alloc (by simp) _)) (by omega)).mono ?_
  rintro e w1 ⟨rfl, hb1⟩
  have B0 := below_block hb1 (at_old (at_new w _) _) (by simp; omega)
  have B1 := below_block hb1 (at_new1 w _ _) (by simp)
  obtain ⟨a0, a1, a2, a3, f0, f1, f2, f3⟩ := four B0
  obtain ⟨b0, b1, b2, b3, g0, g1, g2, g3⟩ := four B1
  have HB1 : Hid (Below w.heap.size w w1) := (((Below.refl _ _).alloc (Nat.le_refl _) _).alloc (by simp) _).trans (hb1.mono (by simp; omega))
  have HB0 : Hid _ := B0
  have HBR : Hid _ := B1
  cases hg : goodB s0
  · clear hb1 B0 B1
    go_wp2
    refine bodyPost_ret (v := .tuple #[.agg #[.int .i64 s0.place, .slice ao s0.ps.length cap, .string s0.pl, .bool s0.lg], .slice none 0 0, .int .i64 1]) (by simp [results, Try.results9, go_sem, b0, b1, b2, b3]) rfl ?_
    refine ⟨?_, fun _ => rfl, fun h => absurd (hg.symm.trans h) (by decide)⟩
    exact (((HB1.out.setCell (by simp) _).setCell (by simp) _).setCell (by simp) _).setCell (by simp) _
  · have HRd1 : Hid (Rd w1 ao s0.ps) := (HR.out.below HB1.out)
    clear hb1 B0 B1
    go_wp2_with fail
    refine (copy_any s0 ao cap _ HRd1.out HN.out hm).mono ?_
    rintro e w2 ⟨ao2, cap2, rfl, hown2, hb2⟩
    have C0 := below_block hb2 HB0.out (lt_block HB0.out)
    have C1 := below_block hb2 HBR.out (lt_block HBR.out)
    obtain ⟨c0, c1, c2, c3, h0, h1, h2, h3⟩ := four C0
    have hz1 : w.heap.size + 2 ≤ w1.heap.size := by have := lt_block HBR.out; omega
    have hB2 : Below w.heap.size w w2 := HB1.out.trans (hb2.mono HB1.out.size)
    have hz2 : w.heap.size + 2 ≤ w2.heap.size := by have := hb2.size; omega
    obtain ⟨C, hcv⟩ := conv_bytes (((((w2.setCell ⟨w.heap.size, 0, none⟩ (.int .i64 s0.place)).setCell ⟨w.heap.size, 1, none⟩ (.slice ao2 s0.ps.length cap2)).setCell ⟨w.heap.size, 2, none⟩ (.string s0.pl)).setCell ⟨w.heap.size, 3, none⟩ (.bool s0.lg)).alloc (.cells #[.slice none 0 0] 26)) s (w2.heap.size + 1) (by rw [World.size_alloc, size4])
    have HI : Hid _ := g_start s C hB2 hz2 C0 C1 (own_mono hown2 (by omega))
    clear a0 a1 a2 a3 f0 f1 f2 f3 b0 b1 b2 b3 g0 g1 g2 g3 hown2 hb2 hB2 C0 C1 HB0 HBR HB1 HRd1 HR HN
    go_wp2
    have hz3 := hz2
    clear hcv c0 c1 c2 c3 h0 h1 h2 h3
    obtain ⟨L, hL⟩ : ∃ L, L = w2.heap.size := ⟨_, rfl⟩
    obtain ⟨ys, hys⟩ : ∃ ys, ys = bytesRow s C := ⟨_, rfl⟩
    rw [← hys, ← hL] at HI
    rw [← hys, ← hL]
    go_loopw [26] (fun i wr => ∃ (k : Nat) (a : Option Addr) (c : Nat) (tq : Option Addr) (tc : Nat) (evs : List Item), k ≤ s.size ∧ i = .int .i64 k ∧ GInv w.heap.size L (L + 1) w wr ys (ys.size, ys.size + 1) (feedS s0 (s.data.toList.take k)) a c tq tc evs ∧ evs.map (·.1) = feedE s0 (s.data.toList.take k)) (fun i _ => s.size - (intOf i).toNat)
    case atStart => exact ⟨0, ao2, cap2, none, 0, [], Nat.zero_le _, rfl, HI.out, rfl⟩
    case round =>
      obtain ⟨k, a, c, tq, tc, evs, hk, rfl, hinv, hsay⟩ := hrel
      obtain ⟨st, hst⟩ : ∃ st, st = feedS s0 (s.data.toList.take k) := ⟨_, rfl⟩
      rw [← hst] at hinv
      have HST : Hid (st = feedS s0 (s.data.toList.take k)) := hst
      have HSAY : Hid (evs.map (·.1) = feedE s0 (s.data.toList.take k)) := hsay
      have HGS : Hid (GoodS st) := by rw [HST.out]; exact good_feed s0 ((goodB_iff s0).1 hg) _
      have H : Hid (GInv w.heap.size L (L + 1) w wr ys (ys.size, ys.size + 1) st a c tq tc evs) := hinv
      clear hst hsay hinv HI
      by_cases hlt : k < s.size
      · have HTS : Hid (s.data.toList.take (k + 1) = s.data.toList.take k ++ [s[k]]) := take_snoc s k hlt
        have hlt' : (k : Int) < (s.size : Int) := by omega
        have hlen : evs.length ≤ 1048576 := by
          have h1 := congrArg List.length HSAY.out
          have h2 := evs_len s0 (s.data.toList.take k)
          simp only [List.length_map, List.length_take] at h1 h2
          omega
        obtain ⟨b, hb⟩ : ∃ b : Int, b = (s[k].toNat : Int) := ⟨_, rfl⟩
        have HBB : Hid (b = bint s[k]) := hb
        have ycell : wr.cell? ⟨L + 1, k, none⟩ = some (.int .u8 b) := by
          rw [cell_of_row wr (L + 1) k _ 5 _ H.out.cy, hys, hb]
          exact bytesRow_at s C k hlt
        have hwr : IntKind.i64.wrap b = b := by rw [hb]; exact wrap_byte _
        have hb0 : 0 ≤ b := by rw [hb]; exact bint_lo _
        have hb1 : b ≤ 255 := by rw [hb]; exact bint_hi _
        clear hb hys hL hk
        go_upto_region 11 with fail
        go_cut [13] from 27 to 250 (fun s13 wx => s13 = .bool (plainB b) ∧ wr = wx)
        case first =>
          by_cases h32 : 32 ≤ b
          · by_cases h126 : b ≤ 126
            · go_wp2_with fail
              go_meet
              exact ⟨congrArg Value.bool (decide_eq_true (p := 32 ≤ b ∧ b ≤ 126) ⟨h32, h126⟩).symm, rfl⟩
            · have h126' : 126 < b := by omega
              go_wp2_with fail
              go_meet
              exact ⟨congrArg Value.bool (decide_eq_false (p := 32 ≤ b ∧ b ≤ 126) (by omega)).symm, rfl⟩
          · have h32' : b < 32 := by omega
            go_wp2_with fail
            go_meet
            exact ⟨congrArg Value.bool (decide_eq_false (p := 32 ≤ b ∧ b ≤ 126) (by omega)).symm, rfl⟩
        case rest =>
          obtain ⟨rfl, rfl⟩ := hcut
          clear ycell
          obtain ⟨c0, c1, c2, c3, f0, f1, f2, f3⟩ := four H.out.box
          obtain ⟨place, ps, pl, lg⟩ := st
          simp only at c0 c1 c2 c3
          have hp : place = 0 ∨ place = 1 ∨ place = 2 ∨ place = 3 ∨ place = 4 := by have h1 := HGS.out.lo; have h2 := HGS.out.hi; simp only at h1 h2; omega
          rcases hp with hp | hp | hp | hp | hp
          · subst hp
            obtain ⟨rfl, rfl, rfl⟩ := HGS.out.nil01 (.inl rfl)
            by_cases h27 : b = 27
            · subst h27
              as_aux_lemma =>
                have HF := H.out.put4 ⟨1, [], ⟨#[]⟩, false⟩ rfl
                have HFF : Hid _ := HF
                clear HF
                go_wp2
                go_roundw
                case rel =>
                  obtain ⟨q1, q2⟩ := ref_next HTS.out HST.out HBB.out HSAY.out (r := (⟨1, [], ⟨#[]⟩, false⟩, noEv)) rfl HFF.out (by simp [one, noEv])
                  exact ⟨k + 1, _, _, _, _, _, by omega, by go_num, q1, q2⟩
                case measure => simp [intOf]; omega
            have n27 : (b == 27) = false := by simpa using h27
            by_cases hpl : 32 ≤ b ∧ b ≤ 126
            · have HF : Hid (stp ⟨0, [], ⟨#[]⟩, false⟩ b = (ground, ⟨1, b, [], ⟨#[]⟩⟩)) := by show stp _ b = _; simp [stp, gndF, h27, hpl]
              have hpB : plainB b = true := by simp [plainB, hpl]
              clear h27 hpl
              as_aux_lemma =>
                go_wp2_with fail
                refine (tell_any ⟨1, b, [], ⟨#[]⟩⟩ none 0 H.out (own_nil _ _) (.inl rfl) hlen).mono ?_
                rintro e w5 ⟨rfl, g', cap', hg5⟩
                have HG5 : Hid (GInv w.heap.size L (L + 1) w w5 ys (ys.size, ys.size + 1) ground a c (some ⟨g', 0, none⟩) cap' (evs ++ [(⟨1, b, [], ⟨#[]⟩⟩, none, 0)])) := hg5
                clear hg5
                go_wp2
                go_roundw
                case rel =>
                  obtain ⟨q1, q2⟩ := ref_next HTS.out HST.out HBB.out HSAY.out (r := (ground, ⟨1, b, [], ⟨#[]⟩⟩)) HF.out HG5.out (by simp [one])
                  exact ⟨k + 1, _, _, _, _, _, by omega, by go_num, q1, q2⟩
                case measure => simp [intOf]; omega
            have hpB : plainB b = false := by simp only [plainB, hpl, decide_false]
            by_cases hct : b = 8 ∨ b = 9 ∨ b = 10 ∨ b = 13
            · rcases hct with h | h | h | h
              · subst h
                clear h27 hpl
                as_aux_lemma =>
                  go_wp2_with fail
                  refine (tell_any ⟨2, 8, [], ⟨#[]⟩⟩ none 0 H.out (own_nil _ _) (.inl rfl) hlen).mono ?_
                  rintro e w5 ⟨rfl, g', cap', hg5⟩
                  have HG5 : Hid (GInv w.heap.size L (L + 1) w w5 ys (ys.size, ys.size + 1) ground a c (some ⟨g', 0, none⟩) cap' (evs ++ [(⟨2, 8, [], ⟨#[]⟩⟩, none, 0)])) := hg5
                  clear hg5
                  go_wp2
                  go_roundw
                  case rel =>
                    obtain ⟨q1, q2⟩ := ref_next HTS.out HST.out HBB.out HSAY.out (r := (ground, ⟨2, 8, [], ⟨#[]⟩⟩)) rfl HG5.out (by simp [one])
                    exact ⟨k + 1, _, _, _, _, _, by omega, by go_num, q1, q2⟩
                  case measure => simp [intOf]; omega
              · subst h
                clear h27 hpl
                as_aux_lemma =>
                  go_wp2_with fail
                  refine (tell_any ⟨2, 9, [], ⟨#[]⟩⟩ none 0 H.out (own_nil _ _) (.inl rfl) hlen).mono ?_
                  rintro e w5 ⟨rfl, g', cap', hg5⟩
                  have HG5 : Hid (GInv w.heap.size L (L + 1) w w5 ys (ys.size, ys.size + 1) ground a c (some ⟨g', 0, none⟩) cap' (evs ++ [(⟨2, 9, [], ⟨#[]⟩⟩, none, 0)])) := hg5
                  clear hg5
                  go_wp2
                  go_roundw
                  case rel =>
                    obtain ⟨q1, q2⟩ := ref_next HTS.out HST.out HBB.out HSAY.out (r := (ground, ⟨2, 9, [], ⟨#[]⟩⟩)) rfl HG5.out (by simp [one])
                    exact ⟨k + 1, _, _, _, _, _, by omega, by go_num, q1, q2⟩
                  case measure => simp [intOf]; omega
              · subst h
                clear h27 hpl
                as_aux_lemma =>
                  go_wp2_with fail
                  refine (tell_any ⟨2, 10, [], ⟨#[]⟩⟩ none 0 H.out (own_nil _ _) (.inl rfl) hlen).mono ?_
                  rintro e w5 ⟨rfl, g', cap', hg5⟩
                  have HG5 : Hid (GInv w.heap.size L (L + 1) w w5 ys (ys.size, ys.size + 1) ground a c (some ⟨g', 0, none⟩) cap' (evs ++ [(⟨2, 10, [], ⟨#[]⟩⟩, none, 0)])) := hg5
                  clear hg5
                  go_wp2
                  go_roundw
                  case rel =>
                    obtain ⟨q1, q2⟩ := ref_next HTS.out HST.out HBB.out HSAY.out (r := (ground, ⟨2, 10, [], ⟨#[]⟩⟩)) rfl HG5.out (by simp [one])
                    exact ⟨k + 1, _, _, _, _, _, by omega, by go_num, q1, q2⟩
                  case measure => simp [intOf]; omega
              · subst h
                clear h27 hpl
                as_aux_lemma =>
                  go_wp2_with fail
                  refine (tell_any ⟨2, 13, [], ⟨#[]⟩⟩ none 0 H.out (own_nil _ _) (.inl rfl) hlen).mono ?_
                  rintro e w5 ⟨rfl, g', cap', hg5⟩
                  have HG5 : Hid (GInv w.heap.size L (L + 1) w w5 ys (ys.size, ys.size + 1) ground a c (some ⟨g', 0, none⟩) cap' (evs ++ [(⟨2, 13, [], ⟨#[]⟩⟩, none, 0)])) := hg5
                  clear hg5
                  go_wp2
                  go_roundw
                  case rel =>
                    obtain ⟨q1, q2⟩ := ref_next HTS.out HST.out HBB.out HSAY.out (r := (ground, ⟨2, 13, [], ⟨#[]⟩⟩)) rfl HG5.out (by simp [one])
                    exact ⟨k + 1, _, _, _, _, _, by omega, by go_num, q1, q2⟩
                  case measure => simp [intOf]; omega
            have HF : Hid (stp ⟨0, [], ⟨#[]⟩, false⟩ b = (ground, noEv)) := by show stp _ b = _; simp only [stp, gndF, if_neg h27, if_neg hpl, if_neg hct]; rfl
            have n8 : (b == 8) = false := by simp; omega
            have n9 : (b == 9) = false := by simp; omega
            have n10 : (b == 10) = false := by simp; omega
            have n13 : (b == 13) = false := by simp; omega
            clear h27 hpl hct
            as_aux_lemma =>
              go_wp2
              go_roundw
              case rel =>
                obtain ⟨q1, q2⟩ := ref_next HTS.out HST.out HBB.out HSAY.out (r := (ground, noEv)) HF.out H.out (by simp [one, noEv])
                exact ⟨k + 1, _, _, _, _, _, by omega, by go_num, q1, q2⟩
              case measure => simp [intOf]; omega
          · subst hp
            obtain ⟨rfl, rfl, rfl⟩ := HGS.out.nil01 (.inr rfl)
            by_cases h27 : b = 27
            · subst h27
              as_aux_lemma =>
                have HF := H.out.put4 ⟨1, [], ⟨#[]⟩, false⟩ rfl
                have HFF : Hid _ := HF
                clear HF
                go_wp2
                go_roundw
                case rel =>
                  obtain ⟨q1, q2⟩ := ref_next HTS.out HST.out HBB.out HSAY.out (r := (⟨1, [], ⟨#[]⟩, false⟩, noEv)) rfl HFF.out (by simp [one, noEv])
                  exact ⟨k + 1, _, _, _, _, _, by omega, by go_num, q1, q2⟩
                case measure => simp [intOf]; omega
            have n27 : (b == 27) = false := by simpa using h27
            by_cases h91 : b = 91
            · subst h91
              have HFF : Hid _ := H.out.putOpen2
              have hBl : w.heap.size < wr.heap.size := lt_block H.out.box
              as_aux_lemma =>
                go_wp2
                go_roundw
                case rel =>
                  obtain ⟨q1, q2⟩ := ref_next HTS.out HST.out HBB.out HSAY.out (r := (⟨2, [0], ⟨#[]⟩, false⟩, noEv)) rfl HFF.out (by simp [one, noEv])
                  exact ⟨k + 1, _, _, _, _, _, by omega, by go_num, q1, q2⟩
                case measure => simp [intOf]; omega
            have n91 : (b == 91) = false := by simpa using h91
            by_cases h80 : b = 80
            · subst h80
              as_aux_lemma =>
                have HF := H.out.put4 ⟨3, [], ⟨#[]⟩, false⟩ rfl
                have HFF : Hid _ := HF
                clear HF
                go_wp2
                go_roundw
                case rel =>
                  obtain ⟨q1, q2⟩ := ref_next HTS.out HST.out HBB.out HSAY.out (r := (⟨3, [], ⟨#[]⟩, false⟩, noEv)) rfl HFF.out (by simp [one, noEv])
                  exact ⟨k + 1, _, _, _, _, _, by omega, by go_num, q1, q2⟩
                case measure => simp [intOf]; omega
            have n80 : (b == 80) = false := by simpa using h80
            by_cases h99 : b = 99
            · subst h99
              as_aux_lemma =>
                go_wp2_with fail
                refine (tell_any ⟨5, 0, [], ⟨#[]⟩⟩ none 0 H.out (own_nil _ _) (.inl rfl) hlen).mono ?_
                rintro e w5 ⟨rfl, g', cap', hg5⟩
                have HG5 : Hid (GInv w.heap.size L (L + 1) w w5 ys (ys.size, ys.size + 1) ⟨1, [], ⟨#[]⟩, false⟩ a c (some ⟨g', 0, none⟩) cap' (evs ++ [(⟨5, 0, [], ⟨#[]⟩⟩, none, 0)])) := hg5
                clear hg5
                go_wp2_with fail
                refine (ground_any HG5.out).mono ?_
                rintro e w7 ⟨rfl, hg7⟩
                have HG7 : Hid (GInv w.heap.size L (L + 1) w w7 ys (ys.size, ys.size + 1) ground none 0 (some ⟨g', 0, none⟩) cap' (evs ++ [(⟨5, 0, [], ⟨#[]⟩⟩, none, 0)])) := hg7
                clear hg7
                go_wp2
                go_roundw
                case rel =>
                  obtain ⟨q1, q2⟩ := ref_next HTS.out HST.out HBB.out HSAY.out (r := (ground, ⟨5, 0, [], ⟨#[]⟩⟩)) rfl HG7.out (by simp [one])
                  exact ⟨k + 1, _, _, _, _, _, by omega, by go_num, q1, q2⟩
                case measure => simp [intOf]; omega
            have n99 : (b == 99) = false := by simpa using h99
            have HF : Hid (stp ⟨1, [], ⟨#[]⟩, false⟩ b = (ground, noEv)) := by show stp _ b = _; simp [stp, escF, h27, h91, h80, h99]
            clear h27 h91 h80 h99
            as_aux_lemma =>
              go_wp2_with fail
              refine (ground_any H.out).mono ?_
              rintro e w5 ⟨rfl, hg5⟩
              have HG5 : Hid (GInv w.heap.size L (L + 1) w w5 ys (ys.size, ys.size + 1) ground none 0 tq tc evs) := hg5
              clear hg5
              go_wp2
              go_roundw
              case rel =>
                obtain ⟨q1, q2⟩ := ref_next HTS.out HST.out HBB.out HSAY.out (r := (ground, noEv)) HF.out HG5.out (by simp [one, noEv])
                exact ⟨k + 1, _, _, _, _, _, by omega, by go_num, q1, q2⟩
              case measure => simp [intOf]; omega
          · subst hp
            obtain ⟨rfl, rfl⟩ := HGS.out.empty (by simp) (by simp)
            have hl0 : 0 < ps.length := HGS.out.some'.1 rfl
            have hl4 : ps.length ≤ 4 := HGS.out.len
            by_cases h27 : b = 27
            · subst h27
              have HR : Hid (stp ⟨2, ps, ⟨#[]⟩, false⟩ 27 = (⟨1, [], ⟨#[]⟩, false⟩, noEv)) := by show stp _ _ = _; simp [stp, cmdF]
              as_aux_lemma =>
                have HF := H.out.put4 ⟨1, [], ⟨#[]⟩, false⟩ rfl
                have HFF : Hid _ := HF
                clear HF
                go_wp2
                go_roundw
                case rel =>
                  obtain ⟨q1, q2⟩ := ref_next HTS.out HST.out HBB.out HSAY.out (r := (⟨1, [], ⟨#[]⟩, false⟩, noEv)) HR.out HFF.out (by simp [one, noEv])
                  exact ⟨k + 1, _, _, _, _, _, by omega, by go_num, q1, q2⟩
                case measure => simp [intOf]; omega
            have n27 : (b == 27) = false := by simpa using h27
            obtain ⟨g, rfl, hgb, hgl⟩ := own_form H.out.own hl0
            obtain ⟨kk, hkk⟩ : ∃ kk, ps.length = kk + 1 := ⟨ps.length - 1, by omega⟩
            by_cases hdg : 48 ≤ b ∧ b ≤ 57
            · have hx : 0 ≤ ps.getD kk 0 ∧ ps.getD kk 0 ≤ 999 := by
                have : kk < ps.length := by omega
                rw [List.getD_eq_getElem?_getD, List.getElem?_eq_getElem this]
                exact HGS.out.nums _ (List.getElem_mem this)
              have hc := own_cell H.out.own kk (by show kk < ps.length; omega)
              have hf : wr.frozen? ⟨g, kk, none⟩ = false := World.ownsRow.frozenAt H.out.own kk
              obtain ⟨x, hxe⟩ : ∃ x, x = ps.getD kk 0 := ⟨_, rfl⟩
              simp only at hc
              rw [← hxe] at hc hx
              have HKK : Hid (ps.length = kk + 1) := hkk
              have HXE : Hid (x = ps.getD kk 0) := hxe
              rw [hkk] at c1
              obtain ⟨hd1, hd2⟩ := hdg
              obtain ⟨hx0, hx1⟩ := hx
              have hgn : w.heap.size ≠ g := by omega
              have hk1 : (kk : Int) < (kk : Int) + 1 := by omega
              have hkk4 : kk < 4 := by omega
              have HF : Hid (stp ⟨2, ps, ⟨#[]⟩, false⟩ b = (⟨2, ps.set kk (min (10 * x + b - 48) 999), ⟨#[]⟩, false⟩, noEv)) := by show stp _ b = _; simp [stp, cmdF, hd1, hd2, lastUp, hkk, hxe]
              clear hkk hxe h27 hl0 hl4
              by_cases hbig : 999 < 10 * x + b - 48
              · have HRD : Hid (GInv w.heap.size L (L + 1) w ((wr.setCell ⟨g, kk, none⟩ (.int .i64 (10 * x + b - 48))).setCell ⟨g, kk, none⟩ (.int .i64 999)).drew ys (ys.size, ys.size + 1) ⟨2, ps.set kk 999, ⟨#[]⟩, false⟩ (some ⟨g, 0, none⟩) c tq tc evs) := by
                  have := ((H.out.store kk (10 * x + b - 48)).store kk 999).drew
                  show GInv _ _ _ _ _ _ _ _ _ _ _ _ _
                  simpa using this
                have HF2 : Hid (stp ⟨2, ps, ⟨#[]⟩, false⟩ b = (⟨2, ps.set kk 999, ⟨#[]⟩, false⟩, noEv)) := by show stp _ b = _; rw [HF.out, Int.min_eq_right (by omega)]
                as_aux_lemma =>
                  go_wp2
                  go_region
                  go_wp2
                  go_roundw
                  case rel =>
                    obtain ⟨q1, q2⟩ := ref_next HTS.out HST.out HBB.out HSAY.out (r := (⟨2, ps.set kk 999, ⟨#[]⟩, false⟩, noEv)) HF2.out HRD.out (by simp [one, noEv])
                    exact ⟨k + 1, _, _, _, _, _, by omega, by go_num, q1, q2⟩
                  case measure => simp [intOf]; omega
              · have HRD : Hid (GInv w.heap.size L (L + 1) w (wr.setCell ⟨g, kk, none⟩ (.int .i64 (10 * x + b - 48))).drew ys (ys.size, ys.size + 1) ⟨2, ps.set kk (10 * x + b - 48), ⟨#[]⟩, false⟩ (some ⟨g, 0, none⟩) c tq tc evs) := (H.out.store kk (10 * x + b - 48)).drew
                have HF2 : Hid (stp ⟨2, ps, ⟨#[]⟩, false⟩ b = (⟨2, ps.set kk (10 * x + b - 48), ⟨#[]⟩, false⟩, noEv)) := by show stp _ b = _; rw [HF.out, Int.min_eq_left (by omega)]
                have hbig' : 10 * x + b - 48 ≤ 999 := by omega
                clear hbig
                as_aux_lemma =>
                  go_wp2
                  go_region
                  go_wp2
                  go_roundw
                  case rel =>
                    obtain ⟨q1, q2⟩ := ref_next HTS.out HST.out HBB.out HSAY.out (r := (⟨2, ps.set kk (10 * x + b - 48), ⟨#[]⟩, false⟩, noEv)) HF2.out HRD.out (by simp [one, noEv])
                    exact ⟨k + 1, _, _, _, _, _, by omega, by go_num, q1, q2⟩
                  case measure => simp [intOf]; omega
            obtain ⟨i0, hi, hz0, hz1, hz2⟩ := info_parts info3
            have hBl : w.heap.size < wr.heap.size := lt_block H.out.box
            have HO : Hid (Own (w.heap.size + 2) wr (some ⟨g, 0, none⟩) c ps) := H.out.own
            have hone : ∀ u ∈ ints ps, u.oneCell' = true := by intro u hu; simp [ints] at hu; obtain ⟨z, _, rfl⟩ := hu; rfl
            by_cases h59 : b = 59 ∧ ps.length < 4
            · obtain ⟨h59, hl3⟩ := h59
              subst h59
              have HF : Hid (stp ⟨2, ps, ⟨#[]⟩, false⟩ 59 = (⟨2, ps ++ [0], ⟨#[]⟩, false⟩, noEv)) := by show stp _ _ = _; simp [stp, cmdF, hl3]
              have hl3' : (ps.length : Int) < 4 := by omega
              clear hdg h27 hkk
              as_aux_lemma =>
                go_wp2_with (first | (at_builtin; refine wpList_append_any _ (by rfl) _ _ 22 rfl wr.heap.size 3 i0 (.int .i64 0) 1 8 Try.underlying22 hi hz0 hz1 hz2 rfl (by decide) _ 0 [] rfl (World.ownsRow_nil _ _ _ _) (w.heap.size + 2) (some ⟨g, 0, none⟩) ps.length c (ints ps) rfl HO.out hone (by unfold maxLen; omega) (by omega) (Nat.le_refl _) ?_))
                intro v6 w6 hown6 hgrow6
                obtain ⟨t6, k6, rfl, ho6⟩ := own_shape hown6
                have hb6 : Below wr.heap.size wr w6 := below_none hgrow6
                have HB6 : Hid (Below wr.heap.size wr w6) := hb6
                have HS6 : Hid (wr.heap.size ≤ w6.heap.size) := hb6.size
                have HO6 : Hid (Own wr.heap.size w6 t6 k6 ps) := ho6
                clear hown6 hgrow6 ho6 hb6
                go_wp2_with (first | (at_builtin; refine wpList_append_lies _ rfl _ _ 22 rfl wr.heap.size 3 i0 (.int .i64 0) 1 8 Try.underlying22 hi hz0 hz1 hz2 rfl (by decide) _ ps.length (ints ps) rfl (World.ownsRow.alloc HO6.out _) ⟨w6.heap.size, 0, none⟩ 1 1 [.int .i64 0] rfl rfl ?d1 ?d2 (by decide) ?d3 ?d4 ?d5 (w6.heap.size + 1) ?d6 ?_))
                case d1 => exact World.news_of_block (cs := #[.int .i64 0]) (at_new w6 _)
                case d2 => intro u hu; simp at hu; subst hu; rfl
                case d3 => unfold maxLen; omega
                case d4 => omega
                case d5 => have := HS6.out; simp; omega
                case d6 => simp
                intro g7 cap7 w7 hown7 hgrow7 _ _
                rw [ownBlock_eq] at hgrow7
                have hb7 : Below wr.heap.size wr w7 := (HB6.out.alloc HS6.out _).grown hgrow7 (by have := HS6.out; simp; omega) (fun k hk => (own_blk HO6.out hk).1)
                have ho7 : Own wr.heap.size w7 (some ⟨g7, 0, none⟩) cap7 (ps ++ [0]) := by
                  show w7.ownsRow _ _ _ _ _ _
                  rw [List.length_append]
                  simpa [ints] using hown7
                obtain ⟨m0, m1, m2, m3, n0, n1, n2, n3⟩ := four (below_block hb7 H.out.box hBl)
                have HFF : Hid (GInv w.heap.size L (L + 1) w (w7.setCell ⟨w.heap.size, 1, none⟩ (.slice (some ⟨g7, 0, none⟩) (ps.length + 1) cap7)) ys (ys.size, ys.size + 1) ⟨2, ps ++ [0], ⟨#[]⟩, false⟩ (some ⟨g7, 0, none⟩) cap7 tq tc evs) := by
                  have := H.out.more hb7 ho7
                  show GInv _ _ _ _ _ _ _ _ _ _ _ _ _
                  simpa using this
                clear hown7 hgrow7 hb7 ho7 HO6 HB6 HS6
                go_wp2
                go_roundw
                case rel =>
                  obtain ⟨q1, q2⟩ := ref_next HTS.out HST.out HBB.out HSAY.out (r := (⟨2, ps ++ [0], ⟨#[]⟩, false⟩, noEv)) HF.out HFF.out (by simp [one, noEv])
                  exact ⟨k + 1, _, _, _, _, _, by omega, by go_num, q1, q2⟩
                case measure => simp [intOf]; omega
            by_cases hfn : 64 ≤ b ∧ b ≤ 126
            · have HF : Hid (stp ⟨2, ps, ⟨#[]⟩, false⟩ b = (ground, ⟨3, b, ps, ⟨#[]⟩⟩)) := by
                show stp _ b = _
                have e1 : ¬ (48 ≤ b ∧ b ≤ 57) := hdg
                have e2 : ¬ b = 59 := by omega
                simp [stp, cmdF, e1, e2, hfn]
              have n59 : (b == 59) = false := by simp; omega
              have m57 : 57 < b := by omega
              have m48 : 48 ≤ b := by omega
              obtain ⟨hf1, hf2⟩ := hfn
              clear hdg h27 h59 hkk
              as_aux_lemma =>
                go_wp2_with (first | (at_builtin; refine wpList_append_any _ (by rfl) _ _ 22 rfl wr.heap.size 3 i0 (.int .i64 0) 1 8 Try.underlying22 hi hz0 hz1 hz2 rfl (by decide) _ 0 [] rfl (World.ownsRow_nil _ _ _ _) (w.heap.size + 2) (some ⟨g, 0, none⟩) ps.length c (ints ps) rfl HO.out hone (by unfold maxLen; omega) (by omega) (Nat.le_refl _) ?_))
                intro v6 w6 hown6 hgrow6
                obtain ⟨t6, k6, rfl, ho6⟩ := own_shape hown6
                have hb6 : Below wr.heap.size wr w6 := below_none hgrow6
                have H6 : Hid (GInv w.heap.size L (L + 1) w w6 ys (ys.size, ys.size + 1) ⟨2, ps, ⟨#[]⟩, false⟩ (some ⟨g, 0, none⟩) c tq tc evs) := H.out.later hb6
                have HO6 : Hid (Own (w.heap.size + 2) w6 t6 k6 ps) := own_mono ho6 H.out.size
                have HA6 : Hid (blk t6 = none ∨ blk t6 ≠ blk (some ⟨g, 0, none⟩)) := by
                  cases hb : blk t6 with
                  | none => exact .inl rfl
                  | some g' => right; have := (own_blk ho6 hb).1; simp [blk]; omega
                clear hown6 hgrow6 ho6 hb6
                go_wp2_with fail
                refine (tell_any ⟨3, b, ps, ⟨#[]⟩⟩ t6 k6 H6.out HO6.out HA6.out hlen).mono ?_
                rintro e w5 ⟨rfl, g', cap', hg5⟩
                have HG5 : Hid (GInv w.heap.size L (L + 1) w w5 ys (ys.size, ys.size + 1) ⟨2, ps, ⟨#[]⟩, false⟩ (some ⟨g, 0, none⟩) c (some ⟨g', 0, none⟩) cap' (evs ++ [(⟨3, b, ps, ⟨#[]⟩⟩, t6, k6)])) := hg5
                clear hg5
                go_wp2_with fail
                refine (ground_any HG5.out).mono ?_
                rintro e w7 ⟨rfl, hg7⟩
                have HG7 : Hid (GInv w.heap.size L (L + 1) w w7 ys (ys.size, ys.size + 1) ground none 0 (some ⟨g', 0, none⟩) cap' (evs ++ [(⟨3, b, ps, ⟨#[]⟩⟩, t6, k6)])) := hg7
                clear hg7
                go_wp2
                go_roundw
                case rel =>
                  obtain ⟨q1, q2⟩ := ref_next HTS.out HST.out HBB.out HSAY.out (r := (ground, ⟨3, b, ps, ⟨#[]⟩⟩)) HF.out HG7.out (by simp [one])
                  exact ⟨k + 1, _, _, _, _, _, by omega, by go_num, q1, q2⟩
                case measure => simp [intOf]; omega
            have HF : Hid (stp ⟨2, ps, ⟨#[]⟩, false⟩ b = (ground, noEv)) := by
              show stp _ b = _
              have e1 : ¬ (48 ≤ b ∧ b ≤ 57) := hdg
              simp [stp, cmdF, e1, h59, hfn, h27]
            by_cases h59' : b = 59
            · have hl : ps.length = 4 := by omega
              subst h59'
              have hl' : ¬ (ps.length : Int) < 4 := by omega
              clear hdg h59 h27 hfn hkk
              as_aux_lemma =>
                go_wp2_with fail
                refine (ground_any H.out).mono ?_
                rintro e w5 ⟨rfl, hg5⟩
                have HG5 : Hid (GInv w.heap.size L (L + 1) w w5 ys (ys.size, ys.size + 1) ground none 0 tq tc evs) := hg5
                clear hg5
                go_wp2
                go_roundw
                case rel =>
                  obtain ⟨q1, q2⟩ := ref_next HTS.out HST.out HBB.out HSAY.out (r := (ground, noEv)) HF.out HG5.out (by simp [one, noEv])
                  exact ⟨k + 1, _, _, _, _, _, by omega, by go_num, q1, q2⟩
                case measure => simp [intOf]; omega
            have n59 : (b == 59) = false := by simpa using h59'
            have hrr : b < 48 ∨ (57 < b ∧ b < 64) ∨ 126 < b := by omega
            clear hdg h59 h27 hfn hkk h59'
            rcases hrr with hrr | hrr | hrr
            · as_aux_lemma =>
                go_wp2_with fail
                refine (ground_any H.out).mono ?_
                rintro e w5 ⟨rfl, hg5⟩
                have HG5 : Hid (GInv w.heap.size L (L + 1) w w5 ys (ys.size, ys.size + 1) ground none 0 tq tc evs) := hg5
                clear hg5
                go_wp2
                go_roundw
                case rel =>
                  obtain ⟨q1, q2⟩ := ref_next HTS.out HST.out HBB.out HSAY.out (r := (ground, noEv)) HF.out HG5.out (by simp [one, noEv])
                  exact ⟨k + 1, _, _, _, _, _, by omega, by go_num, q1, q2⟩
                case measure => simp [intOf]; omega
            · obtain ⟨hr1, hr2⟩ := hrr
              as_aux_lemma =>
                go_wp2_with fail
                refine (ground_any H.out).mono ?_
                rintro e w5 ⟨rfl, hg5⟩
                have HG5 : Hid (GInv w.heap.size L (L + 1) w w5 ys (ys.size, ys.size + 1) ground none 0 tq tc evs) := hg5
                clear hg5
                go_wp2
                go_roundw
                case rel =>
                  obtain ⟨q1, q2⟩ := ref_next HTS.out HST.out HBB.out HSAY.out (r := (ground, noEv)) HF.out HG5.out (by simp [one, noEv])
                  exact ⟨k + 1, _, _, _, _, _, by omega, by go_num, q1, q2⟩
                case measure => simp [intOf]; omega
            · as_aux_lemma =>
                go_wp2_with fail
                refine (ground_any H.out).mono ?_
                rintro e w5 ⟨rfl, hg5⟩
                have HG5 : Hid (GInv w.heap.size L (L + 1) w w5 ys (ys.size, ys.size + 1) ground none 0 tq tc evs) := hg5
                clear hg5
                go_wp2
                go_roundw
                case rel =>
                  obtain ⟨q1, q2⟩ := ref_next HTS.out HST.out HBB.out HSAY.out (r := (ground, noEv)) HF.out HG5.out (by simp [one, noEv])
                  exact ⟨k + 1, _, _, _, _, _, by omega, by go_num, q1, q2⟩
                case measure => simp [intOf]; omega
          · subst hp
            obtain rfl := HGS.out.nil34 (.inl rfl)
            have hsz : pl.size ≤ 48 := HGS.out.size
            by_cases h27 : b = 27
            · subst h27
              have HFF : Hid _ := H.out.put0 4
              as_aux_lemma =>
                go_wp2
                go_roundw
                case rel =>
                  obtain ⟨q1, q2⟩ := ref_next HTS.out HST.out HBB.out HSAY.out (r := (⟨4, [], pl, lg⟩, noEv)) rfl HFF.out (by simp [one, noEv])
                  exact ⟨k + 1, _, _, _, _, _, by omega, by go_num, q1, q2⟩
                case measure => simp [intOf]; omega
            have n27 : (b == 27) = false := by simpa using h27
            by_cases h24 : b = 24
            · subst h24
              as_aux_lemma =>
                go_wp2_with fail
                refine (ground_any H.out).mono ?_
                rintro e w5 ⟨rfl, hg5⟩
                have HG5 : Hid (GInv w.heap.size L (L + 1) w w5 ys (ys.size, ys.size + 1) ground none 0 tq tc evs) := hg5
                clear hg5
                go_wp2
                go_roundw
                case rel =>
                  obtain ⟨q1, q2⟩ := ref_next HTS.out HST.out HBB.out HSAY.out (r := (ground, noEv)) rfl HG5.out (by simp [one, noEv])
                  exact ⟨k + 1, _, _, _, _, _, by omega, by go_num, q1, q2⟩
                case measure => simp [intOf]; omega
            have n24 : (b == 24) = false := by simpa using h24
            by_cases hpl : 32 ≤ b ∧ b ≤ 126
            · have hpB : plainB b = true := by simp [plainB, hpl]
              by_cases h48 : pl.size < 48
              · have HF : Hid (stp ⟨3, [], pl, lg⟩ b = (⟨3, [], pl ++ (⟨#[UInt8.ofNat b.toNat]⟩ : ByteArray), lg⟩, noEv)) := by show stp _ b = _; simp [stp, picF, h27, h24, hpl, h48, push_one]
                have h48' : (pl.size : Int) < 48 := by omega
                have hcv1 := conv_one (wr.alloc (.cells #[.int .u8 b] 5)) wr.heap.size b (by simp [go_sem])
                have HFF : Hid _ := (H.out.put2 (pl ++ (⟨#[UInt8.ofNat b.toNat]⟩ : ByteArray))).alloc (.cells #[.int .u8 b] 5)
                have hBl : w.heap.size < wr.heap.size := by have := H.out.size; omega
                clear h27 h24 hpl
                as_aux_lemma =>
                  go_wp2
                  go_roundw
                  case rel =>
                    obtain ⟨q1, q2⟩ := ref_next HTS.out HST.out HBB.out HSAY.out (r := (⟨3, [], pl ++ (⟨#[UInt8.ofNat b.toNat]⟩ : ByteArray), lg⟩, noEv)) HF.out HFF.out (by simp [one, noEv])
                    exact ⟨k + 1, _, _, _, _, _, by omega, by go_num, q1, q2⟩
                  case measure => simp [intOf]; omega
              · have HF : Hid (stp ⟨3, [], pl, lg⟩ b = (⟨3, [], pl, true⟩, noEv)) := by show stp _ b = _; simp [stp, picF, h27, h24, hpl, h48]
                have h48' : ¬ (pl.size : Int) < 48 := by omega
                have HFF : Hid _ := H.out.put3 true
                clear h27 h24 hpl h48
                as_aux_lemma =>
                  go_wp2
                  go_roundw
                  case rel =>
                    obtain ⟨q1, q2⟩ := ref_next HTS.out HST.out HBB.out HSAY.out (r := (⟨3, [], pl, true⟩, noEv)) HF.out HFF.out (by simp [one, noEv])
                    exact ⟨k + 1, _, _, _, _, _, by omega, by go_num, q1, q2⟩
                  case measure => simp [intOf]; omega
            have hpB : plainB b = false := by simp only [plainB, hpl, decide_false]
            have HF : Hid (stp ⟨3, [], pl, lg⟩ b = (⟨3, [], pl, lg⟩, noEv)) := by show stp _ b = _; simp only [stp, picF, if_neg h27, if_neg h24, if_neg hpl]; rfl
            clear h27 h24 hpl
            as_aux_lemma =>
              go_wp2
              go_roundw
              case rel =>
                obtain ⟨q1, q2⟩ := ref_next HTS.out HST.out HBB.out HSAY.out (r := (⟨3, [], pl, lg⟩, noEv)) HF.out H.out (by simp [one, noEv])
                exact ⟨k + 1, _, _, _, _, _, by omega, by go_num, q1, q2⟩
              case measure => simp [intOf]; omega
          · subst hp
            obtain rfl := HGS.out.nil34 (.inr rfl)
            by_cases h27 : b = 27
            · subst h27
              as_aux_lemma =>
                go_wp2_with fail
                refine (ground_any H.out).mono ?_
                rintro e w5 ⟨rfl, hg5⟩
                have HG5 : Hid (GInv w.heap.size L (L + 1) w w5 ys (ys.size, ys.size + 1) ground none 0 tq tc evs) := hg5
                clear hg5
                go_wp2
                go_roundw
                case rel =>
                  obtain ⟨q1, q2⟩ := ref_next HTS.out HST.out HBB.out HSAY.out (r := (ground, noEv)) rfl HG5.out (by simp [one, noEv])
                  exact ⟨k + 1, _, _, _, _, _, by omega, by go_num, q1, q2⟩
                case measure => simp [intOf]; omega
            have n27 : (b == 27) = false := by simpa using h27
            by_cases h92 : b = 92
            · subst h92
              cases lg
              · as_aux_lemma =>
                  go_wp2_with fail
                  refine (tell_any ⟨4, 0, [], pl⟩ none 0 H.out (own_nil _ _) (.inl rfl) hlen).mono ?_
                  rintro e w5 ⟨rfl, g', cap', hg5⟩
                  have HG5 : Hid (GInv w.heap.size L (L + 1) w w5 ys (ys.size, ys.size + 1) ⟨4, [], pl, false⟩ a c (some ⟨g', 0, none⟩) cap' (evs ++ [(⟨4, 0, [], pl⟩, none, 0)])) := hg5
                  clear hg5
                  go_wp2_with fail
                  refine (ground_any HG5.out).mono ?_
                  rintro e w7 ⟨rfl, hg7⟩
                  have HG7 : Hid (GInv w.heap.size L (L + 1) w w7 ys (ys.size, ys.size + 1) ground none 0 (some ⟨g', 0, none⟩) cap' (evs ++ [(⟨4, 0, [], pl⟩, none, 0)])) := hg7
                  clear hg7
                  go_wp2
                  go_roundw
                  case rel =>
                    obtain ⟨q1, q2⟩ := ref_next HTS.out HST.out HBB.out HSAY.out (r := (ground, ⟨4, 0, [], pl⟩)) rfl HG7.out (by simp [one])
                    exact ⟨k + 1, _, _, _, _, _, by omega, by go_num, q1, q2⟩
                  case measure => simp [intOf]; omega
              · as_aux_lemma =>
                  go_wp2_with fail
                  refine (ground_any H.out).mono ?_
                  rintro e w5 ⟨rfl, hg5⟩
                  have HG5 : Hid (GInv w.heap.size L (L + 1) w w5 ys (ys.size, ys.size + 1) ground none 0 tq tc evs) := hg5
                  clear hg5
                  go_wp2
                  go_roundw
                  case rel =>
                    obtain ⟨q1, q2⟩ := ref_next HTS.out HST.out HBB.out HSAY.out (r := (ground, noEv)) rfl HG5.out (by simp [one, noEv])
                    exact ⟨k + 1, _, _, _, _, _, by omega, by go_num, q1, q2⟩
                  case measure => simp [intOf]; omega
            have n92 : (b == 92) = false := by simpa using h92
            have HF : Hid (stp ⟨4, [], pl, lg⟩ b = (ground, noEv)) := by show stp _ b = _; simp [stp, endF, h92]
            clear h27 h92
            as_aux_lemma =>
              go_wp2_with fail
              refine (ground_any H.out).mono ?_
              rintro e w5 ⟨rfl, hg5⟩
              have HG5 : Hid (GInv w.heap.size L (L + 1) w w5 ys (ys.size, ys.size + 1) ground none 0 tq tc evs) := hg5
              clear hg5
              go_wp2
              go_roundw
              case rel =>
                obtain ⟨q1, q2⟩ := ref_next HTS.out HST.out HBB.out HSAY.out (r := (ground, noEv)) HF.out HG5.out (by simp [one, noEv])
                exact ⟨k + 1, _, _, _, _, _, by omega, by go_num, q1, q2⟩
              case measure => simp [intOf]; omega
      · have hts : s.data.toList.take k = s.data.toList := List.take_of_length_le (by simp; omega)
        obtain ⟨c0, c1, c2, c3, f0, f1, f2, f3⟩ := four H.out.box
        obtain ⟨d0, d1, d2, d3, j0, j1, j2, j3⟩ := four H.out.res
        obtain ⟨l0, l1⟩ := one_cell H.out.cl
        have hlt' : ¬ (k : Int) < (s.size : Int) := by omega
        have hLB : L ≠ w.heap.size := by have := H.out.hL; omega
        have hLB1 : L ≠ w.heap.size + 1 := by have := H.out.hL; omega
        have HTK : Hid (s.data.toList.take k = s.data.toList) := hts
        clear hts hys hL hk
        as_aux_lemma =>
          go_wp2
          go_region
          go_wp2
          refine bodyPost_ret (v := .tuple #[.agg #[.int .i64 st.place, .slice a st.ps.length c, .string st.pl, .bool st.lg], .slice tq evs.length tc, .int .i64 0]) (by simp [results, Try.results9, go_sem, d0, d1, d2, d3]) rfl ?_
          obtain ⟨z1, z2, z3⟩ := H.out.last rfl (.int .i64 st.place) (.slice a st.ps.length c) (.string st.pl) (.bool st.lg)
          have hst := HST.out
          have hsay := HSAY.out
          rw [HTK.out] at hst hsay
          subst hst
          exact ⟨z1, fun h => absurd (hg.symm.trans h) (by decide), fun _ => ⟨a, c, tq, tc, evs, rfl, z2, z3, hsay⟩⟩

end Go.Proofs.Yticjkfhhpilkmaa
