/- ParseStops, walked: for every parser and bytes the call answers true, and nothing that was there has turned. -/
import Derived.Test.YticjkfhhpilkmaaReads
namespace Go.Proofs.Yticjkfhhpilkmaa
open Go.RowKit

theorem stop_stp (s : PS) (h : GoodS s) : stp s 24 = (ground, noEv) := by
  obtain ⟨place, ps, pl, lg⟩ := s
  have h1 := h.lo
  have h2 := h.hi
  simp only at h1 h2
  have : place = 0 ∨ place = 1 ∨ place = 2 ∨ place = 3 ∨ place = 4 := by omega
  rcases this with h | h | h | h | h <;> subst h <;> simp [stp, gndF, escF, cmdF, picF, endF]
theorem stop_s (s : PS) (h : GoodS s) : feedS s [24] = ground := by
  show (stp s (bint 24)).1 = _
  rw [show bint 24 = 24 from rfl, stop_stp s h]
theorem stop_e (s : PS) (h : GoodS s) : feedE s [24] = [] := by
  simp only [feedE]
  rw [show bint 24 = 24 from rfl, stop_stp s h]
  rfl

theorem own_none {base : Nat} {w : World} {ao : Option Addr} {cap : Nat} {l : List Int} (h : Own base w ao cap l) : ao = none → l.length = 0 ∧ cap = 0 := by
  intro e
  subst e
  rcases h.2 with ⟨hv, _⟩ | ⟨g, c, cur, hv, _⟩
  · simp only [Value.slice.injEq] at hv; exact ⟨hv.2.1, hv.2.2⟩
  · simp only [Value.slice.injEq] at hv; cases hv.1

def canByte : ByteArray := { data := #[24] }

set_option maxHeartbeats 400000 in
theorem stops_any (s0 : PS) (ao : Option Addr) (cap : Nat) (s : ByteArray) (w : World) (hr : Rd w ao s0.ps) (hn : ao = none → s0.ps.length = 0 ∧ cap = 0) (hm : s0.ps.length * 8 ≤ 140737488355328) (hs : s.size ≤ 1048576) :
    Calls Try.prog 6 #[.agg #[.int .i64 s0.place, .slice ao s0.ps.length cap, .string s0.pl, .bool s0.lg], .string s] w fun e w' => e = .returned (.bool true) ∧ Below w.heap.size w w' := by
  have HR : Hid (Rd w ao s0.ps) := hr
  have HN : Hid (ao = none → s0.ps.length = 0 ∧ cap = 0) := hn
  clear hr hn
  go_enter Try.func6, Try.ntmps6
  go_wp2_with fail
  refine (feed_any s0 ao cap s _ (HR.out.below ((Below.refl _ _).alloc (Nat.le_refl _) _)) HN.out hm hs).mono ?_
  rintro e w1 ⟨hb, hbad, hgood⟩
  have HB : Hid (Below w.heap.size w w1) := below_up hb
  clear hb
  cases hg : goodB s0
  · obtain ⟨a1, c1, rfl, _⟩ := hbad hg
    clear hbad hgood
    go_wp2_with fail
    refine (reads_any _).mono ?_
    rintro e w2 ⟨rfl, hb2⟩
    have HB2 : Hid (Below w.heap.size w w2) := (HB.out.alloc HB.out.size _).trans (hb2.mono (by have := HB.out.size; simp; omega))
    clear hb2
    go_wp2
    go_ret
    exact ⟨rfl, HB2.out⟩
  · obtain ⟨a1, c1, tq, tc, evs, rfl, hown, _, _⟩ := hgood hg
    have hgs := good_feed s0 ((goodB_iff s0).1 hg) s.data.toList
    obtain ⟨st, hst⟩ : ∃ st, st = feedS s0 s.data.toList := ⟨_, rfl⟩
    rw [← hst] at hown hgs
    rw [← hst]
    have HO : Hid (Own (w.alloc (.cells #[.int .i64 s0.place, .slice ao s0.ps.length cap, .string s0.pl, .bool s0.lg] 24)).heap.size w1 a1 c1 st.ps) := hown
    have HG : Hid (GoodS st) := hgs
    clear hbad hgood hown hgs hst
    go_wp2_with fail
    refine (reads_any _).mono ?_
    rintro e w2 ⟨rfl, hb2⟩
    have HX : Hid (w2.heap[w1.heap.size]? = some (.cells #[.int .i64 st.place, .slice a1 st.ps.length c1, .string st.pl, .bool st.lg] 24 (0, 0))) := below_block hb2 (at_new w1 _) (by simp)
    have HB2 : Hid (Below w.heap.size w w2) := (HB.out.alloc HB.out.size _).trans (hb2.mono (by have := HB.out.size; simp; omega))
    have HO2 : Hid (Rd w2 a1 st.ps) := (Own.rd (own_alloc HO.out _)).below hb2
    obtain ⟨q0, q1, q2, q3, v0, v1, v2, v3⟩ := four HX.out
    clear hb2
    go_wp2_with fail
    refine (feed_any st a1 c1 canByte _ HO2.out (own_none HO.out) (by have := HG.out.len; omega) (by decide)).mono ?_
    rintro e w3 ⟨hb3, _, hgood⟩
    obtain ⟨a3, c3, t3, tc3, evs3, rfl, _, ht3, hsay⟩ := hgood ((goodB_iff st).2 HG.out)
    rw [show canByte.data.toList = [24] from rfl] at *
    rw [stop_s st HG.out]
    rw [stop_e st HG.out] at hsay
    have hl : evs3 = [] := by simpa using hsay
    subst hl
    have HB3 : Hid (Below w.heap.size w w3) := HB2.out.trans (hb3.mono HB2.out.size)
    clear hgood ht3 hsay hb3
    go_wp2_with fail
    refine (sameParser_eq ground a3 none c3 0 _ (.inl rfl) (.inl rfl) (by decide)).mono ?_
    rintro e w4 ⟨rfl, hb4⟩
    have HB4 : Hid (Below w.heap.size w w4) := (HB3.out.alloc HB3.out.size _).trans (hb4.mono (by have := HB3.out.size; simp; omega))
    clear hb4
    go_wp2
    go_ret
    exact ⟨rfl, HB4.out⟩

end Go.Proofs.Yticjkfhhpilkmaa
