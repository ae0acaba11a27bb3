/- ParseParts, walked: for every parser and bytes in two parts the call answers true, and nothing that was there has turned. -/
import Derived.Test.YticjkfhhpilkmaaStops
import Derived.Test.YticjkfhhpilkmaaSameEv
import Derived.Test.YticjkfhhpilkmaaAppAny
import Derived.Lib.SmallJoins
namespace Go.Proofs.Yticjkfhhpilkmaa
open Go.RowKit

set_option maxHeartbeats 1000000 in
theorem parts_bad (s0 : PS) (ao : Option Addr) (cap : Nat) (a b : ByteArray) (w : World) (hr : Rd w ao s0.ps) (hn : ao = none → s0.ps.length = 0 ∧ cap = 0) (hm : s0.ps.length * 8 ≤ 140737488355328) (hs : a.size + b.size ≤ 1048576) (hg : goodB s0 = false) :
    Calls Try.prog 4 #[.agg #[.int .i64 s0.place, .slice ao s0.ps.length cap, .string s0.pl, .bool s0.lg], .string a, .string b] w fun e w' => e = .returned (.bool true) ∧ Below w.heap.size w w' := by
  have HR : Hid (Rd w ao s0.ps) := hr
  have HN : Hid (ao = none → s0.ps.length = 0 ∧ cap = 0) := hn
  clear hr hn
  go_enter Try.func4, Try.ntmps4
  go_wp2_with fail
  refine (feed_any s0 ao cap a _ (HR.out.below ((Below.refl _ _).alloc (Nat.le_refl _) _)) HN.out hm (by omega)).mono ?_
  rintro e w1 ⟨hb, hbad, _⟩
  obtain ⟨a1, c1, rfl, hown⟩ := hbad hg
  have HB : Hid (Below (w.alloc (.cells #[.int .i64 s0.place, .slice ao s0.ps.length cap, .string s0.pl, .bool s0.lg] 24)).heap.size (w.alloc (.cells #[.int .i64 s0.place, .slice ao s0.ps.length cap, .string s0.pl, .bool s0.lg] 24)) w1) := hb
  have HO : Hid (Own (w.alloc (.cells #[.int .i64 s0.place, .slice ao s0.ps.length cap, .string s0.pl, .bool s0.lg] 24)).heap.size w1 a1 c1 s0.ps) := hown
  clear hbad hb hown
  go_wp2_with fail
  refine (feed_any s0 a1 c1 b _ (Own.rd (own_alloc HO.out _)) (own_none HO.out) hm (by omega)).mono ?_
  rintro e w2 ⟨hb, hbad, _⟩
  obtain ⟨a2, c2, rfl, _⟩ := hbad hg
  have HB2 : Hid (Below w.heap.size w w2) := ((below_up HB.out).alloc (below_up HB.out).size _).trans (hb.mono (by have := (below_up HB.out).size; simp; omega))
  have HX : Hid (w2.heap[w.heap.size]? = some (.cells #[.int .i64 s0.place, .slice ao s0.ps.length cap, .string s0.pl, .bool s0.lg] 24 (0, 0))) := below_block hb (at_old (below_block HB.out (at_new w _) (by simp)) _) (by have := (below_up HB.out).size; have := HB.out.size; simp at *; omega)
  obtain ⟨x0, x1, x2, x3, y0, y1, y2, y3⟩ := four HX.out
  have z2 : w.heap.size < w2.heap.size := (Array.getElem?_eq_some_iff.1 HX.out).1
  clear hbad hb
  go_wp2_with fail
  refine (feed_any s0 ao cap (a ++ b) _ (HR.out.below (HB2.out.alloc HB2.out.size _)) HN.out hm (by rw [ByteArray.size_append]; exact hs)).mono ?_
  rintro e w3 ⟨hb, hbad, _⟩
  obtain ⟨a3, c3, rfl, _⟩ := hbad hg
  have HB3 : Hid (Below w.heap.size w w3) := (HB2.out.alloc HB2.out.size _).trans (hb.mono (by have := HB2.out.size; simp; omega))
  clear hbad hb x0 x1 x2 x3 y0 y1 y2 y3
  go_wp2_with fail
  refine (reads_any _).mono ?_
  rintro e w4 ⟨rfl, hb4⟩
  have HB4 : Hid (Below w.heap.size w w4) := (HB3.out.alloc HB3.out.size _).trans (hb4.mono (by have := HB3.out.size; simp; omega))
  clear hb4
  go_wp2
  go_ret
  exact ⟨rfl, HB4.out⟩

/-- Where the walk of the good way stands behind the three calls. -/
structure PartsGood (w w4 : World) (st : PS) (a2 : Option Addr) (c2 : Nat) (a3 : Option Addr) (c3 : Nat) (e1 e2 e3 : List Item) (t1 : Option Addr) (k1 : Nat) (t2 : Option Addr) (k2 : Nat) (t3 : Option Addr) (k3 : Nat) : Prop where
  below : Below w.heap.size w w4
  own2 : Own w.heap.size w4 a2 c2 st.ps
  own3 : Own w.heap.size w4 a3 c3 st.ps
  told1 : Told w.heap.size w4 t1 k1 e1
  told2 : Told w.heap.size w4 t2 k2 e2
  told3 : Told w.heap.size w4 t3 k3 e3
  says : (e1 ++ e2).map (·.1) = e3.map (·.1)

theorem PartsGood.later {w w4 w5 : World} {st : PS} {a2 : Option Addr} {c2 : Nat} {a3 : Option Addr} {c3 : Nat} {e1 e2 e3 : List Item} {t1 : Option Addr} {k1 : Nat} {t2 : Option Addr} {k2 : Nat} {t3 : Option Addr} {k3 : Nat} (h : PartsGood w w4 st a2 c2 a3 c3 e1 e2 e3 t1 k1 t2 k2 t3 k3) (hb : Below w4.heap.size w4 w5) : PartsGood w w5 st a2 c2 a3 c3 e1 e2 e3 t1 k1 t2 k2 t3 k3 :=
  ⟨h.below.trans (hb.mono h.below.size), h.own2.later hb, h.own3.later hb, h.told1.later hb, h.told2.later hb, h.told3.later hb, h.says⟩

theorem row_shape {base : Nat} {w : World} {v : Value} {n : Nat} {xs : List Value} (h : w.ownsRow base 37 4 v n xs) : ∃ ao cap, v = .slice ao n cap ∧ w.ownsRow base 37 4 (.slice ao n cap) n xs := by
  rcases h.2 with ⟨rfl, rfl⟩ | ⟨g, cap, cur, rfl, _⟩
  · exact ⟨none, 0, rfl, h⟩
  · exact ⟨_, _, rfl, h⟩

theorem one_all (l : List Item) : ∀ u ∈ allCells l, u.oneCell' = true := by
  intro u hu
  simp only [allCells, List.mem_flatMap] at hu
  obtain ⟨x, _, hx⟩ := hu
  simp [cellsOf] at hx
  rcases hx with h | h | h | h <;> subst h <;> rfl

theorem below_of_grown {w w' : World} {row : Option Nat} (hg : w.grownBy w' row) (hr : ∀ k, row = some k → w.heap.size ≤ k) : Below w.heap.size w w' := (Below.refl _ _).grown hg (Nat.le_refl _) hr

theorem data_app (a b : ByteArray) : (a ++ b).data.toList = a.data.toList ++ b.data.toList := Joins.data_append a b

set_option maxHeartbeats 2000000 in
theorem parts_good (s0 : PS) (ao : Option Addr) (cap : Nat) (a b : ByteArray) (w : World) (hr : Rd w ao s0.ps) (hn : ao = none → s0.ps.length = 0 ∧ cap = 0) (hm : s0.ps.length * 8 ≤ 140737488355328) (hs : a.size + b.size ≤ 1048576) (hg : goodB s0 = true) :
    Calls Try.prog 4 #[.agg #[.int .i64 s0.place, .slice ao s0.ps.length cap, .string s0.pl, .bool s0.lg], .string a, .string b] w fun e w' => e = .returned (.bool true) ∧ Below w.heap.size w w' := by
  have HR : Hid (Rd w ao s0.ps) := hr
  have HN : Hid (ao = none → s0.ps.length = 0 ∧ cap = 0) := hn
  clear hr hn
  go_enter Try.func4, Try.ntmps4
  go_wp2_with fail
  refine (feed_any s0 ao cap a _ (HR.out.below ((Below.refl _ _).alloc (Nat.le_refl _) _)) HN.out hm (by omega)).mono ?_
  rintro e w1 ⟨hb, _, hgood⟩
  obtain ⟨a1, c1, t1, k1, e1, rfl, hown, htold1, hsay1⟩ := hgood hg
  have hgs := good_feed s0 ((goodB_iff s0).1 hg) a.data.toList
  obtain ⟨s1, hs1⟩ : ∃ s1, s1 = feedS s0 a.data.toList := ⟨_, rfl⟩
  rw [← hs1] at hown hgs
  rw [← hs1]
  have HS1 : Hid (s1 = feedS s0 a.data.toList) := hs1
  have HG1 : Hid (GoodS s1) := hgs
  have HBU : Hid (Below w.heap.size w w1) := below_up hb
  have HX1 : Hid (w1.heap[w.heap.size]? = some (.cells #[.int .i64 s0.place, .slice ao s0.ps.length cap, .string s0.pl, .bool s0.lg] 24 (0, 0))) := below_block hb (at_new w _) (by simp)
  have HO1 : Hid (Own w.heap.size w1 a1 c1 s1.ps) := own_mono hown (by simp)
  have HT1 : Hid (Told w.heap.size w1 t1 k1 e1) := told_mono htold1 (by simp)
  have HY1 : Hid (e1.map (·.1) = feedE s0 a.data.toList) := hsay1
  clear hgood hb hown htold1 hsay1 hgs hs1
  go_wp2_with fail
  refine (feed_any s1 a1 c1 b _ (Own.rd (own_alloc HO1.out _)) (own_none HO1.out) (by have := HG1.out.len; omega) (by omega)).mono ?_
  rintro e w2 ⟨hb, _, hgood⟩
  obtain ⟨a2, c2, t2, k2, e2, rfl, hown, htold2, hsay2⟩ := hgood ((goodB_iff s1).2 HG1.out)
  have hgs := good_feed s1 HG1.out b.data.toList
  obtain ⟨s2, hs2⟩ : ∃ s2, s2 = feedS s1 b.data.toList := ⟨_, rfl⟩
  rw [← hs2] at hown hgs
  rw [← hs2]
  have HS2 : Hid (s2 = feedS s1 b.data.toList) := hs2
  have HG2 : Hid (GoodS s2) := hgs
  have HB2 : Hid (Below w.heap.size w w2) := (HBU.out.alloc HBU.out.size _).trans (hb.mono (by have := HBU.out.size; simp; omega))
  have HX2 : Hid (w2.heap[w.heap.size]? = some (.cells #[.int .i64 s0.place, .slice ao s0.ps.length cap, .string s0.pl, .bool s0.lg] 24 (0, 0))) := below_block hb (at_old HX1.out _) (by have := (Array.getElem?_eq_some_iff.1 HX1.out).1; simp; omega)
  have HO2 : Hid (Own w.heap.size w2 a2 c2 s2.ps) := own_mono hown (by have := HBU.out.size; simp; omega)
  have HT2 : Hid (Told w.heap.size w2 t2 k2 e2) := told_mono htold2 (by have := HBU.out.size; simp; omega)
  have HT12 : Hid (Told w.heap.size w2 t1 k1 e1) := (HT1.out.later ((Below.refl _ _).alloc (Nat.le_refl _) _)).later hb
  have HY2 : Hid (e2.map (·.1) = feedE s1 b.data.toList) := hsay2
  obtain ⟨x0, x1, x2, x3, y0, y1, y2, y3⟩ := four HX2.out
  have z2 : w.heap.size < w2.heap.size := (Array.getElem?_eq_some_iff.1 HX2.out).1
  clear hgood hb hown htold2 hsay2 hgs hs2 HX1 HO1 HT1 HBU
  go_wp2_with fail
  refine (feed_any s0 ao cap (a ++ b) _ (HR.out.below (HB2.out.alloc HB2.out.size _)) HN.out hm (by rw [ByteArray.size_append]; exact hs)).mono ?_
  rintro e w3 ⟨hb, _, hgood⟩
  obtain ⟨a3, c3, t3, k3, e3, rfl, hown, htold3, hsay3⟩ := hgood hg
  have hst : feedS s0 (a ++ b).data.toList = s2 := by rw [data_app, feedS_append, ← HS1.out, ← HS2.out]
  rw [hst] at hown
  rw [hst]
  have HP : Hid (PartsGood w w3 s2 a2 c2 a3 c3 e1 e2 e3 t1 k1 t2 k2 t3 k3) :=
    ⟨(HB2.out.alloc HB2.out.size _).trans (hb.mono (by have := HB2.out.size; simp; omega)), (own_alloc HO2.out _).later hb, own_mono hown (by have := HB2.out.size; simp; omega),
      (HT12.out.later ((Below.refl _ _).alloc (Nat.le_refl _) _)).later hb, (HT2.out.later ((Below.refl _ _).alloc (Nat.le_refl _) _)).later hb, told_mono htold3 (by have := HB2.out.size; simp; omega),
      by rw [List.map_append, HY1.out, HY2.out, hsay3, data_app, feedE_append, ← HS1.out]⟩
  have HX3 : Hid (w3.heap[w2.heap.size]? = some (.cells #[.int .i64 s2.place, .slice a2 s2.ps.length c2, .string s2.pl, .bool s2.lg] 24 (0, 0))) := below_block hb (at_new w2 _) (by simp)
  have HL1 : Hid (e1.length ≤ a.size) := by
    have h1 := congrArg List.length HY1.out
    have h2 := evs_len s0 a.data.toList
    have e : a.data.toList.length = a.size := by rw [Array.length_toList]; rfl
    rw [List.length_map] at h1
    show e1.length ≤ a.size
    omega
  have HL2 : Hid (e2.length ≤ b.size) := by
    have h1 := congrArg List.length HY2.out
    have h2 := evs_len s1 b.data.toList
    have e : b.data.toList.length = b.size := by rw [Array.length_toList]; rfl
    rw [List.length_map] at h1
    show e2.length ≤ b.size
    omega
  clear hgood hb hown htold3 hsay3 hst x0 x1 x2 x3 y0 y1 y2 y3 HX2 HT12 HT2 HO2 HB2 HY1 HY2 z2
  go_wp2_with fail
  refine (reads_any _).mono ?_
  rintro e w4 ⟨rfl, hb4⟩
  have HP4 : Hid (PartsGood w w4 s2 a2 c2 a3 c3 e1 e2 e3 t1 k1 t2 k2 t3 k3) := (HP.out.later ((Below.refl _ _).alloc (Nat.le_refl _) _)).later hb4
  have HX4 : Hid (w4.heap[w2.heap.size]? = some (.cells #[.int .i64 s2.place, .slice a2 s2.ps.length c2, .string s2.pl, .bool s2.lg] 24 (0, 0))) := below_block hb4 (at_old HX3.out _) (by have := (Array.getElem?_eq_some_iff.1 HX3.out).1; simp; omega)
  have HZ4 : Hid (w4.heap[w3.heap.size]? = some (.cells #[.int .i64 s2.place, .slice a3 s2.ps.length c3, .string s2.pl, .bool s2.lg] 24 (0, 0))) := below_block hb4 (at_new w3 _) (by simp)
  obtain ⟨x0, x1, x2, x3, y0, y1, y2, y3⟩ := four HX4.out
  obtain ⟨u0, u1, u2, u3, v0, v1, v2, v3⟩ := four HZ4.out
  clear hb4 HP HX3
  go_wp2_with fail
  refine (sameParser_eq s2 a2 a3 c2 c3 _ (Own.rd HP4.out.own2) (Own.rd HP4.out.own3) (by have := HG2.out.len; omega)).mono ?_
  rintro e w5 ⟨rfl, hb5⟩
  have HP5 : Hid (PartsGood w w5 s2 a2 c2 a3 c3 e1 e2 e3 t1 k1 t2 k2 t3 k3) := HP4.out.later hb5
  have HZ5 : Hid (w5.heap[w3.heap.size]? = some (.cells #[.int .i64 s2.place, .slice a3 s2.ps.length c3, .string s2.pl, .bool s2.lg] 24 (0, 0))) := below_block hb5 HZ4.out (Array.getElem?_eq_some_iff.1 HZ4.out).1
  clear hb5 x0 x1 x2 x3 y0 y1 y2 y3 u0 u1 u2 u3 v0 v1 v2 v3 HX4 HZ4 HP4
  obtain ⟨i37, hi, hz0, hz1, hz2⟩ := info_parts info37
  have tok : True := trivial
  go_wp2_with (first | (at_builtin; have _t := tok; refine wpList_append_any _ (by rfl) _ _ 26 rfl w5.heap.size 37 i37 _ 4 56 Try.underlying26 hi hz0 hz1 hz2 rfl (by decide) _ 0 [] rfl (World.ownsRow_nil _ _ _ _) w.heap.size t1 e1.length k1 (allCells e1) rfl HP5.out.told1.row (one_all e1) ?g1 ?g2 (Nat.le_refl _) ?_; clear tok))
  case g1 => have := HL1.out; unfold maxLen; omega
  case g2 => have := HL1.out; omega
  intro v6 w6 hown6 hgrow6
  obtain ⟨t6, k6, rfl, hrow6⟩ := row_shape hown6
  have hb6 : Below w5.heap.size w5 w6 := below_of_grown hgrow6 (fun k hk => by cases hk)
  have HR6 : Hid (w6.ownsRow w5.heap.size 37 4 (.slice t6 e1.length k6) e1.length (allCells e1)) := hrow6
  have HP6 : Hid (PartsGood w w6 s2 a2 c2 a3 c3 e1 e2 e3 t1 k1 t2 k2 t3 k3) := HP5.out.later hb6
  have HS6 : Hid (w5.heap.size ≤ w6.heap.size) := hb6.size
  have HB6 : Hid (Below w5.heap.size w5 w6) := hb6
  clear hown6 hgrow6 hrow6 hb6
  have tok : True := trivial
  go_wp2_with (first | (at_builtin; have _t := tok; refine wpList_append_any _ (by rfl) _ _ 26 rfl w5.heap.size 37 i37 _ 4 56 Try.underlying26 hi hz0 hz1 hz2 rfl (by decide) _ e1.length (allCells e1) rfl HR6.out w.heap.size t2 e2.length k2 (allCells e2) rfl HP6.out.told2.row (one_all e2) ?g3 ?g4 HS6.out ?_; clear tok))
  case g3 => have := HL1.out; have := HL2.out; unfold maxLen; omega
  case g4 => have := HL1.out; have := HL2.out; omega
  intro v7 w7 hown7 hgrow7
  obtain ⟨t7, k7, rfl, hrow7⟩ := row_shape hown7
  rw [ownBlock_eq] at hgrow7
  have hb7 : Below w5.heap.size w5 w7 := HB6.out.grown hgrow7 HS6.out (fun k hk => (row_blk HR6.out hk).1)
  have HP7 : Hid (PartsGood w w7 s2 a2 c2 a3 c3 e1 e2 e3 t1 k1 t2 k2 t3 k3) := HP5.out.later hb7
  have HT7 : Hid (Told w.heap.size w7 t7 k7 (e1 ++ e2)) := by
    refine ⟨?_, ?_⟩
    · have e : allCells (e1 ++ e2) = allCells e1 ++ allCells e2 := by simp [allCells]
      rw [List.length_append, e]
      exact row_mono hrow7 HP5.out.below.size
    · intro x hx
      rcases List.mem_append.1 hx with h | h
      · exact HP7.out.told1.each x h
      · exact HP7.out.told2.each x h
  have HZ7 : Hid (w7.heap[w3.heap.size]? = some (.cells #[.int .i64 s2.place, .slice a3 s2.ps.length c3, .string s2.pl, .bool s2.lg] 24 (0, 0))) := below_block hb7 HZ5.out (Array.getElem?_eq_some_iff.1 HZ5.out).1
  have HQ : Hid (∀ x ∈ e1 ++ e2, x.1.ps.length ≤ 9223372036854775807) := by
    intro x hx
    have := (HT7.out.each x hx).2
    rcases this with ⟨_, h0⟩ | ⟨g, cp, cur, _, _, _, h1, h2, _⟩
    · omega
    · unfold maxLen at h2; omega
  have HC : Hid (Calls Try.prog 17 #[.slice t7 (e1.length + e2.length) k7, .slice t3 e3.length k3] w7 fun e w' => e = .returned (.bool true) ∧ Below w7.heap.size w7 w') := by
    have := sameEvents_eq (e1 ++ e2) e3 w.heap.size w.heap.size t7 t3 k7 k3 w7 HT7.out HP7.out.told3 HP7.out.says (by have := HL1.out; have := HL2.out; rw [List.length_append]; omega) HQ.out
    rw [List.length_append] at this
    exact this
  clear hown7 hgrow7 hrow7 hb7 HR6 HP6 HS6 HB6 HP5 HZ5
  go_wp2_with fail
  refine (Calls.mono HC.out ?_)
  rintro e w8 ⟨rfl, hb8⟩
  obtain ⟨x0, x1, x2, x3, y0, y1, y2, y3⟩ := four (below_block hb8 HZ7.out (Array.getElem?_eq_some_iff.1 HZ7.out).1)
  have HP8 : Hid (PartsGood w w8 s2 a2 c2 a3 c3 e1 e2 e3 t1 k1 t2 k2 t3 k3) := HP7.out.later hb8
  clear hb8 HC HT7 HZ7 HP7 HQ
  go_wp2_with fail
  refine (good_any s2 a3 c3 _ (Own.rd HP8.out.own3) (by have := HG2.out.len; omega)).mono ?_
  rintro e w9 ⟨rfl, hb9⟩
  have hg2 : goodB s2 = true := (goodB_iff s2).2 HG2.out
  have HB9 : Hid (Below w.heap.size w w9) := HP8.out.below.trans (hb9.mono HP8.out.below.size)
  clear hb9
  go_wp2
  go_ret
  exact ⟨rfl, HB9.out⟩

end Go.Proofs.Yticjkfhhpilkmaa
