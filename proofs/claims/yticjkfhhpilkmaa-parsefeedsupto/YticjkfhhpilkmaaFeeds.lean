/- ParseFeeds, walked: for every parser and bytes the call answers true, and nothing that was there has turned. -/
import Derived.Test.YticjkfhhpilkmaaRefFeed
import Derived.Test.YticjkfhhpilkmaaRefSame
import Derived.Test.YticjkfhhpilkmaaStops
import Derived.Deep.RegionHeld3
namespace Go.Proofs.Yticjkfhhpilkmaa
open Go.RowKit

/-- What both answer: the parser, the events, the error's number. -/
def fS (s0 : PS) (s : ByteArray) : PS := if goodB s0 = true then feedS s0 s.data.toList else s0
def fE (s0 : PS) (s : ByteArray) : List Ev := if goodB s0 = true then feedE s0 s.data.toList else []
def fC (s0 : PS) : Int := if goodB s0 = true then 0 else 1

theorem feed_uni {w w' : World} {s0 : PS} {s : ByteArray} {e : Ending} (h : FeedEnd w s0 s e w') : ∃ a2 c2 t2 k2 e2, e = .returned (.tuple #[.agg #[.int .i64 (fS s0 s).place, .slice a2 (fS s0 s).ps.length c2, .string (fS s0 s).pl, .bool (fS s0 s).lg], .slice t2 (List.length (α := Item) e2) k2, .int .i64 (fC s0)]) ∧
    Rd w' a2 (fS s0 s).ps ∧ Told w.heap.size w' t2 k2 e2 ∧ e2.map (·.1) = fE s0 s ∧ Below w.heap.size w w' := by
  obtain ⟨hb, h0, h1⟩ := h
  cases hg : goodB s0
  · obtain ⟨a, c, rfl, ho⟩ := h0 hg
    exact ⟨a, c, none, 0, [], by simp [fS, fC, hg], by simpa [fS, hg] using ho.rd, ⟨World.ownsRow_nil _ _ _ _, fun x hx => absurd hx (by simp)⟩, by simp [fE, hg], hb⟩
  · obtain ⟨a, c, t, k, ev, rfl, ho, ht, hs⟩ := h1 hg
    exact ⟨a, c, t, k, ev, by simp [fS, fC, hg], by simpa [fS, hg] using ho.rd, ht, by simpa [fE, hg] using hs, hb⟩

theorem ref_uni {w w' : World} {s0 : PS} {s : ByteArray} {ao : Option Addr} {cap : Nat} {e : Ending} (hr : Rd w ao s0.ps) (h : RefEnd w s0 s ao cap e w') : ∃ a2 c2 t2 k2 e2, e = .returned (.tuple #[.agg #[.int .i64 (fS s0 s).place, .slice a2 (fS s0 s).ps.length c2, .string (fS s0 s).pl, .bool (fS s0 s).lg], .slice t2 (List.length (α := Item) e2) k2, .int .i64 (fC s0)]) ∧
    Rd w' a2 (fS s0 s).ps ∧ Told w.heap.size w' t2 k2 e2 ∧ e2.map (·.1) = fE s0 s ∧ Below w.heap.size w w' := by
  obtain ⟨hb, h0, h1⟩ := h
  cases hg : goodB s0
  · obtain rfl := h0 hg
    exact ⟨ao, cap, none, 0, [], by simp [fS, fC, hg], by simpa [fS, hg] using hr.below hb, ⟨World.ownsRow_nil _ _ _ _, fun x hx => absurd hx (by simp)⟩, by simp [fE, hg], hb⟩
  · obtain ⟨a, c, t, k, ev, rfl, ho, ht, hs⟩ := h1 hg
    exact ⟨a, c, t, k, ev, by simp [fS, fC, hg], by simpa [fS, hg] using ho.rd, ht, by simpa [fE, hg] using hs, hb⟩

theorem fE_len (s0 : PS) (s : ByteArray) : (fE s0 s).length ≤ s.size := by
  have h := evs_len s0 s.data.toList
  have e : s.data.toList.length = s.size := by rw [Array.length_toList]; rfl
  unfold fE
  split <;> simp <;> omega

/-- What stands in memory ahead of the last row of ParseFeeds. -/
structure FK (w W : World) (B B5 B6 B9 : Nat) (s0 st : PS) (ao : Option Addr) (cap : Nat) (a1 : Option Addr) (c1 : Nat) (a2 : Option Addr) (c2 : Nat) (a3 : Option Addr) (c3 : Nat) (t2 : Option Addr) (k2 : Nat) (e2 : List Item) (t3 : Option Addr) (k3 : Nat) (e3 : List Item) : Prop where
  below : Below w.heap.size w W
  p : W.heap[B]? = some (.cells #[.int .i64 s0.place, .slice ao s0.ps.length cap, .string s0.pl, .bool s0.lg] 24 (0, 0))
  c : W.heap[B5]? = some (.cells #[.int .i64 s0.place, .slice a1 s0.ps.length c1, .string s0.pl, .bool s0.lg] 24 (0, 0))
  a : W.heap[B6]? = some (.cells #[.int .i64 st.place, .slice a2 st.ps.length c2, .string st.pl, .bool st.lg] 24 (0, 0))
  b : W.heap[B9]? = some (.cells #[.int .i64 st.place, .slice a3 st.ps.length c3, .string st.pl, .bool st.lg] 24 (0, 0))
  rp : Rd W ao s0.ps
  rc : Rd W a1 s0.ps
  ra : Rd W a2 st.ps
  rb : Rd W a3 st.ps
  t2 : Told w.heap.size W t2 k2 e2
  t3 : Told w.heap.size W t3 k3 e3

theorem FK.later {w W W' : World} {B B5 B6 B9 : Nat} {s0 st : PS} {ao : Option Addr} {cap : Nat} {a1 : Option Addr} {c1 : Nat} {a2 : Option Addr} {c2 : Nat} {a3 : Option Addr} {c3 : Nat} {t2 : Option Addr} {k2 : Nat} {e2 : List Item} {t3 : Option Addr} {k3 : Nat} {e3 : List Item}
    (h : FK w W B B5 B6 B9 s0 st ao cap a1 c1 a2 c2 a3 c3 t2 k2 e2 t3 k3 e3) (hb : Below W.heap.size W W') : FK w W' B B5 B6 B9 s0 st ao cap a1 c1 a2 c2 a3 c3 t2 k2 e2 t3 k3 e3 :=
  ⟨h.below.trans (hb.mono h.below.size), below_block hb h.p (lt_block h.p), below_block hb h.c (lt_block h.c), below_block hb h.a (lt_block h.a), below_block hb h.b (lt_block h.b), h.rp.below hb, h.rc.below hb, h.ra.below hb, h.rb.below hb, h.t2.later hb, h.t3.later hb⟩

set_option maxHeartbeats 4000000 in
theorem feeds_any (s0 : PS) (ao : Option Addr) (cap : Nat) (s : ByteArray) (w : World) (hr : Rd w ao s0.ps) (hn : ao = none → s0.ps.length = 0 ∧ cap = 0) (hm : s0.ps.length * 8 ≤ 140737488355328) (hs : s.size ≤ 1048576) :
    Calls Try.prog 3 #[.agg #[.int .i64 s0.place, .slice ao s0.ps.length cap, .string s0.pl, .bool s0.lg], .string s] w fun e w' => e = .returned (.bool true) ∧ Below w.heap.size w w' := by
  have HR : Hid (Rd w ao s0.ps) := hr
  have HN : Hid (ao = none → s0.ps.length = 0 ∧ cap = 0) := hn
  clear hr hn
  go_enter Try.func3, Try.ntmps3
  go_wp2_with fail
  refine (copy_any s0 ao cap _ (HR.out.below ((Below.refl _ _).alloc (Nat.le_refl _) _)) HN.out hm).mono ?_
  rintro e w1 ⟨a1, c1, rfl, hown1, hb1⟩
  have HB1 : Hid (Below w.heap.size w w1) := below_up hb1
  have HP1 : Hid (w1.heap[w.heap.size]? = some (.cells #[.int .i64 s0.place, .slice ao s0.ps.length cap, .string s0.pl, .bool s0.lg] 24 (0, 0))) := below_block hb1 (at_new w _) (by simp)
  have HC1 : Hid (Rd w1 a1 s0.ps) := hown1.rd
  have HN1 : Hid (a1 = none → s0.ps.length = 0 ∧ c1 = 0) := own_none hown1
  clear hb1 hown1
  go_wp2_with fail
  refine (feed_any s0 a1 c1 s _ (HC1.out.below ((Below.refl _ _).alloc (Nat.le_refl _) _)) HN1.out hm hs).mono ?_
  intro e w2 hfe
  obtain ⟨a2, c2, t2, k2, e2, rfl, hra, ht2, hs2, hb2⟩ := feed_uni hfe
  have HB2 : Hid (Below w.heap.size w w2) := (HB1.out.alloc HB1.out.size _).trans (hb2.mono (by have := HB1.out.size; simp; omega))
  have HP2 : Hid (w2.heap[w.heap.size]? = some (.cells #[.int .i64 s0.place, .slice ao s0.ps.length cap, .string s0.pl, .bool s0.lg] 24 (0, 0))) := below_block hb2 (at_old HP1.out _) (by have := lt_block HP1.out; simp; omega)
  have HC2 : Hid (w2.heap[w1.heap.size]? = some (.cells #[.int .i64 s0.place, .slice a1 s0.ps.length c1, .string s0.pl, .bool s0.lg] 24 (0, 0))) := below_block hb2 (at_new w1 _) (by simp)
  have HRC2 : Hid (Rd w2 a1 s0.ps) := (HC1.out.below ((Below.refl _ _).alloc (Nat.le_refl _) _)).below hb2
  have HRA2 : Hid (Rd w2 a2 (fS s0 s).ps) := hra
  have HT2 : Hid (Told w.heap.size w2 t2 k2 e2) := told_mono ht2 (by have := HB1.out.size; simp; omega)
  have HS2 : Hid (e2.map (·.1) = fE s0 s) := hs2
  obtain ⟨x0, x1, x2, x3, y0, y1, y2, y3⟩ := four HP2.out
  have hl2 := lt_block HP2.out
  obtain ⟨st, hst⟩ : ∃ st, st = fS s0 s := ⟨_, rfl⟩
  rw [← hst] at HRA2
  rw [← hst]
  have HST : Hid (st = fS s0 s) := hst
  obtain ⟨n, hn⟩ : ∃ n, n = fC s0 := ⟨_, rfl⟩
  rw [← hn]
  have HNC : Hid (n = fC s0) := hn
  clear hfe hra ht2 hs2 hb2 hst hn HP1 HC1
  go_wp2_with fail
  refine (refFeed_any s0 ao cap s _ (HR.out.below (HB2.out.alloc HB2.out.size _)) HN.out hm hs).mono ?_
  intro e w3 hfe
  obtain ⟨a3, c3, t3, k3, e3, rfl, hrb, ht3, hs3, hb3⟩ := ref_uni (HR.out.below (HB2.out.alloc HB2.out.size _)) hfe
  rw [← HST.out] at hrb
  rw [← HST.out, ← HNC.out]
  have hbA : Below w2.heap.size w2 w3 := below_up hb3
  have HF : Hid (FK w (w3.alloc (.cells #[.int .i64 st.place, .slice a3 st.ps.length c3, .string st.pl, .bool st.lg] 24)) w.heap.size w1.heap.size w2.heap.size w3.heap.size s0 st ao cap a1 c1 a2 c2 a3 c3 t2 k2 e2 t3 k3 e3) := by
    have hA : Below w2.heap.size w2 (w2.alloc (.cells #[.int .i64 st.place, .slice a2 st.ps.length c2, .string st.pl, .bool st.lg] 24)) := (Below.refl _ _).alloc (Nat.le_refl _) _
    have hZ : Below w3.heap.size w3 (w3.alloc (.cells #[.int .i64 st.place, .slice a3 st.ps.length c3, .string st.pl, .bool st.lg] 24)) := (Below.refl _ _).alloc (Nat.le_refl _) _
    have hw3 : Below w.heap.size w w3 := HB2.out.trans (hbA.mono HB2.out.size)
    exact ⟨hw3.alloc hw3.size _, at_old (below_block hbA HP2.out (lt_block HP2.out)) _, at_old (below_block hbA HC2.out (lt_block HC2.out)) _, at_old (below_block hb3 (at_new w2 _) (by simp)) _, at_new w3 _,
      HR.out.below (hw3.alloc hw3.size _), (HRC2.out.below hbA).below hZ, (HRA2.out.below hbA).below hZ, hrb.below hZ, (HT2.out.later hbA).later hZ, (told_mono ht3 (by have := HB2.out.size; simp; omega)).later hZ⟩
  have HS3 : Hid (e2.map (·.1) = e3.map (·.1)) := by rw [HS2.out, hs3]; rfl
  have HL2 : Hid (e2.length ≤ 1048576) := by
    have h1 := congrArg List.length HS2.out
    have h2 := fE_len s0 s
    rw [List.length_map] at h1
    show e2.length ≤ 1048576
    omega
  have HQ : Hid (∀ x ∈ e2, x.1.ps.length ≤ 9223372036854775807) := by
    intro x hx
    rcases (HT2.out.each x hx).2 with ⟨_, h0⟩ | ⟨g, cp, cur, _, _, _, h1, h2, _⟩
    · omega
    · unfold maxLen at h2; omega
  have HM : Hid (st.ps.length ≤ 9223372036854775807) := by
    rw [HST.out]
    unfold fS
    split
    · have := (good_feed s0 ((goodB_iff s0).1 ‹_›) s.data.toList).len
      show (feedS s0 s.data.toList).ps.length ≤ _
      omega
    · show s0.ps.length ≤ _
      omega
  clear hfe hrb ht3 hs3 hb3 hbA HP2 HC2 HRC2 HRA2 HT2 HS2 HB2 HB1 x0 x1 x2 x3 y0 y1 y2 y3 hl2 HST HNC HR HN HN1
  go_wp2
  obtain ⟨W, hW⟩ : ∃ W, W = w3.alloc (.cells #[.int .i64 st.place, .slice a3 st.ps.length c3, .string st.pl, .bool st.lg] 24) := ⟨_, rfl⟩
  rw [← hW] at HF
  rw [← hW]
  clear hW
  obtain ⟨p0, p1, p2, p3, _, _, _, _⟩ := four HF.out.p
  obtain ⟨q0, q1, q2, q3, _, _, _, _⟩ := four HF.out.c
  obtain ⟨r0, r1, r2, r3, _, _, _, _⟩ := four HF.out.a
  obtain ⟨v0, v1, v2, v3, _, _, _, _⟩ := four HF.out.b
  have hm' : s0.ps.length ≤ 9223372036854775807 := by omega
  have hmst := HM.out
  have tok : True := trivial
  go_region_held3 (fun w' => (w'.cell? ⟨w.heap.size, 0, none⟩ = some (.int .i64 s0.place) ∧ w'.cell? ⟨w.heap.size, 1, none⟩ = some (.slice ao s0.ps.length cap) ∧ w'.cell? ⟨w.heap.size, 2, none⟩ = some (.string s0.pl) ∧ w'.cell? ⟨w.heap.size, 3, none⟩ = some (.bool s0.lg)) ∧
      (w'.cell? ⟨w1.heap.size, 0, none⟩ = some (.int .i64 s0.place) ∧ w'.cell? ⟨w1.heap.size, 1, none⟩ = some (.slice a1 s0.ps.length c1) ∧ w'.cell? ⟨w1.heap.size, 2, none⟩ = some (.string s0.pl) ∧ w'.cell? ⟨w1.heap.size, 3, none⟩ = some (.bool s0.lg)) ∧
      (w'.cell? ⟨w2.heap.size, 0, none⟩ = some (.int .i64 st.place) ∧ w'.cell? ⟨w2.heap.size, 1, none⟩ = some (.slice a2 st.ps.length c2) ∧ w'.cell? ⟨w2.heap.size, 2, none⟩ = some (.string st.pl) ∧ w'.cell? ⟨w2.heap.size, 3, none⟩ = some (.bool st.lg)) ∧
      (w'.cell? ⟨w3.heap.size, 0, none⟩ = some (.int .i64 st.place) ∧ w'.cell? ⟨w3.heap.size, 1, none⟩ = some (.slice a3 st.ps.length c3) ∧ w'.cell? ⟨w3.heap.size, 2, none⟩ = some (.string st.pl) ∧ w'.cell? ⟨w3.heap.size, 3, none⟩ = some (.bool st.lg))) (go_keep)
    (first
      | (go_at_call 10; have _t := tok; refine (ref_sameParser_eq st a2 a3 c2 c3 W.drew (HF.out.later (Below.refl _ _).drew).ra (HF.out.later (Below.refl _ _).drew).rb hmst).mono ?_; rintro e w5 ⟨rfl, hb5⟩; have F5 := (HF.out.later (Below.refl _ _).drew).later hb5; have HF5 : Hid _ := F5; obtain ⟨p0, p1, p2, p3, _, _, _, _⟩ := four F5.p; obtain ⟨q0, q1, q2, q3, _, _, _, _⟩ := four F5.c; obtain ⟨r0, r1, r2, r3, _, _, _, _⟩ := four F5.a; obtain ⟨v0, v1, v2, v3, _, _, _, _⟩ := four F5.b; clear F5 hb5 tok; dsimp only)
      | (go_at_call 11; refine (ref_sameEvents_eq e2 e3 w.heap.size w.heap.size t2 t3 k2 k3 w5 HF5.out.t2 HF5.out.t3 HS3.out (Nat.le_trans HL2.out (by decide)) HQ.out).mono ?_; rintro e w6 ⟨rfl, hb6⟩; have F6 := HF5.out.later hb6; have HF6 : Hid _ := F6; obtain ⟨p0, p1, p2, p3, _, _, _, _⟩ := four F6.p; obtain ⟨q0, q1, q2, q3, _, _, _, _⟩ := four F6.c; obtain ⟨r0, r1, r2, r3, _, _, _, _⟩ := four F6.a; obtain ⟨v0, v1, v2, v3, _, _, _, _⟩ := four F6.b; clear F6 hb6; dsimp only)
      | (go_at_call 12; refine (good_any s0 a1 c1 w6 HF6.out.rc hm').mono ?_; rintro e w7 ⟨rfl, hb7⟩; have F7 := HF6.out.later hb7; have HF7 : Hid _ := F7; obtain ⟨p0, p1, p2, p3, _, _, _, _⟩ := four F7.p; obtain ⟨q0, q1, q2, q3, _, _, _, _⟩ := four F7.c; obtain ⟨r0, r1, r2, r3, _, _, _, _⟩ := four F7.a; obtain ⟨v0, v1, v2, v3, _, _, _, _⟩ := four F7.b; clear F7 hb7; dsimp only)
      | (go_at_call 13; refine (goodParser_any s0 ao cap w7 HF7.out.rp hm').mono ?_; rintro e w8 ⟨rfl, hb8⟩; have F8 := HF7.out.later hb8; have HF8 : Hid _ := F8; obtain ⟨p0, p1, p2, p3, _, _, _, _⟩ := four F8.p; obtain ⟨q0, q1, q2, q3, _, _, _, _⟩ := four F8.c; obtain ⟨r0, r1, r2, r3, _, _, _, _⟩ := four F8.a; obtain ⟨v0, v1, v2, v3, _, _, _, _⟩ := four F8.b; clear F8 hb8; dsimp only)
      | (go_at_call 10; refine (ref_sameParser_eq s0 a1 ao c1 cap w8 HF8.out.rc HF8.out.rp hm').mono ?_; rintro e w9 ⟨rfl, hb9⟩; have F9 := HF8.out.later hb9; have HF9 : Hid _ := F9; obtain ⟨p0, p1, p2, p3, _, _, _, _⟩ := four F9.p; obtain ⟨q0, q1, q2, q3, _, _, _, _⟩ := four F9.c; obtain ⟨r0, r1, r2, r3, _, _, _, _⟩ := four F9.a; obtain ⟨v0, v1, v2, v3, _, _, _, _⟩ := four F9.b; clear F9 hb9; dsimp only)
      | (go_at_call 14; refine (ref_reads_any w9).mono ?_; rintro e w10 ⟨rfl, hb10⟩; have F10 := HF9.out.later hb10; have HF10 : Hid _ := F10; obtain ⟨p0, p1, p2, p3, _, _, _, _⟩ := four F10.p; obtain ⟨q0, q1, q2, q3, _, _, _, _⟩ := four F10.c; obtain ⟨r0, r1, r2, r3, _, _, _, _⟩ := four F10.a; obtain ⟨v0, v1, v2, v3, _, _, _, _⟩ := four F10.b; clear F10 hb10; dsimp only))
  go_wp2
  go_ret
  exact ⟨rfl, HF10.out.below⟩

end Go.Proofs.Yticjkfhhpilkmaa
