/- Lists of rows in memory; what the document's own 'rowsOf' makes. -/
import Derived.Test.YteenppbpjdldgaaGRefB
import Derived.Deep.AppendLies
namespace Go.Proofs.Yteenppbpjdldgaa
open Go.RowKit

theorem row_below {w w' : World} {base sz n : Nat} {e : TypeId} {v : Value} {xs : List Value} (h : w.ownsRow base e sz v n xs) (hb : Below w.heap.size w w') : w'.ownsRow base e sz v n xs := by
  refine ⟨h.1, ?_⟩
  rcases h.2 with h0 | ⟨g, c, cur, hv, hbb, hg, rest⟩
  · exact .inl h0
  · exact .inr ⟨g, c, cur, hv, hbb, below_block hb hg (Array.getElem?_eq_some_iff.1 hg).1, rest⟩

/-- A row's slice. -/
@[reducible] def rv (W : Nat) (p : Nat × Nat) : Value := .slice (some ⟨p.1, 0, none⟩) W p.2

/-- A list of rows, each in a block of its own. -/
structure LL (w : World) (base : Nat) (v : Value) (W : Nat) (rows : List (Nat → Cel)) (items : List (Nat × Nat)) : Prop where
  len : items.length = rows.length
  row : w.ownsRow base 39 1 v rows.length (items.map (rv W))
  each : ∀ i (h : i < rows.length) (h' : i < items.length), 0 ≤ items[i].1 ∧ W ≤ items[i].2 ∧ Scr w items[i].1 W rows[i]

theorem LL.later {w w' : World} {base W : Nat} {v : Value} {rows : List (Nat → Cel)} {items : List (Nat × Nat)} (h : LL w base v W rows items) (hb : Below w.heap.size w w') : LL w' base v W rows items :=
  ⟨h.len, row_below h.row hb, fun i h1 h2 => by obtain ⟨a, b, c⟩ := h.each i h1 h2; exact ⟨a, b, c.below hb c.lt⟩⟩

theorem LL.get {w : World} {base W : Nat} {v : Value} {rows : List (Nat → Cel)} {items : List (Nat × Nat)} (h : LL w base v W rows items) (i : Nat) (hi : i < rows.length) :
    ∃ g cap, v = .slice (some ⟨g, 0, none⟩) rows.length cap ∧ base ≤ g ∧ g < w.heap.size ∧ w.cell? ⟨g, i, none⟩ = some (rv W (items[i]'(by rw [h.len]; exact hi))) := by
  rcases h.row.2 with ⟨_, h0⟩ | ⟨g, cap, cur, hv, hb, hg, hc, _, hs, ht⟩
  · omega
  · refine ⟨g, cap, hv, hb, (Array.getElem?_eq_some_iff.1 hg).1, ?_⟩
    have hil : i < items.length := by rw [h.len]; exact hi
    have e : (items.map (rv W))[i]? = some (rv W items[i]) := by simp [hil]
    rw [← ht, List.getElem?_take_of_lt (by omega)] at e
    simp only [World.cell?, hg]
    simpa using e

/-- One row more at the end. -/
theorem LL.snoc {w : World} {base W n cap g : Nat} {rows : List (Nat → Cel)} {items : List (Nat × Nat)} {row : Nat → Cel} {p : Nat × Nat} (hl : items.length = rows.length) (hn : n = rows.length)
    (hrow : w.ownsRow base 39 1 (.slice (some ⟨g, 0, none⟩) (n + 1) cap) (n + 1) (items.map (rv W) ++ [rv W p])) (heach : ∀ i (h : i < rows.length) (h' : i < items.length), 0 ≤ items[i].1 ∧ W ≤ items[i].2 ∧ Scr w items[i].1 W rows[i]) (hp : 0 ≤ p.1 ∧ W ≤ p.2 ∧ Scr w p.1 W row) :
    LL w base (.slice (some ⟨g, 0, none⟩) (n + 1) cap) W (rows ++ [row]) (items ++ [p]) := by
  subst hn
  refine ⟨by simp [hl], by simpa using hrow, fun i h1 h2 => ?_⟩
  by_cases hi : i < rows.length
  · have hi2 : i < items.length := by omega
    rw [List.getElem_append_left hi, List.getElem_append_left hi2]
    exact heach i hi hi2
  · have e1 : i = rows.length := by simp at h1; omega
    subst e1
    have g1 : (items ++ [p])[rows.length] = p := by
      rw [List.getElem_append_right (by omega)]
      simp
    have g2 : (rows ++ [row])[rows.length] = row := by simp
    rw [g1, g2]
    exact hp

theorem info81 : (Try.prog.info? 39).map (fun i => (i.zero, i.size, i.bytes)) = some (some (.slice none 0 0), 1, 24) := by kernel_rfl

/-- A row's block is none of a list of rows. -/
theorem scr_ne {w : World} {b n base k : Nat} {f : Nat → Cel} {v : Value} {xs : List Value} (hs : Scr w b n f) (h : w.ownsRow base 39 1 v k xs) : some b ≠ v.ownBlock := by
  obtain ⟨cur, hc, _⟩ := hs
  rcases h.2 with ⟨rfl, _⟩ | ⟨g, cap, cur2, rfl, _, hg, _⟩
  · simp [Value.ownBlock]
  · intro e
    simp only [Value.ownBlock, Option.some.injEq] at e
    subst e
    rw [hc] at hg
    simp at hg

theorem LL.grow {w w2 : World} {base W g' cap' : Nat} {v : Value} {rows : List (Nat → Cel)} {items : List (Nat × Nat)} {row : Nat → Cel} {p : Nat × Nat} {o : Obj} (h : LL w base v W rows items) (hp : 0 ≤ p.1 ∧ W ≤ p.2 ∧ Scr w p.1 W row)
    (hrow : w2.ownsRow base 39 1 (.slice (some ⟨g', 0, none⟩) (rows.length + 1) cap') (rows.length + 1) (items.map (rv W) ++ [rv W p])) (hg : (w.alloc o).grownBy w2 v.ownBlock) :
    LL w2 base (.slice (some ⟨g', 0, none⟩) (rows.length + 1) cap') W (rows ++ [row]) (items ++ [p]) := by
  refine LL.snoc h.len rfl hrow (fun i h1 h2 => ?_) ⟨hp.1, hp.2.1, (hp.2.2.alloc o).grown hg (scr_ne hp.2.2 h.row)⟩
  obtain ⟨a, b, c⟩ := h.each i h1 h2
  exact ⟨a, b, (c.alloc o).grown hg (scr_ne c h.row)⟩

theorem RdS.part {w : World} {b0 off n : Nat} {f : Nat → Cel} (h : RdS w (some ⟨b0, off, none⟩) n f) (P W : Nat) (hP : P + W ≤ n) : RdS w (some ⟨b0, off + P * 4, none⟩) W (fun j => f (P + j)) := by
  rcases h with h0 | ⟨b, o, ha, hc⟩
  · left; omega
  · simp only [Option.some.injEq, Addr.mk.injEq, and_true] at ha
    obtain ⟨rfl, rfl⟩ := ha
    refine .inr ⟨b0, off + P * 4, rfl, fun i hi => ?_⟩
    have := hc (P + i) (by omega)
    rw [show off + (P + i) * 4 = off + P * 4 + i * 4 by omega] at this
    exact this

/-- The rows of a screen. -/
def rowF (g : Gr) (W r : Nat) : Nat → Cel := fun j => g.f (r * W + j)
def rowsN (g : Gr) (W k : Nat) : List (Nat → Cel) := (List.range k).map (rowF g W)
theorem rowsN_succ (g : Gr) (W k : Nat) : rowsN g W (k + 1) = rowsN g W k ++ [rowF g W k] := by
  unfold rowsN
  rw [List.range_succ, List.map_append]
  rfl
theorem rowsN_length (g : Gr) (W k : Nat) : (rowsN g W k).length = k := by simp [rowsN]

theorem cell_one (w : World) (v : Value) (t : TypeId) (j : Nat) (u : Value) (hu : ([v] : List Value)[j]? = some u) : (w.alloc (.cells #[v] t)).cell? ((⟨w.heap.size, 0, none⟩ : Addr).add j) = some u := by
  have hj : j = 0 := by
    have := (List.getElem?_eq_some_iff.1 hu).1
    simpa using this
  subst hj
  simp only [List.getElem?_cons_zero, Option.some.injEq] at hu
  subst hu
  rw [add_at]
  exact cell_of_row _ _ 0 _ t _ (at_new w _)

theorem own_ge {w : World} {base sz n j : Nat} {e : TypeId} {v : Value} {xs : List Value} (h : w.ownsRow base e sz v n xs) (hj : v.ownBlock = some j) : base ≤ j := by
  rcases h.2 with ⟨rfl, _⟩ | ⟨g, cap, cur, rfl, hb, _⟩
  · simp [Value.ownBlock] at hj
  · simp only [Value.ownBlock, Option.some.injEq] at hj
    omega

/-- What is old stays, where a list of one's own grows. -/
theorem below_row {a w w2 : World} {base sz n : Nat} {e : TypeId} {v : Value} {xs : List Value} {o : Obj} (hb : Below a.heap.size a w) (h : w.ownsRow base e sz v n xs) (hbase : a.heap.size ≤ base) (hg : (w.alloc o).grownBy w2 v.ownBlock) : Below a.heap.size a w2 := by
  refine (hb.alloc hb.size o).grown hg (by have := hb.size; simp; omega) fun j hj => ?_
  have := own_ge h hj
  omega

set_option maxRecDepth 2000 in
set_option maxHeartbeats 4000000 in
theorem rowsOf_any (g : Gr) (ok : OkG g) (b0 off cap : Nat) (w : World) (hr : RdS w (some ⟨b0, off, none⟩) g.n g.f) (hc : g.n ≤ cap) (W H : Nat) (hW : g.wide = W) (hH : g.high = H) :
    Calls Try.prog 86 #[gval g (some ⟨b0, off, none⟩) cap] w fun e w' => ∃ v items, e = .returned v ∧ LL w' (w.heap.size + 1) v W (rowsN g W H) items ∧ Below w.heap.size w w' := by
  obtain ⟨i0, hi, hz0, hz1, hz2⟩ := info_parts info49
  obtain ⟨i1, hj, hy0, hy1, hy2⟩ := info_parts info81
  have HR : Hid (RdS w (some ⟨b0, off, none⟩) g.n g.f) := hr
  have hw1 := ok.w1
  have hw2 := ok.w2
  have hh2 := ok.h2
  have HN : Hid (∀ k : Nat, k < H → k * W + W ≤ g.n ∧ (k : Int) * g.wide = ((k * W : Nat) : Int) ∧ ((k : Int) + 1) * g.wide = ((k * W + W : Nat) : Int)) := by
    intro k hk
    have h1 := ok.nums.1
    have h2 : (k + 1) * W ≤ H * W := Nat.mul_le_mul_right _ (by omega)
    rw [Nat.add_mul] at h2
    have h3 : (g.n : Int) = ((H * W : Nat) : Int) := by rw [h1, hW, hH]; simp
    refine ⟨by omega, by rw [hW]; simp, by rw [hW, Int.add_mul]; simp⟩
  have hn240 : g.n ≤ 240 := by obtain ⟨q1, q2, _⟩ := ok.nums; omega
  have HHW : Hid (g.high = H) := hH
  have hW1 : 0 < W := by omega
  have hW2 : W ≤ 24 := by omega
  have hH2 : H ≤ 10 := by omega
  clear hr ok hW hH
  go_enter Try.func86, Try.ntmps86
  go_wp2
  go_loopw [3, 7] (fun l i wr => ∃ (k : Nat) (items : List (Nat × Nat)), k ≤ H ∧ i = .int .i64 k ∧ LL wr (w.heap.size + 1) l W (rowsN g W k) items ∧ Below w.heap.size w wr ∧ wr.heap[w.heap.size]? = some (gbox g (some ⟨b0, off, none⟩) cap)) (fun _ i _ => H - (intOf i).toNat)
  case atStart => exact ⟨0, [], Nat.zero_le _, rfl, ⟨rfl, World.ownsRow_nil _ _ _ _, fun i h1 _ => absurd h1 (by simp [rowsN])⟩, below1 _ _, at_new w _⟩
  case round =>
    obtain ⟨k, items, hk, rfl, hll, hb, hbx⟩ := hrel
    have HV : Hid (LL wr (w.heap.size + 1) u3 W (rowsN g W k) items ∧ Below w.heap.size w wr ∧ wr.heap[w.heap.size]? = some (gbox g (some ⟨b0, off, none⟩) cap)) := ⟨hll, hb, hbx⟩
    obtain ⟨⟨x0, x1, x2, x3, x4, x5, x6, x7, x8⟩, z⟩ := nine hbx
    have hsz : w.heap.size < wr.heap.size := (Array.getElem?_eq_some_iff.1 hbx).1
    clear hll hbx
    by_cases hlt : k < H
    · have hlt' : (k : Int) < g.high := by rw [HHW.out]; omega
      have hk0 : (0 : Int) ≤ (k : Int) := by omega
      obtain ⟨n1, n2, n3⟩ := HN.out k hlt
      have HSRC : Hid (∀ P, P = k * W → ∀ j u, (flatC (rowF g W k) W)[j]? = some u → wr.cell? ((⟨b0, off + P * 4, none⟩ : Addr).add j) = some u) := by
        rintro P rfl
        exact flat_src ((HR.out.below hb).part (k * W) W n1)
      obtain ⟨P, hP⟩ : ∃ P, P = k * W := ⟨_, rfl⟩
      obtain ⟨Q, hQ⟩ : ∃ Q, Q = k * W + W := ⟨_, rfl⟩
      have hS : Hid (∀ j u, (flatC (rowF g W k) W)[j]? = some u → wr.cell? ((⟨b0, off + P * 4, none⟩ : Addr).add j) = some u) := HSRC.out P hP
      rw [← hP] at n1 n2
      rw [← hQ] at n3
      have hwr1 : IntKind.i64.wrap ((k : Int) * g.wide) = (P : Int) := by rw [n2, IntKind.wrap_i64]; omega
      have hwr2 : IntKind.i64.wrap (((k : Int) + 1) * g.wide) = (Q : Int) := by rw [n3, IntKind.wrap_i64]; omega
      have hQP : Q - P = W := by omega
      have h01 : (0 : Int) ≤ (P : Int) := by omega
      have h02 : (P : Int) ≤ (Q : Int) := by omega
      have h03 : (Q : Int) ≤ (cap : Int) := by omega
      have h04 : ¬ cap = P := by omega
      clear hb n1 n2 n3 hP hQ HSRC
      go_wp2_with (first | (at_builtin; refine wpList_append_own _ rfl _ _ 39 rfl (w.heap.size + 1) 49 i0 (.agg #[.int .i64 0, .int .i64 0, .int .i64 0, .bool false]) 4 32 Try.underlying39 hi hz0 hz1 hz2 rfl (by decide) _ 0 [] rfl (World.ownsRow_nil _ _ _ _) ⟨b0, off + P * 4, none⟩ W (cap - P) (flatC (rowF g W k) W) rfl (flatC_length _ _) hS.out (flatC_one _ _) (by unfold maxLen; omega) (by omega) (by omega) ?_) | fail)
      intro v' w1 hown hgrow _
      obtain ⟨ao, c, rfl, _, ho2, _, _⟩ := row_shape2 hown
      obtain ⟨b1, rfl, hb1, hc1, hs1⟩ := ho2 hW1
      have hB1 : Below wr.heap.size wr w1 := (Below.refl _ _).grown hgrow (Nat.le_refl _) (fun k hk => by simp [Value.ownBlock] at hk)
      have hsz1 : wr.heap.size ≤ w1.heap.size := hB1.size
      have HL1 : Hid (LL w1 (w.heap.size + 1) u3 W (rowsN g W k) items ∧ Below w.heap.size w w1 ∧ w1.heap[w.heap.size]? = some (gbox g (some ⟨b0, off, none⟩) cap) ∧ (0 ≤ b1 ∧ W ≤ c ∧ Scr w1 b1 W (rowF g W k))) := ⟨HV.out.1.later hB1, HV.out.2.1.trans (hB1.mono HV.out.2.1.size), below_block hB1 HV.out.2.2 hsz, Nat.zero_le _, hc1, hs1⟩
      clear hown hgrow ho2 hb1 hc1 hs1 hB1 hS
      go_wp2_with (first | (at_builtin; refine wpList_append_lies _ rfl _ _ 81 rfl (w.heap.size + 1) 39 i1 (.slice none 0 0) 1 24 Try.underlying81 hj hy0 hy1 hy2 rfl (by decide) _ (rowsN g W k).length (items.map (rv W)) rfl (HL1.out.1.row.alloc _) ⟨w1.heap.size, 0, none⟩ 1 1 [rv W (b1, c)] rfl rfl ?c1 ?c2 (by decide) ?c3 ?c4 ?c5 (w1.heap.size + 1) ?c6 ?_) | fail)
      case c1 => exact cell_one w1 _ _
      case c2 => intro u hu; simp at hu; subst hu; rfl
      case c3 => unfold maxLen; rw [rowsN_length]; omega
      case c4 => rw [rowsN_length]; omega
      case c5 => simp; omega
      case c6 => simp
      · intro g' cap' w2 hown2 hgrow2 _ _
        obtain ⟨f1, f2, f3, f4⟩ := HL1.out
        have HF : Hid (LL w2 (w.heap.size + 1) (.slice (some ⟨g', 0, none⟩) ((rowsN g W k).length + 1) cap') W (rowsN g W (k + 1)) (items ++ [(b1, c)]) ∧ Below w.heap.size w w2 ∧ w2.heap[w.heap.size]? = some (gbox g (some ⟨b0, off, none⟩) cap)) := by
          refine ⟨?_, below_row f2 f1.row (by omega) hgrow2, grown_block hgrow2 (at_old f3 _) (fun e => by have := own_ge f1.row e.symm; omega)⟩
          rw [rowsN_succ]
          exact f1.grow f4 hown2 hgrow2
        clear hown2 hgrow2 f1 f2 f3 f4 HL1 HV
        go_wp2
        go_roundw
        case rel => exact ⟨k + 1, items ++ [(b1, c)], by omega, by go_num, HF.out⟩
        case measure => simp [intOf]; omega
    · have hge : g.high ≤ (k : Int) := by rw [HHW.out]; omega
      have HK : Hid (k = H) := (by omega : k = H)
      clear hb
      go_wp2
      go_ret
      have hf := HV.out.1
      rw [HK.out] at hf
      exact ⟨_, items, rfl, hf, HV.out.2.1⟩

end Go.Proofs.Yteenppbpjdldgaa
