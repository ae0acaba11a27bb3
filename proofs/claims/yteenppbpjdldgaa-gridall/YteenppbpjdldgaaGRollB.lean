/- What the document's own 'rowsIn' makes: one list of all rows. -/
import Derived.Test.YteenppbpjdldgaaGRollA
namespace Go.Proofs.Yteenppbpjdldgaa
open Go.RowKit

/-- Rows, one behind the other. -/
def catF (rows : List (Nat → Cel)) (W : Nat) : Nat → Cel := fun i => (rows.getD (i / W) (fun _ => noCel)) (i % W)

theorem flatC_add (h : Nat → Cel) (a b : Nat) : flatC h (a + b) = flatC h a ++ flatC (fun j => h (a + j)) b := by
  induction b with
  | zero => simp [flatC]
  | succ b ih => rw [← Nat.add_assoc, flatC_succ, ih, flatC_succ, List.append_assoc]
theorem flatC_congr {h h' : Nat → Cel} {n : Nat} (he : ∀ i, i < n → h i = h' i) : flatC h n = flatC h' n := by
  induction n with
  | zero => rfl
  | succ n ih => rw [flatC_succ, flatC_succ, ih (fun i hi => he i (by omega)), he n (by omega)]

theorem catF_at (rows : List (Nat → Cel)) (W k j : Nat) (hk : k < rows.length) (hj : j < W) : catF rows W (k * W + j) = rows[k] j := by
  unfold catF
  have hW : 0 < W := by omega
  have e1 : (k * W + j) / W = k := by
    rw [Nat.add_comm, Nat.add_mul_div_right _ _ hW, Nat.div_eq_of_lt hj, Nat.zero_add]
  have e2 : (k * W + j) % W = j := by
    rw [Nat.add_comm, Nat.add_mul_mod_self_right]
    exact Nat.mod_eq_of_lt hj
  rw [e1, e2, List.getD_eq_getElem?_getD, List.getElem?_eq_getElem hk]
  rfl

/-- At each round's head: as many cells as the rows so far have. -/
structure RIn (w : World) (g : Gr) (m : Nat) (f : Nat → Cel) (ao : Option Addr) (cap : Nat) (wr : World) : Prop where
  box : wr.heap[w.heap.size]? = some (gbox ⟨g.wide, g.high, m, f, g.row, g.col, g.ink, g.bold, g.top, g.bottom⟩ ao cap)
  res : wr.heap[w.heap.size + 1]? = some gzero
  row : wr.ownsRow (w.heap.size + 2) 49 4 (.slice ao m cap) m (flatC f m)
  below : Below w.heap.size w wr

theorem row_set2 {w : World} {base sz n : Nat} {e : TypeId} {v : Value} {xs : List Value} (h : w.ownsRow base e sz v n xs) {p : Addr} (hp : p.block < base) (u : Value) : (w.setCell p u).ownsRow base e sz v n xs := by
  refine ⟨h.1, ?_⟩
  rcases h.2 with h0 | ⟨g, c, cur, hv, hb, hg, rest⟩
  · exact .inl h0
  · exact .inr ⟨g, c, cur, hv, hb, by rw [Below.heap_setCell _ _ _ _ (by omega)]; exact hg, rest⟩

theorem ne_own {w : World} {base sz n B : Nat} {e : TypeId} {v : Value} {xs : List Value} (h : w.ownsRow base e sz v n xs) (hB : B < base) : some B ≠ v.ownBlock := fun hh => by
  have := own_ge h hh.symm
  omega

theorem RIn.step {w : World} {g : Gr} {m W : Nat} {f : Nat → Cel} {ao : Option Addr} {cap g' cap' : Nat} {wr w1 : World} {row : Nat → Cel} (h : RIn w g m f ao cap wr) (hrow : ∀ j, j < W → f (m + j) = row j)
    (hown : w1.ownsRow (w.heap.size + 2) 49 4 (.slice (some ⟨g', 0, none⟩) (m + W) cap') (m + W) (flatC f m ++ flatC row W)) (hg : wr.grownBy w1 (Value.slice ao m cap).ownBlock) :
    RIn w g (m + W) f (some ⟨g', 0, none⟩) cap' (w1.setCell ⟨w.heap.size, 2, none⟩ (.slice (some ⟨g', 0, none⟩) (m + W) cap')) := by
  have hb := h.below
  have hbs := hb.size
  have e : flatC f m ++ flatC row W = flatC f (m + W) := by rw [flatC_add, flatC_congr (h := fun j => f (m + j)) (h' := row) hrow]
  rw [e] at hown
  have hB : Below w.heap.size w w1 := hb.grown hg hbs fun j hj => by have := own_ge h.row hj; omega
  have hbx := grown_block hg h.box (ne_own h.row (by omega))
  exact ⟨set_box hbx, other_set (grown_block hg h.res (ne_own h.row (by omega))) (by omega), row_set2 hown (by simp) _, hB.setCell (Nat.le_refl _) _⟩

set_option maxRecDepth 2000 in
set_option maxHeartbeats 4000000 in
theorem rowsIn_any (g : Gr) (ao0 : Option Addr) (cap0 : Nat) (v : Value) (W L base : Nat) (rows : List (Nat → Cel)) (items : List (Nat × Nat)) (w : World) (hll : LL w base v W rows items) (hL : rows.length = L) (hL1 : 0 < L) (hL2 : L ≤ 10) (hW1 : 0 < W) (hW2 : W ≤ 24) (fx : Nat → Cel) (hfx : fx = catF rows W) :
    Calls Try.prog 87 #[gval g ao0 cap0, v] w fun e w' => ∃ b cap', e = .returned (gval ⟨g.wide, g.high, L * W, fx, g.row, g.col, g.ink, g.bold, g.top, g.bottom⟩ (some ⟨b, 0, none⟩) cap') ∧ Scr w' b (L * W) fx ∧ L * W ≤ cap' ∧ w.heap.size ≤ b ∧ Below w.heap.size w w' := by
  obtain ⟨i0, hi, hz0, hz1, hz2⟩ := info_parts info49
  obtain ⟨gl, capl, hv, _, hgl, hx0⟩ := hll.get 0 (by omega)
  clear hx0
  rw [hL] at hv
  subst hv
  have HL : Hid (LL w base (.slice (some ⟨gl, 0, none⟩) L capl) W rows items) := hll
  have HX : Hid (fx = catF rows W ∧ rows.length = L) := ⟨hfx, hL⟩
  clear hll hfx hL
  go_enter Try.func87, Try.ntmps87
  go_wp2
  go_loopw [10] (fun i wr => ∃ (k : Nat) (ao : Option Addr) (cap : Nat), k ≤ L ∧ i = .int .i64 k ∧ RIn w g (k * W) fx ao cap wr) (fun i _ => L - (intOf i).toNat)
  case atStart =>
    refine ⟨0, none, 0, Nat.zero_le _, rfl, ?_⟩
    rw [Nat.zero_mul]
    exact ⟨at_old (at_new w _) _, at_new1 w _ _, World.ownsRow_nil _ _ _ _, below2 _ _ _⟩
  case round =>
    obtain ⟨k, ao, cap, hk, rfl, hv⟩ := hrel
    have HV : Hid (RIn w g (k * W) fx ao cap wr) := hv
    obtain ⟨⟨x0, x1, x2, x3, x4, x5, x6, x7, x8⟩, z⟩ := nine hv.box
    obtain ⟨⟨u0, u1, u2, u3, u4, u5, u6, u7, u8⟩, v⟩ := nine hv.res
    have hsz : w.heap.size + 1 < wr.heap.size := (Array.getElem?_eq_some_iff.1 hv.res).1
    by_cases hlt : k < L
    · have hll := HL.out.later hv.below
      have hkr : k < rows.length := by rw [HX.out.2]; exact hlt
      obtain ⟨g2, cap2, he, _, hg2, hcell⟩ := hll.get k hkr
      simp only [Value.slice.injEq, Option.some.injEq, Addr.mk.injEq, and_true] at he
      obtain ⟨rfl, heL, rfl⟩ := he
      clear heL
      have hki : k < items.length := by rw [hll.len]; exact hkr
      obtain ⟨e1, e2, e3⟩ := hll.each k hkr hki
      obtain ⟨p, hp⟩ : ∃ p, p = items[k] := ⟨_, rfl⟩
      rw [← hp] at hcell e1 e2 e3
      have HS : Hid (∀ j u, (flatC rows[k] W)[j]? = some u → wr.cell? ((⟨p.1, 0, none⟩ : Addr).add j) = some u) := flat_src e3.rd
      have HRW : Hid (∀ j, j < W → fx (k * W + j) = rows[k] j) := fun j hj => by rw [HX.out.1]; exact catF_at rows W k j hkr hj
      have hlt' : (k : Int) < (L : Int) := by omega
      have hk0 : (0 : Int) ≤ (k : Int) := by omega
      have hkW : k * W + W ≤ 240 := by
        have : (k + 1) * W ≤ 10 * W := Nat.mul_le_mul_right _ (by omega)
        rw [Nat.add_mul] at this
        omega
      obtain ⟨row, hrow⟩ : ∃ row, row = rows[k] := ⟨_, rfl⟩
      rw [← hrow] at HS HRW
      obtain ⟨M, hM⟩ : ∃ M, M = k * W := ⟨_, rfl⟩
      have HM : Hid (M = k * W) := hM
      rw [← hM] at HV HRW x2 hkW
      clear hll hv e1 e2 e3 hp hrow hM hki hkr
      go_wp2_with (first | (at_builtin; refine wpList_append_lies _ rfl _ _ 39 rfl (w.heap.size + 2) 49 i0 (.agg #[.int .i64 0, .int .i64 0, .int .i64 0, .bool false]) 4 32 Try.underlying39 hi hz0 hz1 hz2 rfl (by decide) _ M (flatC fx M) rfl HV.out.row ⟨p.1, 0, none⟩ W p.2 (flatC row W) rfl (flatC_length _ _) ?c1 ?c2 hW1 ?c3 ?c4 ?c5 wr.heap.size ?c6 ?_) | fail)
      case c1 => intro j u hu; have h9 := HS.out j u hu; simpa [add_at] using h9
      case c2 => exact flatC_one _ W
      case c3 => unfold maxLen; omega
      case c4 => omega
      case c5 => omega
      case c6 => rfl
      · intro g' cap' w1 hown hgrow _ _
        have HN : Hid (RIn w g (M + W) fx (some ⟨g', 0, none⟩) cap' (w1.setCell ⟨w.heap.size, 2, none⟩ (.slice (some ⟨g', 0, none⟩) (M + W) cap'))) := HV.out.step HRW.out hown hgrow
        obtain ⟨⟨y0, y1, y2, y3, y4, y5, y6, y7, y8⟩, z1⟩ := nine (grown_block hgrow HV.out.box (ne_own HV.out.row (by omega)))
        clear hown hgrow
        go_wp2
        go_roundw
        case rel => exact ⟨k + 1, some ⟨g', 0, none⟩, cap', by omega, by go_num, by rw [Nat.add_mul, Nat.one_mul, ← HM.out]; exact HN.out⟩
        case measure => simp [intOf]; omega
    · have HK : Hid (k = L) := (by omega : k = L)
      have hge : (L : Int) ≤ (k : Int) := by omega
      clear hv
      go_wp2
      refine bodyPost_ret (v := gval ⟨g.wide, g.high, k * W, fx, g.row, g.col, g.ink, g.bold, g.top, g.bottom⟩ ao cap) (by simp [results, Try.results87, go_sem, *]) rfl ?_
      have hpos : 0 < k * W := Nat.mul_pos (by have := HK.out; omega) hW1
      obtain ⟨b, cap2, hve, hbb, hcc, hss⟩ := scr_of_row HV.out.row hpos
      simp only [Value.slice.injEq] at hve
      obtain ⟨rfl, _, rfl⟩ := hve
      have hkn := HK.out
      subst hkn
      exact ⟨b, _, rfl, scr_set9 hss (by omega) _ _ _ _ _ _ _ _ _, hcc, by omega, below_set9 HV.out.below (by omega) _ _ _ _ _ _ _ _ _⟩

end Go.Proofs.Yteenppbpjdldgaa
