/- TilesApart: each place lies within, and no cell is in two of them. -/
import Derived.Test.YtmdlbclaipajlabTShares
import Derived.Test.YtmdlbclaipajlabTApart0
namespace Go.Proofs.Ytmdlbclaipajlab.Tl
open Go.RowKit

def inRB (r : Rc) (row col : Int) : Bool := decide (r.row ≤ row ∧ row < r.row + r.high ∧ r.col ≤ col ∧ col < r.col + r.wide)

theorem in_any (r : Rc) (row col : Int) (h1 : -1000 ≤ r.row ∧ r.row ≤ 1000 ∧ -1000 ≤ r.col ∧ r.col ≤ 1000 ∧ -1000 ≤ r.high ∧ r.high ≤ 1000 ∧ -1000 ≤ r.wide ∧ r.wide ≤ 1000) (w : World) : Calls Try.prog 31 #[rval r, .int .i64 row, .int .i64 col] w fun e w' => e = .returned (.bool (inRB r row col)) ∧ Below w.heap.size w w' := by
  obtain ⟨a, b, c, d, e, f, g, h⟩ := h1
  go_enter Try.func31, Try.ntmps31
  go_wp2
  all_goals (go_ret; refine ⟨ret_bool ?_, below1 _ _⟩; rw [Bool.eq_iff_iff]; first | (simp only [inRB, decide_eq_true_eq, Bool.false_eq_true, false_iff]; omega) | (simp only [inRB, decide_eq_true_eq]; omega))

/-- How many panes' places hold the cell, ahead of pane k: none, or one. -/
def Cnt (cols : List (List Int)) (wide high row col : Int) (k : Nat) (c : Int) : Prop :=
  (c = 0 ∧ ∀ q : Nat, q < k → ¬ inR (whereT cols wide high q) row col) ∨ (c = 1 ∧ ∃ q : Nat, q < k ∧ inR (whereT cols wide high q) row col)

theorem cnt_no {cols : List (List Int)} {wide high row col : Int} {k : Nat} {c : Int} (h : Cnt cols wide high row col k c) (hn : ¬ inR (whereT cols wide high k) row col) : Cnt cols wide high row col (k + 1) c := by
  rcases h with ⟨h1, h2⟩ | ⟨h1, q, h2, h3⟩
  · refine .inl ⟨h1, fun q hq => ?_⟩
    by_cases e : q = k
    · subst e; exact hn
    · exact h2 q (by omega)
  · exact .inr ⟨h1, q, by omega, h3⟩
theorem cnt_yes {cols : List (List Int)} {wide high row col : Int} {k : Nat} {c : Int} (hw : 0 ≤ wide) (hw2 : wide < 25) (hh : 0 ≤ high) (hh2 : high < 25) (h : Cnt cols wide high row col k c) (hy : inR (whereT cols wide high k) row col) : c = 0 ∧ Cnt cols wide high row col (k + 1) (c + 1) := by
  rcases h with ⟨h1, h2⟩ | ⟨h1, q, h2, h3⟩
  · exact ⟨h1, .inr ⟨by omega, k, by omega, hy⟩⟩
  · exact (where_apart cols wide high q k row col hw hw2 hh hh2 (by omega) h3 hy).elim
theorem cnt_le {cols : List (List Int)} {wide high row col : Int} {k : Nat} {c : Int} (h : Cnt cols wide high row col k c) : 0 ≤ c ∧ c ≤ 1 := by
  rcases h with ⟨h1, _⟩ | ⟨h1, _⟩ <;> omega

structure PInv (w : World) (its : List CIt) (co : Option Addr) (cap : Nat) (wx : World) : Prop where
  box : wx.heap[w.heap.size]? = some (tbox co its.length cap)
  rd : RdT wx co its
  below : Below w.heap.size w wx
theorem PInv.next {w : World} {its : List CIt} {co : Option Addr} {cap : Nat} {wx w2 : World} (h : PInv w its co cap wx) (hb : Below wx.heap.size wx w2) : PInv w its co cap w2 :=
  ⟨below_block hb h.box (at_lt h.box), h.rd.below hb, below_to h.below hb⟩

set_option maxHeartbeats 2000000 in
set_option maxRecDepth 100000 in
theorem tilesApart_true (its : List CIt) (co : Option Addr) (cap : Nat) (wide0 high0 row0 col0 : Int) (w : World) (hr : RdT w co its) (hm : its.length ≤ 5864062014805) (hm2 : ∀ x ∈ its, x.1.length ≤ 17592186044416) :
    Calls Try.prog 7 #[tval co its.length cap, .int .i64 wide0, .int .i64 high0, .int .i64 row0, .int .i64 col0] w fun e w' => e = .returned (.bool true) ∧ Below w.heap.size w w' := by
  have HLY : Hid (∀ W : World, Calls Try.prog 32 #[] W fun e w' => e = .returned (.bool true) ∧ Below W.heap.size W w') := laysK
  have HWH : Hid (∀ W wide high p, RdT W co its → Calls Try.prog 28 #[tval co its.length cap, .int .i64 wide, .int .i64 high, .int .i64 p] W fun e w' => e = .returned (rval (whereT (colsOf its) wide high p)) ∧ Below W.heap.size W w') := fun W wide high p h => where_any its co cap wide high p W h hm hm2 _ rfl
  have HHS : Hid (∀ W p, RdT W co its → hasT (colsOf its) p = true → Calls Try.prog 23 #[tval co its.length cap, .int .i64 p] W fun e w' => e = .returned (.bool true) ∧ Below W.heap.size W w') := fun W p h hh => has_any its co cap p W h hm hm2 true hh.symm
  have HP0 : Hid (PInv w its co cap (w.alloc (tbox co its.length cap))) := ⟨at_new w _, hr.below (below1 _ _), below1 _ _⟩
  clear hr hm hm2
  go_enter Try.func7, Try.ntmps7
  go_wp2_with (first
    | (go_at_call_of 30 (Value.int IntKind.i64 wide0); refine (pick_any wide0 24 (by decide) (by decide) _).mono ?_; rintro e w1 ⟨a, a1, a2, rfl, rfl⟩)
    | (go_at_call_of 30 (Value.int IntKind.i64 high0); refine (pick_any high0 10 (by decide) (by decide) _).mono ?_; rintro e w1 ⟨b, b1, b2, rfl, rfl⟩)
    | (go_at_call_of 30 (Value.int IntKind.i64 row0); refine (pick_any row0 (1 + b) (by omega) (by omega) _).mono ?_; rintro e w1 ⟨c, c1, c2, rfl, rfl⟩)
    | (go_at_call_of 30 (Value.int IntKind.i64 col0); refine (pick_any col0 (1 + a) (by omega) (by omega) _).mono ?_; rintro e w1 ⟨d, d1, d2, rfl, rfl⟩)
    | fail)
  go_loopw [11, 26] (fun nn i wr => ∃ (k : Nat) (ct : Int), k ≤ 6 ∧ i = .int .i64 k ∧ nn = .int .i64 ct ∧ Cnt (colsOf its) (1 + a) (1 + b) c d k ct ∧ PInv w its co cap wr) (fun _ i _ => 6 - (intOf i).toNat)
  case atStart => exact ⟨0, 0, Nat.zero_le _, rfl, rfl, .inl ⟨rfl, fun q h => by omega⟩, HP0.out⟩
  case round =>
    obtain ⟨k, ct, hk, rfl, rfl, hct, hp⟩ := hrel
    obtain ⟨x1, x2⟩ := one hp.box
    have HPI : Hid (PInv w its co cap wr) := hp
    have HCT : Hid (Cnt (colsOf its) (1 + a) (1 + b) c d k ct) := hct
    have hcl := cnt_le hct
    clear hp hct HP0
    by_cases hlt : k < 6
    · have hlt' : (k : Int) < 6 := by omega
      obtain ⟨r, hr⟩ : ∃ r, r = whereT (colsOf its) (1 + a) (1 + b) k := ⟨_, rfl⟩
      obtain ⟨⟨f1, f2, f3, f4, f5, f6⟩, hz⟩ := where_in (colsOf its) (1 + a) (1 + b) k (by omega) (by omega) (by omega) (by omega) r hr
      have HW1 : Hid (Calls Try.prog 28 #[tval co its.length cap, .int .i64 (1 + a), .int .i64 (1 + b), .int .i64 k] wr fun e w' => e = .returned (rval r) ∧ Below wr.heap.size wr w') := by
        have := HWH.out wr (1 + a) (1 + b) k HPI.out.rd
        rw [← hr] at this
        exact this
      have HIN : Hid (∀ W, Calls Try.prog 31 #[rval r, .int .i64 c, .int .i64 d] W fun e w' => e = .returned (.bool (inRB r c d)) ∧ Below W.heap.size W w') := fun W => in_any r c d (by omega) W
      have HIR : Hid (inRB r c d = true ↔ inR (whereT (colsOf its) (1 + a) (1 + b) k) c d) := by
        show _ ↔ _
        rw [← hr]
        unfold inRB inR
        rw [decide_eq_true_eq]
      clear hr
      obtain ⟨rr, rc, rh, rw0⟩ := r
      simp only at f1 f2 f3 f4 f5 f6 hz HW1 HIN
      obtain ⟨bi, hbi⟩ : ∃ bi, bi = inRB ⟨rr, rc, rh, rw0⟩ c d := ⟨_, rfl⟩
      rw [← hbi] at HIN HIR
      rcases hz with ⟨z1, z2⟩ | ⟨z1, z2, z3⟩
      · subst z1 z2
        have hbf : bi = false := by rw [hbi]; simp only [inRB, decide_eq_false_iff_not]; omega
        subst hbf
        have HC2 : Hid (Cnt (colsOf its) (1 + a) (1 + b) c d (k + 1) ct) := cnt_no HCT.out (fun h => by have := HIR.out.2 h; cases this)
        clear hbi HHS
        go_wp2_with (first
          | (go_at_call 28; refine HW1.out.mono ?_; rintro e w2 ⟨rfl, hb2⟩; have HP2 : Hid (PInv w its co cap (w2.alloc (.cells #[.int .i64 rr, .int .i64 rc, .int .i64 0, .int .i64 0] 53))) := (HPI.out.next hb2).next (below1 _ _); clear x1 x2; obtain ⟨x1, x2⟩ := one HP2.out.box; obtain ⟨⟨y1, y2, y3, y4⟩, y5⟩ := four (at_new w2 (.cells #[.int .i64 rr, .int .i64 rc, .int .i64 0, .int .i64 0] 53)); clear hb2)
          | (go_at_call 31; refine (HIN.out _).mono ?_; rintro e w4 ⟨rfl, hb4⟩; have HP4 : Hid (PInv w its co cap w4) := HP2.out.next hb4; clear hb4)
          | fail)
        go_roundw
        case rel => exact ⟨k + 1, ct, by omega, by go_num, rfl, HC2.out, HP4.out⟩
        case measure => simp [intOf]; omega
      · have HH1 : Hid (∀ W, RdT W co its → Calls Try.prog 23 #[tval co its.length cap, .int .i64 k] W fun e w' => e = .returned (.bool true) ∧ Below W.heap.size W w') := fun W h => HHS.out W k h z3
        clear hbi HHS z3
        cases bi with
        | false =>
          have HC2 : Hid (Cnt (colsOf its) (1 + a) (1 + b) c d (k + 1) ct) := cnt_no HCT.out (fun h => by have := HIR.out.2 h; cases this)
          go_wp2_with (first
            | (go_at_call 28; refine HW1.out.mono ?_; rintro e w2 ⟨rfl, hb2⟩; have HP2 : Hid (PInv w its co cap (w2.alloc (.cells #[.int .i64 rr, .int .i64 rc, .int .i64 rh, .int .i64 rw0] 53))) := (HPI.out.next hb2).next (below1 _ _); clear x1 x2; obtain ⟨x1, x2⟩ := one HP2.out.box; obtain ⟨⟨y1, y2, y3, y4⟩, y5⟩ := four (at_new w2 (.cells #[.int .i64 rr, .int .i64 rc, .int .i64 rh, .int .i64 rw0] 53)); clear hb2)
            | (go_at_call 23; refine (HH1.out _ HP2.out.rd).mono ?_; rintro e w3 ⟨rfl, hb3⟩; have HP3 : Hid (PInv w its co cap w3) := HP2.out.next hb3; clear x1 x2 y1 y2 y3 y4 y5; obtain ⟨x1, x2⟩ := one HP3.out.box; obtain ⟨⟨y1, y2, y3, y4⟩, y5⟩ := four (below_block hb3 (at_new w2 (.cells #[.int .i64 rr, .int .i64 rc, .int .i64 rh, .int .i64 rw0] 53)) (by simp)); clear hb3)
            | (go_at_call 31; refine (HIN.out _).mono ?_; rintro e w4 ⟨rfl, hb4⟩; have HP4 : Hid (PInv w its co cap w4) := HP3.out.next hb4; clear hb4)
            | fail)
          go_roundw
          case rel => exact ⟨k + 1, ct, by omega, by go_num, rfl, HC2.out, HP4.out⟩
          case measure => simp [intOf]; omega
        | true =>
          obtain ⟨hc0, hc2⟩ := cnt_yes (by omega) (by omega) (by omega) (by omega) HCT.out (HIR.out.1 rfl)
          subst hc0
          have HC2 : Hid (Cnt (colsOf its) (1 + a) (1 + b) c d (k + 1) (0 + 1)) := hc2
          clear hc2
          go_wp2_with (first
            | (go_at_call 28; refine HW1.out.mono ?_; rintro e w2 ⟨rfl, hb2⟩; have HP2 : Hid (PInv w its co cap (w2.alloc (.cells #[.int .i64 rr, .int .i64 rc, .int .i64 rh, .int .i64 rw0] 53))) := (HPI.out.next hb2).next (below1 _ _); clear x1 x2; obtain ⟨x1, x2⟩ := one HP2.out.box; obtain ⟨⟨y1, y2, y3, y4⟩, y5⟩ := four (at_new w2 (.cells #[.int .i64 rr, .int .i64 rc, .int .i64 rh, .int .i64 rw0] 53)); clear hb2)
            | (go_at_call 23; refine (HH1.out _ HP2.out.rd).mono ?_; rintro e w3 ⟨rfl, hb3⟩; have HP3 : Hid (PInv w its co cap w3) := HP2.out.next hb3; clear x1 x2 y1 y2 y3 y4 y5; obtain ⟨x1, x2⟩ := one HP3.out.box; obtain ⟨⟨y1, y2, y3, y4⟩, y5⟩ := four (below_block hb3 (at_new w2 (.cells #[.int .i64 rr, .int .i64 rc, .int .i64 rh, .int .i64 rw0] 53)) (by simp)); clear hb3)
            | (go_at_call 31; refine (HIN.out _).mono ?_; rintro e w4 ⟨rfl, hb4⟩; have HP4 : Hid (PInv w its co cap w4) := HP3.out.next hb4; clear hb4)
            | fail)
          go_roundw
          case rel => exact ⟨k + 1, 0 + 1, by omega, by go_num, rfl, HC2.out, HP4.out⟩
          case measure => simp [intOf]; omega
    · have hge : (6 : Int) ≤ (k : Int) := by omega
      obtain ⟨hc0, hc1⟩ := hcl
      go_wp2_with (first
        | (go_at_call 32; refine (HLY.out _).mono ?_; rintro e w2 ⟨rfl, hb2⟩; have HB2 : Hid (Below w.heap.size w w2) := below_to HPI.out.below hb2; clear hb2)
        | fail)
      go_ret
      exact ⟨rfl, HB2.out⟩

end Go.Proofs.Ytmdlbclaipajlab.Tl
