/- Several texts in one, each as it was: TSameR, TSameT. -/
import Derived.Test.YtpichplhidiokacGreatDoorTFind
import Derived.Deep.QuietTactic
import Derived.Test.YtpichplhidiokacGreatDoorTShare

/- Lists of numbers that are alike, as the document's own answer has it. -/
namespace Go.Proofs.YtpichplhidiokacGreatDoor.Tl
open Go.RowKit

set_option maxHeartbeats 400000 in
/-- Two lists of the same numbers are alike. -/
theorem sameNR (l : List Int) (ao bo : Option Addr) (c1 c2 : Nat) (w : World) (ha : RdL w ao l) (hb : RdL w bo l) (hm : l.length ≤ 17592186044416) :
    Calls Tryz.prog 76 #[.slice ao l.length c1, .slice bo l.length c2] w fun e w' => e = .returned (.bool true) ∧ ∃ m, w' = w.drewN m := by
  have HA : Hid (RdL w ao l) := ha
  have HB : Hid (RdL w bo l) := hb
  clear ha hb
  go_enter Tryz.func76, Tryz.ntmps76
  go_wp2
  go_loopw [13] (fun i wr => ∃ k m : Nat, k ≤ l.length ∧ i = .int .i64 k ∧ wr = w.drewN m) (fun i _ => l.length - (intOf i).toNat)
  case atStart => exact ⟨0, 0, Nat.zero_le _, rfl, rfl⟩
  case round =>
    obtain ⟨k, m, hk, rfl, rfl⟩ := hrel
    by_cases hlt : k < l.length
    · obtain ⟨b, off, rfl, hc⟩ := HA.out.resolve_left (by intro h; subst h; simp at hlt)
      obtain ⟨b', off', rfl, hc'⟩ := HB.out.resolve_left (by intro h; subst h; simp at hlt)
      have h1 := hc k hlt
      have h2 := hc' k hlt
      obtain ⟨x, hx⟩ : ∃ x, x = l.getD k 0 := ⟨_, rfl⟩
      rw [← hx] at h1 h2
      have hlt' : (k : Int) < (l.length : Int) := by omega
      clear hc hc' hx HA HB
      go_wp2_with fail
      go_quiet (fail)
      go_wp2
      go_roundw
      case rel => exact ⟨k + 1, _, by omega, by go_num, rfl⟩
      case measure => simp [intOf]; omega
    · have hge : (l.length : Int) ≤ (k : Int) := by omega
      go_wp2
      go_ret
      exact ⟨rfl, m, rfl⟩

end Go.Proofs.YtpichplhidiokacGreatDoor.Tl

/- Panes that are alike. -/
namespace Go.Proofs.YtpichplhidiokacGreatDoor.Tl
open Go.RowKit

structure TwoB (w : World) (ia ib : List CIt) (oa ob : Option Addr) (n ca cb : Nat) (wx : World) : Prop where
  boxa : wx.heap[w.heap.size]? = some (tbox oa n ca)
  boxb : wx.heap[w.heap.size + 1]? = some (tbox ob n cb)
  rda : RdT wx oa ia
  rdb : RdT wx ob ib
  below : Below w.heap.size w wx

set_option maxHeartbeats 1000000 in
set_option maxRecDepth 100000 in
theorem sameT_any (ia ib : List CIt) (oa ob : Option Addr) (n ca cb : Nat) (w : World) (ha : RdT w oa ia) (hb : RdT w ob ib) (hc : colsOf ib = colsOf ia) (hn : n = ia.length) (hm : n ≤ 5864062014805) (hm2 : ∀ x ∈ ia, x.1.length ≤ 17592186044416) :
    Calls Tryz.prog 43 #[tval oa n ca, tval ob n cb] w fun e w' => e = .returned (.bool true) ∧ Below w.heap.size w w' := by
  have HT : Hid (TwoB w ia ib oa ob n ca cb ((w.alloc (tbox oa n ca)).alloc (tbox ob n cb))) := ⟨at_old (at_new w _) _, at_new1 w _ _, ha.below (below2 _ _ _), hb.below (below2 _ _ _), below2 _ _ _⟩
  have HC : Hid (colsOf ib = colsOf ia ∧ n = ia.length) := ⟨hc, hn⟩
  have HM : Hid (∀ x ∈ ia, x.1.length ≤ 17592186044416) := hm2
  clear ha hb hc hn hm2
  obtain ⟨a1, a2⟩ := one HT.out.boxa
  obtain ⟨a3, a4⟩ := one HT.out.boxb
  go_enter Tryz.func43, Tryz.ntmps43
  go_wp2
  clear a1 a2 a3 a4
  go_loopw [16] (fun i wr => ∃ k : Nat, k ≤ n ∧ i = .int .i64 k ∧ TwoB w ia ib oa ob n ca cb wr) (fun i _ => n - (intOf i).toNat)
  case atStart => exact ⟨0, Nat.zero_le _, rfl, HT.out⟩
  case round =>
    obtain ⟨k, hk, rfl, hi⟩ := hrel
    have HI : Hid (TwoB w ia ib oa ob n ca cb wr) := hi
    clear hi HT
    obtain ⟨a1, a2⟩ := one HI.out.boxa
    obtain ⟨a3, a4⟩ := one HI.out.boxb
    by_cases hlt : k < n
    · have hlt' : (k : Int) < (n : Int) := by omega
      have hla : k < ia.length := by have := HC.out.2; omega
      have hlb : k < ib.length := by
        have := congrArg List.length HC.out.1
        simp only [colsOf, List.length_map] at this
        omega
      obtain ⟨b, off, rfl, hc⟩ := HI.out.rda.row.resolve_left (by intro h; subst h; simp at hla)
      obtain ⟨b', off', rfl, hc'⟩ := HI.out.rdb.row.resolve_left (by intro h; subst h; simp at hlb)
      have h1 := hc k hla
      have h2 := hc' k hlb
      obtain ⟨⟨x1, x2, x3⟩, hx⟩ : ∃ x, x = ia[k] := ⟨_, rfl⟩
      obtain ⟨⟨y1, y2, y3⟩, hy⟩ : ∃ y, y = ib[k] := ⟨_, rfl⟩
      rw [← hx] at h1
      rw [← hy] at h2
      have hxy : y1 = x1 := by
        have e1 : (colsOf ib)[k]? = (colsOf ia)[k]? := by rw [HC.out.1]
        simp only [colsOf, List.getElem?_map, List.getElem?_eq_getElem hla, List.getElem?_eq_getElem hlb, Option.map_some, Option.some.injEq, ← hx, ← hy] at e1
        exact e1
      subst hxy
      have hxm : (y1, x2, x3) ∈ ia := by rw [hx]; exact List.getElem_mem hla
      have hym : (y1, y2, y3) ∈ ib := by rw [hy]; exact List.getElem_mem hlb
      have HSN : Hid (∀ m, Calls Tryz.prog 76 #[.slice x2 y1.length x3, .slice y2 y1.length y3] (wr.drewN m) fun e w' => e = .returned (.bool true) ∧ ∃ q, w' = (wr.drewN m).drewN q) := fun m =>
        sameNR y1 x2 y2 x3 y3 (wr.drewN m) (RdL.below (HI.out.rda.each _ hxm).1 (below_drewN wr m)) (RdL.below (HI.out.rdb.each _ hym).1 (below_drewN wr m)) (HM.out _ hxm)
      have h1' : wr.cell? ⟨b, off + k, none⟩ = some (.slice x2 y1.length x3) := h1
      have h2' : wr.cell? ⟨b', off' + k, none⟩ = some (.slice y2 y1.length y3) := h2
      clear hc hc' hx hy hxm hym h1 h2 hla hlb
      go_wp2_with fail
      go_quiet ((go_at_call 76; exact Calls.quiet_of (HSN.out _)))
      go_wp2
      go_roundw
      case rel => exact ⟨k + 1, by omega, by go_num, HI.out.boxa, HI.out.boxb, HI.out.rda.below (below_drewN _ _), HI.out.rdb.below (below_drewN _ _), below_to HI.out.below (below_drewN _ _)⟩
      case measure => simp [intOf]; omega
    · have hge : (n : Int) ≤ (k : Int) := by omega
      go_wp2
      go_ret
      exact ⟨rfl, HI.out.below⟩

end Go.Proofs.YtpichplhidiokacGreatDoor.Tl
