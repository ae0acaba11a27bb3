/- Where a pane is. -/
import Derived.Test.YtpichplhidiokacGreatDoorTBase
namespace Go.Proofs.YtpichplhidiokacGreatDoor.Tl
open Go.RowKit

def intOf : Value → Int
  | .int _ i => i
  | _ => 0

set_option maxHeartbeats 400000 in
theorem index_any (c : List Int) (ao : Option Addr) (cap : Nat) (p : Int) (w : World) (hr : RdL w ao c) (hm : c.length ≤ 17592186044416) :
    Calls Tryz.prog 87 #[.slice ao c.length cap, .int .i64 p] w fun e w' => e = .returned (.int .i64 (idxI p c)) ∧ w' = w := by
  have HR : Hid (RdL w ao c) := hr
  clear hr
  go_enter Tryz.func87, Tryz.ntmps87
  go_wp2
  go_loopw [8] (fun i wr => ∃ k : Nat, k ≤ c.length ∧ i = .int .i64 k ∧ wr = w ∧ ∀ j (hj : j < c.length), j < k → c[j] ≠ p) (fun i _ => c.length - (intOf i).toNat)
  case atStart => exact ⟨0, Nat.zero_le _, rfl, rfl, fun j _ h => by omega⟩
  case round =>
    obtain ⟨k, hk, rfl, rfl, hb⟩ := hrel
    have HB : Hid (∀ j (hj : j < c.length), j < k → c[j] ≠ p) := hb
    clear hb
    by_cases hlt : k < c.length
    · obtain ⟨b, off, rfl, hc⟩ := HR.out.resolve_left (by intro h; subst h; simp at hlt)
      have h1 := hc k hlt
      obtain ⟨x, hx⟩ : ∃ x, x = c.getD k 0 := ⟨_, rfl⟩
      rw [← hx] at h1
      have HX : Hid (c[k] = x) := by show c[k] = x; rw [hx]; simp [hlt]
      clear hc hx
      by_cases he : p = x
      · have HI : Hid (idx p c = some k) := idx_at hlt (by rw [HX.out, he]) (fun i hi => HB.out i (by omega) hi)
        go_wp2
        go_ret
        exact ⟨ret_int (by unfold idxI; rw [HI.out]), rfl⟩
      · have HE : Hid (c[k] ≠ p) := by show c[k] ≠ p; rw [HX.out]; exact fun e => he e.symm
        go_wp2
        go_roundw
        case rel => exact ⟨k + 1, by omega, by go_num, by first | rfl | trivial, fun j hj h => if e : j = k then by subst e; exact HE.out else HB.out j hj (by omega)⟩
        case measure => simp [intOf]; omega
    · have HI : Hid (idx p c = none) := idx_end (fun i hi => HB.out i hi (by omega))
      go_wp2
      go_ret
      exact ⟨ret_int (by unfold idxI; rw [HI.out]), rfl⟩

def fi (r : Option (Nat × Nat)) : Int := match r with
  | some x => (x.1 : Int)
  | none => 0
def fj (r : Option (Nat × Nat)) : Int := match r with
  | some x => (x.2 : Int)
  | none => 0

set_option maxHeartbeats 400000 in
theorem find_any (its : List CIt) (co : Option Addr) (cap : Nat) (p : Int) (w : World) (hr : RdT w co its) (hm : its.length ≤ 5864062014805) (hm2 : ∀ x ∈ its, x.1.length ≤ 17592186044416) (r : Option (Nat × Nat)) (hr0 : r = findT p (colsOf its)) :
    Calls Tryz.prog 54 #[tval co its.length cap, .int .i64 p] w fun e w' => e = .returned (.tuple #[.int .i64 (fi r), .int .i64 (fj r), .bool r.isSome]) ∧ w' = w.alloc (tbox co its.length cap) := by
  have HR : Hid (RdT (w.alloc (tbox co its.length cap)) co its) := hr.below (below1 _ _)
  have HM : Hid (∀ x ∈ its, x.1.length ≤ 17592186044416) := hm2
  have HR0 : Hid (r = findT p (colsOf its)) := hr0
  obtain ⟨b0, z0⟩ := one (at_new w (tbox co its.length cap))
  clear hr hm2 hr0
  go_enter Tryz.func54, Tryz.ntmps54
  go_wp2
  go_loopw [13] (fun i wr => ∃ k : Nat, k ≤ its.length ∧ i = .int .i64 k ∧ wr = w.alloc (tbox co its.length cap) ∧ ∀ j (hj : j < its.length), j < k → idx p its[j].1 = none) (fun i _ => its.length - (intOf i).toNat)
  case atStart => exact ⟨0, Nat.zero_le _, rfl, rfl, fun j _ h => by omega⟩
  case round =>
    obtain ⟨k, hk, rfl, rfl, hb⟩ := hrel
    have HB : Hid (∀ j (hj : j < its.length), j < k → idx p its[j].1 = none) := hb
    clear hb
    by_cases hlt : k < its.length
    · obtain ⟨b, off, rfl, hc⟩ := HR.out.row.resolve_left (by intro h; subst h; simp at hlt)
      have h1 := hc k hlt
      obtain ⟨x, hx⟩ : ∃ x, x = its[k] := ⟨_, rfl⟩
      rw [← hx] at h1
      have hmem : x ∈ its := by rw [hx]; exact List.getElem_mem hlt
      have HIX : Hid (∀ w', w' = w.alloc (tbox (some ⟨b, off, none⟩) its.length cap) → Calls Tryz.prog 87 #[.slice x.2.1 x.1.length x.2.2, .int .i64 p] w' fun e w'' => e = .returned (.int .i64 (idxI p x.1)) ∧ w'' = w') := by
        rintro w' rfl
        exact index_any x.1 x.2.1 x.2.2 p _ (HR.out.each x hmem).1 (HM.out x hmem)
      have HX : Hid (x = its[k]) := hx
      clear hc hx hmem
      cases he : idx p x.1 with
      | some j =>
        have hi : idxI p x.1 = (j : Int) := by unfold idxI; rw [he]
        have HF : Hid (r = some (k, j)) := by
          show r = _
          rw [HR0.out]
          refine findT_at (by simpa using hlt) ?_ (fun i hi => ?_)
          · simp only [List.getElem_map, ← HX.out]; exact he
          · simp only [List.getElem_map]; exact HB.out i (by omega) hi
        rw [hi] at HIX
        clear he
        go_wp2_with (go_at_call 87; refine (HIX.out _ rfl).mono ?_; rintro e w1 ⟨rfl, rfl⟩)
        refine bodyPost_ret (by simp [results, Tryz.results54, go_sem]; rfl) rfl ?_
        rw [HF.out]
        exact ⟨rfl, rfl⟩
      | none =>
        have hi : idxI p x.1 = -1 := by unfold idxI; rw [he]
        have HE : Hid (idx p its[k].1 = none) := by show _ = _; rw [← HX.out]; exact he
        rw [hi] at HIX
        clear he
        go_wp2_with (go_at_call 87; refine (HIX.out _ rfl).mono ?_; rintro e w1 ⟨rfl, rfl⟩)
        go_roundw
        case rel => exact ⟨k + 1, by omega, by go_num, by first | rfl | trivial, fun j hj h => if e : j = k then by subst e; exact HE.out else HB.out j hj (by omega)⟩
        case measure => simp [intOf]; omega
    · have HF : Hid (r = none) := by
        show r = _
        rw [HR0.out]
        refine findT_end fun i hi => ?_
        simp only [List.getElem_map]
        exact HB.out i (by simpa using hi) (by simp at hi; omega)
      go_wp2
      refine bodyPost_ret (by simp [results, Tryz.results54, go_sem]; rfl) rfl ?_
      rw [HF.out]
      exact ⟨rfl, rfl⟩

theorem has_any (its : List CIt) (co : Option Addr) (cap : Nat) (p : Int) (w : World) (hr : RdT w co its) (hm : its.length ≤ 5864062014805) (hm2 : ∀ x ∈ its, x.1.length ≤ 17592186044416) (h : Bool) (hh : h = hasT (colsOf its) p) :
    Calls Tryz.prog 34 #[tval co its.length cap, .int .i64 p] w fun e w' => e = .returned (.bool h) ∧ Below w.heap.size w w' := by
  obtain ⟨r, hr0⟩ : ∃ r, r = findT p (colsOf its) := ⟨_, rfl⟩
  have HH : Hid (h = r.isSome) := by show h = _; rw [hh, hr0]; rfl
  obtain ⟨b0, z0⟩ := one (at_new w (tbox co its.length cap))
  have HF : Hid (∀ w, RdT w co its → Calls Tryz.prog 54 #[tval co its.length cap, .int .i64 p] w fun e w' => e = .returned (.tuple #[.int .i64 (fi r), .int .i64 (fj r), .bool r.isSome]) ∧ w' = w.alloc (tbox co its.length cap)) := fun w hr => find_any its co cap p w hr hm hm2 r hr0
  have HR : Hid (RdT (w.alloc (tbox co its.length cap)) co its) := hr.below (below1 _ _)
  clear hr hm hm2 hr0 hh
  go_enter Tryz.func34, Tryz.ntmps34
  go_wp2_with (go_at_call 54; refine (HF.out _ HR.out).mono ?_; rintro e w1 ⟨rfl, rfl⟩)
  go_ret
  exact ⟨ret_bool HH.out.symm, below2 _ _ _⟩

end Go.Proofs.YtpichplhidiokacGreatDoor.Tl
