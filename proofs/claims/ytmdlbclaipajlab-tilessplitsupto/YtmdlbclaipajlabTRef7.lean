/- The document's own split. -/
import Derived.Test.YtmdlbclaipajlabTRef6
import Derived.Test.YtmdlbclaipajlabTRef4
namespace Go.Proofs.Ytmdlbclaipajlab.Tl
open Go.RowKit

theorem good_flat {its : List CIt} (h : goodT (colsOf its) = true) : its.length ≤ 6 ∧ (colsOf its).flatten.length ≤ 17592186044416 ∧ ∀ x ∈ its, x.1.length ≤ 3 := by
  have ok := (goodT_iff _).1 h
  have h1 := good_len ok
  have h2 := flat_bound (colsOf its) (fun c hc => (ok.tall c hc).2)
  simp only [colsOf, List.length_map] at h1 h2
  refine ⟨h1, by simp only [colsOf]; omega, fun x hx => (ok.tall x.1 (List.mem_map.2 ⟨x, hx, rfl⟩)).2⟩

theorem colS_len {cols : List (List Int)} {p n : Int} {right : Bool} {i j k : Nat} (ok : OkT cols) (hf : findT p cols = some (i, j)) (hk : k < cols.length) :
    (colS p n right cols[k]).length ≤ 3 ∧ ¬ (right = false ∧ i = k ∧ (cols.getD i []).length = 3) ∨ (right = false ∧ i = k ∧ (cols.getD i []).length = 3) ∧ (colS p n right cols[k]).length = 4 := by
  have ht := ok.tall cols[k] (List.getElem_mem hk)
  cases right with
  | true => left; rw [colS_right]; exact ⟨ht.2, by simp⟩
  | false =>
    by_cases e : i = k
    · subst e
      obtain ⟨_, hj, _⟩ := findT_get hf
      have hg : cols.getD i [] = cols[i] := by simp [hk]
      have hl : (colS p n false cols[i]).length = cols[i].length + 1 := by
        rw [colS_at ok hf hk]
        simp [insL]
        omega
      rw [hl, hg]
      by_cases h3 : cols[i].length = 3
      · right; exact ⟨⟨rfl, rfl, h3⟩, by omega⟩
      · left; exact ⟨by omega, fun h => h3 h.2.2⟩
    · left
      have hn : p ∉ cols[k] := by
        intro h
        obtain ⟨j', hj', e'⟩ := List.getElem_of_mem h
        have := find_uniq ok hk hj' e'
        rw [hf] at this
        simp only [Option.some.injEq, Prod.mk.injEq] at this
        exact e this.1
      rw [colS_no _ _ _ _ hn]
      exact ⟨ht.2, fun h => e h.2.1⟩

set_option maxHeartbeats 2000000 in
set_option maxRecDepth 100000 in
theorem splitR_stops (its : List CIt) (co : Option Addr) (cap : Nat) (p n : Int) (right : Bool) (w : World) (hr : RdT w co its) (hm : its.length ≤ 5864062014805) (hm2 : ∀ x ∈ its, x.1.length ≤ 17592186044416) (r : List (List Int) × Int) (hrr : r = splitT (colsOf its) p n right)
    (h : goodT (colsOf its) = false ∨ (goodT (colsOf its) = true ∧ paneB n = false) ∨ (goodT (colsOf its) = true ∧ paneB n = true ∧ findT p (colsOf its) = none) ∨ (goodT (colsOf its) = true ∧ paneB n = true ∧ hasT (colsOf its) p = true ∧ hasT (colsOf its) n = true)) :
    Calls Try.prog 17 #[tval co its.length cap, .int .i64 p, .int .i64 n, .bool right] w (SpEnd w r) := by
  have HJ0 : Hid (JInv w its co cap ((w.alloc (tbox co its.length cap)).alloc (tbox none 0 0))) := jinv_start hr
  have HR : Hid (RdT w co its) := hr
  have HP : Hid (∀ p w, Calls Try.prog 47 #[.int .i64 p] w fun e w' => e = .returned (.bool (paneB p)) ∧ w' = w) := isPaneR_any
  have HG : Hid (∀ g, g = goodT (colsOf its) → ∀ W, RdT W co its → Calls Try.prog 22 #[tval co its.length cap] W fun e w' => e = .returned (.bool g) ∧ Below W.heap.size W w') := fun g hg W h => goodR_any its co cap W h hm hm2 g hg
  rcases h with h | ⟨h1, h2⟩ | ⟨h1, h2, h3⟩ | ⟨h1, h2, h3, h4⟩
  · have HRR : Hid (r = (colsOf its, 1)) := by show r = _; rw [hrr]; simp [splitT, h]
    have HG1 := HG.out false h.symm
    have HGA : Hid (∀ W, RdT W co its → Calls Try.prog 22 #[tval co its.length cap] W fun e w' => e = .returned (.bool false) ∧ Below W.heap.size W w') := HG1
    clear hr hm2 hrr h HG HG1 hm
    go_enter Try.func17, Try.ntmps17
    go_wp2_with (first
      | (go_at_call 22; refine (HGA.out _ HJ0.out.rd).mono ?_; rintro e w1 ⟨rfl, hb1⟩; have HJ1 : Hid (JInv w its co cap w1) := HJ0.out.next hb1; clear hb1; obtain ⟨a1, a2⟩ := one HJ1.out.box; obtain ⟨a3, a4⟩ := one HJ1.out.res)
      | fail)
    refine bodyPost_ret (v := .tuple #[tval co its.length cap, .int .i64 1]) (by simp [results, Try.results17, go_sem, *]) rfl ?_
    exact back_same HR.out HJ1.out.below 1 r HRR.out
  · have HRR : Hid (r = (colsOf its, 1)) := by show r = _; rw [hrr]; simp [splitT, h2]
    have HG1 := HG.out true h1.symm
    have HGA : Hid (∀ W, RdT W co its → Calls Try.prog 22 #[tval co its.length cap] W fun e w' => e = .returned (.bool true) ∧ Below W.heap.size W w') := HG1
    clear hr hm2 hrr h1 HG HG1 hm
    go_enter Try.func17, Try.ntmps17
    go_wp2_with (first
      | (go_at_call 22; refine (HGA.out _ HJ0.out.rd).mono ?_; rintro e w1 ⟨rfl, hb1⟩; have HJ1 : Hid (JInv w its co cap w1) := HJ0.out.next hb1; clear hb1; obtain ⟨a1, a2⟩ := one HJ1.out.box; obtain ⟨a3, a4⟩ := one HJ1.out.res)
      | (go_at_call 47; refine (HP.out _ _).mono ?_; rintro e w2 ⟨rfl, rfl⟩; rw [h2])
      | fail)
    refine bodyPost_ret (v := .tuple #[tval co its.length cap, .int .i64 1]) (by simp [results, Try.results17, go_sem, *]) rfl ?_
    exact back_same HR.out HJ1.out.below 1 r HRR.out
  · have HRR : Hid (r = (colsOf its, 3)) := by show r = _; rw [hrr]; simp [splitT, h1, h2, h3]
    have hgf := good_flat h1
    have HH1 : Hid (∀ W, RdT W co its → Calls Try.prog 24 #[tval co its.length cap, .int .i64 p] W fun e w' => e = .returned (.bool false) ∧ Below W.heap.size W w') := fun W h => hasR_any its co cap p W h hm hgf.2.1 false (by unfold hasT; rw [h3]; rfl)
    have HG1 := HG.out true h1.symm
    have HGA : Hid (∀ W, RdT W co its → Calls Try.prog 22 #[tval co its.length cap] W fun e w' => e = .returned (.bool true) ∧ Below W.heap.size W w') := HG1
    clear hr hm2 hrr h1 HG HG1 hm h3 hgf
    go_enter Try.func17, Try.ntmps17
    go_wp2_with (first
      | (go_at_call 22; refine (HGA.out _ HJ0.out.rd).mono ?_; rintro e w1 ⟨rfl, hb1⟩; have HJ1 : Hid (JInv w its co cap w1) := HJ0.out.next hb1; clear hb1; obtain ⟨a1, a2⟩ := one HJ1.out.box; obtain ⟨a3, a4⟩ := one HJ1.out.res)
      | (go_at_call 47; refine (HP.out _ _).mono ?_; rintro e w2 ⟨rfl, rfl⟩; rw [h2])
      | (go_at_call 24; refine (HH1.out _ HJ1.out.rd).mono ?_; rintro e w3 ⟨rfl, hb3⟩; have HJ3 : Hid (JInv w its co cap w3) := HJ1.out.next hb3; clear hb3 a1 a2 a3 a4; obtain ⟨a1, a2⟩ := one HJ3.out.box; obtain ⟨a3, a4⟩ := one HJ3.out.res)
      | fail)
    refine bodyPost_ret (v := .tuple #[tval co its.length cap, .int .i64 3]) (by simp [results, Try.results17, go_sem, *]) rfl ?_
    exact back_same HR.out HJ3.out.below 3 r HRR.out
  · have HRR : Hid (r = (colsOf its, 4)) := by
      show r = _
      rw [hrr]
      unfold splitT
      rw [if_neg (by simp [h1, h2])]
      cases hf : findT p (colsOf its) with
      | none => unfold hasT at h3; rw [hf] at h3; cases h3
      | some x => simp [h4]
    have hgf := good_flat h1
    have HH1 : Hid (∀ W, RdT W co its → Calls Try.prog 24 #[tval co its.length cap, .int .i64 p] W fun e w' => e = .returned (.bool true) ∧ Below W.heap.size W w') := fun W h => hasR_any its co cap p W h hm hgf.2.1 true h3.symm
    have HH2 : Hid (∀ W, RdT W co its → Calls Try.prog 24 #[tval co its.length cap, .int .i64 n] W fun e w' => e = .returned (.bool true) ∧ Below W.heap.size W w') := fun W h => hasR_any its co cap n W h hm hgf.2.1 true h4.symm
    have HG1 := HG.out true h1.symm
    have HGA : Hid (∀ W, RdT W co its → Calls Try.prog 22 #[tval co its.length cap] W fun e w' => e = .returned (.bool true) ∧ Below W.heap.size W w') := HG1
    clear hr hm2 hrr h1 HG HG1 hm h3 h4 hgf
    go_enter Try.func17, Try.ntmps17
    go_wp2_with (first
      | (go_at_call 22; refine (HGA.out _ HJ0.out.rd).mono ?_; rintro e w1 ⟨rfl, hb1⟩; have HJ1 : Hid (JInv w its co cap w1) := HJ0.out.next hb1; clear hb1; obtain ⟨a1, a2⟩ := one HJ1.out.box; obtain ⟨a3, a4⟩ := one HJ1.out.res)
      | (go_at_call 47; refine (HP.out _ _).mono ?_; rintro e w2 ⟨rfl, rfl⟩; rw [h2])
      | (have _t := HJ3; go_at_call 24; refine (HH2.out _ HJ3.out.rd).mono ?_; rintro e w4 ⟨rfl, hb4⟩; have HJ4 : Hid (JInv w its co cap w4) := HJ3.out.next hb4; clear hb4 a1 a2 a3 a4; obtain ⟨a1, a2⟩ := one HJ4.out.box; obtain ⟨a3, a4⟩ := one HJ4.out.res)
      | (go_at_call 24; refine (HH1.out _ HJ1.out.rd).mono ?_; rintro e w3 ⟨rfl, hb3⟩; have HJ3 : Hid (JInv w its co cap w3) := HJ1.out.next hb3; clear hb3 a1 a2 a3 a4; obtain ⟨a1, a2⟩ := one HJ3.out.box; obtain ⟨a3, a4⟩ := one HJ3.out.res)
      | fail)
    refine bodyPost_ret (v := .tuple #[tval co its.length cap, .int .i64 4]) (by simp [results, Try.results17, go_sem, *]) rfl ?_
    exact back_same HR.out HJ4.out.below 4 r HRR.out

end Go.Proofs.Ytmdlbclaipajlab.Tl
