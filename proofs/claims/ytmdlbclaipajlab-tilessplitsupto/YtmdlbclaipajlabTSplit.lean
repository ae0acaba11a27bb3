/- What 'Split' makes of panes. -/
import Derived.Test.YtmdlbclaipajlabTSp0
namespace Go.Proofs.Ytmdlbclaipajlab.Tl
open Go.RowKit

/-- The calls that 'Split' and 'Kill' begin with. -/
theorem copied2 (its : List CIt) (co : Option Addr) (cap : Nat) (w : World) (hr : RdT w co its) (hm : its.length ≤ 5864062014805) (hm2 : ∀ x ∈ its, x.1.length ≤ 17592186044416) :
    Calls Try.prog 42 #[tval co its.length cap] w fun e w' => ∃ g its', e = .returned (tval (some ⟨g, 0, none⟩) its.length its.length) ∧ colsOf its' = colsOf its ∧ w.heap.size ≤ g ∧ Cp its' g w' ∧ Below w.heap.size w w' := by
  refine (copied_any its co cap w hr hm hm2).mono ?_
  rintro e w' ⟨g, its', rfl, hc, hg, hcp, hb⟩
  have hl : its'.length = its.length := by
    have := congrArg List.length hc
    simpa using this
  exact ⟨g, its', by rw [hl], hc, hg, hcp, hb⟩
theorem find2 (its : List CIt) (co : Option Addr) (cap : Nat) (p : Int) (w : World) (hr : RdT w co its) (hm : its.length ≤ 5864062014805) (hm2 : ∀ x ∈ its, x.1.length ≤ 17592186044416) (r : Option (Nat × Nat)) (hr0 : r = findT p (colsOf its)) :
    Calls Try.prog 44 #[tval co its.length cap, .int .i64 p] w fun e w' => e = .returned (.tuple #[.int .i64 (fi r), .int .i64 (fj r), .bool r.isSome]) ∧ Below w.heap.size w w' := by
  refine (find_any its co cap p w hr hm hm2 r hr0).mono ?_
  rintro e w' ⟨rfl, rfl⟩
  exact ⟨rfl, below1 _ _⟩

set_option maxHeartbeats 4000000 in
set_option maxRecDepth 100000 in
theorem split_bad (its : List CIt) (co : Option Addr) (cap : Nat) (p n : Int) (right : Bool) (w : World) (hr : RdT w co its) (hm : its.length ≤ 5864062014805) (hm2 : ∀ x ∈ its, x.1.length ≤ 17592186044416) (r : List (List Int) × Int) (hrr : r = splitT (colsOf its) p n right) (hgd : goodT (colsOf its) = false) :
    Calls Try.prog 16 #[tval co its.length cap, .int .i64 p, .int .i64 n, .bool right] w (SpEnd w r) := by
  have HR : Hid (RdT w co its) := hr
  have HC : Hid (∀ W, Below w.heap.size w W → Calls Try.prog 42 #[tval co its.length cap] W fun e w' => ∃ g its', e = .returned (tval (some ⟨g, 0, none⟩) its.length its.length) ∧ colsOf its' = colsOf its ∧ W.heap.size ≤ g ∧ Cp its' g w' ∧ Below W.heap.size W w') := fun W hW => copied2 its co cap W (hr.below hW) hm hm2
  have HG : Hid (∀ W, RdT W co its → Calls Try.prog 21 #[tval co its.length cap] W fun e w' => e = .returned (.bool false) ∧ Below W.heap.size W w') := fun W hW => good_any its co cap W hW hm hm2 false hgd.symm
  have HRR : Hid (r = (colsOf its, 1)) := by show r = _; rw [hrr]; simp [splitT, hgd]
  clear hr hm2 hrr hgd
  go_enter Try.func16, Try.ntmps16
  go_wp2_with (first
    | (go_at_call 42; refine (HC.out _ (below2 _ _ _)).mono ?_; rintro e w1 ⟨g, its', rfl, hc, hg, hcp, hb⟩; have HS : Hid (SInv w its co cap g its' w1.heap.size (w1.alloc (tbox (some ⟨g, 0, none⟩) its.length its.length))) := sinv_start HR.out hc hg hcp hb; obtain ⟨a1, a2⟩ := one HS.out.box; obtain ⟨a3, a4⟩ := one HS.out.res; obtain ⟨a5, a6⟩ := one HS.out.to2; clear hc hg hcp hb)
    | (go_at_call 21; refine (HG.out _ HS.out.rd).mono ?_; rintro e w2 ⟨rfl, hb2⟩; have HS2 : Hid (SInv w its co cap g its' w1.heap.size w2) := HS.out.next hb2; clear hb2 a1 a2 a3 a4 a5 a6; obtain ⟨a1, a2⟩ := one HS2.out.box; obtain ⟨a3, a4⟩ := one HS2.out.res; obtain ⟨a5, a6⟩ := one HS2.out.to2)
    | fail)
  refine bodyPost_ret (v := .tuple #[tval (some ⟨g, 0, none⟩) its.length its.length, .int .i64 1]) (by simp [results, Try.results16, go_sem, *]) rfl ?_
  exact HS2.out.same 1 r HRR.out

set_option maxHeartbeats 4000000 in
set_option maxRecDepth 100000 in
theorem split_pane (its : List CIt) (co : Option Addr) (cap : Nat) (p n : Int) (right : Bool) (w : World) (hr : RdT w co its) (hm : its.length ≤ 5864062014805) (hm2 : ∀ x ∈ its, x.1.length ≤ 17592186044416) (r : List (List Int) × Int) (hrr : r = splitT (colsOf its) p n right) (hgd : goodT (colsOf its) = true) (hpn : paneB n = false) :
    Calls Try.prog 16 #[tval co its.length cap, .int .i64 p, .int .i64 n, .bool right] w (SpEnd w r) := by
  have HR : Hid (RdT w co its) := hr
  have HC : Hid (∀ W, Below w.heap.size w W → Calls Try.prog 42 #[tval co its.length cap] W fun e w' => ∃ g its', e = .returned (tval (some ⟨g, 0, none⟩) its.length its.length) ∧ colsOf its' = colsOf its ∧ W.heap.size ≤ g ∧ Cp its' g w' ∧ Below W.heap.size W w') := fun W hW => copied2 its co cap W (hr.below hW) hm hm2
  have HG : Hid (∀ W, RdT W co its → Calls Try.prog 21 #[tval co its.length cap] W fun e w' => e = .returned (.bool true) ∧ Below W.heap.size W w') := fun W hW => good_any its co cap W hW hm hm2 true hgd.symm
  have HPN : Hid (∀ W, Calls Try.prog 43 #[.int .i64 n] W fun e w' => e = .returned (.bool false) ∧ w' = W) := fun W => by have := isPane_any n W; rw [hpn] at this; exact this
  have HRR : Hid (r = (colsOf its, 1)) := by show r = _; rw [hrr]; simp [splitT, hpn]
  clear hr hm2 hrr hgd hpn
  go_enter Try.func16, Try.ntmps16
  go_wp2_with (first
    | (go_at_call 42; refine (HC.out _ (below2 _ _ _)).mono ?_; rintro e w1 ⟨g, its', rfl, hc, hg, hcp, hb⟩; have HS : Hid (SInv w its co cap g its' w1.heap.size (w1.alloc (tbox (some ⟨g, 0, none⟩) its.length its.length))) := sinv_start HR.out hc hg hcp hb; obtain ⟨a1, a2⟩ := one HS.out.box; obtain ⟨a3, a4⟩ := one HS.out.res; obtain ⟨a5, a6⟩ := one HS.out.to2; clear hc hg hcp hb)
    | (go_at_call 21; refine (HG.out _ HS.out.rd).mono ?_; rintro e w2 ⟨rfl, hb2⟩; have HS2 : Hid (SInv w its co cap g its' w1.heap.size w2) := HS.out.next hb2; clear hb2 a1 a2 a3 a4 a5 a6; obtain ⟨a1, a2⟩ := one HS2.out.box; obtain ⟨a3, a4⟩ := one HS2.out.res; obtain ⟨a5, a6⟩ := one HS2.out.to2)
    | (go_at_call 43; refine (HPN.out _).mono ?_; rintro e w3 ⟨rfl, rfl⟩)
    | fail)
  refine bodyPost_ret (v := .tuple #[tval (some ⟨g, 0, none⟩) its.length its.length, .int .i64 1]) (by simp [results, Try.results16, go_sem, *]) rfl ?_
  exact HS2.out.same 1 r HRR.out

set_option maxHeartbeats 4000000 in
set_option maxRecDepth 100000 in
theorem split_none (its : List CIt) (co : Option Addr) (cap : Nat) (p n : Int) (right : Bool) (w : World) (hr : RdT w co its) (hm : its.length ≤ 5864062014805) (hm2 : ∀ x ∈ its, x.1.length ≤ 17592186044416) (r : List (List Int) × Int) (hrr : r = splitT (colsOf its) p n right) (hgd : goodT (colsOf its) = true) (hpn : paneB n = true) (hfd : findT p (colsOf its) = none) :
    Calls Try.prog 16 #[tval co its.length cap, .int .i64 p, .int .i64 n, .bool right] w (SpEnd w r) := by
  have HR : Hid (RdT w co its) := hr
  have HC : Hid (∀ W, Below w.heap.size w W → Calls Try.prog 42 #[tval co its.length cap] W fun e w' => ∃ g its', e = .returned (tval (some ⟨g, 0, none⟩) its.length its.length) ∧ colsOf its' = colsOf its ∧ W.heap.size ≤ g ∧ Cp its' g w' ∧ Below W.heap.size W w') := fun W hW => copied2 its co cap W (hr.below hW) hm hm2
  have HG : Hid (∀ W, RdT W co its → Calls Try.prog 21 #[tval co its.length cap] W fun e w' => e = .returned (.bool true) ∧ Below W.heap.size W w') := fun W hW => good_any its co cap W hW hm hm2 true hgd.symm
  have HPN : Hid (∀ W, Calls Try.prog 43 #[.int .i64 n] W fun e w' => e = .returned (.bool true) ∧ w' = W) := fun W => by have := isPane_any n W; rw [hpn] at this; exact this
  have HF : Hid (∀ W, RdT W co its → Calls Try.prog 44 #[tval co its.length cap, .int .i64 p] W fun e w' => e = .returned (.tuple #[.int .i64 0, .int .i64 0, .bool false]) ∧ Below W.heap.size W w') := fun W hW => find2 its co cap p W hW hm hm2 (none) hfd.symm
  have HRR : Hid (r = (colsOf its, 3)) := by show r = _; rw [hrr]; simp [splitT, hgd, hpn, hfd]
  clear hr hm2 hrr hgd hpn hfd
  go_enter Try.func16, Try.ntmps16
  go_wp2_with (first
    | (go_at_call 42; refine (HC.out _ (below2 _ _ _)).mono ?_; rintro e w1 ⟨g, its', rfl, hc, hg, hcp, hb⟩; have HS : Hid (SInv w its co cap g its' w1.heap.size (w1.alloc (tbox (some ⟨g, 0, none⟩) its.length its.length))) := sinv_start HR.out hc hg hcp hb; obtain ⟨a1, a2⟩ := one HS.out.box; obtain ⟨a3, a4⟩ := one HS.out.res; obtain ⟨a5, a6⟩ := one HS.out.to2; clear hc hg hcp hb)
    | (go_at_call 21; refine (HG.out _ HS.out.rd).mono ?_; rintro e w2 ⟨rfl, hb2⟩; have HS2 : Hid (SInv w its co cap g its' w1.heap.size w2) := HS.out.next hb2; clear hb2 a1 a2 a3 a4 a5 a6; obtain ⟨a1, a2⟩ := one HS2.out.box; obtain ⟨a3, a4⟩ := one HS2.out.res; obtain ⟨a5, a6⟩ := one HS2.out.to2)
    | (go_at_call 43; refine (HPN.out _).mono ?_; rintro e w3 ⟨rfl, rfl⟩)
    | (go_at_call 44; refine (HF.out _ HS2.out.rd).mono ?_; rintro e w4 ⟨rfl, hb4⟩; have HS3 : Hid (SInv w its co cap g its' w1.heap.size w4) := HS2.out.next hb4; clear hb4 a1 a2 a3 a4 a5 a6; obtain ⟨a1, a2⟩ := one HS3.out.box; obtain ⟨a3, a4⟩ := one HS3.out.res; obtain ⟨a5, a6⟩ := one HS3.out.to2)
    | fail)
  refine bodyPost_ret (v := .tuple #[tval (some ⟨g, 0, none⟩) its.length its.length, .int .i64 3]) (by simp [results, Try.results16, go_sem, *]) rfl ?_
  exact HS3.out.same 3 r HRR.out

set_option maxHeartbeats 4000000 in
set_option maxRecDepth 100000 in
theorem split_twice (its : List CIt) (co : Option Addr) (cap : Nat) (p n : Int) (right : Bool) (w : World) (hr : RdT w co its) (hm : its.length ≤ 5864062014805) (hm2 : ∀ x ∈ its, x.1.length ≤ 17592186044416) (r : List (List Int) × Int) (hrr : r = splitT (colsOf its) p n right) (hgd : goodT (colsOf its) = true) (hpn : paneB n = true) (i j : Nat) (hfd : findT p (colsOf its) = some (i, j)) (hhs : hasT (colsOf its) n = true) :
    Calls Try.prog 16 #[tval co its.length cap, .int .i64 p, .int .i64 n, .bool right] w (SpEnd w r) := by
  have HR : Hid (RdT w co its) := hr
  have HC : Hid (∀ W, Below w.heap.size w W → Calls Try.prog 42 #[tval co its.length cap] W fun e w' => ∃ g its', e = .returned (tval (some ⟨g, 0, none⟩) its.length its.length) ∧ colsOf its' = colsOf its ∧ W.heap.size ≤ g ∧ Cp its' g w' ∧ Below W.heap.size W w') := fun W hW => copied2 its co cap W (hr.below hW) hm hm2
  have HG : Hid (∀ W, RdT W co its → Calls Try.prog 21 #[tval co its.length cap] W fun e w' => e = .returned (.bool true) ∧ Below W.heap.size W w') := fun W hW => good_any its co cap W hW hm hm2 true hgd.symm
  have HPN : Hid (∀ W, Calls Try.prog 43 #[.int .i64 n] W fun e w' => e = .returned (.bool true) ∧ w' = W) := fun W => by have := isPane_any n W; rw [hpn] at this; exact this
  have HF : Hid (∀ W, RdT W co its → Calls Try.prog 44 #[tval co its.length cap, .int .i64 p] W fun e w' => e = .returned (.tuple #[.int .i64 i, .int .i64 j, .bool true]) ∧ Below W.heap.size W w') := fun W hW => find2 its co cap p W hW hm hm2 (some (i, j)) hfd.symm
  have HH : Hid (∀ W, RdT W co its → Calls Try.prog 23 #[tval co its.length cap, .int .i64 n] W fun e w' => e = .returned (.bool true) ∧ Below W.heap.size W w') := fun W hW => has_any its co cap n W hW hm hm2 true hhs.symm
  have HRR : Hid (r = (colsOf its, 4)) := by show r = _; rw [hrr]; simp [splitT, hgd, hpn, hfd, hhs]
  clear hr hm2 hrr hgd hpn hfd hhs
  go_enter Try.func16, Try.ntmps16
  go_wp2_with (first
    | (go_at_call 42; refine (HC.out _ (below2 _ _ _)).mono ?_; rintro e w1 ⟨g, its', rfl, hc, hg, hcp, hb⟩; have HS : Hid (SInv w its co cap g its' w1.heap.size (w1.alloc (tbox (some ⟨g, 0, none⟩) its.length its.length))) := sinv_start HR.out hc hg hcp hb; obtain ⟨a1, a2⟩ := one HS.out.box; obtain ⟨a3, a4⟩ := one HS.out.res; obtain ⟨a5, a6⟩ := one HS.out.to2; clear hc hg hcp hb)
    | (go_at_call 21; refine (HG.out _ HS.out.rd).mono ?_; rintro e w2 ⟨rfl, hb2⟩; have HS2 : Hid (SInv w its co cap g its' w1.heap.size w2) := HS.out.next hb2; clear hb2 a1 a2 a3 a4 a5 a6; obtain ⟨a1, a2⟩ := one HS2.out.box; obtain ⟨a3, a4⟩ := one HS2.out.res; obtain ⟨a5, a6⟩ := one HS2.out.to2)
    | (go_at_call 43; refine (HPN.out _).mono ?_; rintro e w3 ⟨rfl, rfl⟩)
    | (go_at_call 44; refine (HF.out _ HS2.out.rd).mono ?_; rintro e w4 ⟨rfl, hb4⟩; have HS3 : Hid (SInv w its co cap g its' w1.heap.size w4) := HS2.out.next hb4; clear hb4 a1 a2 a3 a4 a5 a6; obtain ⟨a1, a2⟩ := one HS3.out.box; obtain ⟨a3, a4⟩ := one HS3.out.res; obtain ⟨a5, a6⟩ := one HS3.out.to2)
    | (go_at_call 23; refine (HH.out _ HS3.out.rd).mono ?_; rintro e w5 ⟨rfl, hb5⟩; have HS4 : Hid (SInv w its co cap g its' w1.heap.size w5) := HS3.out.next hb5; clear hb5 a1 a2 a3 a4 a5 a6; obtain ⟨a1, a2⟩ := one HS4.out.box; obtain ⟨a3, a4⟩ := one HS4.out.res; obtain ⟨a5, a6⟩ := one HS4.out.to2)
    | fail)
  refine bodyPost_ret (v := .tuple #[tval (some ⟨g, 0, none⟩) its.length its.length, .int .i64 4]) (by simp [results, Try.results16, go_sem, *]) rfl ?_
  exact HS4.out.same 4 r HRR.out

end Go.Proofs.Ytmdlbclaipajlab.Tl
