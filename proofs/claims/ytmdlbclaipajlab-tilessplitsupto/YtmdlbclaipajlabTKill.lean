/- What 'Kill' makes of panes. -/
import Derived.Test.YtmdlbclaipajlabTSp2
import Derived.Test.YtmdlbclaipajlabTSplit
namespace Go.Proofs.Ytmdlbclaipajlab.Tl
open Go.RowKit

set_option maxHeartbeats 4000000 in
set_option maxRecDepth 100000 in
theorem kill_bad (its : List CIt) (co : Option Addr) (cap : Nat) (p : Int) (w : World) (hr : RdT w co its) (hm : its.length ≤ 5864062014805) (hm2 : ∀ x ∈ its, x.1.length ≤ 17592186044416) (r : List (List Int) × Int) (hrr : r = killT (colsOf its) p) (hgd : goodT (colsOf its) = false) :
    Calls Try.prog 18 #[tval co its.length cap, .int .i64 p] w (SpEnd w r) := by
  have HR : Hid (RdT w co its) := hr
  have HC : Hid (∀ W, Below w.heap.size w W → Calls Try.prog 42 #[tval co its.length cap] W fun e w' => ∃ g its', e = .returned (tval (some ⟨g, 0, none⟩) its.length its.length) ∧ colsOf its' = colsOf its ∧ W.heap.size ≤ g ∧ Cp its' g w' ∧ Below W.heap.size W w') := fun W hW => copied2 its co cap W (hr.below hW) hm hm2
  have HG : Hid (∀ W, RdT W co its → Calls Try.prog 21 #[tval co its.length cap] W fun e w' => e = .returned (.bool false) ∧ Below W.heap.size W w') := fun W hW => good_any its co cap W hW hm hm2 false hgd.symm
  have HRR : Hid (r = (colsOf its, 1)) := by show r = _; rw [hrr]; simp [killT, hgd]
  clear hr hm2 hrr hgd
  go_enter Try.func18, Try.ntmps18
  go_wp2_with (first
    | (go_at_call 42; refine (HC.out _ (below2 _ _ _)).mono ?_; rintro e w1 ⟨g, its', rfl, hc, hg, hcp, hb⟩; have HS : Hid (SInv w its co cap g its' w1.heap.size (w1.alloc (tbox (some ⟨g, 0, none⟩) its.length its.length))) := sinv_start HR.out hc hg hcp hb; obtain ⟨a1, a2⟩ := one HS.out.box; obtain ⟨a3, a4⟩ := one HS.out.res; obtain ⟨a5, a6⟩ := one HS.out.to2; clear hc hg hcp hb)
    | (go_at_call 21; refine (HG.out _ HS.out.rd).mono ?_; rintro e w2 ⟨rfl, hb2⟩; have HS2 : Hid (SInv w its co cap g its' w1.heap.size w2) := HS.out.next hb2; clear hb2 a1 a2 a3 a4 a5 a6; obtain ⟨a1, a2⟩ := one HS2.out.box; obtain ⟨a3, a4⟩ := one HS2.out.res; obtain ⟨a5, a6⟩ := one HS2.out.to2)
    | fail)
  refine bodyPost_ret (v := .tuple #[tval (some ⟨g, 0, none⟩) its.length its.length, .int .i64 1]) (by simp [results, Try.results18, go_sem, *]) rfl ?_
  exact HS2.out.same 1 r HRR.out

set_option maxHeartbeats 4000000 in
set_option maxRecDepth 100000 in
theorem kill_none (its : List CIt) (co : Option Addr) (cap : Nat) (p : Int) (w : World) (hr : RdT w co its) (hm : its.length ≤ 5864062014805) (hm2 : ∀ x ∈ its, x.1.length ≤ 17592186044416) (r : List (List Int) × Int) (hrr : r = killT (colsOf its) p) (hgd : goodT (colsOf its) = true) (hfd : findT p (colsOf its) = none) :
    Calls Try.prog 18 #[tval co its.length cap, .int .i64 p] w (SpEnd w r) := by
  have HR : Hid (RdT w co its) := hr
  have HC : Hid (∀ W, Below w.heap.size w W → Calls Try.prog 42 #[tval co its.length cap] W fun e w' => ∃ g its', e = .returned (tval (some ⟨g, 0, none⟩) its.length its.length) ∧ colsOf its' = colsOf its ∧ W.heap.size ≤ g ∧ Cp its' g w' ∧ Below W.heap.size W w') := fun W hW => copied2 its co cap W (hr.below hW) hm hm2
  have HG : Hid (∀ W, RdT W co its → Calls Try.prog 21 #[tval co its.length cap] W fun e w' => e = .returned (.bool true) ∧ Below W.heap.size W w') := fun W hW => good_any its co cap W hW hm hm2 true hgd.symm
  have HF : Hid (∀ W, RdT W co its → Calls Try.prog 44 #[tval co its.length cap, .int .i64 p] W fun e w' => e = .returned (.tuple #[.int .i64 0, .int .i64 0, .bool false]) ∧ Below W.heap.size W w') := fun W hW => find2 its co cap p W hW hm hm2 (none) hfd.symm
  have HRR : Hid (r = (colsOf its, 3)) := by show r = _; rw [hrr]; simp [killT, hgd, hfd]
  clear hr hm2 hrr hgd hfd
  go_enter Try.func18, Try.ntmps18
  go_wp2_with (first
    | (go_at_call 42; refine (HC.out _ (below2 _ _ _)).mono ?_; rintro e w1 ⟨g, its', rfl, hc, hg, hcp, hb⟩; have HS : Hid (SInv w its co cap g its' w1.heap.size (w1.alloc (tbox (some ⟨g, 0, none⟩) its.length its.length))) := sinv_start HR.out hc hg hcp hb; obtain ⟨a1, a2⟩ := one HS.out.box; obtain ⟨a3, a4⟩ := one HS.out.res; obtain ⟨a5, a6⟩ := one HS.out.to2; clear hc hg hcp hb)
    | (go_at_call 21; refine (HG.out _ HS.out.rd).mono ?_; rintro e w2 ⟨rfl, hb2⟩; have HS2 : Hid (SInv w its co cap g its' w1.heap.size w2) := HS.out.next hb2; clear hb2 a1 a2 a3 a4 a5 a6; obtain ⟨a1, a2⟩ := one HS2.out.box; obtain ⟨a3, a4⟩ := one HS2.out.res; obtain ⟨a5, a6⟩ := one HS2.out.to2)
    | (go_at_call 44; refine (HF.out _ HS2.out.rd).mono ?_; rintro e w4 ⟨rfl, hb4⟩; have HS3 : Hid (SInv w its co cap g its' w1.heap.size w4) := HS2.out.next hb4; clear hb4 a1 a2 a3 a4 a5 a6; obtain ⟨a1, a2⟩ := one HS3.out.box; obtain ⟨a3, a4⟩ := one HS3.out.res; obtain ⟨a5, a6⟩ := one HS3.out.to2)
    | fail)
  refine bodyPost_ret (v := .tuple #[tval (some ⟨g, 0, none⟩) its.length its.length, .int .i64 3]) (by simp [results, Try.results18, go_sem, *]) rfl ?_
  exact HS3.out.same 3 r HRR.out

set_option maxHeartbeats 4000000 in
set_option maxRecDepth 100000 in
theorem kill_only (its : List CIt) (co : Option Addr) (cap : Nat) (p : Int) (w : World) (hr : RdT w co its) (hm : its.length ≤ 5864062014805) (hm2 : ∀ x ∈ its, x.1.length ≤ 17592186044416) (r : List (List Int) × Int) (hrr : r = killT (colsOf its) p) (hgd : goodT (colsOf its) = true) (i j : Nat) (hfd : findT p (colsOf its) = some (i, j)) (hln : ((colsOf its).getD i []).length = 1) (hon : its.length = 1) :
    Calls Try.prog 18 #[tval co its.length cap, .int .i64 p] w (SpEnd w r) := by
  have HR : Hid (RdT w co its) := hr
  have HC : Hid (∀ W, Below w.heap.size w W → Calls Try.prog 42 #[tval co its.length cap] W fun e w' => ∃ g its', e = .returned (tval (some ⟨g, 0, none⟩) its.length its.length) ∧ colsOf its' = colsOf its ∧ W.heap.size ≤ g ∧ Cp its' g w' ∧ Below W.heap.size W w') := fun W hW => copied2 its co cap W (hr.below hW) hm hm2
  have hm6 : its.length ≤ 1048576 := by have := good_len ((goodT_iff _).1 hgd); simp only [colsOf, List.length_map] at this; omega
  have hi : i < its.length := by obtain ⟨h1, _⟩ := findT_get hfd; simpa using h1
  have hi' : (i : Int) < (its.length : Int) := by omega
  have HG : Hid (∀ W, RdT W co its → Calls Try.prog 21 #[tval co its.length cap] W fun e w' => e = .returned (.bool true) ∧ Below W.heap.size W w') := fun W hW => good_any its co cap W hW hm hm2 true hgd.symm
  have HF : Hid (∀ W, RdT W co its → Calls Try.prog 44 #[tval co its.length cap, .int .i64 p] W fun e w' => e = .returned (.tuple #[.int .i64 i, .int .i64 j, .bool true]) ∧ Below W.heap.size W w') := fun W hW => find2 its co cap p W hW hm hm2 (some (i, j)) hfd.symm
  have HRR : Hid (r = (colsOf its, 5)) := by show r = _; rw [hrr]; simp only [killT, hgd, hfd, hln]; simp [hon]
  have HLEN : Hid (((colsOf its).getD i []).length = 1) := hln
  have hon' : (((its.length : Nat) : Int) == 1) = true := by simp [hon]
  clear hr hm2 hrr hgd hfd hln hon
  go_enter Try.func18, Try.ntmps18
  go_wp2_with (first
    | (go_at_call 42; refine (HC.out _ (below2 _ _ _)).mono ?_; rintro e w1 ⟨g, its', rfl, hc, hg, hcp, hb⟩; have HS : Hid (SInv w its co cap g its' w1.heap.size (w1.alloc (tbox (some ⟨g, 0, none⟩) its.length its.length))) := sinv_start HR.out hc hg hcp hb; obtain ⟨a1, a2⟩ := one HS.out.box; obtain ⟨a3, a4⟩ := one HS.out.res; obtain ⟨a5, a6⟩ := one HS.out.to2; clear hc hg hcp hb)
    | (go_at_call 21; refine (HG.out _ HS.out.rd).mono ?_; rintro e w2 ⟨rfl, hb2⟩; have HS2 : Hid (SInv w its co cap g its' w1.heap.size w2) := HS.out.next hb2; clear hb2 a1 a2 a3 a4 a5 a6; obtain ⟨a1, a2⟩ := one HS2.out.box; obtain ⟨a3, a4⟩ := one HS2.out.res; obtain ⟨a5, a6⟩ := one HS2.out.to2)
    | (go_at_call 44; refine (HF.out _ HS2.out.rd).mono ?_; rintro e w4 ⟨rfl, hb4⟩; have HS3 : Hid (SInv w its co cap g its' w1.heap.size w4) := HS2.out.next hb4; clear hb4 a1 a2 a3 a4 a5 a6; obtain ⟨a1, a2⟩ := one HS3.out.box; obtain ⟨a3, a4⟩ := one HS3.out.res; obtain ⟨a5, a6⟩ := one HS3.out.to2; obtain ⟨⟨x1, x2, x3⟩, hx1, hx2, hx3, hx4⟩ := HS3.out.col i hi; have hl3 : x1.length = 1 := (congrArg List.length hx2).trans HLEN.out; simp only at hx3; rw [hl3] at hx3; have hn1 : ¬ w1.heap.size = w.heap.size + 1 := (by have := HS3.out.far; omega); have hn2 : ¬ w.heap.size + 1 = w1.heap.size := (by have := HS3.out.far; omega); clear hx1 hx2 hl3)
    | fail)
  refine bodyPost_ret (v := .tuple #[tval (some ⟨g, 0, none⟩) its.length its.length, .int .i64 5]) (by simp [results, Try.results18, go_sem, *]) rfl ?_
  exact HS3.out.same 5 r HRR.out

set_option maxHeartbeats 4000000 in
set_option maxRecDepth 100000 in
theorem kill_column (its : List CIt) (co : Option Addr) (cap : Nat) (p : Int) (w : World) (hr : RdT w co its) (hm : its.length ≤ 5864062014805) (hm2 : ∀ x ∈ its, x.1.length ≤ 17592186044416) (r : List (List Int) × Int) (hrr : r = killT (colsOf its) p) (hgd : goodT (colsOf its) = true) (i j : Nat) (hfd : findT p (colsOf its) = some (i, j)) (hln : ((colsOf its).getD i []).length = 1) (hon : its.length ≠ 1) :
    Calls Try.prog 18 #[tval co its.length cap, .int .i64 p] w (SpEnd w r) := by
  have HR : Hid (RdT w co its) := hr
  have HC : Hid (∀ W, Below w.heap.size w W → Calls Try.prog 42 #[tval co its.length cap] W fun e w' => ∃ g its', e = .returned (tval (some ⟨g, 0, none⟩) its.length its.length) ∧ colsOf its' = colsOf its ∧ W.heap.size ≤ g ∧ Cp its' g w' ∧ Below W.heap.size W w') := fun W hW => copied2 its co cap W (hr.below hW) hm hm2
  have hm6 : its.length ≤ 1048576 := by have := good_len ((goodT_iff _).1 hgd); simp only [colsOf, List.length_map] at this; omega
  have hi : i < its.length := by obtain ⟨h1, _⟩ := findT_get hfd; simpa using h1
  have hi' : (i : Int) < (its.length : Int) := by omega
  have HG : Hid (∀ W, RdT W co its → Calls Try.prog 21 #[tval co its.length cap] W fun e w' => e = .returned (.bool true) ∧ Below W.heap.size W w') := fun W hW => good_any its co cap W hW hm hm2 true hgd.symm
  have HF : Hid (∀ W, RdT W co its → Calls Try.prog 44 #[tval co its.length cap, .int .i64 p] W fun e w' => e = .returned (.tuple #[.int .i64 i, .int .i64 j, .bool true]) ∧ Below W.heap.size W w') := fun W hW => find2 its co cap p W hW hm hm2 (some (i, j)) hfd.symm
  have HRR : Hid (r = ((colsOf its).eraseIdx i, 0)) := by show r = _; rw [hrr]; simp only [killT, hgd, hfd, hln]; simp [hon]
  have HLEN : Hid (((colsOf its).getD i []).length = 1) := hln
  have hon' : ¬ ((its.length : Nat) : Int) = 1 := by omega
  clear hr hm2 hrr hgd hfd hln
  go_enter Try.func18, Try.ntmps18
  go_wp2_with (first
    | (go_at_call 42; refine (HC.out _ (below2 _ _ _)).mono ?_; rintro e w1 ⟨g, its', rfl, hc, hg, hcp, hb⟩; have HS : Hid (SInv w its co cap g its' w1.heap.size (w1.alloc (tbox (some ⟨g, 0, none⟩) its.length its.length))) := sinv_start HR.out hc hg hcp hb; obtain ⟨a1, a2⟩ := one HS.out.box; obtain ⟨a3, a4⟩ := one HS.out.res; obtain ⟨a5, a6⟩ := one HS.out.to2; clear hc hg hcp hb)
    | (go_at_call 21; refine (HG.out _ HS.out.rd).mono ?_; rintro e w2 ⟨rfl, hb2⟩; have HS2 : Hid (SInv w its co cap g its' w1.heap.size w2) := HS.out.next hb2; clear hb2 a1 a2 a3 a4 a5 a6; obtain ⟨a1, a2⟩ := one HS2.out.box; obtain ⟨a3, a4⟩ := one HS2.out.res; obtain ⟨a5, a6⟩ := one HS2.out.to2)
    | (go_at_call 44; refine (HF.out _ HS2.out.rd).mono ?_; rintro e w4 ⟨rfl, hb4⟩; have HS3 : Hid (SInv w its co cap g its' w1.heap.size w4) := HS2.out.next hb4; clear hb4 a1 a2 a3 a4 a5 a6; obtain ⟨a1, a2⟩ := one HS3.out.box; obtain ⟨a3, a4⟩ := one HS3.out.res; obtain ⟨a5, a6⟩ := one HS3.out.to2; obtain ⟨⟨x1, x2, x3⟩, hx1, hx2, hx3, hx4⟩ := HS3.out.col i hi; have hl3 : x1.length = 1 := (congrArg List.length hx2).trans HLEN.out; simp only at hx3; rw [hl3] at hx3; have hn1 : ¬ w1.heap.size = w.heap.size + 1 := (by have := HS3.out.far; omega); have hn2 : ¬ w.heap.size + 1 = w1.heap.size := (by have := HS3.out.far; omega); clear hx1 hx2 hl3)
    | (go_at_call 48; refine (kill_delL HS3.out hm6 i hi).mono ?_; rintro e w6 ⟨rfl, c1, c2, hend⟩; have HE : Hid (SpEnd w ((colsOf its).eraseIdx i, 0) (.returned (.tuple #[tval (some ⟨g, 0, none⟩) (its.length - 1) its.length, .int .i64 0])) ((w6.setCell ⟨w1.heap.size, 0, none⟩ (.slice (some ⟨g, 0, none⟩) (its.length - 1) its.length)).setCell ⟨w.heap.size + 1, 0, none⟩ (.slice (some ⟨g, 0, none⟩) (its.length - 1) its.length))) := hend; clear hend a1 a2 a3 a4 a5 a6 hx3 hx4; obtain ⟨a3, a4⟩ := one c1; obtain ⟨a5, a6⟩ := one c2; clear c1 c2)
    | fail)
  refine bodyPost_ret (v := .tuple #[tval (some ⟨g, 0, none⟩) (its.length - 1) its.length, .int .i64 0]) (by simp [results, Try.results18, go_sem, *]) rfl ?_
  rw [HRR.out]
  exact HE.out

set_option maxHeartbeats 4000000 in
set_option maxRecDepth 100000 in
theorem kill_part (its : List CIt) (co : Option Addr) (cap : Nat) (p : Int) (w : World) (hr : RdT w co its) (hm : its.length ≤ 5864062014805) (hm2 : ∀ x ∈ its, x.1.length ≤ 17592186044416) (r : List (List Int) × Int) (hrr : r = killT (colsOf its) p) (hgd : goodT (colsOf its) = true) (i j : Nat) (hfd : findT p (colsOf its) = some (i, j)) (hln : ((colsOf its).getD i []).length ≠ 1) :
    Calls Try.prog 18 #[tval co its.length cap, .int .i64 p] w (SpEnd w r) := by
  have HR : Hid (RdT w co its) := hr
  have HC : Hid (∀ W, Below w.heap.size w W → Calls Try.prog 42 #[tval co its.length cap] W fun e w' => ∃ g its', e = .returned (tval (some ⟨g, 0, none⟩) its.length its.length) ∧ colsOf its' = colsOf its ∧ W.heap.size ≤ g ∧ Cp its' g w' ∧ Below W.heap.size W w') := fun W hW => copied2 its co cap W (hr.below hW) hm hm2
  have hm6 : its.length ≤ 1048576 := by have := good_len ((goodT_iff _).1 hgd); simp only [colsOf, List.length_map] at this; omega
  have hi : i < its.length := by obtain ⟨h1, _⟩ := findT_get hfd; simpa using h1
  have hi' : (i : Int) < (its.length : Int) := by omega
  have HG : Hid (∀ W, RdT W co its → Calls Try.prog 21 #[tval co its.length cap] W fun e w' => e = .returned (.bool true) ∧ Below W.heap.size W w') := fun W hW => good_any its co cap W hW hm hm2 true hgd.symm
  have HF : Hid (∀ W, RdT W co its → Calls Try.prog 44 #[tval co its.length cap, .int .i64 p] W fun e w' => e = .returned (.tuple #[.int .i64 i, .int .i64 j, .bool true]) ∧ Below W.heap.size W w') := fun W hW => find2 its co cap p W hW hm hm2 (some (i, j)) hfd.symm
  have HRR : Hid (r = ((colsOf its).set i (((colsOf its).getD i []).eraseIdx j), 0)) := by show r = _; rw [hrr]; simp only [killT, hgd, hfd, hln]; simp
  have HLEN : Hid (((colsOf its).getD i []).length ≠ 1) := hln
  have HJ : Hid (j < ((colsOf its).getD i []).length) := by
    show _ < _
    obtain ⟨h1, h2, _⟩ := findT_get hfd
    simp only [List.getD_eq_getElem?_getD, List.getElem?_eq_getElem h1, Option.getD_some]
    omega
  have HJ3 : Hid (((colsOf its).getD i []).length ≤ 3) := by
    show _ ≤ _
    obtain ⟨h1, _⟩ := findT_get hfd
    simp only [List.getD_eq_getElem?_getD, List.getElem?_eq_getElem h1, Option.getD_some]
    exact (((goodT_iff _).1 hgd).tall _ (List.getElem_mem h1)).2
  have hj3 : j ≤ 3 := by have h1 := HJ.out; have h2 := HJ3.out; omega
  clear hr hm2 hrr hgd hfd hln
  go_enter Try.func18, Try.ntmps18
  go_wp2_with (first
    | (go_at_call 42; refine (HC.out _ (below2 _ _ _)).mono ?_; rintro e w1 ⟨g, its', rfl, hc, hg, hcp, hb⟩; have HS : Hid (SInv w its co cap g its' w1.heap.size (w1.alloc (tbox (some ⟨g, 0, none⟩) its.length its.length))) := sinv_start HR.out hc hg hcp hb; obtain ⟨a1, a2⟩ := one HS.out.box; obtain ⟨a3, a4⟩ := one HS.out.res; obtain ⟨a5, a6⟩ := one HS.out.to2; clear hc hg hcp hb)
    | (go_at_call 21; refine (HG.out _ HS.out.rd).mono ?_; rintro e w2 ⟨rfl, hb2⟩; have HS2 : Hid (SInv w its co cap g its' w1.heap.size w2) := HS.out.next hb2; clear hb2 a1 a2 a3 a4 a5 a6; obtain ⟨a1, a2⟩ := one HS2.out.box; obtain ⟨a3, a4⟩ := one HS2.out.res; obtain ⟨a5, a6⟩ := one HS2.out.to2)
    | (go_at_call 44; refine (HF.out _ HS2.out.rd).mono ?_; rintro e w4 ⟨rfl, hb4⟩; have HS3 : Hid (SInv w its co cap g its' w1.heap.size w4) := HS2.out.next hb4; clear hb4 a1 a2 a3 a4 a5 a6; obtain ⟨a1, a2⟩ := one HS3.out.box; obtain ⟨a3, a4⟩ := one HS3.out.res; obtain ⟨a5, a6⟩ := one HS3.out.to2; obtain ⟨⟨x1, x2, x3⟩, hx1, hx2, hx3, hx4⟩ := HS3.out.col i hi; simp only at hx3 hx2; have hl3 : ¬ (x1.length : Int) = 1 := (by have := HLEN.out; rw [← hx2] at this; omega); have HX : Hid (its'[i]? = some (x1, x2, x3) ∧ j < x1.length ∧ x1.length ≤ 1048576 ∧ x1 = (colsOf its).getD i []) := ⟨hx1, (by have := HJ.out; rw [← hx2] at this; omega), (by have := HJ3.out; rw [← hx2] at this; omega), hx2⟩; have hn1 : ¬ g = w.heap.size + 1 := (by have := HS3.out.far; omega); have hn2 : ¬ w.heap.size + 1 = g := (by have := HS3.out.far; omega); have hn3 : ¬ g = w1.heap.size := (by intro e; have q1 := HS3.out.cp.row; rw [e, HS3.out.to2] at q1; simp at q1); have hn4 : ¬ w1.heap.size = g := (fun e => hn3 e.symm); clear hx1 hx2)
    | fail)
  clear HC HG HF HR HLEN HJ HJ3 HS HS2
  go_region_with ((go_at_call 49; refine (kill_delI HS3.out hm6 i hi (x1, x2, x3) HX.out.1 HX.out.2.2.1 j HX.out.2.1 _ _ (by first | rfl | (rw [IntKind.wrap_i64]; omega)) ((Below.refl _ _).drew)).mono ?_; rintro e w6 ⟨rfl, ⟨c1, c5⟩, c2, c3, c4, hend⟩; have HE : Hid (SpEnd w ((colsOf its).set i (x1.eraseIdx j), 0) (.returned (.tuple #[tval (some ⟨g, 0, none⟩) its.length its.length, .int .i64 0])) ((w6.setCell ⟨g, i, none⟩ (.slice x2 (x1.length - 1) x3)).setCell ⟨w.heap.size + 1, 0, none⟩ (.slice (some ⟨g, 0, none⟩) its.length its.length))) := hend; clear hend a1 a2 a3 a4 a5 a6 hx3 hx4))
  all_goals (
    go_wp2
    refine bodyPost_ret (v := .tuple #[tval (some ⟨g, 0, none⟩) its.length its.length, .int .i64 0]) (by simp [results, Try.results18, go_sem, *]) rfl ?_
    have hx := HX.out.2.2.2
    rw [HRR.out, ← hx]
    exact HE.out)

/-- What 'Kill' makes of panes. -/
theorem kill_any (its : List CIt) (co : Option Addr) (cap : Nat) (p : Int) (w : World) (hr : RdT w co its) (hm : its.length ≤ 5864062014805) (hm2 : ∀ x ∈ its, x.1.length ≤ 17592186044416) (r : List (List Int) × Int) (hrr : r = killT (colsOf its) p) :
    Calls Try.prog 18 #[tval co its.length cap, .int .i64 p] w (SpEnd w r) := by
  cases hgd : goodT (colsOf its) with
  | false => exact kill_bad its co cap p w hr hm hm2 r hrr hgd
  | true =>
    cases hfd : findT p (colsOf its) with
    | none => exact kill_none its co cap p w hr hm hm2 r hrr hgd hfd
    | some x =>
      obtain ⟨i, j⟩ := x
      by_cases hln : ((colsOf its).getD i []).length = 1
      · by_cases hon : its.length = 1
        · exact kill_only its co cap p w hr hm hm2 r hrr hgd i j hfd hln hon
        · exact kill_column its co cap p w hr hm hm2 r hrr hgd i j hfd hln hon
      · exact kill_part its co cap p w hr hm hm2 r hrr hgd i j hfd hln

end Go.Proofs.Ytmdlbclaipajlab.Tl
