/- The place of a pane. -/
import Derived.Test.YtpichplhidiokacGreatDoorTGood
import Derived.Test.YtpichplhidiokacGreatDoorTShare
namespace Go.Proofs.YtpichplhidiokacGreatDoor.Tl
open Go.RowKit

@[reducible] def zbox : Obj := .cells #[.int .i64 0, .int .i64 0, .int .i64 0, .int .i64 0] 64

/-- In the midst of 'Where'. -/
structure WInv (w : World) (its : List CIt) (co : Option Addr) (cap : Nat) (wx : World) : Prop where
  box : wx.heap[w.heap.size]? = some (tbox co its.length cap)
  res : wx.heap[w.heap.size + 1]? = some (zbox)
  rd : RdT wx co its
  below : Below w.heap.size w wx
theorem WInv.next {w : World} {its : List CIt} {co : Option Addr} {cap : Nat} {wx w2 : World} (h : WInv w its co cap wx) (hb : Below wx.heap.size wx w2) : WInv w its co cap w2 :=
  ⟨below_block hb h.box (at_lt h.box), below_block hb h.res (at_lt h.res), h.rd.below hb, below_to h.below hb⟩
theorem winv_start {w : World} {its : List CIt} {co : Option Addr} {cap : Nat} (hr : RdT w co its) : WInv w its co cap ((w.alloc (tbox co its.length cap)).alloc (zbox)) :=
  ⟨at_old (at_new w _) _, at_new1 w _ _, hr.below (below2 _ _ _), below2 _ _ _⟩

theorem set4_below {w w2 : World} {B : Nat} (h : Below w.heap.size w w2) (hB : w.heap.size ≤ B) (u0 u1 u2 u3 : Value) : Below w.heap.size w ((((w2.setCell ⟨B, 0, none⟩ u0).setCell ⟨B, 1, none⟩ u1).setCell ⟨B, 2, none⟩ u2).setCell ⟨B, 3, none⟩ u3) :=
  (((h.setCell hB _).setCell hB _).setCell hB _).setCell hB _

set_option maxHeartbeats 1000000 in
set_option maxRecDepth 100000 in
theorem where_no (its : List CIt) (co : Option Addr) (cap : Nat) (wide high p : Int) (w : World) (hr : RdT w co its) (hm : its.length ≤ 5864062014805) (hm2 : ∀ x ∈ its, x.1.length ≤ 17592186044416) (h : goodT (colsOf its) = false ∨ findT p (colsOf its) = none) :
    Calls Tryz.prog 30 #[tval co its.length cap, .int .i64 wide, .int .i64 high, .int .i64 p] w fun e w' => e = .returned (rval noRc) ∧ Below w.heap.size w w' := by
  obtain ⟨r, hr0⟩ : ∃ r, r = findT p (colsOf its) := ⟨_, rfl⟩
  obtain ⟨gd, hgd⟩ : ∃ gd, gd = goodT (colsOf its) := ⟨_, rfl⟩
  have HF : Hid (∀ w, RdT w co its → Calls Tryz.prog 54 #[tval co its.length cap, .int .i64 p] w fun e w' => e = .returned (.tuple #[.int .i64 (fi r), .int .i64 (fj r), .bool r.isSome]) ∧ Below w.heap.size w w') := fun w hr => by
    refine (find_any its co cap p w hr hm hm2 r hr0).mono ?_
    rintro e w' ⟨rfl, rfl⟩
    exact ⟨rfl, below1 _ _⟩
  have HG : Hid (∀ w, RdT w co its → Calls Tryz.prog 33 #[tval co its.length cap] w fun e w' => e = .returned (.bool gd) ∧ Below w.heap.size w w') := fun w hr => good_any its co cap w hr hm hm2 gd hgd
  have HW0 : Hid (WInv w its co cap ((w.alloc (tbox co its.length cap)).alloc (zbox))) := winv_start hr
  have hcs : gd = false ∨ (gd = true ∧ r.isSome = false) := by
    rcases h with h | h
    · left; rw [hgd, h]
    · cases hg : gd
      · exact .inl rfl
      · right; exact ⟨rfl, by rw [hr0, h]; rfl⟩
  clear hr hm2 hr0 hgd h hm
  rcases hcs with rfl | ⟨rfl, hs⟩
  · go_enter Tryz.func30, Tryz.ntmps30
    go_wp2_with (first
      | (go_at_call 54; refine (HF.out _ HW0.out.rd).mono ?_; rintro e w1 ⟨rfl, hb1⟩; have HW1 : Hid (WInv w its co cap w1) := HW0.out.next hb1; obtain ⟨a1, a2⟩ := one HW1.out.box; obtain ⟨⟨a3, a4, a5, a6⟩, a7⟩ := four HW1.out.res; clear hb1)
      | (go_at_call 33; refine (HG.out _ HW1.out.rd).mono ?_; rintro e w2 ⟨rfl, hb2⟩; have HW2 : Hid (WInv w its co cap w2) := HW1.out.next hb2; clear a1 a2 a3 a4 a5 a6 a7; obtain ⟨a1, a2⟩ := one HW2.out.box; obtain ⟨⟨a3, a4, a5, a6⟩, a7⟩ := four HW2.out.res; clear hb2)
      | fail)
    refine bodyPost_ret (v := rval noRc) (by simp [results, Tryz.results30, go_sem, noRc, *]) rfl ?_
    exact ⟨rfl, set4_below HW2.out.below (by omega) _ _ _ _⟩
  · rw [hs] at HF
    clear hs
    go_enter Tryz.func30, Tryz.ntmps30
    go_wp2_with (first
      | (go_at_call 54; refine (HF.out _ HW0.out.rd).mono ?_; rintro e w1 ⟨rfl, hb1⟩; have HW1 : Hid (WInv w its co cap w1) := HW0.out.next hb1; obtain ⟨a1, a2⟩ := one HW1.out.box; obtain ⟨⟨a3, a4, a5, a6⟩, a7⟩ := four HW1.out.res; clear hb1)
      | (go_at_call 33; refine (HG.out _ HW1.out.rd).mono ?_; rintro e w2 ⟨rfl, hb2⟩; have HW2 : Hid (WInv w its co cap w2) := HW1.out.next hb2; clear a1 a2 a3 a4 a5 a6 a7; obtain ⟨a1, a2⟩ := one HW2.out.box; obtain ⟨⟨a3, a4, a5, a6⟩, a7⟩ := four HW2.out.res; clear hb2)
      | fail)
    refine bodyPost_ret (v := rval noRc) (by simp [results, Tryz.results30, go_sem, noRc, *]) rfl ?_
    exact ⟨rfl, set4_below HW2.out.below (by omega) _ _ _ _⟩

theorem w_share {w : World} {its : List CIt} {co : Option Addr} {cap R : Nat} {w3 w4 : World} {x wd : Int} (h : WInv w its co cap w3) (hR : w3.heap[R]? = some (zbox)) (hRw : w.heap.size + 2 ≤ R)
    (hb : Below ((w3.setCell ⟨R, 1, none⟩ (.int .i64 x)).setCell ⟨R, 3, none⟩ (.int .i64 wd)).heap.size ((w3.setCell ⟨R, 1, none⟩ (.int .i64 x)).setCell ⟨R, 3, none⟩ (.int .i64 wd)) w4) :
    w4.heap[R]? = some (rbox ⟨0, x, 0, wd⟩) ∧ w4.heap[w.heap.size + 1]? = some (zbox) ∧ Below w.heap.size w w4 := by
  have s1 := heap_setCell_same w3 R 1 _ _ (.int .i64 x) hR
  have s2 := heap_setCell_same _ R 3 _ _ (.int .i64 wd) s1
  have s3 : ((w3.setCell ⟨R, 1, none⟩ (.int .i64 x)).setCell ⟨R, 3, none⟩ (.int .i64 wd)).heap[w.heap.size + 1]? = some (zbox) := by
    rw [Below.heap_setCell _ _ _ _ (by simp; omega), Below.heap_setCell _ _ _ _ (by simp; omega)]
    exact h.res
  refine ⟨?_, below_block hb s3 (at_lt s3), below_to ((h.below.setCell (by simp; omega) _).setCell (by simp; omega) _) hb⟩
  have := below_block hb s2 (at_lt s2)
  simpa [rbox, rcells] using this

set_option maxHeartbeats 1000000 in
set_option maxRecDepth 100000 in
theorem where_yes (its : List CIt) (co : Option Addr) (cap : Nat) (wide high p : Int) (w : World) (hr : RdT w co its) (hm : its.length ≤ 5864062014805) (hm2 : ∀ x ∈ its, x.1.length ≤ 17592186044416) (hgd : goodT (colsOf its) = true) (i j : Nat) (hfd : findT p (colsOf its) = some (i, j)) (s1 s2 : Int × Int) (h1 : s1 = shareT wide its.length i) (h2 : s2 = shareT high ((colsOf its).getD i []).length j) (r : Rc) (hrc : r = if s1.2 = 0 ∨ s2.2 = 0 then noRc else ⟨s2.1, s1.1, s2.2, s1.2⟩) :
    Calls Tryz.prog 30 #[tval co its.length cap, .int .i64 wide, .int .i64 high, .int .i64 p] w fun e w' => e = .returned (rval r) ∧ Below w.heap.size w w' := by
  have HF : Hid (∀ w, RdT w co its → Calls Tryz.prog 54 #[tval co its.length cap, .int .i64 p] w fun e w' => e = .returned (.tuple #[.int .i64 i, .int .i64 j, .bool true]) ∧ Below w.heap.size w w') := fun w hr => by
    refine (find_any its co cap p w hr hm hm2 (some (i, j)) hfd.symm).mono ?_
    rintro e w' ⟨rfl, rfl⟩
    exact ⟨rfl, below1 _ _⟩
  have HG : Hid (∀ w, RdT w co its → Calls Tryz.prog 33 #[tval co its.length cap] w fun e w' => e = .returned (.bool true) ∧ Below w.heap.size w w') := fun w hr => good_any its co cap w hr hm hm2 true hgd.symm
  have HW0 : Hid (WInv w its co cap ((w.alloc (tbox co its.length cap)).alloc (zbox))) := winv_start hr
  have hi : i < its.length := by obtain ⟨h1, _⟩ := findT_get hfd; simpa using h1
  obtain ⟨b, off, rfl, hc⟩ := hr.row.resolve_left (by intro h; subst h; simp at hi)
  have hcw := hc i hi
  have hbw : b < w.heap.size := World.block_lt_of_cell? _ _ hcw
  obtain ⟨⟨x1, x2, x3⟩, hx⟩ : ∃ x, x = its[i] := ⟨_, rfl⟩
  rw [← hx] at hcw
  have HCW : Hid (w.cell? ⟨b, off + i, none⟩ = some (.slice x2 x1.length x3)) := hcw
  have hxl : ((colsOf its).getD i []).length = x1.length := by simp [hi, ← hx]
  rw [hxl] at h2
  have H1 : Hid (∀ W, Calls Tryz.prog 55 #[.int .i64 wide, .int .i64 its.length, .int .i64 i] W fun e w' => e = .returned (.tuple #[.int .i64 s1.1, .int .i64 s1.2]) ∧ Below W.heap.size W w') := fun W => share_any wide its.length i W s1 h1
  have H2 : Hid (∀ W, Calls Tryz.prog 55 #[.int .i64 high, .int .i64 x1.length, .int .i64 j] W fun e w' => e = .returned (.tuple #[.int .i64 s2.1, .int .i64 s2.2]) ∧ Below W.heap.size W w') := fun W => share_any high x1.length j W s2 h2
  have hi' : (i : Int) < (its.length : Int) := by omega
  obtain ⟨x, wd⟩ := s1
  obtain ⟨y, hh⟩ := s2
  simp only at H1 H2 hrc
  clear hr hm2 hgd hfd hc hcw hx hxl h1 h2
  have hcs : (wd = 0 ∧ r = noRc) ∨ ((wd == 0) = false ∧ hh = 0 ∧ r = noRc) ∨ ((wd == 0) = false ∧ (hh == 0) = false ∧ r = ⟨y, x, hh, wd⟩) := by
    by_cases e1 : wd = 0
    · left; exact ⟨e1, by rw [hrc, if_pos (.inl e1)]⟩
    · by_cases e2 : hh = 0
      · right; left; exact ⟨by simp [e1], e2, by rw [hrc, if_pos (.inr e2)]⟩
      · right; right; exact ⟨by simp [e1], by simp [e2], by rw [hrc, if_neg (by omega)]⟩
  clear hrc
  rcases hcs with ⟨e1, rfl⟩ | ⟨e1, e2, rfl⟩ | ⟨e1, e2, rfl⟩
  all_goals
    go_enter Tryz.func30, Tryz.ntmps30
    go_wp2_with (first
      | (go_at_call 54; refine (HF.out _ HW0.out.rd).mono ?_; rintro e w1 ⟨rfl, hb1⟩; have HW1 : Hid (WInv w its _ cap w1) := HW0.out.next hb1; obtain ⟨a1, a2⟩ := one HW1.out.box; obtain ⟨⟨a3, a4, a5, a6⟩, a7⟩ := four HW1.out.res; clear hb1)
      | (go_at_call 33; refine (HG.out _ HW1.out.rd).mono ?_; rintro e w2 ⟨rfl, hb2⟩; have HW2 : Hid (WInv w its _ cap w2) := HW1.out.next hb2; clear a1 a2 a3 a4 a5 a6 a7; obtain ⟨a1, a2⟩ := one (at_old HW2.out.box (zbox)); obtain ⟨⟨a3, a4, a5, a6⟩, a7⟩ := four HW2.out.res; have hR : w.heap.size + 2 ≤ w2.heap.size := (by have := at_lt HW2.out.res; omega); have n1 : ¬ w2.heap.size = w.heap.size := (by omega); have n2 : ¬ w.heap.size = w2.heap.size := (by omega); have n3 : ¬ b = w2.heap.size := (by omega); have n4 : ¬ w2.heap.size = b := (by omega); have n5 : ¬ w.heap.size + 1 = w2.heap.size := (by omega); have n6 : ¬ w2.heap.size = w.heap.size + 1 := (by omega); clear hb2)
      | (go_at_call_of 55 (Value.int IntKind.i64 wide); refine (H1.out _).mono ?_; rintro e w3 ⟨rfl, hb3⟩; have HW3 : Hid (WInv w its _ cap w3 ∧ w3.heap[w2.heap.size]? = some (zbox)) := ⟨HW2.out.next (below_to (below1 _ _) hb3), below_block hb3 (at_new _ _) (by simp)⟩; clear a1 a2 a3 a4 a5 a6 a7 hb3; obtain ⟨a1, a2⟩ := one HW3.out.1.box; obtain ⟨⟨a3, a4, a5, a6⟩, a7⟩ := four HW3.out.2; have c1 := (HW3.out.1.below.cell (p := ⟨b, off + i, none⟩) hbw).trans HCW.out)
      | (go_at_call_of 55 (Value.int IntKind.i64 high); refine (H2.out _).mono ?_; rintro e w4 ⟨rfl, hb4⟩; obtain ⟨f1, f2, f3⟩ := w_share HW3.out.1 HW3.out.2 hR hb4; have HE : Hid (Below w.heap.size w w4) := f3; clear a1 a2 a3 a4 a5 a6 a7 c1 hb4 f3; obtain ⟨⟨a3, a4, a5, a6⟩, a7⟩ := four f1; obtain ⟨⟨d3, d4, d5, d6⟩, d7⟩ := four f2; clear f1 f2)
      | fail)
    first
      | (refine bodyPost_ret (v := rval noRc) (by simp [results, Tryz.results30, go_sem, noRc, *]) rfl ?_
         exact ⟨rfl, set4_below ((HE.out.setCell (by simp; omega) _).setCell (by simp; omega) _) (by omega) _ _ _ _⟩)
      | (refine bodyPost_ret (v := rval ⟨y, x, hh, wd⟩) (by simp [results, Tryz.results30, go_sem, *]) rfl ?_
         exact ⟨rfl, set4_below ((HE.out.setCell (by simp; omega) _).setCell (by simp; omega) _) (by omega) _ _ _ _⟩)

theorem where_any (its : List CIt) (co : Option Addr) (cap : Nat) (wide high p : Int) (w : World) (hr : RdT w co its) (hm : its.length ≤ 5864062014805) (hm2 : ∀ x ∈ its, x.1.length ≤ 17592186044416) (r : Rc) (hrc : r = whereT (colsOf its) wide high p) :
    Calls Tryz.prog 30 #[tval co its.length cap, .int .i64 wide, .int .i64 high, .int .i64 p] w fun e w' => e = .returned (rval r) ∧ Below w.heap.size w w' := by
  cases hgd : goodT (colsOf its) with
  | false =>
    have : r = noRc := by rw [hrc]; simp [whereT, hgd]
    subst this
    exact where_no its co cap wide high p w hr hm hm2 (.inl hgd)
  | true =>
    cases hfd : findT p (colsOf its) with
    | none =>
      have : r = noRc := by rw [hrc]; simp [whereT, hgd, hfd]
      subst this
      exact where_no its co cap wide high p w hr hm hm2 (.inr hfd)
    | some x =>
      obtain ⟨i, j⟩ := x
      refine where_yes its co cap wide high p w hr hm hm2 hgd i j hfd _ _ rfl rfl r ?_
      rw [hrc]
      unfold whereT
      rw [if_neg (by simp [hgd]), hfd]
      simp only [colsOf, List.length_map]

end Go.Proofs.YtpichplhidiokacGreatDoor.Tl
