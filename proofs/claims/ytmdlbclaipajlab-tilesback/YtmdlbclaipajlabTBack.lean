/- TilesBack: a pane that is put in and killed again leaves all as it was. -/
import Derived.Test.YtmdlbclaipajlabTLays
import Derived.Test.YtmdlbclaipajlabTKill
import Derived.Test.YtmdlbclaipajlabTSame
import Derived.Test.YtmdlbclaipajlabTBack0
namespace Go.Proofs.Ytmdlbclaipajlab.Tl
open Go.RowKit

theorem good_small {its : List CIt} (h : goodT (colsOf its) = true) : its.length ≤ 5864062014805 ∧ ∀ x ∈ its, x.1.length ≤ 17592186044416 := by
  have ok := (goodT_iff _).1 h
  have h1 := good_len ok
  simp only [colsOf, List.length_map] at h1
  refine ⟨by omega, fun x hx => ?_⟩
  have := (ok.tall x.1 (List.mem_map.2 ⟨x, hx, rfl⟩)).2
  omega

/-- In the midst: the panes that came in at H, those with one more at X, those without it again at Y. -/
structure BInv (w : World) (its : List CIt) (co : Option Addr) (cap : Nat) (itx : List CIt) (cox : Option Addr) (nx capx X : Nat) (wx : World) : Prop where
  box : wx.heap[w.heap.size]? = some (tbox co its.length cap)
  bx : wx.heap[X]? = some (tbox cox nx capx)
  rd : RdT wx co its
  rdx : RdT wx cox itx
  below : Below w.heap.size w wx
theorem BInv.next {w : World} {its : List CIt} {co : Option Addr} {cap : Nat} {itx : List CIt} {cox : Option Addr} {nx capx X : Nat} {wx w2 : World} (h : BInv w its co cap itx cox nx capx X wx) (hb : Below wx.heap.size wx w2) : BInv w its co cap itx cox nx capx X w2 :=
  ⟨below_block hb h.box (at_lt h.box), below_block hb h.bx (at_lt h.bx), h.rd.below hb, h.rdx.below hb, below_to h.below hb⟩

set_option maxHeartbeats 1000000 in
set_option maxRecDepth 100000 in
theorem back_stops (its : List CIt) (co : Option Addr) (cap : Nat) (p n : Int) (right : Bool) (w : World) (hr : RdT w co its) (hm : its.length ≤ 5864062014805) (hm2 : ∀ x ∈ its, x.1.length ≤ 17592186044416) (x : List (List Int)) (q : Int) (hx : splitT (colsOf its) p n right = (x, q)) (hq : q ≠ 0) :
    Calls Try.prog 9 #[tval co its.length cap, .int .i64 p, .int .i64 n, .bool right] w fun e w' => e = .returned (.bool true) ∧ Below w.heap.size w w' := by
  have HLY : Hid (∀ W : World, Calls Try.prog 32 #[] W fun e w' => e = .returned (.bool true) ∧ Below W.heap.size W w') := laysK
  have HSP : Hid (Calls Try.prog 16 #[tval co its.length cap, .int .i64 p, .int .i64 n, .bool right] (w.alloc (tbox co its.length cap)) fun e w' => ∃ co' cap' nx, e = .returned (.tuple #[tval co' nx cap', .int .i64 q]) ∧ Below w.heap.size w w') := by
    refine (split_any its co cap p n right _ (hr.below (below1 _ _)) hm hm2 (x, q) hx.symm).mono ?_
    rintro e w' ⟨co', cap', its', rfl, _, _, hb⟩
    exact ⟨co', cap', _, rfl, below_to (below1 _ _) hb⟩
  have hqb : (q == 0) = false := by simp [hq]
  have hqc : (q != 0) = true := by simp [hq]
  obtain ⟨b0, z0⟩ := one (at_new w (tbox co its.length cap))
  clear hr hm hm2 hx hq
  go_enter Try.func9, Try.ntmps9
  go_wp2_with (first
    | (go_at_call 16; refine HSP.out.mono ?_; rintro e w1 ⟨co', cap', nx, rfl, hb1⟩; have HB : Hid (Below w.heap.size w (w1.alloc (tbox co' nx cap'))) := hb1.alloc hb1.size _; clear hb1 b0 z0)
    | (go_at_call 32; refine (HLY.out _).mono ?_; rintro e w2 ⟨rfl, hb2⟩; have HB2 : Hid (Below w.heap.size w w2) := below_to HB.out hb2; clear hb2)
    | fail)
  go_ret
  exact ⟨rfl, HB2.out⟩

theorem back_kill {itx its : List CIt} {x : List (List Int)} {nx : Nat} {n : Int} {cox : Option Addr} {W : World} (hx : colsOf itx = x) (hn : nx = itx.length) (hg : goodT x = true ∧ hasT x n = true ∧ killT x n = (colsOf its, 0)) (hr : RdT W cox itx) (capx : Nat) :
    Calls Try.prog 18 #[tval cox nx capx, .int .i64 n] W fun e w' => ∃ coy capy ity, e = .returned (.tuple #[tval coy its.length capy, .int .i64 0]) ∧ colsOf ity = colsOf its ∧ RdT w' coy ity ∧ Below W.heap.size W w' := by
  subst hx hn
  have hs := good_small hg.1
  refine (kill_any itx cox capx n W hr hs.1 hs.2 (colsOf its, 0) hg.2.2.symm).mono ?_
  rintro e w' ⟨coy, capy, ity, rfl, hc, hry, hb⟩
  have hl : ity.length = its.length := by
    have := congrArg List.length hc
    simpa using this
  exact ⟨coy, capy, ity, by rw [hl], hc, hry, hb⟩
theorem back_good {itx : List CIt} {x : List (List Int)} {nx : Nat} {cox : Option Addr} {W : World} (hx : colsOf itx = x) (hn : nx = itx.length) (hg : goodT x = true) (hr : RdT W cox itx) (capx : Nat) :
    Calls Try.prog 21 #[tval cox nx capx] W fun e w' => e = .returned (.bool true) ∧ Below W.heap.size W w' := by
  subst hx hn
  have hs := good_small hg
  exact good_any itx cox capx W hr hs.1 hs.2 true hg.symm
theorem back_has {itx its : List CIt} {x : List (List Int)} {nx : Nat} {n : Int} {cox : Option Addr} {W : World} (hx : colsOf itx = x) (hn : nx = itx.length) (hg : goodT x = true ∧ hasT x n = true ∧ killT x n = (colsOf its, 0)) (hr : RdT W cox itx) (capx : Nat) :
    Calls Try.prog 23 #[tval cox nx capx, .int .i64 n] W fun e w' => e = .returned (.bool true) ∧ Below W.heap.size W w' := by
  subst hx hn
  have hs := good_small hg.1
  exact has_any itx cox capx n W hr hs.1 hs.2 true hg.2.1.symm

set_option maxHeartbeats 2000000 in
set_option maxRecDepth 100000 in
theorem back_goes (its : List CIt) (co : Option Addr) (cap : Nat) (p n : Int) (right : Bool) (w : World) (hr : RdT w co its) (hm : its.length ≤ 5864062014805) (hm2 : ∀ x ∈ its, x.1.length ≤ 17592186044416) (x : List (List Int)) (hx : splitT (colsOf its) p n right = (x, 0)) :
    Calls Try.prog 9 #[tval co its.length cap, .int .i64 p, .int .i64 n, .bool right] w fun e w' => e = .returned (.bool true) ∧ Below w.heap.size w w' := by
  obtain ⟨g1, g2, g3, g4, g5⟩ := back_all hx
  have HLY : Hid (∀ W : World, Calls Try.prog 32 #[] W fun e w' => e = .returned (.bool true) ∧ Below W.heap.size W w') := laysK
  have HSP : Hid (Calls Try.prog 16 #[tval co its.length cap, .int .i64 p, .int .i64 n, .bool right] (w.alloc (tbox co its.length cap)) (SpEnd (w.alloc (tbox co its.length cap)) (x, 0))) := split_any its co cap p n right _ (hr.below (below1 _ _)) hm hm2 (x, 0) hx.symm
  have HG : Hid (goodT x = true ∧ hasT x n = true ∧ killT x n = (colsOf its, 0)) := ⟨g1, g2, g3⟩
  have HR : Hid (RdT w co its) := hr
  have HM : Hid (∀ x ∈ its, x.1.length ≤ 17592186044416) := hm2
  obtain ⟨b0, z0⟩ := one (at_new w (tbox co its.length cap))
  clear hr hm2 hx g1 g2 g3 g4 g5
  go_enter Try.func9, Try.ntmps9
  go_wp2_with (first
    | (go_at_call 16; refine HSP.out.mono ?_; rintro e w1 ⟨cox, capx, itx, rfl, hcx, hrx, hb1⟩; obtain ⟨nx, hnx⟩ : ∃ nx, nx = itx.length := ⟨_, rfl⟩; have HX : Hid (colsOf itx = x ∧ nx = itx.length) := ⟨hcx, hnx⟩; have HI1 : Hid (BInv w its co cap itx cox nx capx w1.heap.size (w1.alloc (tbox cox nx capx))) := ⟨at_old (below_block hb1 (at_new w _) (by simp)) _, at_new _ _, HR.out.below (below_to (below_to (below1 _ _) hb1) (below1 _ _)), hrx.below (below1 _ _), below_to (below_to (below1 _ _) hb1) (below1 _ _)⟩; rw [← hnx]; clear hcx hrx hb1 b0 z0 hnx; obtain ⟨a1, a2⟩ := one HI1.out.box; obtain ⟨a3, a4⟩ := one HI1.out.bx)
    | (go_at_call 32; refine (HLY.out _).mono ?_; rintro e w2 ⟨rfl, hb2⟩; have HI2 : Hid (BInv w its co cap itx cox nx capx w1.heap.size w2) := HI1.out.next hb2; clear hb2 a1 a2 a3 a4; obtain ⟨a1, a2⟩ := one HI2.out.box; obtain ⟨a3, a4⟩ := one HI2.out.bx)
    | (go_at_call 18; refine (back_kill HX.out.1 HX.out.2 HG.out HI2.out.rdx capx).mono ?_; rintro e w3 ⟨coy, capy, ity, rfl, hcy, hry, hb3⟩; have HY : Hid (colsOf ity = colsOf its ∧ RdT (w3.alloc (tbox coy its.length capy)) coy ity) := ⟨hcy, hry.below (below1 _ _)⟩; have HI3 : Hid (BInv w its co cap itx cox nx capx w1.heap.size (w3.alloc (tbox coy its.length capy)) ∧ (w3.alloc (tbox coy its.length capy)).heap[w3.heap.size]? = some (tbox coy its.length capy)) := ⟨HI2.out.next (below_to hb3 (below1 _ _)), at_new _ _⟩; clear hcy hry hb3 a1 a2 a3 a4; obtain ⟨a1, a2⟩ := one HI3.out.1.box; obtain ⟨a3, a4⟩ := one HI3.out.1.bx; obtain ⟨a5, a6⟩ := one HI3.out.2)
    | (go_at_call 21; refine (back_good HX.out.1 HX.out.2 HG.out.1 HI3.out.1.rdx capx).mono ?_; rintro e w4 ⟨rfl, hb4⟩; have HI4 : Hid (BInv w its co cap itx cox nx capx w1.heap.size w4 ∧ w4.heap[w3.heap.size]? = some (tbox coy its.length capy) ∧ RdT w4 coy ity) := ⟨HI3.out.1.next hb4, below_block hb4 HI3.out.2 (at_lt HI3.out.2), HY.out.2.below hb4⟩; clear hb4 a1 a2 a3 a4 a5 a6; obtain ⟨a1, a2⟩ := one HI4.out.1.box; obtain ⟨a3, a4⟩ := one HI4.out.1.bx; obtain ⟨a5, a6⟩ := one HI4.out.2.1)
    | (go_at_call 23; refine (back_has HX.out.1 HX.out.2 HG.out HI4.out.1.rdx capx).mono ?_; rintro e w5 ⟨rfl, hb5⟩; have HI5 : Hid (BInv w its co cap itx cox nx capx w1.heap.size w5 ∧ w5.heap[w3.heap.size]? = some (tbox coy its.length capy) ∧ RdT w5 coy ity) := ⟨HI4.out.1.next hb5, below_block hb5 HI4.out.2.1 (at_lt HI4.out.2.1), HI4.out.2.2.below hb5⟩; clear hb5 a1 a2 a3 a4 a5 a6; obtain ⟨a1, a2⟩ := one HI5.out.1.box; obtain ⟨a3, a4⟩ := one HI5.out.1.bx; obtain ⟨a5, a6⟩ := one HI5.out.2.1)
    | fail)
  go_loopw [60] (fun i wr => ∃ k : Nat, k ≤ its.length ∧ i = .int .i64 k ∧ BInv w its co cap itx cox nx capx w1.heap.size wr ∧ wr.heap[w3.heap.size]? = some (tbox coy its.length capy) ∧ RdT wr coy ity) (fun i _ => its.length - (intOf i).toNat)
  case atStart => exact ⟨0, Nat.zero_le _, rfl, HI5.out⟩
  case round =>
    obtain ⟨k, hk, rfl, hi⟩ := hrel
    have HI : Hid (BInv w its co cap itx cox nx capx w1.heap.size wr ∧ wr.heap[w3.heap.size]? = some (tbox coy its.length capy) ∧ RdT wr coy ity) := hi
    clear hi a1 a2 a3 a4 a5 a6 HI1 HI2 HI3 HI4 HI5
    obtain ⟨a1, a2⟩ := one HI.out.1.box
    obtain ⟨a5, a6⟩ := one HI.out.2.1
    by_cases hlt : k < its.length
    · have hlt' : (k : Int) < (its.length : Int) := by omega
      have hly : ity.length = its.length := by
        have := congrArg List.length HY.out.1
        simpa using this
      obtain ⟨b, off, rfl, hc⟩ := HI.out.1.rd.row.resolve_left (by intro h; subst h; simp at hlt)
      obtain ⟨b', off', rfl, hc'⟩ := HI.out.2.2.row.resolve_left (by intro h; subst h; simp at hly; omega)
      have h1 := hc k hlt
      have h2 := hc' k (by omega)
      obtain ⟨⟨x1, x2, x3⟩, hx⟩ : ∃ x, x = its[k] := ⟨_, rfl⟩
      obtain ⟨⟨y1, y2, y3⟩, hy⟩ : ∃ y, y = ity[k]'(by omega) := ⟨_, rfl⟩
      rw [← hx] at h1
      rw [← hy] at h2
      have hxy : y1 = x1 := by
        have e := HY.out.1
        have e1 : (colsOf ity)[k]? = (colsOf its)[k]? := by rw [e]
        simp only [colsOf, List.getElem?_map, List.getElem?_eq_getElem hlt, List.getElem?_eq_getElem (show k < ity.length by omega), Option.map_some, Option.some.injEq, ← hx, ← hy] at e1
        exact e1
      subst hxy
      have hxm : (y1, x2, x3) ∈ its := by rw [hx]; exact List.getElem_mem hlt
      have hym : (y1, y2, y3) ∈ ity := by rw [hy]; exact List.getElem_mem (by omega)
      have HSN : Hid (∀ m, Calls Try.prog 33 #[.slice y2 y1.length y3, .slice x2 y1.length x3] (wr.drewN m) fun e w' => e = .returned (.bool true) ∧ ∃ q, w' = (wr.drewN m).drewN q) := fun m =>
        sameNK y1 y2 x2 y3 x3 (wr.drewN m) (RdL.below (HI.out.2.2.each _ hym).1 (below_drewN wr m)) (RdL.below (HI.out.1.rd.each _ hxm).1 (below_drewN wr m)) (HM.out _ hxm)
      have h1' : wr.cell? ⟨b, off + k, none⟩ = some (.slice x2 y1.length x3) := h1
      have h2' : wr.cell? ⟨b', off' + k, none⟩ = some (.slice y2 y1.length y3) := h2
      clear hc hc' hx hy hxm hym h1 h2 hly
      go_wp2_with fail
      go_quiet ((go_at_call 33; exact Calls.quiet_of (HSN.out _)))
      go_wp2
      go_roundw
      case rel => exact ⟨k + 1, by omega, by go_num, HI.out.1.next (below_drewN _ _), HI.out.2.1, HI.out.2.2.below (below_drewN _ _)⟩
      case measure => simp [intOf]; omega
    · have hge : (its.length : Int) ≤ (k : Int) := by omega
      go_wp2
      go_ret
      exact ⟨rfl, HI.out.1.below⟩

/-- TilesBack returns true. -/
theorem tilesBack_true (its : List CIt) (co : Option Addr) (cap : Nat) (p n : Int) (right : Bool) (w : World) (hr : RdT w co its) (hm : its.length ≤ 5864062014805) (hm2 : ∀ x ∈ its, x.1.length ≤ 17592186044416) :
    Calls Try.prog 9 #[tval co its.length cap, .int .i64 p, .int .i64 n, .bool right] w fun e w' => e = .returned (.bool true) ∧ Below w.heap.size w w' := by
  cases h : splitT (colsOf its) p n right with
  | mk x q =>
    by_cases hq : q = 0
    · subst hq
      exact back_goes its co cap p n right w hr hm hm2 x h
    · exact back_stops its co cap p n right w hr hm hm2 x q h hq

end Go.Proofs.Ytmdlbclaipajlab.Tl
