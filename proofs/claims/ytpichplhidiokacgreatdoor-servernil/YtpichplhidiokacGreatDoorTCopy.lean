/- What 'copied' makes: the panes in lists of their own. -/
import Derived.Test.YtpichplhidiokacGreatDoorTClone
namespace Go.Proofs.YtpichplhidiokacGreatDoor.Tl
open Go.RowKit

/-- Lists of their own: the outer one at g, the columns behind it, each in a block of its own. -/
structure Cp (its : List CIt) (g : Nat) (w : World) : Prop where
  row : w.heap[g]? = some (.cells (its.map cv).toArray 48)
  own : ∀ x ∈ its, w.ownsRow (g + 1) 3 1 (cv x) x.1.length (ints x.1)
  apart : ∀ j k (hj : j < its.length) (hk : k < its.length), j < k → ∀ a b, its[j].2.1 = some a → its[k].2.1 = some b → a.block < b.block

theorem own_lt {w : World} {base sz n : Nat} {e : TypeId} {a : Addr} {c : Nat} {xs : List Value} (h : w.ownsRow base e sz (.slice (some a) n c) n xs) : base ≤ a.block ∧ a.block < w.heap.size := by
  rcases h.2 with ⟨hv, _⟩ | ⟨g, cap, cur, hv, hb, hg, _⟩
  · cases hv
  · simp only [Value.slice.injEq, Option.some.injEq] at hv
    obtain ⟨rfl, _, _⟩ := hv
    exact ⟨hb, at_lt hg⟩

theorem Cp.below {its : List CIt} {g : Nat} {w w' : World} (h : Cp its g w) (hb : Below w.heap.size w w') : Cp its g w' :=
  ⟨below_block hb h.row (at_lt h.row), fun x hx => row_below (h.own x hx) hb, h.apart⟩
theorem Cp.set {its : List CIt} {g B j : Nat} {u : Value} {w : World} (h : Cp its g w) (hB : B < g) : Cp its g (w.setCell ⟨B, j, none⟩ u) :=
  ⟨by rw [Below.heap_setCell _ _ _ _ (by simp; omega)]; exact h.row, fun x hx => row_set (h.own x hx) (by omega), h.apart⟩
theorem Cp.rd {its : List CIt} {g : Nat} {w : World} (h : Cp its g w) : RdT w (some ⟨g, 0, none⟩) its := by
  refine ⟨fun x hx => row_rd (h.own x hx), .inr ⟨g, 0, rfl, fun k hk => ?_⟩⟩
  simp only [World.cell?, h.row]
  simp [hk]

/-- In the midst of the copying: k columns are copied. -/
structure CInv (w : World) (its : List CIt) (co : Option Addr) (cap T k : Nat) (done : List CIt) (wr : World) : Prop where
  far : w.heap.size + 3 ≤ T
  len : done.length = k
  same : colsOf done = (colsOf its).take k
  row : wr.heap[w.heap.size + 2]? = some (.cells (done.map cv ++ List.replicate (its.length - k) (Value.slice none 0 0)).toArray 48)
  own : ∀ x ∈ done, wr.ownsRow (T + 1) 3 1 (cv x) x.1.length (ints x.1)
  apart : ∀ j k (hj : j < done.length) (hk : k < done.length), j < k → ∀ a b, done[j].2.1 = some a → done[k].2.1 = some b → a.block < b.block
  box : wr.heap[w.heap.size]? = some (tbox co its.length cap)
  res : wr.heap[w.heap.size + 1]? = some (tbox none 0 0)
  to3 : wr.heap[T]? = some (tbox (some ⟨w.heap.size + 2, 0, none⟩) its.length its.length)
  below : Below w.heap.size w wr

theorem cinv_step {w : World} {its : List CIt} {co : Option Addr} {cap T k : Nat} {done : List CIt} {wr w1 : World} (h : CInv w its co cap T k done wr) (hk : k < its.length) {ao : Option Addr} {c : Nat}
    (ho : w1.ownsRow wr.heap.size 3 1 (.slice ao its[k].1.length c) its[k].1.length (ints its[k].1)) (hb : Below wr.heap.size wr w1) :
    CInv w its co cap T (k + 1) (done ++ [(its[k].1, ao, c)]) (w1.setCell ⟨w.heap.size + 2, k, none⟩ (.slice ao its[k].1.length c)) := by
  have hw4 : T < wr.heap.size := at_lt h.to3
  have hT := h.far
  have hrow := below_block hb h.row (by omega)
  refine ⟨h.far, by simp [h.len], ?_, ?_, ?_, ?_, ?_, ?_, ?_, ?_⟩
  · rw [List.take_succ_eq_append_getElem (by simpa using hk)]
    simp [colsOf, ← h.same]
  · rw [heap_setCell_same w1 (w.heap.size + 2) k _ _ _ hrow]
    have e1 : its.length - k = (its.length - (k + 1)) + 1 := by omega
    rw [e1, List.replicate_succ]
    have hl : (done.map cv).length = k := by simp [h.len]
    simp only [List.map_append, List.map_cons, List.map_nil, List.append_assoc, List.cons_append, List.nil_append]
    congr 1
    congr 1
    apply Array.ext'
    simp only [Array.toList_setIfInBounds]
    rw [List.set_append_right _ _ (by omega)]
    simp [hl]
  · intro x hx
    rcases List.mem_append.1 hx with hx | hx
    · exact row_set (row_below (h.own x hx) hb) (by omega)
    · simp at hx
      subst hx
      exact row_set (row_less ho (by omega)) (by omega)
  · intro i j hi hj hij a b ha hbb
    have hjl : j ≤ done.length := by simp at hj; omega
    by_cases e : j = done.length
    · subst e
      have hi2 : i < done.length := hij
      rw [List.getElem_append_left hi2] at ha
      simp at hbb
      have h1 := h.own done[i] (List.getElem_mem hi2)
      unfold cv at h1
      rw [ha] at h1
      have h2 := (own_lt h1).2
      rw [hbb] at ho
      have h3 := (own_lt ho).1
      omega
    · have hj2 : j < done.length := by omega
      have hi2 : i < done.length := by omega
      rw [List.getElem_append_left hi2] at ha
      rw [List.getElem_append_left hj2] at hbb
      exact h.apart i j hi2 hj2 hij a b ha hbb
  · rw [Below.heap_setCell _ _ _ _ (by simp)]; exact below_block hb h.box (by omega)
  · rw [Below.heap_setCell _ _ _ _ (by simp)]; exact below_block hb h.res (by omega)
  · rw [Below.heap_setCell _ _ _ _ (by simp; omega)]; exact below_block hb h.to3 (by omega)
  · exact (below_to h.below hb).setCell (by simp) _

theorem made_nils (n : Nat) : (madeCells #[Value.slice none 0 0] n).toList = List.replicate n (.slice none 0 0) := by
  refine List.ext_getElem? fun k => ?_
  simp only [madeCells, Array.toList_map, Array.toList_range, List.getElem?_map, List.getElem?_replicate]
  by_cases h : k < n
  · simp [h, Nat.mod_one]
  · simp [h]

theorem nil_at (l : List Value) (m k : Nat) (v : Value) (hl : l.length = k) (hm : 0 < m) : (l ++ List.replicate m v).toArray[k]? = some v := by
  rw [List.getElem?_toArray, List.getElem?_append_right (by omega), hl]
  simp [hm]

theorem row_full {w : World} {base g n : Nat} {e : TypeId} {xs : List Value} (h : w.ownsRow base e 1 (.slice (some ⟨g, 0, none⟩) n n) n xs) : w.heap[g]? = some (.cells xs.toArray e) := by
  rcases h.2 with ⟨hv, _⟩ | ⟨g', cap, cur, hv, hb, hg, hc, _, hs, ht⟩
  · cases hv
  · simp only [Value.slice.injEq, Option.some.injEq, Addr.mk.injEq, and_true, true_and] at hv
    obtain ⟨rfl, rfl⟩ := hv
    rw [hg]
    have : cur.toList = xs := by rw [← ht, List.take_of_length_le (by simp [hs])]
    rw [← this]

/-- What 'copied' ends with. -/
def CpEnd (w : World) (cols : List (List Int)) (e : Ending) (w' : World) : Prop :=
  ∃ g its', e = .returned (tval (some ⟨g, 0, none⟩) its'.length its'.length) ∧ colsOf its' = cols ∧ w.heap.size ≤ g ∧ Cp its' g w' ∧ Below w.heap.size w w'

set_option maxRecDepth 100000 in
set_option maxHeartbeats 1000000 in
theorem copied_any (its : List CIt) (co : Option Addr) (cap : Nat) (w : World) (hr : RdT w co its) (hm : its.length ≤ 5864062014805) (hm2 : ∀ x ∈ its, x.1.length ≤ 17592186044416) :
    Calls Tryz.prog 91 #[tval co its.length cap] w (CpEnd w (colsOf its)) := by
  obtain ⟨i0, hi, hz0, hz1, hz2⟩ := info_parts infoL
  have HR : Hid (RdT w co its) := hr
  have HM : Hid (∀ x ∈ its, x.1.length ≤ 17592186044416) := hm2
  clear hr hm2
  go_enter Tryz.func91, Tryz.ntmps91
  go_wp2_with (first | (at_make; refine wpList_make_full _ rfl _ _ 32 rfl w.heap.size 48 i0 (.slice none 0 0) 1 Tryz.underlying32 hi hz0 hz1 .i64 .i64 _ _ its.length rfl rfl rfl rfl (by rw [hz2]; omega) (by unfold maxLen; omega) (by simp; omega) ?_) | fail)
  intro w1 hown hg
  rw [made_nils] at hown
  have hrow := row_full hown
  have hT3 : w.heap.size + 3 ≤ w1.heap.size := by have := at_lt hrow; omega
  have q1 : w1.heap[w.heap.size]? = some (tbox co its.length cap) := by rw [World.grownBy.block hg w.heap.size (by simp; omega) (by simp)]; exact at_old (at_new w _) _
  have q2 : w1.heap[w.heap.size + 1]? = some (tbox none 0 0) := by rw [World.grownBy.block hg (w.heap.size + 1) (by simp) (by simp)]; exact at_new1 w _ _
  have hb1 : Below w.heap.size w w1 := (below2 w (tbox co its.length cap) (tbox none 0 0)).trans ⟨hg.os, hg.tape, hg.output, hg.size, fun k hk => hg.block k (by simp; omega) (by simp)⟩
  obtain ⟨y1, z1⟩ := one (at_old q1 (tbox (some ⟨w.heap.size + 1 + 1, 0, none⟩) its.length its.length))
  have HS : Hid (CInv w its co cap w1.heap.size 0 [] (w1.alloc (tbox (some ⟨w.heap.size + 1 + 1, 0, none⟩) its.length its.length))) :=
    ⟨hT3, rfl, by simp [colsOf], by simpa using at_old hrow _, fun x hx => by simp at hx, fun j k hj => by simp at hj, at_old q1 _, at_old q2 _, at_new _ _, hb1.alloc (by omega) _⟩
  clear hown hg hrow q1 q2 hb1
  go_wp2
  go_loopw [14] (fun i wr => ∃ (k : Nat) (done : List CIt), k ≤ its.length ∧ i = .int .i64 k ∧ CInv w its co cap w1.heap.size k done wr) (fun i _ => its.length - (intOf i).toNat)
  case atStart => exact ⟨0, [], Nat.zero_le _, rfl, HS.out⟩
  case round =>
    obtain ⟨k, done, hk, rfl, hi⟩ := hrel
    obtain ⟨x1, x2⟩ := one hi.box
    obtain ⟨x3, x4⟩ := one hi.res
    obtain ⟨x5, x6⟩ := one hi.to3
    have HI : Hid (CInv w its co cap w1.heap.size k done wr) := hi
    clear HS y1 z1
    by_cases hlt : k < its.length
    · have hrd := HR.out.below hi.below
      obtain ⟨b, off, rfl, hc⟩ := hrd.row.resolve_left (by intro h; subst h; simp at hlt)
      have h1 : wr.cell? ⟨b, off + k, none⟩ = some (.slice its[k].2.1 its[k].1.length its[k].2.2) := hc k hlt
      obtain ⟨x, hx⟩ : ∃ x, x = its[k] := ⟨_, rfl⟩
      have hmem : x ∈ its := by rw [hx]; exact List.getElem_mem hlt
      have HCL : Hid (∀ W, Below wr.heap.size wr W → Calls Tryz.prog 45 #[.slice x.2.1 x.1.length x.2.2] W fun e w' => ∃ ao' cap', e = .returned (.slice ao' x.1.length cap') ∧ w'.ownsRow W.heap.size 3 1 (.slice ao' x.1.length cap') x.1.length (ints x.1) ∧ Below W.heap.size W w') := fun W hW => clone_any x W ((hrd.each x hmem).1.below hW) (hrd.each x hmem).2 (HM.out x hmem)
      have hck : wr.cell? ⟨w.heap.size + 2, k, none⟩ = some (.slice none 0 0) := by
        simp only [World.cell?, hi.row]
        exact nil_at _ _ _ _ (by simp [hi.len]) (by omega)
      rw [← hx] at h1
      have HX : Hid (x = its[k]) := hx
      have hlt' : (k : Int) < (its.length : Int) := by omega
      clear hc hrd hi hx hmem
      go_wp2_with fail
      go_region_with ((go_at_call 45; refine (HCL.out _ ((Below.refl _ _).drew)).mono ?_; rintro e w2 ⟨ao, c, rfl, ho, hb0⟩; have hb : Below wr.heap.size wr w2 := ((Below.refl wr.heap.size wr).drew).trans hb0; have HB : Hid (w2.ownsRow wr.heap.size 3 1 (.slice ao x.1.length c) x.1.length (ints x.1) ∧ Below wr.heap.size wr w2) := ⟨ho, hb⟩; obtain ⟨x51, x61⟩ := one (below_block hb HI.out.to3 (at_lt HI.out.to3)); have hck2 : w2.cell? ⟨w.heap.size + 2, k, none⟩ = some (.slice none 0 0) := (hb.cell (p := ⟨w.heap.size + 2, k, none⟩) (at_lt HI.out.row)).trans hck; have hcf : w2.frozen? ⟨w.heap.size + 2, k, none⟩ = false := frozen_of_row w2 _ k _ _ (below_block hb HI.out.row (at_lt HI.out.row)); clear ho hb0 hb x1 x2 x3 x4 x5 x6 h1))
      all_goals (
        go_wp2
        go_roundw
        case rel =>
          obtain ⟨f1, f2⟩ := HB.out
          rw [HX.out] at f1 ⊢
          exact ⟨k + 1, _, by omega, by go_num, cinv_step HI.out hlt f1 f2⟩
        case measure => (simp [intOf]; omega))
    · have hge : (its.length : Int) ≤ (k : Int) := by omega
      have HK : Hid (k = its.length) := (by omega : k = its.length)
      clear hi
      go_wp2
      refine bodyPost_ret (v := tval (some ⟨w.heap.size + 2, 0, none⟩) its.length its.length) (by simp [results, Tryz.results91, go_sem, *]) rfl ?_
      have h0 := HI.out
      rw [HK.out] at h0
      have hl : done.length = its.length := by rw [h0.len]
      have hf := h0.far
      refine ⟨w.heap.size + 2, done, by rw [hl], ?_, by omega, ⟨?_, ?_, h0.apart⟩, ?_⟩
      · rw [h0.same, List.take_of_length_le (by simp)]
      · rw [Below.heap_setCell _ _ _ _ (by simp), h0.row]
        simp
      · intro x hx
        exact row_set (row_less (h0.own x hx) (by omega)) (by omega)
      · exact h0.below.setCell (by simp) _

end Go.Proofs.YtpichplhidiokacGreatDoor.Tl
