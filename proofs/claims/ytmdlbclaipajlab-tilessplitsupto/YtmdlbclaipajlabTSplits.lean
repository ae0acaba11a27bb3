/- TilesSplits: Good, Has, Split and Kill answer as the document says. -/
import Derived.Test.YtmdlbclaipajlabTLays
import Derived.Test.YtmdlbclaipajlabTKill
import Derived.Test.YtmdlbclaipajlabTSameT
import Derived.Test.YtmdlbclaipajlabTRef8
import Derived.Test.YtmdlbclaipajlabTRef9
import Derived.Deep.RegionHeld3
namespace Go.Proofs.Ytmdlbclaipajlab.Tl
open Go.RowKit

def Small (cols : List (List Int)) : Prop := cols.length ≤ 5864062014805 ∧ ∀ c ∈ cols, c.length ≤ 17592186044416

theorem small_its {its : List CIt} {cols : List (List Int)} (h : Small cols) (hc : colsOf its = cols) : its.length = cols.length ∧ its.length ≤ 5864062014805 ∧ ∀ x ∈ its, x.1.length ≤ 17592186044416 := by
  subst hc
  refine ⟨by simp, by simpa using h.1, fun x hx => h.2 x.1 (List.mem_map.2 ⟨x, hx, rfl⟩)⟩

theorem small_split {cols : List (List Int)} (h : Small cols) (p n : Int) (right : Bool) : Small (splitT cols p n right).1 := by
  unfold splitT
  by_cases hg : goodT cols = false ∨ paneB n = false
  · rw [if_pos hg]; exact h
  · rw [if_neg hg]
    have hgc : goodT cols = true := by
      cases e : goodT cols
      · exact absurd (.inl e) hg
      · rfl
    have ok := (goodT_iff cols).1 hgc
    have h6 := good_len ok
    cases hf : findT p cols with
    | none => exact h
    | some y =>
      obtain ⟨i, j⟩ := y
      simp only
      by_cases e1 : hasT cols n = true
      · rw [if_pos e1]; exact h
      · rw [if_neg e1]
        by_cases e2 : right = true
        · rw [if_pos e2]
          refine ⟨by simp [insL]; omega, fun c hc => ?_⟩
          rcases mem_insL hc with hc | hc
          · exact h.2 c hc
          · subst hc; simp
        · rw [if_neg e2]
          by_cases e3 : (cols.getD i []).length = 3
          · rw [if_pos e3]; exact h
          · rw [if_neg e3]
            refine ⟨by simpa using h.1, fun c hc => ?_⟩
            rcases List.mem_or_eq_of_mem_set hc with hc | hc
            · exact h.2 c hc
            · subst hc
              obtain ⟨hi, _⟩ := findT_get hf
              have : (cols.getD i []).length ≤ 3 := by
                rw [List.getD_eq_getElem?_getD, List.getElem?_eq_getElem hi]
                exact (ok.tall _ (List.getElem_mem hi)).2
              have hl : (insL (cols.getD i []) (j + 1) n).length ≤ (cols.getD i []).length + 1 := by
                unfold insL
                rw [List.length_append, List.length_cons, List.length_take, List.length_drop]
                omega
              omega

theorem flat_le : ∀ (cols : List (List Int)) (M : Nat), (∀ c ∈ cols, c.length ≤ M) → cols.flatten.length ≤ cols.length * M
  | [], _, _ => by simp
  | c :: r, M, h => by
    have h1 := h c (by simp)
    have h2 := flat_le r M (fun d hd => h d (by simp [hd]))
    simp only [List.flatten_cons, List.length_append, List.length_cons, Nat.add_mul]
    omega

theorem small_kill {cols : List (List Int)} (h : Small cols) (p : Int) : Small (killT cols p).1 := by
  unfold killT
  by_cases hg : goodT cols = false
  · rw [if_pos hg]; exact h
  · rw [if_neg hg]
    have hgc : goodT cols = true := by simpa using hg
    have ok := (goodT_iff cols).1 hgc
    cases hf : findT p cols with
    | none => exact h
    | some y =>
      obtain ⟨i, j⟩ := y
      simp only
      by_cases e1 : (cols.getD i []).length = 1
      · rw [if_pos e1]
        by_cases e2 : cols.length = 1
        · rw [if_pos e2]; exact h
        · rw [if_neg e2]
          refine ⟨?_, fun c hc => h.2 c (List.mem_of_mem_eraseIdx hc)⟩
          have := List.length_eraseIdx_le cols i
          have := h.1
          simp only
          omega
      · rw [if_neg e1]
        refine ⟨by simpa using h.1, fun c hc => ?_⟩
        rcases List.mem_or_eq_of_mem_set hc with hc | hc
        · exact h.2 c hc
        · subst hc
          obtain ⟨hi, _⟩ := findT_get hf
          have h3 : (cols.getD i []).length ≤ 3 := by
            rw [List.getD_eq_getElem?_getD, List.getElem?_eq_getElem hi]
            exact (ok.tall _ (List.getElem_mem hi)).2
          have := List.length_eraseIdx_le (cols.getD i []) j
          omega

/-- Six panes' boxes, and what they hold. -/
structure Dz (w : World) (its : List CIt) (co : Option Addr) (cap : Nat) (r s : List (List Int) × Int) (itc ita itb itx ity : List CIt) (oc oa ob ox oy : Option Addr) (cc ca cb cx cy C A B X Y : Nat) (wx : World) : Prop where
  boxH : wx.heap[w.heap.size]? = some (tbox co (its.length) cap)
  boxC : wx.heap[C]? = some (tbox oc (its.length) cc)
  boxA : wx.heap[A]? = some (tbox oa (r.1.length) ca)
  boxB : wx.heap[B]? = some (tbox ob (r.1.length) cb)
  boxX : wx.heap[X]? = some (tbox ox (s.1.length) cx)
  boxY : wx.heap[Y]? = some (tbox oy (s.1.length) cy)
  rdH : RdT wx co its
  rdC : RdT wx oc itc
  rdA : RdT wx oa ita
  rdB : RdT wx ob itb
  rdX : RdT wx ox itx
  rdY : RdT wx oy ity
  below : Below w.heap.size w wx
theorem Dz.later {w : World} {its : List CIt} {co : Option Addr} {cap : Nat} {r s : List (List Int) × Int} {itc ita itb itx ity : List CIt} {oc oa ob ox oy : Option Addr} {cc ca cb cx cy C A B X Y : Nat} {wx : World} {w2 : World} (h : Dz w its co cap r s itc ita itb itx ity oc oa ob ox oy cc ca cb cx cy C A B X Y wx) (hb : Below wx.heap.size wx w2) : Dz w its co cap r s itc ita itb itx ity oc oa ob ox oy cc ca cb cx cy C A B X Y w2 :=
  ⟨below_block hb h.boxH (at_lt h.boxH), below_block hb h.boxC (at_lt h.boxC), below_block hb h.boxA (at_lt h.boxA), below_block hb h.boxB (at_lt h.boxB), below_block hb h.boxX (at_lt h.boxX), below_block hb h.boxY (at_lt h.boxY), h.rdH.below hb, h.rdC.below hb, h.rdA.below hb, h.rdB.below hb, h.rdX.below hb, h.rdY.below hb, below_to h.below hb⟩
theorem Dz.drew {w : World} {its : List CIt} {co : Option Addr} {cap : Nat} {r s : List (List Int) × Int} {itc ita itb itx ity : List CIt} {oc oa ob ox oy : Option Addr} {cc ca cb cx cy C A B X Y : Nat} {wx : World} (h : Dz w its co cap r s itc ita itb itx ity oc oa ob ox oy cc ca cb cx cy C A B X Y wx) : Dz w its co cap r s itc ita itb itx ity oc oa ob ox oy cc ca cb cx cy C A B X Y wx.drew := h.later ((Below.refl _ _).drew)

set_option maxHeartbeats 4000000 in
set_option maxRecDepth 100000 in
theorem tilesSplits_true (its : List CIt) (co : Option Addr) (cap : Nat) (p n : Int) (right : Bool) (w : World) (hr : RdT w co its) (hm : its.length ≤ 5864062014805) (hm2 : ∀ x ∈ its, x.1.length ≤ 17592186044416) (hfl : (colsOf its).flatten.length ≤ 17592186044416) :
    Calls Try.prog 5 #[tval co its.length cap, .int .i64 p, .int .i64 n, .bool right] w fun e w' => e = .returned (.bool true) ∧ Below w.heap.size w w' := by
  obtain ⟨r, hrr⟩ : ∃ r, r = splitT (colsOf its) p n right := ⟨_, rfl⟩
  obtain ⟨s, hss⟩ : ∃ s, s = killT (colsOf its) p := ⟨_, rfl⟩
  obtain ⟨g, hg⟩ : ∃ g, g = goodT (colsOf its) := ⟨_, rfl⟩
  obtain ⟨h, hh⟩ : ∃ h, h = hasT (colsOf its) p := ⟨_, rfl⟩
  have hsm : Small (colsOf its) := ⟨by simpa using hm, fun c hc => by obtain ⟨x, hx, rfl⟩ := List.mem_map.1 hc; exact hm2 x hx⟩
  have hsr : Small r.1 := by rw [hrr]; exact small_split hsm p n right
  have hss1 : Small s.1 := by rw [hss]; exact small_kill hsm p
  have HCP : Hid (∀ W, RdT W co its → Calls Try.prog 15 #[tval co its.length cap] W fun e w' => ∃ co' cap' its', e = .returned (tval co' its.length cap') ∧ colsOf its' = colsOf its ∧ RdT w' co' its' ∧ Below W.heap.size W w') := fun W h => copyR_any its co cap W h hm hm2
  have HSP : Hid (∀ W oc cc itc, colsOf itc = colsOf its → RdT W oc itc → Calls Try.prog 16 #[tval oc its.length cc, .int .i64 p, .int .i64 n, .bool right] W fun e w' => ∃ co' cap' its', e = .returned (.tuple #[tval co' r.1.length cap', .int .i64 r.2]) ∧ colsOf its' = r.1 ∧ RdT w' co' its' ∧ Below W.heap.size W w') := by
    intro W oc cc itc hc h
    obtain ⟨e1, e2, e3⟩ := small_its hsm hc
    have key := split_any itc oc cc p n right W h e2 e3 r (by rw [hc]; exact hrr)
    rw [e1] at key
    simp only [colsOf, List.length_map] at key
    refine key.mono ?_
    rintro e w' ⟨co', cap', its', rfl, hc', hr', hb'⟩
    exact ⟨co', cap', its', by rw [(small_its hsr hc').1], hc', hr', hb'⟩
  have HSR : Hid (∀ W, RdT W co its → Calls Try.prog 17 #[tval co its.length cap, .int .i64 p, .int .i64 n, .bool right] W fun e w' => ∃ co' cap' its', e = .returned (.tuple #[tval co' r.1.length cap', .int .i64 r.2]) ∧ colsOf its' = r.1 ∧ RdT w' co' its' ∧ Below W.heap.size W w') := by
    intro W h
    refine (splitR_any its co cap p n right W h hm hm2 r hrr).mono ?_
    rintro e w' ⟨co', cap', its', rfl, hc', hr', hb'⟩
    exact ⟨co', cap', its', by rw [(small_its hsr hc').1], hc', hr', hb'⟩
  have HKL : Hid (∀ W oc cc itc, colsOf itc = colsOf its → RdT W oc itc → Calls Try.prog 18 #[tval oc its.length cc, .int .i64 p] W fun e w' => ∃ co' cap' its', e = .returned (.tuple #[tval co' s.1.length cap', .int .i64 s.2]) ∧ colsOf its' = s.1 ∧ RdT w' co' its' ∧ Below W.heap.size W w') := by
    intro W oc cc itc hc h
    obtain ⟨e1, e2, e3⟩ := small_its hsm hc
    have key := kill_any itc oc cc p W h e2 e3 s (by rw [hc]; exact hss)
    rw [e1] at key
    simp only [colsOf, List.length_map] at key
    refine key.mono ?_
    rintro e w' ⟨co', cap', its', rfl, hc', hr', hb'⟩
    exact ⟨co', cap', its', by rw [(small_its hss1 hc').1], hc', hr', hb'⟩
  have HKR : Hid (∀ W, RdT W co its → Calls Try.prog 19 #[tval co its.length cap, .int .i64 p] W fun e w' => ∃ co' cap' its', e = .returned (.tuple #[tval co' s.1.length cap', .int .i64 s.2]) ∧ colsOf its' = s.1 ∧ RdT w' co' its' ∧ Below W.heap.size W w') := by
    intro W h
    refine (killR_any its co cap p W h hm hm2 s hss).mono ?_
    rintro e w' ⟨co', cap', its', rfl, hc', hr', hb'⟩
    exact ⟨co', cap', its', by rw [(small_its hss1 hc').1], hc', hr', hb'⟩
  have HSA : Hid (∀ W (oa ob : Option Addr) (ca cb : Nat) (ia ib : List CIt) (cols : List (List Int)), Small cols → colsOf ia = cols → colsOf ib = cols → RdT W oa ia → RdT W ob ib → Calls Try.prog 20 #[tval oa cols.length ca, tval ob cols.length cb] W fun e w' => e = .returned (.bool true) ∧ Below W.heap.size W w') := by
    intro W oa ob ca cb ia ib cols hs h1 h2 h3 h4
    obtain ⟨e1, e2, e3⟩ := small_its hs h1
    exact sameT_any ia ib oa ob cols.length ca cb W h3 h4 (by rw [h1, h2]) e1.symm (by omega) e3
  have HSC : Hid (∀ W oc cc itc, colsOf itc = colsOf its → RdT W oc itc → RdT W co its → Calls Try.prog 20 #[tval oc its.length cc, tval co its.length cap] W fun e w' => e = .returned (.bool true) ∧ Below W.heap.size W w') := by
    intro W oc cc itc hc h1 h2
    obtain ⟨e1, e2, e3⟩ := small_its hsm hc
    have hl : its.length = itc.length := by rw [e1]; simp
    exact sameT_any itc its oc co its.length cc cap W h1 h2 hc.symm hl hm e3
  have HGC : Hid (∀ W oc cc itc, colsOf itc = colsOf its → RdT W oc itc → Calls Try.prog 21 #[tval oc its.length cc] W fun e w' => e = .returned (.bool g) ∧ Below W.heap.size W w') := by
    intro W oc cc itc hc h
    obtain ⟨e1, e2, e3⟩ := small_its hsm hc
    have key := good_any itc oc cc W h e2 e3 g (by rw [hc]; exact hg)
    rw [e1] at key
    simpa using key
  have HGR : Hid (∀ W, RdT W co its → Calls Try.prog 22 #[tval co its.length cap] W fun e w' => e = .returned (.bool g) ∧ Below W.heap.size W w') := fun W h => goodR_any its co cap W h hm hm2 g hg
  have HHC : Hid (∀ W oc cc itc, colsOf itc = colsOf its → RdT W oc itc → Calls Try.prog 23 #[tval oc its.length cc, .int .i64 p] W fun e w' => e = .returned (.bool h) ∧ Below W.heap.size W w') := by
    intro W oc cc itc hc hw
    obtain ⟨e1, e2, e3⟩ := small_its hsm hc
    have key := has_any itc oc cc p W hw e2 e3 h (by rw [hc]; exact hh)
    rw [e1] at key
    simpa using key
  have HHR : Hid (∀ W, RdT W co its → Calls Try.prog 24 #[tval co its.length cap, .int .i64 p] W fun e w' => e = .returned (.bool h) ∧ Below W.heap.size W w') := fun W hw => hasR_any its co cap p W hw hm hfl h hh
  have HSM : Hid (Small r.1 ∧ Small s.1) := ⟨hsr, hss1⟩
  have HR : Hid (RdT w co its) := hr
  obtain ⟨p0', p1'⟩ := one (at_new w (tbox co its.length cap))
  clear hr hm hm2 hfl hrr hss hg hh hsm hsr hss1
  go_enter Try.func5, Try.ntmps5
  go_wp2_with (first
    | (go_at_call 15; refine (HCP.out _ (HR.out.below (below1 _ _))).mono ?_; rintro e w1 ⟨oc, cc, itc, rfl, hcc, hrc, hb1⟩; have HB1 : Hid (Below w.heap.size w (w1.alloc (tbox oc its.length cc))) := below_to (below_to (below1 _ _) hb1) (below1 _ _); have HC1 : Hid (colsOf itc = colsOf its ∧ RdT (w1.alloc (tbox oc its.length cc)) oc itc ∧ (w1.alloc (tbox oc its.length cc)).heap[w.heap.size]? = some (tbox co its.length cap) ∧ (w1.alloc (tbox oc its.length cc)).heap[w1.heap.size]? = some (tbox oc its.length cc)) := ⟨hcc, hrc.below (below1 _ _), at_old (below_block hb1 (at_new w _) (by simp)) _, at_new _ _⟩; clear hcc hrc hb1 p0' p1'; obtain ⟨p0', p1'⟩ := one HC1.out.2.2.1; obtain ⟨q0', q1'⟩ := one HC1.out.2.2.2)
    | (go_at_call 16; refine (HSP.out _ oc cc itc HC1.out.1 HC1.out.2.1).mono ?_; rintro e w2 ⟨oa, ca, ita, rfl, hca, hra, hb2⟩; have HA1 : Hid (Below (w1.alloc (tbox oc its.length cc)).heap.size (w1.alloc (tbox oc its.length cc)) (w2.alloc (tbox oa r.1.length ca)) ∧ colsOf ita = r.1 ∧ RdT (w2.alloc (tbox oa r.1.length ca)) oa ita ∧ (w2.alloc (tbox oa r.1.length ca)).heap[w2.heap.size]? = some (tbox oa r.1.length ca)) := ⟨below_to hb2 (below1 _ _), hca, hra.below (below1 _ _), at_new _ _⟩; clear hca hra hb2 p0' p1' q0' q1'; obtain ⟨p0', p1'⟩ := one (below_block HA1.out.1 HC1.out.2.2.1 (at_lt HC1.out.2.2.1)); obtain ⟨q0', q1'⟩ := one (below_block HA1.out.1 HC1.out.2.2.2 (at_lt HC1.out.2.2.2)))
    | (go_at_call 17; refine (HSR.out _ (HR.out.below (below_to HB1.out HA1.out.1))).mono ?_; rintro e w3 ⟨ob, cb, itb, rfl, hcb, hrb, hb3⟩; have HB3 : Hid (Below (w2.alloc (tbox oa r.1.length ca)).heap.size (w2.alloc (tbox oa r.1.length ca)) (w3.alloc (tbox ob r.1.length cb)) ∧ colsOf itb = r.1 ∧ RdT (w3.alloc (tbox ob r.1.length cb)) ob itb ∧ (w3.alloc (tbox ob r.1.length cb)).heap[w3.heap.size]? = some (tbox ob r.1.length cb)) := ⟨below_to hb3 (below1 _ _), hcb, hrb.below (below1 _ _), at_new _ _⟩; clear hcb hrb hb3 p0' p1' q0' q1'; have HL3 : Hid (Below (w1.alloc (tbox oc its.length cc)).heap.size (w1.alloc (tbox oc its.length cc)) (w3.alloc (tbox ob r.1.length cb))) := below_to HA1.out.1 HB3.out.1; obtain ⟨p0', p1'⟩ := one (below_block HL3.out HC1.out.2.2.1 (at_lt HC1.out.2.2.1)); obtain ⟨q0', q1'⟩ := one (below_block HL3.out HC1.out.2.2.2 (at_lt HC1.out.2.2.2)))
    | (go_at_call 18; refine (HKL.out _ oc cc itc HC1.out.1 (HC1.out.2.1.below HL3.out)).mono ?_; rintro e w4 ⟨ox, cx, itx, rfl, hcx, hrx, hb4⟩; have HX4 : Hid (Below (w3.alloc (tbox ob r.1.length cb)).heap.size (w3.alloc (tbox ob r.1.length cb)) (w4.alloc (tbox ox s.1.length cx)) ∧ colsOf itx = s.1 ∧ RdT (w4.alloc (tbox ox s.1.length cx)) ox itx ∧ (w4.alloc (tbox ox s.1.length cx)).heap[w4.heap.size]? = some (tbox ox s.1.length cx)) := ⟨below_to hb4 (below1 _ _), hcx, hrx.below (below1 _ _), at_new _ _⟩; clear hcx hrx hb4 p0' p1' q0' q1'; have HL4 : Hid (Below (w1.alloc (tbox oc its.length cc)).heap.size (w1.alloc (tbox oc its.length cc)) (w4.alloc (tbox ox s.1.length cx))) := below_to HL3.out HX4.out.1; obtain ⟨p0', p1'⟩ := one (below_block HL4.out HC1.out.2.2.1 (at_lt HC1.out.2.2.1)))
    | (go_at_call 19; refine (HKR.out _ (HR.out.below (below_to HB1.out HL4.out))).mono ?_; rintro e w5 ⟨oy, cy, ity, rfl, hcy, hry, hb5⟩; have HY5 : Hid (Below (w4.alloc (tbox ox s.1.length cx)).heap.size (w4.alloc (tbox ox s.1.length cx)) (w5.alloc (tbox oy s.1.length cy)) ∧ colsOf ity = s.1 ∧ RdT (w5.alloc (tbox oy s.1.length cy)) oy ity ∧ (w5.alloc (tbox oy s.1.length cy)).heap[w5.heap.size]? = some (tbox oy s.1.length cy)) := ⟨below_to hb5 (below1 _ _), hcy, hry.below (below1 _ _), at_new _ _⟩; clear hcy hry hb5 p0' p1')
    | fail)
  have HD0 : Hid (Dz w its co cap r s itc ita itb itx ity oc oa ob ox oy cc ca cb cx cy w1.heap.size w2.heap.size w3.heap.size w4.heap.size w5.heap.size (w5.alloc (tbox oy s.1.length cy))) := by
    have l4 := HY5.out.1
    have l3 := below_to HX4.out.1 l4
    have l2 := below_to HB3.out.1 l3
    have l1 := below_to HA1.out.1 l2
    exact ⟨below_block l1 HC1.out.2.2.1 (at_lt HC1.out.2.2.1), below_block l1 HC1.out.2.2.2 (at_lt HC1.out.2.2.2), below_block l2 HA1.out.2.2.2 (at_lt HA1.out.2.2.2), below_block l3 HB3.out.2.2.2 (at_lt HB3.out.2.2.2), below_block l4 HX4.out.2.2.2 (at_lt HX4.out.2.2.2), HY5.out.2.2.2,
      HR.out.below (below_to HB1.out l1), HC1.out.2.1.below l1, HA1.out.2.2.1.below l2, HB3.out.2.2.1.below l3, HX4.out.2.2.1.below l4, HY5.out.2.2.1, below_to HB1.out l1⟩
  have HCO : Hid (colsOf itc = colsOf its ∧ colsOf ita = r.1 ∧ colsOf itb = r.1 ∧ colsOf itx = s.1 ∧ colsOf ity = s.1) := ⟨HC1.out.1, HA1.out.2.1, HB3.out.2.1, HX4.out.2.1, HY5.out.2.1⟩
  clear HCP HSP HSR HKL HKR HC1 HA1 HB3 HX4 HY5 HL3 HL4 HB1 HR
  obtain ⟨p0', p1'⟩ := one HD0.out.boxH
  obtain ⟨q0', q1'⟩ := one HD0.out.boxC
  obtain ⟨r0', r1'⟩ := one HD0.out.boxA
  obtain ⟨s0', s1'⟩ := one HD0.out.boxB
  obtain ⟨t0', t1'⟩ := one HD0.out.boxX
  obtain ⟨u0', u1'⟩ := one HD0.out.boxY
  go_region_held3 (fun w' => w'.cell? ⟨w.heap.size, 0, none⟩ = some (.slice co (its.length) cap) ∧ w'.cell? ⟨w1.heap.size, 0, none⟩ = some (.slice oc (its.length) cc) ∧ w'.cell? ⟨w2.heap.size, 0, none⟩ = some (.slice oa (r.1.length) ca) ∧ w'.cell? ⟨w3.heap.size, 0, none⟩ = some (.slice ob (r.1.length) cb) ∧ w'.cell? ⟨w4.heap.size, 0, none⟩ = some (.slice ox (s.1.length) cx) ∧ w'.cell? ⟨w5.heap.size, 0, none⟩ = some (.slice oy (s.1.length) cy)) (first | go_keep | (simp [*, World.cell?_alloc_past]))
    (first
      | (have _t := HD6; go_at_call 20; refine (HSC.out _ oc cc itc HCO.out.1 HD6.out.rdC HD6.out.rdH).mono ?_; rintro e w12 ⟨rfl, hb7⟩; have HD7 : Hid (Dz w its co cap r s itc ita itb itx ity oc oa ob ox oy cc ca cb cx cy w1.heap.size w2.heap.size w3.heap.size w4.heap.size w5.heap.size w12) := HD6.out.later hb7; clear hb7; clear p0' p1' q0' q1' r0' r1' s0' s1' t0' t1' u0' u1'; obtain ⟨p0', p1'⟩ := one HD7.out.boxH; obtain ⟨q0', q1'⟩ := one HD7.out.boxC; obtain ⟨r0', r1'⟩ := one HD7.out.boxA; obtain ⟨s0', s1'⟩ := one HD7.out.boxB; obtain ⟨t0', t1'⟩ := one HD7.out.boxX; obtain ⟨u0', u1'⟩ := one HD7.out.boxY)
      | (have _t := HD1; go_at_call 20; refine (HSA.out _ ox oy cx cy itx ity s.1 HSM.out.2 HCO.out.2.2.2.1 HCO.out.2.2.2.2 HD1.out.rdX HD1.out.rdY).mono ?_; rintro e w7 ⟨rfl, hb2⟩; have HD2 : Hid (Dz w its co cap r s itc ita itb itx ity oc oa ob ox oy cc ca cb cx cy w1.heap.size w2.heap.size w3.heap.size w4.heap.size w5.heap.size w7) := HD1.out.later hb2; clear hb2; clear p0' p1' q0' q1' r0' r1' s0' s1' t0' t1' u0' u1'; obtain ⟨p0', p1'⟩ := one HD2.out.boxH; obtain ⟨q0', q1'⟩ := one HD2.out.boxC; obtain ⟨r0', r1'⟩ := one HD2.out.boxA; obtain ⟨s0', s1'⟩ := one HD2.out.boxB; obtain ⟨t0', t1'⟩ := one HD2.out.boxX; obtain ⟨u0', u1'⟩ := one HD2.out.boxY)
      | (go_at_call 20; refine (HSA.out _ oa ob ca cb ita itb r.1 HSM.out.1 HCO.out.2.1 HCO.out.2.2.1 HD0.out.drew.rdA HD0.out.drew.rdB).mono ?_; rintro e w6 ⟨rfl, hb1⟩; have HD1 : Hid (Dz w its co cap r s itc ita itb itx ity oc oa ob ox oy cc ca cb cx cy w1.heap.size w2.heap.size w3.heap.size w4.heap.size w5.heap.size w6) := HD0.out.drew.later hb1; clear hb1; clear p0' p1' q0' q1' r0' r1' s0' s1' t0' t1' u0' u1'; obtain ⟨p0', p1'⟩ := one HD1.out.boxH; obtain ⟨q0', q1'⟩ := one HD1.out.boxC; obtain ⟨r0', r1'⟩ := one HD1.out.boxA; obtain ⟨s0', s1'⟩ := one HD1.out.boxB; obtain ⟨t0', t1'⟩ := one HD1.out.boxX; obtain ⟨u0', u1'⟩ := one HD1.out.boxY)
      | (go_at_call 21; refine (HGC.out _ oc cc itc HCO.out.1 HD2.out.rdC).mono ?_; rintro e w8 ⟨rfl, hb3⟩; have HD3 : Hid (Dz w its co cap r s itc ita itb itx ity oc oa ob ox oy cc ca cb cx cy w1.heap.size w2.heap.size w3.heap.size w4.heap.size w5.heap.size w8) := HD2.out.later hb3; clear hb3; clear p0' p1' q0' q1' r0' r1' s0' s1' t0' t1' u0' u1'; obtain ⟨p0', p1'⟩ := one HD3.out.boxH; obtain ⟨q0', q1'⟩ := one HD3.out.boxC; obtain ⟨r0', r1'⟩ := one HD3.out.boxA; obtain ⟨s0', s1'⟩ := one HD3.out.boxB; obtain ⟨t0', t1'⟩ := one HD3.out.boxX; obtain ⟨u0', u1'⟩ := one HD3.out.boxY)
      | (go_at_call 22; refine (HGR.out _ HD3.out.rdH).mono ?_; rintro e w9 ⟨rfl, hb4⟩; have HD4 : Hid (Dz w its co cap r s itc ita itb itx ity oc oa ob ox oy cc ca cb cx cy w1.heap.size w2.heap.size w3.heap.size w4.heap.size w5.heap.size w9) := HD3.out.later hb4; clear hb4; clear p0' p1' q0' q1' r0' r1' s0' s1' t0' t1' u0' u1'; obtain ⟨p0', p1'⟩ := one HD4.out.boxH; obtain ⟨q0', q1'⟩ := one HD4.out.boxC; obtain ⟨r0', r1'⟩ := one HD4.out.boxA; obtain ⟨s0', s1'⟩ := one HD4.out.boxB; obtain ⟨t0', t1'⟩ := one HD4.out.boxX; obtain ⟨u0', u1'⟩ := one HD4.out.boxY)
      | (go_at_call 23; refine (HHC.out _ oc cc itc HCO.out.1 HD4.out.rdC).mono ?_; rintro e w10 ⟨rfl, hb5⟩; have HD5 : Hid (Dz w its co cap r s itc ita itb itx ity oc oa ob ox oy cc ca cb cx cy w1.heap.size w2.heap.size w3.heap.size w4.heap.size w5.heap.size w10) := HD4.out.later hb5; clear hb5; clear p0' p1' q0' q1' r0' r1' s0' s1' t0' t1' u0' u1'; obtain ⟨p0', p1'⟩ := one HD5.out.boxH; obtain ⟨q0', q1'⟩ := one HD5.out.boxC; obtain ⟨r0', r1'⟩ := one HD5.out.boxA; obtain ⟨s0', s1'⟩ := one HD5.out.boxB; obtain ⟨t0', t1'⟩ := one HD5.out.boxX; obtain ⟨u0', u1'⟩ := one HD5.out.boxY)
      | (go_at_call 24; refine (HHR.out _ HD5.out.rdH).mono ?_; rintro e w11 ⟨rfl, hb6⟩; have HD6 : Hid (Dz w its co cap r s itc ita itb itx ity oc oa ob ox oy cc ca cb cx cy w1.heap.size w2.heap.size w3.heap.size w4.heap.size w5.heap.size w11) := HD5.out.later hb6; clear hb6; clear p0' p1' q0' q1' r0' r1' s0' s1' t0' t1' u0' u1'; obtain ⟨p0', p1'⟩ := one HD6.out.boxH; obtain ⟨q0', q1'⟩ := one HD6.out.boxC; obtain ⟨r0', r1'⟩ := one HD6.out.boxA; obtain ⟨s0', s1'⟩ := one HD6.out.boxB; obtain ⟨t0', t1'⟩ := one HD6.out.boxX; obtain ⟨u0', u1'⟩ := one HD6.out.boxY)
      | (go_at_call 25; refine (laysL _).mono ?_; rintro e w13 ⟨rfl, hb8⟩; have HD8 : Hid (Dz w its co cap r s itc ita itb itx ity oc oa ob ox oy cc ca cb cx cy w1.heap.size w2.heap.size w3.heap.size w4.heap.size w5.heap.size w13) := HD7.out.later hb8; clear hb8; clear p0' p1' q0' q1' r0' r1' s0' s1' t0' t1' u0' u1'; obtain ⟨p0', p1'⟩ := one HD8.out.boxH; obtain ⟨q0', q1'⟩ := one HD8.out.boxC; obtain ⟨r0', r1'⟩ := one HD8.out.boxA; obtain ⟨s0', s1'⟩ := one HD8.out.boxB; obtain ⟨t0', t1'⟩ := one HD8.out.boxX; obtain ⟨u0', u1'⟩ := one HD8.out.boxY))
  go_wp2
  go_ret
  exact ⟨rfl, HD8.out.below⟩

end Go.Proofs.Ytmdlbclaipajlab.Tl
