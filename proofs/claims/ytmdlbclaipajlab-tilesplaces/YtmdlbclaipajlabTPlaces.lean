/- TilesPlaces: Share and Where answer as the document says. -/
import Derived.Test.YtmdlbclaipajlabTLays
import Derived.Test.YtmdlbclaipajlabTRef4
import Derived.Test.YtmdlbclaipajlabTRef5
import Derived.Deep.RegionHeld3
namespace Go.Proofs.Ytmdlbclaipajlab.Tl
open Go.RowKit

structure QInv (w : World) (its : List CIt) (co : Option Addr) (cap : Nat) (wx : World) : Prop where
  box : wx.heap[w.heap.size]? = some (tbox co its.length cap)
  rd : RdT wx co its
  below : Below w.heap.size w wx
theorem QInv.next {w : World} {its : List CIt} {co : Option Addr} {cap : Nat} {wx w2 : World} (h : QInv w its co cap wx) (hb : Below wx.heap.size wx w2) : QInv w its co cap w2 :=
  ⟨below_block hb h.box (at_lt h.box), h.rd.below hb, below_to h.below hb⟩
theorem QInv.drew {w : World} {its : List CIt} {co : Option Addr} {cap : Nat} {wx : World} (h : QInv w its co cap wx) : QInv w its co cap wx.drew := h.next ((Below.refl _ _).drew)

set_option maxHeartbeats 2000000 in
set_option maxRecDepth 100000 in
theorem tilesPlaces_true (its : List CIt) (co : Option Addr) (cap : Nat) (wide high p n : Int) (w : World) (hr : RdT w co its) (hm : its.length ≤ 5864062014805) (hm2 : ∀ x ∈ its, x.1.length ≤ 17592186044416) :
    Calls Try.prog 6 #[tval co its.length cap, .int .i64 wide, .int .i64 high, .int .i64 p, .int .i64 n] w fun e w' => e = .returned (.bool true) ∧ Below w.heap.size w w' := by
  obtain ⟨s, hs⟩ : ∃ s, s = shareT wide n p := ⟨_, rfl⟩
  obtain ⟨r, hrc⟩ : ∃ r, r = whereT (colsOf its) wide high p := ⟨_, rfl⟩
  have HS1 : Hid (∀ W, Calls Try.prog 26 #[.int .i64 wide, .int .i64 n, .int .i64 p] W fun e w' => e = .returned (.tuple #[.int .i64 s.1, .int .i64 s.2]) ∧ Below W.heap.size W w') := fun W => share_any wide n p W s hs
  have HS2 : Hid (∀ W, Calls Try.prog 27 #[.int .i64 wide, .int .i64 n, .int .i64 p] W fun e w' => e = .returned (.tuple #[.int .i64 s.1, .int .i64 s.2]) ∧ w' = W) := fun W => shareR_any wide n p W s hs
  have HCP : Hid (∀ W, RdT W co its → Calls Try.prog 15 #[tval co its.length cap] W fun e w' => ∃ co' cap' its', e = .returned (tval co' its.length cap') ∧ colsOf its' = colsOf its ∧ RdT w' co' its' ∧ Below W.heap.size W w') := fun W h => copyR_any its co cap W h hm hm2
  have HWH : Hid (∀ W co' cap' its', colsOf its' = colsOf its → RdT W co' its' → Calls Try.prog 28 #[tval co' its.length cap', .int .i64 wide, .int .i64 high, .int .i64 p] W fun e w' => e = .returned (rval r) ∧ Below W.heap.size W w') := by
    intro W co' cap' its' hc h
    have hl : its'.length = its.length := by
      have := congrArg List.length hc
      simpa using this
    have hm2' : ∀ x ∈ its', x.1.length ≤ 17592186044416 := by
      intro x hx
      have h1 : x.1 ∈ colsOf its' := List.mem_map.2 ⟨x, hx, rfl⟩
      rw [hc] at h1
      obtain ⟨y, hy, e⟩ := List.mem_map.1 h1
      rw [← e]
      exact hm2 y hy
    have := where_any its' co' cap' wide high p W h (by omega) hm2' r (by rw [hc]; exact hrc)
    rw [hl] at this
    exact this
  have HPL : Hid (∀ W, RdT W co its → Calls Try.prog 29 #[tval co its.length cap, .int .i64 wide, .int .i64 high, .int .i64 p] W fun e w' => e = .returned (rval r) ∧ Below W.heap.size W w') := fun W h => placeR_any its co cap wide high p W h hm hm2 r hrc
  have HQ0 : Hid (QInv w its co cap (w.alloc (tbox co its.length cap))) := ⟨at_new w _, hr.below (below1 _ _), below1 _ _⟩
  clear hr hm hm2 hs hrc
  obtain ⟨sx, sw⟩ := s
  obtain ⟨r1, r2, r3, r4⟩ := r
  simp only at HS1 HS2 HWH HPL
  go_enter Try.func6, Try.ntmps6
  go_wp2_with (first
    | (go_at_call 26; refine (HS1.out _).mono ?_; rintro e w1 ⟨rfl, hb1⟩; have HQ1 : Hid (QInv w its co cap w1) := HQ0.out.next hb1; clear hb1)
    | (go_at_call 27; refine (HS2.out _).mono ?_; rintro e w2 ⟨rfl, rfl⟩)
    | fail)
  obtain ⟨a1, a2⟩ := one HQ1.out.box
  clear HQ0 HS1 HS2
  go_region_held3 (fun w' => w'.cell? ⟨w.heap.size, 0, none⟩ = some (.slice co its.length cap)) (first | go_keep | (simp [*, World.cell?_alloc_past]))
    (first
      | (go_at_call 15; refine (HCP.out _ HQ1.out.drew.rd).mono ?_; rintro e w3 ⟨co', cap', its', rfl, hc3, hr3, hb3⟩; have HQ3 : Hid (QInv w its co cap w3 ∧ colsOf its' = colsOf its ∧ RdT w3 co' its') := ⟨HQ1.out.drew.next hb3, hc3, hr3⟩; clear a1 a2 hc3 hr3 hb3; obtain ⟨a1, a2⟩ := one HQ3.out.1.box)
      | (go_at_call 28; refine (HWH.out _ co' cap' its' HQ3.out.2.1 HQ3.out.2.2).mono ?_; rintro e w4 ⟨rfl, hb4⟩; have HQ4 : Hid (QInv w its co cap w4) := HQ3.out.1.next hb4; clear a1 a2 hb4; obtain ⟨a1, a2⟩ := one HQ4.out.box)
      | (go_at_call 29; refine (HPL.out _ HQ4.out.rd).mono ?_; rintro e w5 ⟨rfl, hb5⟩; have HQ5 : Hid (QInv w its co cap w5) := HQ4.out.next hb5; clear a1 a2 hb5; obtain ⟨a1, a2⟩ := one HQ5.out.box)
      | (go_at_call 25; refine (laysL _).mono ?_; rintro e w6 ⟨rfl, hb6⟩; have HQ6 : Hid (QInv w its co cap w6) := HQ5.out.next hb6; clear a1 a2 hb6; obtain ⟨a1, a2⟩ := one HQ6.out.box))
  go_wp2
  go_ret
  exact ⟨rfl, HQ6.out.below⟩

end Go.Proofs.Ytmdlbclaipajlab.Tl
