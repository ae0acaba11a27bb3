/- Several texts in one, each as it was: DShowRow, DShow. -/
import Derived.Test.YtpichplhidiokabDoorDColours

/- The pen shows a row. -/
namespace Go.Proofs.YtpichplhidiokabDoor
open Go.RowKit
set_option maxRecDepth 100000

theorem good_bounds {c : Cel} (h : goodC c = true) (hp : ¬ 0 < c.pic) : (0 ≤ c.ch ∧ c.ch ≤ 126) ∧ (0 ≤ c.ink ∧ c.ink ≤ 8) := by
  by_cases hn : celB c noCel = true
  · rw [celB_iff] at hn
    subst hn
    decide
  · obtain ⟨_, h2, h3⟩ := good_letter h hp (by simpa using hn)
    simp only [plainN, decide_eq_true_eq] at h2
    exact ⟨by omega, h3⟩

theorem cellP_eq {q : Pen} {r : Nat} {want : Nat → Cel} {j : Nat} (h : celB (q.g.f (r * q.g.wide.toNat + j)) (want j) = true) : cellP q r want j = q := by
  unfold cellP; rw [if_pos h]
theorem cellP_col {q : Pen} {r : Nat} {want : Nat → Cel} {j : Nat} (h : celB (q.g.f (r * q.g.wide.toNat + j)) (want j) = false) (hp : 0 < (want j).pic) : cellP q r want j = colourP (moveP q r j) want := by
  unfold cellP; rw [if_neg (by rw [h]; simp), if_pos hp]
theorem cellP_print {q : Pen} {r : Nat} {want : Nat → Cel} {j : Nat} (h : celB (q.g.f (r * q.g.wide.toNat + j)) (want j) = false) (hp : ¬ 0 < (want j).pic) : cellP q r want j = printP (moveP q r j) (want j) := by
  unfold cellP; rw [if_neg (by rw [h]; simp), if_neg hp]

set_option maxHeartbeats 1500000 in
theorem showRow_pen (pb b cap : Nat) (oo : Option Addr) (oc : Nat) (p : Pen) (ok : OkG p.g) (hcap : p.g.n ≤ cap) (r : Nat) (hr : (r : Int) < p.g.high) (want : Nat → Cel) (hgood : ∀ j, j < p.g.wide.toNat → goodC (want j) = true) (aw : Option Addr) (cw : Nat) (W : Nat) (hW : W = p.g.wide.toNat) (hcw : W ≤ cw) (hl : p.out.length ≤ 50000) (w : World) (h : PenIn w pb b cap oo oc p)
    (hw : ∀ w' o', Kept w w' pb b oo o' → RdS w' aw W want) :
    Calls Tryd.prog 20 #[.pointer (some ⟨pb, 0, none⟩), .int .i64 r, .slice aw W cw] w fun e w' => e = .returned (.tuple #[]) ∧ PenTo w pb b cap oo (rowP p r want) w' := by
  have w1 := ok.w1
  have w2 := ok.w2
  have hW24 : W ≤ 24 := by omega
  obtain ⟨bw, ow, rfl, _⟩ := (hw w oo (Kept.refl _ _ _ _)).resolve_left (by omega)
  obtain ⟨P, hP⟩ : ∃ P, P = r * W := ⟨_, rfl⟩
  have hPn : P + W ≤ p.g.n := by
    have h1 := size_nat ok
    have h2 : (r + 1) * W ≤ p.g.high.toNat * W := Nat.mul_le_mul_right _ (by omega)
    rw [Nat.succ_mul] at h2
    rw [h1, ← hW]
    omega
  -- what the pen is behind k columns
  obtain ⟨Q, hQ⟩ : ∃ Q : Nat → Pen, Q = fun k => cellsP (eraseP p r want) r want k := ⟨_, rfl⟩
  have HQ : Hid (∀ k, k ≤ W → OkG (Q k).g ∧ (Q k).g.wide = p.g.wide ∧ (Q k).g.high = p.g.high ∧ (Q k).g.n = p.g.n ∧ (Q k).out.length ≤ 60000) := fun k hk => by
    obtain ⟨pic, hi⟩ := row_cells ok r hr want hgood k (by omega)
    obtain ⟨o1, o2, o3, o4⟩ := hi.adds.ok ok
    obtain ⟨m, m1, m2, _⟩ := hi.adds.more
    rw [hQ]
    refine ⟨o1, o2, o3, o4, ?_⟩
    show (cellsP (eraseP p r want) r want k).out.length ≤ 60000
    rw [m1, List.length_append]
    have h1 : (if atB (cellsP (eraseP p r want) r want k).g r k then 8 else 0) ≤ 8 := by split <;> omega
    have h2 : (if pic = true then 36 else 0) ≤ 36 := by split <;> omega
    omega
  have HER : Hid (Calls Tryd.prog 24 #[.pointer (some ⟨pb, 0, none⟩), .int .i64 r, .slice (some ⟨bw, ow, none⟩) W cw] w fun e w' => e = .returned (.tuple #[]) ∧ PenTo w pb b cap oo (Q 0) w') := by
    rw [hQ]
    exact erase_pen pb b cap oo oc p ok hcap r hr want _ cw W hW hcw (by omega) w h (hw w oo (Kept.refl _ _ _ _))
  have HST : Hid (∀ k, Q (k + 1) = cellP (Q k) r want k) := fun k => by rw [hQ]; rfl
  have HGD : Hid (∀ j, j < W → goodC (want j) = true) := by rw [hW]; exact hgood
  have HRW : Hid (∀ w' o', Kept w w' pb b oo o' → RdS w' (some ⟨bw, ow, none⟩) W want) := hw
  have HROW : Hid (rowP p r want = Q W) := by show rowP p r want = _; rw [hQ]; unfold rowP; rw [hW]
  have HPW : Hid (P = r * W ∧ W = p.g.wide.toNat) := ⟨hP, hW⟩
  have hlt := h.lt
  have HCE : Hid (∀ w, Calls Tryd.prog 21 #[gval (Q 0).g (some ⟨b, 0, none⟩) cap, .int .i64 r] w fun e w' => e = .returned (.slice (some ⟨b, P * 4, none⟩) W (cap - P)) ∧ w' = w.alloc (gbox (Q 0).g (some ⟨b, 0, none⟩) cap)) := fun w => by
    obtain ⟨z1, z2, z3, z4, _⟩ := HQ.out 0 (Nat.zero_le _)
    have := cells_any (Q 0).g z1 b 0 cap r (by rw [z3]; exact hr) (by rw [z4]; exact hcap) w
    rw [Nat.zero_add, z2, ← hW, ← hP] at this
    exact this
  clear h hw hgood hW hP ok hQ
  go_enter Tryd.func20, Tryd.ntmps20
  go_wp2_with (first
    | (go_at_call 24; refine HER.out.mono ?_; rintro e v1 ⟨rfl, hk1⟩; have HK1 : Hid (PenTo w pb b cap oo (Q 0) v1) := hk1; obtain ⟨o1, q1, hp1, _⟩ := hk1; obtain ⟨⟨c0, c1, c2, c3, c4, c5, c6, c7, c8, c9⟩, cf⟩ := ten hp1.box; clear hp1)
    | (go_at_call 21; refine (HCE.out _).mono ?_; rintro e v2 ⟨rfl, rfl⟩; clear c0 c1 c2 c3 c4 c5 c6 c7 c8 c9 cf))
  go_loopw [21] (fun i wr => ∃ k : Nat, k ≤ W ∧ i = .int .i64 k ∧ PenTo w pb b cap oo (Q k) wr) (fun i _ => W - (intOf i).toNat)
  case atStart => exact ⟨0, Nat.zero_le _, rfl, HK1.out.alloc _⟩
  case round =>
    obtain ⟨k, hk, rfl, hpt⟩ := hrel
    have HI : Hid (PenTo w pb b cap oo (Q k) wr) := hpt
    clear HER HCE HK1
    by_cases hlt : k < W
    · obtain ⟨okq, e1, e2, e3, e4⟩ := HQ.out k hk
      obtain ⟨oo1, oc1, hp1, hk1⟩ := hpt
      obtain ⟨bw', ow', e, hcw'⟩ := (HRW.out wr oo1 hk1).resolve_left (by omega)
      simp only [Option.some.injEq, Addr.mk.injEq, and_true] at e
      obtain ⟨rfl, rfl⟩ := e
      obtain ⟨t0, t1, t2, t3⟩ := hcw' k hlt
      obtain ⟨s0, s1, s2, s3⟩ := hp1.scr.cells (P + k) (by rw [e3]; omega)
      have hoff : (P + k) * 4 = P * 4 + k * 4 := by omega
      rw [hoff] at s0 s1 s2 s3
      obtain ⟨q, hq⟩ : ∃ q, q = Q k := ⟨_, rfl⟩
      rw [← hq] at s0 s1 s2 s3 hp1 okq e1 e2 e3 e4 HI
      obtain ⟨y, hy⟩ : ∃ y, y = q.g.f (P + k) := ⟨_, rfl⟩
      obtain ⟨x, hx⟩ : ∃ x, x = want k := ⟨_, rfl⟩
      rw [← hy] at s0 s1 s2 s3
      rw [← hx] at t0 t1 t2 t3
      have hblt := hp1.blt
      have hwlt := World.block_lt_of_cell? _ _ t0
      simp only at hwlt
      have hlt' : (k : Int) < (W : Int) := by omega
      have hk0 : (0 : Int) ≤ (k : Int) := by omega
      obtain ⟨c, hc⟩ : ∃ c, c = celB y x := ⟨_, rfl⟩
      have E1 : ∀ w, (binOp .eql 33 (.agg #[.int .i64 y.ch, .int .i64 y.ink, .int .i64 y.pic, .bool y.bold]) (.agg #[.int .i64 x.ch, .int .i64 x.ink, .int .i64 x.pic, .bool x.bold])).run Tryd.prog w = .ok (.bool c) w := fun w => by rw [hc]; exact eql_cell y x w
      have HCB : Hid (celB (q.g.f (r * q.g.wide.toNat + k)) (want k) = c) := by
        show celB _ _ = _
        rw [e1, ← HPW.out.2, ← HPW.out.1, ← hy, ← hx]
        exact hc.symm
      have HX : Hid (x = want k ∧ goodC x = true) := ⟨hx, by rw [hx]; exact HGD.out k hlt⟩
      have HNX : Hid (Q (k + 1) = cellP q r want k) := by rw [hq]; exact HST.out k
      have HPI : Hid (PenIn wr pb b cap oo1 oc1 q ∧ Kept w wr pb b oo oo1) := ⟨hp1, hk1⟩
      have HOK : Hid (OkG q.g ∧ q.g.wide = p.g.wide ∧ q.g.high = p.g.high ∧ q.g.n = p.g.n ∧ q.out.length ≤ 60000) := ⟨okq, e1, e2, e3, e4⟩
      clear hcw' hy hx hc hq hp1 hk1 okq e1 e2 e3 e4 hoff
      cases c
      · go_wp2_with fail
        go_quiet (fail)
        have hd1 : Below wr.heap.size wr ((wr.alloc (cbox x)).drewN nq) := below_drewN (below1 _ _) _
        have hsz : wr.heap.size < ((wr.alloc (cbox x)).drewN nq).heap.size := by show wr.heap.size < (wr.alloc (cbox x)).heap.size; simp
        have hbx : ((wr.alloc (cbox x)).drewN nq).heap[wr.heap.size]? = some (cbox x) := at_new wr _
        obtain ⟨⟨z0, z1, z2, z3⟩, zf⟩ := four hbx
        have HMV : Hid (Calls Tryd.prog 22 #[.pointer (some ⟨pb, 0, none⟩), .int .i64 r, .int .i64 k] ((wr.alloc (cbox x)).drewN nq) fun e w' => e = .returned (.tuple #[]) ∧ PenTo w pb b cap oo (moveP q r k) w' ∧ w'.heap[wr.heap.size]? = some (cbox x)) := by
          obtain ⟨okq, e1, e2, e3, e4⟩ := HOK.out
          have hWw := HPW.out.2
          refine (move_any pb b cap oo1 oc1 q okq r k (by omega) (by omega) (by omega) (by omega) (by omega) _ (HPI.out.1.later hd1)).mono fun e w' hk => ⟨hk.1, ?_⟩
          obtain ⟨a1, a2⟩ := at_later HPI.out.1 hd1 hk.2
          exact ⟨PenTo.trans HPI.out.2 a1, (a2 _ (Nat.le_refl _) hsz).trans hbx⟩
        generalize (wr.alloc (cbox x)).drewN nq = W1 at *
        clear hd1 hsz hbx s0 s1 s2 s3 t0 t1 t2 t3 E1 HPI
        by_cases hp : 0 < x.pic
        · have HCO : Hid (∀ v, PenTo w pb b cap oo (moveP q r k) v → Calls Tryd.prog 25 #[.pointer (some ⟨pb, 0, none⟩), .slice (some ⟨bw, ow, none⟩) W cw] v fun e w' => e = .returned (.tuple #[]) ∧ PenTo w pb b cap oo (Q (k + 1)) w') := fun v hv => by
            obtain ⟨okq, e1, e2, e3, e4⟩ := HOK.out
            have hWw := HPW.out.2
            obtain ⟨o2, c2, a2, k2⟩ := hv
            rw [HNX.out, cellP_col HCB.out (by rw [← HX.out.1]; exact hp)]
            refine (colour_pen pb b cap o2 c2 (moveP q r k) (ok_toG okq r k (by omega) (by omega) (by omega) (by omega)) (by show q.g.n ≤ cap; omega) (by show (k : Int) < q.g.wide; omega) want (by show ∀ j, j < q.g.wide.toNat → _; rw [e1, ← hWw]; exact HGD.out) _ cw W (by show W = q.g.wide.toNat; rw [e1]; exact hWw) hcw ?_ v a2 (fun w' o' hk' => HRW.out w' o' (k2.trans hk'))).mono fun e w' hk' => ⟨hk'.1, PenTo.trans k2 hk'.2⟩
            have := (len_moveD okq r k (by omega) (by omega) (by omega) (by omega)).1
            show (q.out ++ moveD q.g r k).length ≤ 100000
            rw [List.length_append]
            omega
          go_wp2_with (first
            | (go_at_call 22; refine HMV.out.mono ?_; rintro e v3 ⟨rfl, hk3, hx3⟩; have HK3 : Hid (PenTo w pb b cap oo (moveP q r k) v3) := hk3; clear z0 z1 z2 z3 zf hk3; obtain ⟨⟨z0, z1, z2, z3⟩, zf⟩ := four hx3; clear hx3)
            | (go_at_call 25; refine (HCO.out _ HK3.out).mono ?_; rintro e v4 ⟨rfl, hk4⟩; have HK4 : Hid (PenTo w pb b cap oo (Q (k + 1)) v4) := hk4; clear hk4))
          go_roundw
          case rel => exact ⟨k + 1, by omega, by go_num, HK4.out⟩
          case measure => simp [intOf]; omega
        · have hp' : x.pic ≤ 0 := by omega
          have HCO : Hid (∀ v, PenTo w pb b cap oo (moveP q r k) v → Calls Tryd.prog 26 #[.pointer (some ⟨pb, 0, none⟩), cval x] v fun e w' => e = .returned (.tuple #[]) ∧ PenTo w pb b cap oo (Q (k + 1)) w') := fun v hv => by
            obtain ⟨okq, e1, e2, e3, e4⟩ := HOK.out
            have hWw := HPW.out.2
            obtain ⟨o2, c2, a2, k2⟩ := hv
            obtain ⟨g1, g2⟩ := good_bounds HX.out.2 hp
            rw [HNX.out, cellP_print HCB.out (by rw [← HX.out.1]; exact hp), ← HX.out.1]
            refine (print_any pb b cap o2 c2 (moveP q r k) (ok_toG okq r k (by omega) (by omega) (by omega) (by omega)) (by show q.g.n ≤ cap; omega) x g2 g1 (by show (k : Int) < q.g.wide; omega) ?_ v a2).mono fun e w' hk' => ⟨hk'.1, PenTo.trans k2 hk'.2⟩
            have := (len_moveD okq r k (by omega) (by omega) (by omega) (by omega)).1
            show (q.out ++ moveD q.g r k).length ≤ 100000
            rw [List.length_append]
            omega
          clear hp
          go_wp2_with (first
            | (go_at_call 22; refine HMV.out.mono ?_; rintro e v3 ⟨rfl, hk3, hx3⟩; have HK3 : Hid (PenTo w pb b cap oo (moveP q r k) v3) := hk3; clear z0 z1 z2 z3 zf hk3; obtain ⟨⟨z0, z1, z2, z3⟩, zf⟩ := four hx3; clear hx3)
            | (go_at_call 26; refine (HCO.out _ HK3.out).mono ?_; rintro e v4 ⟨rfl, hk4⟩; have HK4 : Hid (PenTo w pb b cap oo (Q (k + 1)) v4) := hk4; clear hk4))
          go_roundw
          case rel => exact ⟨k + 1, by omega, by go_num, HK4.out⟩
          case measure => simp [intOf]; omega
      · have HK4 : Hid (∀ (o : Obj) (nq : Nat), PenTo w pb b cap oo (Q (k + 1)) ((wr.alloc o).drewN nq)) := fun o nq => by
          rw [HNX.out, cellP_eq HCB.out]
          exact PenTo.trans HPI.out.2 (HPI.out.1.stay (below_drewN (below1 _ _) _))
        go_wp2_with fail
        go_quiet (fail)
        go_wp2
        go_roundw
        case rel => exact ⟨k + 1, by omega, by go_num, HK4.out _ _⟩
        case measure => simp [intOf]; omega
    · have HFI : Hid (PenTo w pb b cap oo (rowP p r want) wr) := by
        rw [HROW.out, show W = k by omega]
        exact HI.out
      clear hpt HI
      go_wp2
      go_end0
      exact ⟨rfl, HFI.out⟩

end Go.Proofs.YtpichplhidiokabDoor

/- The pen shows a screen. -/
namespace Go.Proofs.YtpichplhidiokabDoor
open Go.RowKit
set_option maxRecDepth 100000

theorem tagGC : (24 : TypeId) ≠ 33 := by decide
theorem tagGP : (24 : TypeId) ≠ 38 := by decide
theorem tagG5 : (24 : TypeId) ≠ 5 := by decide

/-- A screen's box is none of the pen's. -/
theorem PenTo.grid {w1 v : World} {pb b cap : Nat} {o1 : Option Addr} {c1 : Nat} {q q' : Pen} (h : PenIn w1 pb b cap o1 c1 q) (hk : PenTo w1 pb b cap o1 q' v) {k : Nat} {c : Array Value} (hbx : w1.heap[k]? = some (.cells c 24 (0, 0))) : v.heap[k]? = some (.cells c 24 (0, 0)) := by
  obtain ⟨_, _, _, z⟩ := hk
  obtain ⟨cur, hcur, _⟩ := h.scr
  refine (z.block k (Array.getElem?_eq_some_iff.1 hbx).1 (ne_tag hbx h.box tagGP) (ne_tag hbx hcur tagGC) (fun e => ?_)).trans hbx
  obtain ⟨cur2, hc2⟩ := own_tag h.own e
  exact ne_tag hbx hc2 tagG5 rfl

set_option maxHeartbeats 1500000 in
theorem show_pen (pb b cap : Nat) (oo : Option Addr) (oc : Nat) (p : Pen) (ok : OkG p.g) (hcap : p.g.n ≤ cap) (t : Gr) (okt : OkG t) (hwd : t.wide = p.g.wide) (hhg : t.high = p.g.high) (htc : t.col < t.wide) (ta : Option Addr) (ct : Nat) (hct : t.n ≤ ct) (hl : p.out.length ≤ 100) (w : World) (h : PenIn w pb b cap oo oc p)
    (ht : ∀ w' o', Kept w w' pb b oo o' → RdS w' ta t.n t.f) :
    Calls Tryd.prog 14 #[.pointer (some ⟨pb, 0, none⟩), gval t ta ct] w fun e w' => e = .returned (.tuple #[]) ∧ PenTo w pb b cap oo (showP p t) w' := by
  have w1 := okt.w1
  have w2 := okt.w2
  have h1 := okt.h1
  have h2 := okt.h2
  have hn := size_nat okt
  have hnp : 0 < t.n := by
    rw [hn]
    exact Nat.mul_pos (by omega) (by omega)
  obtain ⟨bt, ot, rfl, _⟩ := (ht w oo (Kept.refl _ _ _ _)).resolve_left (by omega)
  obtain ⟨H, hH⟩ : ∃ H : Nat, (H : Int) = t.high := ⟨t.high.toNat, by omega⟩
  obtain ⟨W, hW⟩ : ∃ W : Nat, W = t.wide.toNat := ⟨_, rfl⟩
  have hnn : t.n = H * W := by rw [hn, hW, ← hH]; rfl
  obtain ⟨Q, hQ⟩ : ∃ Q : Nat → Pen, Q = fun k => rowsP p t k := ⟨_, rfl⟩
  have HQ : Hid (∀ k, k ≤ H → OkG (Q k).g ∧ (Q k).g.wide = p.g.wide ∧ (Q k).g.high = p.g.high ∧ (Q k).g.n = p.g.n ∧ (Q k).out.length ≤ 5000) := fun k hk => by
    obtain ⟨ha, _⟩ := rows_end ok t okt hwd hhg k (by omega)
    obtain ⟨o1, o2, o3, o4⟩ := ha.ok ok
    obtain ⟨m, m1, m2, _⟩ := ha.more
    rw [hQ]
    refine ⟨o1, o2, o3, o4, ?_⟩
    show (rowsP p t k).out.length ≤ 5000
    rw [m1, List.length_append]
    omega
  have HST : Hid (∀ k, Q (k + 1) = rowP (Q k) k (shF t.f (k * W))) := fun k => by rw [hQ, hW]; rfl
  have HQ0 : Hid (PenTo w pb b cap oo (Q 0) (w.alloc (gbox t (some ⟨bt, ot, none⟩) ct))) := by rw [hQ]; exact h.stay (below1 _ _)
  have HSH : Hid (showP p t = moveP (Q H) t.row t.col) := by show showP p t = _; rw [hQ]; unfold showP; rw [← hH]; rfl
  have HCE : Hid (∀ k : Nat, k < H → ∀ w, Calls Tryd.prog 21 #[gval t (some ⟨bt, ot, none⟩) ct, .int .i64 k] w fun e w' => e = .returned (.slice (some ⟨bt, ot + k * W * 4, none⟩) W (ct - k * W)) ∧ w' = w.alloc (gbox t (some ⟨bt, ot, none⟩) ct)) := fun k hk w => by
    have := cells_any t okt bt ot ct k (by omega) hct w
    rw [← hW] at this
    exact this
  have hkW : ∀ k, k < H → k * W + W ≤ t.n := fun k hk => by
    have : (k + 1) * W ≤ H * W := Nat.mul_le_mul_right _ (by omega)
    rw [Nat.succ_mul] at this
    omega
  have HRO : Hid (∀ k, k < H → ∀ wr, PenTo w pb b cap oo (Q k) wr → wr.heap[w.heap.size]? = some (gbox t (some ⟨bt, ot, none⟩) ct) → ∀ o : Obj, Calls Tryd.prog 20 #[.pointer (some ⟨pb, 0, none⟩), .int .i64 k, .slice (some ⟨bt, ot + k * W * 4, none⟩) W (ct - k * W)] (wr.alloc o) fun e w' => e = .returned (.tuple #[]) ∧ PenTo w pb b cap oo (Q (k + 1)) w' ∧ w'.heap[w.heap.size]? = some (gbox t (some ⟨bt, ot, none⟩) ct)) := fun k hk wr hpt hbx o => by
    obtain ⟨z1, z2, z3, z4, z5⟩ := HQ.out k (by omega)
    obtain ⟨o1, c1, a1, k1⟩ := hpt
    have hkw := hkW k hk
    have hbel := below1 wr o
    rw [HST.out k]
    refine (showRow_pen pb b cap o1 c1 (Q k) z1 (by rw [z4]; exact hcap) k (by rw [z3]; omega) (shF t.f (k * W)) (fun j hj => ?_) _ (ct - k * W) W (by rw [z2, ← hwd]; exact hW) (by omega) (by omega) (wr.alloc o) (a1.later hbel) (fun w' o' hk' => ?_)).mono fun e w' hk' => ⟨hk'.1, PenTo.trans (k1.trans (Kept.below pb b o1 hbel)) hk'.2, PenTo.grid (a1.later hbel) hk'.2 (at_old hbx o)⟩
    · rw [z2, ← hwd, ← hW] at hj
      exact okt.cells _ (by omega)
    · exact (ht w' o' ((k1.trans (Kept.below pb b o1 hbel)).trans hk')).shift (k * W) W _ (by omega) rfl
  have HMV : Hid (∀ wr, PenTo w pb b cap oo (Q H) wr → Calls Tryd.prog 22 #[.pointer (some ⟨pb, 0, none⟩), .int .i64 t.row, .int .i64 t.col] wr fun e w' => e = .returned (.tuple #[]) ∧ PenTo w pb b cap oo (showP p t) w') := fun wr hpt => by
    obtain ⟨z1, z2, z3, z4, z5⟩ := HQ.out H (Nat.le_refl _)
    have r1 := okt.r1
    have r2 := okt.r2
    have k1 := okt.c1
    rw [HSH.out]
    exact move_from hpt z1 t.row t.col r1 (by omega) k1 (by omega) (by omega)
  have hlt := h.lt
  have hH10 : H ≤ 10 := by omega
  have HH : Hid ((H : Int) = t.high) := hH
  have hh1 : 1 ≤ t.high := h1
  clear h ht hW hn hnn ok okt hQ hwd hhg htc hkW hH HST HQ HSH
  go_enter Tryd.func14, Tryd.ntmps14
  go_wp2_with fail
  go_loopw [7] (fun i wr => ∃ k : Nat, k ≤ H ∧ i = .int .i64 k ∧ PenTo w pb b cap oo (Q k) wr ∧ wr.heap[w.heap.size]? = some (gbox t (some ⟨bt, ot, none⟩) ct)) (fun i _ => H - (intOf i).toNat)
  case atStart => exact ⟨0, Nat.zero_le _, rfl, HQ0.out, at_new w _⟩
  case round =>
    obtain ⟨k, hk, rfl, hpt, hbx⟩ := hrel
    have HI : Hid (PenTo w pb b cap oo (Q k) wr ∧ wr.heap[w.heap.size]? = some (gbox t (some ⟨bt, ot, none⟩) ct)) := ⟨hpt, hbx⟩
    obtain ⟨⟨x0, x1, x2, x3, x4, x5, x6, x7, x8⟩, xf⟩ := nine hbx
    clear hpt hbx HQ0
    by_cases hlt : k < H
    · have hlt' : (k : Int) < t.high := by rw [← HH.out]; omega
      go_wp2_with (first
        | (go_at_call 21; refine (HCE.out k hlt _).mono ?_; rintro e v1 ⟨rfl, rfl⟩)
        | (go_at_call 20; refine (HRO.out k hlt _ HI.out.1 HI.out.2 _).mono ?_; rintro e v2 ⟨rfl, hk2, hx2⟩; have HK2 : Hid (PenTo w pb b cap oo (Q (k + 1)) v2 ∧ v2.heap[w.heap.size]? = some (gbox t (some ⟨bt, ot, none⟩) ct)) := ⟨hk2, hx2⟩; clear hk2 hx2))
      go_roundw
      case rel => exact ⟨k + 1, by omega, by go_num, HK2.out.1, HK2.out.2⟩
      case measure => simp [intOf]; omega
    · have hlt' : ¬ (k : Int) < t.high := by rw [← HH.out]; omega
      have HI2 : Hid (PenTo w pb b cap oo (Q H) wr) := by rw [show H = k by omega]; exact HI.out.1
      go_wp2_with (go_at_call 22; refine (HMV.out _ HI2.out).mono ?_; rintro e v3 ⟨rfl, hk3⟩)
      go_end0
      exact ⟨rfl, hk3⟩

end Go.Proofs.YtpichplhidiokabDoor
