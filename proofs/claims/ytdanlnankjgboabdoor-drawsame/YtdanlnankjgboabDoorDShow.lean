/- The pen shows a screen. -/
import Derived.Test.YtdanlnankjgboabDoorDShowRow
namespace Go.Proofs.YtdanlnankjgboabDoor
open Go.RowKit
set_option maxRecDepth 100000

theorem tagGC : (24 : TypeId) ≠ 33 := by decide
theorem tagGP : (24 : TypeId) ≠ 38 := by decide
theorem tagG5 : (24 : TypeId) ≠ 5 := by decide

/-- A screen's box is none of the pen's. -/
theorem PenTo.grid {w1 v : World} {pb b cap : Nat} {o1 : Option Addr} {c1 : Nat} {q q' : Pen} (h : PenIn w1 pb b cap o1 c1 q) (hk : PenTo w1 pb b cap o1 q' v) {k : Nat} {c : Array Value} (hbx : w1.heap[k]? = some (.cells c 24 (0, 0))) : v.heap[k]? = some (.cells c 24 (0, 0)) := by
  obtain ⟨_, _, _, z⟩ := hk
  obtain ⟨cur, hcur, _⟩ := h.scr
  refine (z.block k (Array.getElem?_eq_some_iff.1 hbx).1 (ne_tag hbx h.box tagGP) (ne_tag hbx hcur tagGC) (fun e => ?_)).trans hbx
  obtain ⟨cur2, hc2⟩ := own_tag h.own e
  exact ne_tag hbx hc2 tagG5 rfl

set_option maxHeartbeats 1500000 in
theorem show_pen (pb b cap : Nat) (oo : Option Addr) (oc : Nat) (p : Pen) (ok : OkG p.g) (hcap : p.g.n ≤ cap) (t : Gr) (okt : OkG t) (hwd : t.wide = p.g.wide) (hhg : t.high = p.g.high) (htc : t.col < t.wide) (ta : Option Addr) (ct : Nat) (hct : t.n ≤ ct) (hl : p.out.length ≤ 100) (w : World) (h : PenIn w pb b cap oo oc p)
    (ht : ∀ w' o', Kept w w' pb b oo o' → RdS w' ta t.n t.f) :
    Calls Tryd.prog 14 #[.pointer (some ⟨pb, 0, none⟩), gval t ta ct] w fun e w' => e = .returned (.tuple #[]) ∧ PenTo w pb b cap oo (showP p t) w' := by
  have w1 := okt.w1
  have w2 := okt.w2
  have h1 := okt.h1
  have h2 := okt.h2
  have hn := size_nat okt
  have hnp : 0 < t.n := by
    rw [hn]
    exact Nat.mul_pos (by omega) (by omega)
  obtain ⟨bt, ot, rfl, _⟩ := (ht w oo (Kept.refl _ _ _ _)).resolve_left (by omega)
  obtain ⟨H, hH⟩ : ∃ H : Nat, (H : Int) = t.high := ⟨t.high.toNat, by omega⟩
  obtain ⟨W, hW⟩ : ∃ W : Nat, W = t.wide.toNat := ⟨_, rfl⟩
  have hnn : t.n = H * W := by rw [hn, hW, ← hH]; rfl
  obtain ⟨Q, hQ⟩ : ∃ Q : Nat → Pen, Q = fun k => rowsP p t k := ⟨_, rfl⟩
  have HQ : Hid (∀ k, k ≤ H → OkG (Q k).g ∧ (Q k).g.wide = p.g.wide ∧ (Q k).g.high = p.g.high ∧ (Q k).g.n = p.g.n ∧ (Q k).out.length ≤ 5000) := fun k hk => by
    obtain ⟨ha, _⟩ := rows_end ok t okt hwd hhg k (by omega)
    obtain ⟨o1, o2, o3, o4⟩ := ha.ok ok
    obtain ⟨m, m1, m2, _⟩ := ha.more
    rw [hQ]
    refine ⟨o1, o2, o3, o4, ?_⟩
    show (rowsP p t k).out.length ≤ 5000
    rw [m1, List.length_append]
    omega
  have HST : Hid (∀ k, Q (k + 1) = rowP (Q k) k (shF t.f (k * W))) := fun k => by rw [hQ, hW]; rfl
  have HQ0 : Hid (PenTo w pb b cap oo (Q 0) (w.alloc (gbox t (some ⟨bt, ot, none⟩) ct))) := by rw [hQ]; exact h.stay (below1 _ _)
  have HSH : Hid (showP p t = moveP (Q H) t.row t.col) := by show showP p t = _; rw [hQ]; unfold showP; rw [← hH]; rfl
  have HCE : Hid (∀ k : Nat, k < H → ∀ w, Calls Tryd.prog 21 #[gval t (some ⟨bt, ot, none⟩) ct, .int .i64 k] w fun e w' => e = .returned (.slice (some ⟨bt, ot + k * W * 4, none⟩) W (ct - k * W)) ∧ w' = w.alloc (gbox t (some ⟨bt, ot, none⟩) ct)) := fun k hk w => by
    have := cells_any t okt bt ot ct k (by omega) hct w
    rw [← hW] at this
    exact this
  have hkW : ∀ k, k < H → k * W + W ≤ t.n := fun k hk => by
    have : (k + 1) * W ≤ H * W := Nat.mul_le_mul_right _ (by omega)
    rw [Nat.succ_mul] at this
    omega
  have HRO : Hid (∀ k, k < H → ∀ wr, PenTo w pb b cap oo (Q k) wr → wr.heap[w.heap.size]? = some (gbox t (some ⟨bt, ot, none⟩) ct) → ∀ o : Obj, Calls Tryd.prog 20 #[.pointer (some ⟨pb, 0, none⟩), .int .i64 k, .slice (some ⟨bt, ot + k * W * 4, none⟩) W (ct - k * W)] (wr.alloc o) fun e w' => e = .returned (.tuple #[]) ∧ PenTo w pb b cap oo (Q (k + 1)) w' ∧ w'.heap[w.heap.size]? = some (gbox t (some ⟨bt, ot, none⟩) ct)) := fun k hk wr hpt hbx o => by
    obtain ⟨z1, z2, z3, z4, z5⟩ := HQ.out k (by omega)
    obtain ⟨o1, c1, a1, k1⟩ := hpt
    have hkw := hkW k hk
    have hbel := below1 wr o
    rw [HST.out k]
    refine (showRow_pen pb b cap o1 c1 (Q k) z1 (by rw [z4]; exact hcap) k (by rw [z3]; omega) (shF t.f (k * W)) (fun j hj => ?_) _ (ct - k * W) W (by rw [z2, ← hwd]; exact hW) (by omega) (by omega) (wr.alloc o) (a1.later hbel) (fun w' o' hk' => ?_)).mono fun e w' hk' => ⟨hk'.1, PenTo.trans (k1.trans (Kept.below pb b o1 hbel)) hk'.2, PenTo.grid (a1.later hbel) hk'.2 (at_old hbx o)⟩
    · rw [z2, ← hwd, ← hW] at hj
      exact okt.cells _ (by omega)
    · exact (ht w' o' ((k1.trans (Kept.below pb b o1 hbel)).trans hk')).shift (k * W) W _ (by omega) rfl
  have HMV : Hid (∀ wr, PenTo w pb b cap oo (Q H) wr → Calls Tryd.prog 22 #[.pointer (some ⟨pb, 0, none⟩), .int .i64 t.row, .int .i64 t.col] wr fun e w' => e = .returned (.tuple #[]) ∧ PenTo w pb b cap oo (showP p t) w') := fun wr hpt => by
    obtain ⟨z1, z2, z3, z4, z5⟩ := HQ.out H (Nat.le_refl _)
    have r1 := okt.r1
    have r2 := okt.r2
    have k1 := okt.c1
    rw [HSH.out]
    exact move_from hpt z1 t.row t.col r1 (by omega) k1 (by omega) (by omega)
  have hlt := h.lt
  have hH10 : H ≤ 10 := by omega
  have HH : Hid ((H : Int) = t.high) := hH
  have hh1 : 1 ≤ t.high := h1
  clear h ht hW hn hnn ok okt hQ hwd hhg htc hkW hH HST HQ HSH
  go_enter Tryd.func14, Tryd.ntmps14
  go_wp2_with fail
  go_loopw [7] (fun i wr => ∃ k : Nat, k ≤ H ∧ i = .int .i64 k ∧ PenTo w pb b cap oo (Q k) wr ∧ wr.heap[w.heap.size]? = some (gbox t (some ⟨bt, ot, none⟩) ct)) (fun i _ => H - (intOf i).toNat)
  case atStart => exact ⟨0, Nat.zero_le _, rfl, HQ0.out, at_new w _⟩
  case round =>
    obtain ⟨k, hk, rfl, hpt, hbx⟩ := hrel
    have HI : Hid (PenTo w pb b cap oo (Q k) wr ∧ wr.heap[w.heap.size]? = some (gbox t (some ⟨bt, ot, none⟩) ct)) := ⟨hpt, hbx⟩
    obtain ⟨⟨x0, x1, x2, x3, x4, x5, x6, x7, x8⟩, xf⟩ := nine hbx
    clear hpt hbx HQ0
    by_cases hlt : k < H
    · have hlt' : (k : Int) < t.high := by rw [← HH.out]; omega
      go_wp2_with (first
        | (go_at_call 21; refine (HCE.out k hlt _).mono ?_; rintro e v1 ⟨rfl, rfl⟩)
        | (go_at_call 20; refine (HRO.out k hlt _ HI.out.1 HI.out.2 _).mono ?_; rintro e v2 ⟨rfl, hk2, hx2⟩; have HK2 : Hid (PenTo w pb b cap oo (Q (k + 1)) v2 ∧ v2.heap[w.heap.size]? = some (gbox t (some ⟨bt, ot, none⟩) ct)) := ⟨hk2, hx2⟩; clear hk2 hx2))
      go_roundw
      case rel => exact ⟨k + 1, by omega, by go_num, HK2.out.1, HK2.out.2⟩
      case measure => simp [intOf]; omega
    · have hlt' : ¬ (k : Int) < t.high := by rw [← HH.out]; omega
      have HI2 : Hid (PenTo w pb b cap oo (Q H) wr) := by rw [show H = k by omega]; exact HI.out.1
      go_wp2_with (go_at_call 22; refine (HMV.out _ HI2.out).mono ?_; rintro e v3 ⟨rfl, hk3⟩)
      go_end0
      exact ⟨rfl, hk3⟩

end Go.Proofs.YtdanlnankjgboabDoor
