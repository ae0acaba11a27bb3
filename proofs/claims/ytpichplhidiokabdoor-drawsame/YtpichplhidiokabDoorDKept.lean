/- What 'surplus' and 'kept' count; they change nothing. -/
import Derived.Test.YtpichplhidiokabDoorDCells
namespace Go.Proofs.YtpichplhidiokabDoor
open Go.RowKit
set_option maxRecDepth 100000

theorem surD_succ (h want : Nat → Cel) (n k : Nat) : surD h want n (k + 1) = if surB (h k) (want k) then (min (surD h want n k).1 (k : Int), (k : Int)) else surD h want n k := rfl
theorem keptD_succ (h want : Nat → Cel) (k : Nat) : keptD h want (k + 1) = if keepB (h k) (want k) then keptD h want k + 1 else keptD h want k := rfl
theorem keptD_bd (h want : Nat → Cel) : ∀ k : Nat, 0 ≤ keptD h want k ∧ keptD h want k ≤ k
  | 0 => ⟨Int.le_refl _, Int.le_refl _⟩
  | k + 1 => by
    have := keptD_bd h want k
    rw [keptD_succ]
    split <;> omega

set_option maxHeartbeats 2000000 in
theorem surplus_any (H W : Nat → Cel) (n : Nat) (hn : n ≤ 24) (ah : Option Addr) (ch : Nat) (aw : Option Addr) (cw : Nat) (w : World) (rh : RdS w ah n H) (rw_ : RdS w aw n W) :
    Calls Tryd.prog 29 #[.slice ah n ch, .slice aw n cw] w fun e w' => e = .returned (.tuple #[.int .i64 (surD H W n n).1, .int .i64 (surD H W n n).2]) ∧ Below w.heap.size w w' := by
  have HH : Hid (∀ w', Below w.heap.size w w' → RdS w' ah n H) := fun w' hb => rh.below hb
  have HW : Hid (∀ w', Below w.heap.size w w' → RdS w' aw n W) := fun w' hb => rw_.below hb
  clear rh rw_
  go_enter Tryd.func29, Tryd.ntmps29
  go_wp2
  go_loopw [6, 7, 14] (fun a l i wr => ∃ k : Nat, k ≤ n ∧ i = .int .i64 k ∧ a = .int .i64 (surD H W n k).1 ∧ l = .int .i64 (surD H W n k).2 ∧ Below w.heap.size w wr) (fun _ _ i _ => n - (intOf i).toNat)
  case atStart => exact ⟨0, Nat.zero_le _, rfl, rfl, rfl, Below.refl _ _⟩
  case round =>
    obtain ⟨k, hk, rfl, rfl, rfl, hb⟩ := hrel
    have HB : Hid (Below w.heap.size w wr) := hb
    obtain ⟨a, ha⟩ : ∃ a, a = (surD H W n k).1 := ⟨_, rfl⟩
    obtain ⟨l, hl⟩ : ∃ l, l = (surD H W n k).2 := ⟨_, rfl⟩
    rw [← ha, ← hl]
    have HA : Hid (a = (surD H W n k).1 ∧ l = (surD H W n k).2) := ⟨ha, hl⟩
    clear ha hl hb
    by_cases hlt : k < n
    · obtain ⟨bh, oh, rfl, hch⟩ := (HH.out wr HB.out).resolve_left (by omega)
      obtain ⟨bw, ow, rfl, hcw⟩ := (HW.out wr HB.out).resolve_left (by omega)
      obtain ⟨t0, t1, t2, t3⟩ := hch k hlt
      obtain ⟨s0, s1, s2, s3⟩ := hcw k hlt
      have hlh := World.block_lt_of_cell? _ _ t0
      have hlw := World.block_lt_of_cell? _ _ s0
      simp only at hlh hlw
      have hlt' : (k : Int) < (n : Int) := by omega
      have hk0 : (0 : Int) ≤ (k : Int) := by omega
      obtain ⟨y, hy⟩ : ∃ y, y = H k := ⟨_, rfl⟩
      obtain ⟨x, hx⟩ : ∃ x, x = W k := ⟨_, rfl⟩
      rw [← hy] at t0 t1 t2 t3
      rw [← hx] at s0 s1 s2 s3
      have HS : Hid (surD H W n (k + 1) = if surB y x then (min a (k : Int), (k : Int)) else (a, l)) := by
        show surD H W n (k + 1) = _
        rw [surD_succ, ← hy, ← hx, ← HA.out.1]
        split
        · rfl
        · rw [HA.out.1, HA.out.2]
      have HN : Hid (∀ o : Obj, Below w.heap.size w (wr.alloc o)) := fun o => HB.out.trans ((below1 wr o).mono HB.out.size)
      obtain ⟨p, hp⟩ : ∃ p, p = celB x noCel := ⟨_, rfl⟩
      obtain ⟨q, hq⟩ : ∃ q, q = celB y x := ⟨_, rfl⟩
      have E1 : ∀ w, (binOp .eql 33 (.agg #[.int .i64 x.ch, .int .i64 x.ink, .int .i64 x.pic, .bool x.bold]) (.agg #[.int .i64 0, .int .i64 0, .int .i64 0, .bool false])).run Tryd.prog w = .ok (.bool p) w := fun w => by rw [hp]; exact eql_cell x noCel w
      have E2 : ∀ w, (binOp .neq 33 (.agg #[.int .i64 y.ch, .int .i64 y.ink, .int .i64 y.pic, .bool y.bold]) (.agg #[.int .i64 x.ch, .int .i64 x.ink, .int .i64 x.pic, .bool x.bold])).run Tryd.prog w = .ok (.bool !q) w := fun w => by rw [hq]; exact neq_cell y x w
      have HPQ : Hid (surB y x = (p && !q)) := by show surB y x = _; rw [hp, hq]; rfl
      clear hch hcw hy hx hp hq HA HB HH HW
      cases p
      · go_wp2_with fail
        go_quiet (fail)
        go_wp2
        go_roundw
        case rel => exact ⟨k + 1, by omega, by go_num, by rw [HS.out, HPQ.out]; rfl, by rw [HS.out, HPQ.out]; rfl, below_drewN (HN.out _) _⟩
        case measure => simp [intOf]; omega
      · cases q
        · go_wp2_with fail
          go_quiet (fail)
          go_wp2
          go_roundw
          case rel => exact ⟨k + 1, by omega, by go_num, by rw [HS.out, HPQ.out]; rfl, by rw [HS.out, HPQ.out]; rfl, below_drewN (HN.out _) _⟩
          case measure => simp [intOf]; omega
        · go_wp2_with fail
          go_quiet (fail)
          go_wp2
          go_roundw
          case rel => exact ⟨k + 1, by omega, by go_num, by rw [HS.out, HPQ.out]; rfl, by rw [HS.out, HPQ.out]; rfl, below_drewN (HN.out _) _⟩
          case measure => simp [intOf]; omega
    · obtain rfl : k = n := by omega
      go_wp2
      go_ret2
      exact ⟨by rw [HA.out.1, HA.out.2]; rfl, HB.out⟩

set_option maxHeartbeats 2000000 in
theorem kept_any (H W : Nat → Cel) (n : Nat) (hn : n ≤ 24) (ah : Option Addr) (ch : Nat) (aw : Option Addr) (cw : Nat) (w : World) (rh : RdS w ah n H) (rw_ : RdS w aw n W) :
    Calls Tryd.prog 30 #[.slice ah n ch, .slice aw n cw] w fun e w' => e = .returned (.int .i64 (keptD H W n)) ∧ Below w.heap.size w w' := by
  have HH : Hid (∀ w', Below w.heap.size w w' → RdS w' ah n H) := fun w' hb => rh.below hb
  have HW : Hid (∀ w', Below w.heap.size w w' → RdS w' aw n W) := fun w' hb => rw_.below hb
  clear rh rw_
  go_enter Tryd.func30, Tryd.ntmps30
  go_wp2
  go_loopw [5, 10] (fun a i wr => ∃ k : Nat, k ≤ n ∧ i = .int .i64 k ∧ a = .int .i64 (keptD H W k) ∧ Below w.heap.size w wr) (fun _ i _ => n - (intOf i).toNat)
  case atStart => exact ⟨0, Nat.zero_le _, rfl, rfl, Below.refl _ _⟩
  case round =>
    obtain ⟨k, hk, rfl, rfl, hb⟩ := hrel
    have HB : Hid (Below w.heap.size w wr) := hb
    have hbd := keptD_bd H W k
    obtain ⟨a, ha⟩ : ∃ a, a = keptD H W k := ⟨_, rfl⟩
    rw [← ha] at hbd ⊢
    have HA : Hid (a = keptD H W k) := ha
    clear ha hb
    obtain ⟨ha0, ha1⟩ := hbd
    by_cases hlt : k < n
    · obtain ⟨bh, oh, rfl, hch⟩ := (HH.out wr HB.out).resolve_left (by omega)
      obtain ⟨bw, ow, rfl, hcw⟩ := (HW.out wr HB.out).resolve_left (by omega)
      obtain ⟨t0, t1, t2, t3⟩ := hch k hlt
      obtain ⟨s0, s1, s2, s3⟩ := hcw k hlt
      have hlh := World.block_lt_of_cell? _ _ t0
      have hlw := World.block_lt_of_cell? _ _ s0
      simp only at hlh hlw
      have hlt' : (k : Int) < (n : Int) := by omega
      have hk0 : (0 : Int) ≤ (k : Int) := by omega
      obtain ⟨y, hy⟩ : ∃ y, y = H k := ⟨_, rfl⟩
      obtain ⟨x, hx⟩ : ∃ x, x = W k := ⟨_, rfl⟩
      rw [← hy] at t0 t1 t2 t3
      rw [← hx] at s0 s1 s2 s3
      have HS : Hid (keptD H W (k + 1) = if keepB y x then a + 1 else a) := by
        show keptD H W (k + 1) = _
        rw [keptD_succ, ← hy, ← hx, ← HA.out]
      have HN : Hid (∀ o : Obj, Below w.heap.size w (wr.alloc o)) := fun o => HB.out.trans ((below1 wr o).mono HB.out.size)
      obtain ⟨p, hp⟩ : ∃ p, p = celB x noCel := ⟨_, rfl⟩
      obtain ⟨q, hq⟩ : ∃ q, q = celB y x := ⟨_, rfl⟩
      have E1 : ∀ w, (binOp .neq 33 (.agg #[.int .i64 x.ch, .int .i64 x.ink, .int .i64 x.pic, .bool x.bold]) (.agg #[.int .i64 0, .int .i64 0, .int .i64 0, .bool false])).run Tryd.prog w = .ok (.bool !p) w := fun w => by rw [hp]; exact neq_cell x noCel w
      have E2 : ∀ w, (binOp .eql 33 (.agg #[.int .i64 y.ch, .int .i64 y.ink, .int .i64 y.pic, .bool y.bold]) (.agg #[.int .i64 x.ch, .int .i64 x.ink, .int .i64 x.pic, .bool x.bold])).run Tryd.prog w = .ok (.bool q) w := fun w => by rw [hq]; exact eql_cell y x w
      have HPQ : Hid (keepB y x = (!p && q)) := by show keepB y x = _; rw [hp, hq]; rfl
      clear hch hcw hy hx hp hq HA HB HH HW
      cases p
      · cases q
        · go_wp2_with fail
          go_quiet (fail)
          go_wp2
          go_roundw
          case rel => exact ⟨k + 1, by omega, by go_num, by rw [HS.out, HPQ.out]; rfl, below_drewN (HN.out _) _⟩
          case measure => simp [intOf]; omega
        · go_wp2_with fail
          go_quiet (fail)
          go_wp2
          go_roundw
          case rel => exact ⟨k + 1, by omega, by go_num, by rw [HS.out, HPQ.out]; rfl, below_drewN (HN.out _) _⟩
          case measure => simp [intOf]; omega
      · go_wp2_with fail
        go_quiet (fail)
        go_wp2
        go_roundw
        case rel => exact ⟨k + 1, by omega, by go_num, by rw [HS.out, HPQ.out]; rfl, below_drewN (HN.out _) _⟩
        case measure => simp [intOf]; omega
    · obtain rfl : k = n := by omega
      go_wp2
      go_ret
      exact ⟨by rw [HA.out]; rfl, HB.out⟩

end Go.Proofs.YtpichplhidiokabDoor
