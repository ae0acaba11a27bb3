/- What the document's own 'drawn' does to a screen. -/
import Derived.Test.YteenppbpjdldgaaGPic
import Derived.Test.YteenppbpjdldgaaGTwo
import Derived.Laws.IdiomStrings
import Derived.Deep.CutRange
namespace Go.Proofs.Yteenppbpjdldgaa
open Go.RowKit

theorem conv_bytes (W : World) (s : ByteArray) (N : Nat) (hN : W.heap.size = N) : ∃ C, (convert 9 64 (.string s)).run Try.prog W = .ok (.slice (some ⟨N, 0, none⟩) s.size C) (W.alloc (.cells (bytesRow s C) 5 ((bytesRow s C).size, (bytesRow s C).size + 1))).drew := by
  subst hN
  exact ⟨_, run_bytes_of_string (P := Try.prog) W 9 64 5 s Try.underlying9 Try.underlying64 Try.underlying5⟩

theorem wrap_u8 (y : Int) (h0 : 0 ≤ y) (h1 : y ≤ 255) : IntKind.i64.wrap y = y := by rw [IntKind.wrap_i64]; omega

set_option maxRecDepth 2000 in
set_option maxHeartbeats 4000000 in
theorem drawn_any (g : Gr) (h : OkG g) (b cap : Nat) (w : World) (hS : Scr w b g.n g.f) (hc : g.n ≤ cap) (s : ByteArray) (hs : s.size ≤ 140737488355328) (fx : Nat → Cel) (hfx : fx = (picS g s.data.toList).1) :
    Calls Try.prog 57 #[gval g (some ⟨b, 0, none⟩) cap, .string s] w (GEnd w b cap ⟨g.wide, g.high, g.n, fx, g.row, g.col, g.ink, g.bold, g.top, g.bottom⟩) := by
  have hlt := hS.lt
  have HS : Hid (Scr w b g.n g.f) := hS
  have HO : Hid (OkG g ∧ g.n ≤ cap) := ⟨h, hc⟩
  have HFX : Hid (fx = (picS g s.data.toList).1) := hfx
  have hw0 := h.w1
  have hw1 := h.w2
  have hc0 := h.c1
  have hc1 := h.c2
  obtain ⟨k0, hk0⟩ : ∃ k, (if g.wide - 1 < g.col then g.wide - 1 else g.col) = k := ⟨_, rfl⟩
  have HK0 : Hid (k0 = hereC g) := by show k0 = hereC g; rw [← hk0]; unfold hereC; split <;> omega
  have hww : IntKind.i64.wrap (g.wide - 1) = g.wide - 1 := by rw [IntKind.wrap_i64]; omega
  obtain ⟨C, hcv⟩ := conv_bytes ((w.alloc (gbox g (some ⟨b, 0, none⟩) cap)).alloc gzero).drew s (w.heap.size + 1 + 1) (by simp)
  clear hS h hc hfx
  go_enter Try.func57, Try.ntmps57
  go_upto_region 1 with fail
  go_cut [5, 6, 7] from 8 to 72 (fun s5 s6 s7 wx => s5 = .int .i64 g.row ∧ s6 = .int .i64 k0 ∧ s7 = .int .i64 k0 ∧ wx = ((w.alloc (gbox g (some ⟨b, 0, none⟩) cap)).alloc gzero).drew)
  case first =>
    go_region_held3 (fun w' => w'.cell? ⟨w.heap.size, 0, none⟩ = some (.int .i64 g.wide) ∧ w'.cell? ⟨w.heap.size, 3, none⟩ = some (.int .i64 g.row) ∧ w'.cell? ⟨w.heap.size, 4, none⟩ = some (.int .i64 g.col)) (first | go_keep | (simp [*, World.cell?_alloc_past])) (fail)
    all_goals (go_wp2_with fail; go_meet; exact ⟨rfl, rfl, rfl, rfl⟩)
  case rest =>
    obtain ⟨rfl, rfl, rfl, rfl⟩ := hcut
    go_wp2
    obtain ⟨ys, hys⟩ : ∃ ys, ys = bytesRow s C := ⟨_, rfl⟩
    rw [← hys]
    clear hcv
    go_loopw [5, 6, 28] (fun r c i wr => ∃ k : Nat, k ≤ s.size ∧ i = .int .i64 k ∧ r = .int .i64 (picS g (s.data.toList.take k)).2.1 ∧ c = .int .i64 (picS g (s.data.toList.take k)).2.2 ∧ PMid w g b cap (picS g (s.data.toList.take k)).1 wr ∧ wr.heap[w.heap.size + 2]? = some (.cells ys 5 (ys.size, ys.size + 1))) (fun _ _ i _ => s.size - (intOf i).toNat)
    case atStart =>
      refine ⟨0, Nat.zero_le _, rfl, rfl, ?_, ?_, ?_⟩
      · show Value.int .i64 k0 = _
        rw [HK0.out]
        rfl
      · have hp : PMid w g b cap g.f ((w.alloc (gbox g (some ⟨b, 0, none⟩) cap)).alloc gzero) := ⟨at_old (at_new w _) _, at_new1 w _ _, (HS.out.alloc _).alloc _, grown_alloc (grown_alloc (grown_refl _ _) _) _⟩
        exact (hp.drew.alloc _).drew
      · exact at_new2 w _ _ _
    case round =>
      obtain ⟨k, hk, rfl, rfl, rfl, hp, hby0⟩ := hrel
      have hb := pic_bound HO.out.1 (s.data.toList.take k)
      have hln : (s.data.toList.take k).length ≤ k := List.length_take_le _ _
      obtain ⟨st, hst⟩ : ∃ st, st = picS g (s.data.toList.take k) := ⟨_, rfl⟩
      rw [← hst] at hb hp ⊢
      obtain ⟨f, R, C'⟩ := st
      simp only at hb hp ⊢
      have HP : Hid (PMid w g b cap f wr ∧ wr.heap[w.heap.size + 2]? = some (.cells ys 5 (ys.size, ys.size + 1))) := ⟨hp, hby0⟩
      obtain ⟨hb1, hb2, hb3, hb4⟩ := hb
      have hb2' : R ≤ 140737488355400 := by omega
      have hb4' : C' ≤ 140737488355400 := by omega
      by_cases hlk : k < s.size
      · have HNX : Hid (picS g (s.data.toList.take (k + 1)) = pic1 g (f, R, C') s[k]) := by
          show picS g _ = _
          rw [take_snoc s k hlk, pic_snoc, ← hst]
        obtain ⟨⟨x0, x1, x2, x3, x4, x5, x6, x7, x8⟩, z⟩ := nine hp.box
        have hlk' : (k : Int) < (s.size : Int) := by omega
        have hkk0 : (0 : Int) ≤ (k : Int) := by omega
        have hby : s[k].toNat < 256 := UInt8.toNat_lt _
        obtain ⟨y, hy⟩ : ∃ y : Int, (s[k].toNat : Int) = y := ⟨_, rfl⟩
        have hy0 : 0 ≤ y := by omega
        have hy1 : y ≤ 255 := by omega
        have ycell : wr.cell? ⟨w.heap.size + 2, k, none⟩ = some (.int .u8 y) := by
          rw [cell_of_row wr (w.heap.size + 2) k _ 5 _ hby0, hys, ← hy]
          exact bytesRow_at s C k hlk
        have hywr := wrap_u8 y hy0 hy1
        clear hst hln hb2 hb4 hys hby0
        by_cases hd : s[k] = 45
        · have HD : Hid (picS g (s.data.toList.take (k + 1)) = (f, R + 1, k0)) := by
            show picS g _ = _
            rw [HNX.out, HK0.out]; unfold pic1; rw [if_pos hd]
          have hy45 : y = 45 := by rw [← hy, hd]; rfl
          subst hy45
          clear hp hd hby hy0 hy1 hy hk0
          go_wp2
          go_roundw
          case rel => exact ⟨k + 1, by omega, by go_num, by rw [HD.out], by rw [HD.out], by rw [HD.out]; exact HP.out.1, HP.out.2⟩
          case measure => simp [intOf]; omega
        · have hy45 : (y == 45) = false := by
            have : y ≠ 45 := fun e => hd (by apply UInt8.toNat_inj.1; show s[k].toNat = 45; omega)
            simp [this]
          have hc97 : 97 ≤ s[k].toNat ∧ s[k].toNat ≤ 104 ↔ 97 ≤ y ∧ y ≤ 104 := by omega
          by_cases hr : 97 ≤ y ∧ y ≤ 104
          · have e1 : 1 ≤ y - 96 := by omega
            have e2 : y - 96 ≤ 8 := by omega
            by_cases hin : R < g.high ∧ C' < g.wide
            · have HD : Hid (picS g (s.data.toList.take (k + 1)) = (putF f (R * g.wide + C').toNat ⟨0, 0, y - 96, false⟩, R, C' + 1)) := by
                show picS g _ = _
                rw [HNX.out]; unfold pic1; rw [if_neg hd]; simp only
                rw [if_pos ⟨(hc97.2 hr).1, (hc97.2 hr).2, hin⟩, hy]
              obtain ⟨q1, q2, _⟩ := HO.out.1.nums
              have q3 := mul_bound hb1 hin.1 (w := g.wide) (by omega)
              obtain ⟨P, hP⟩ : ∃ P : Nat, R * g.wide = P := ⟨(R * g.wide).toNat, by omega⟩
              obtain ⟨I, hI⟩ : ∃ I : Nat, (P : Int) + C' = I := ⟨((P : Int) + C').toNat, by omega⟩
              have hwr1 : IntKind.i64.wrap (R * g.wide) = (P : Int) := by rw [hP, IntKind.wrap_i64]; omega
              have hwr2 : IntKind.i64.wrap ((P : Int) + C') = (I : Int) := by rw [hI, IntKind.wrap_i64]; omega
              have hwr3 : IntKind.i64.wrap (I : Int) = (I : Int) := by rw [IntKind.wrap_i64]; omega
              have hIn : I < g.n := by omega
              have hI0 : (0 : Int) ≤ (I : Int) := by omega
              have hI1 : (I : Int) < (g.n : Int) := by omega
              obtain ⟨t0, t1, t2, t3⟩ := hp.scr.cells I hIn
              have hfr : ∀ j, wr.frozen? ⟨b, j, none⟩ = false := hp.scr.free
              have HI : Hid (I = (R * g.wide + C').toNat ∧ I < g.n) := ⟨by omega, hIn⟩
              obtain ⟨c0, hc0'⟩ : ∃ c, c = f I := ⟨_, rfl⟩
              rw [← hc0'] at t0 t1 t2 t3
              obtain ⟨hin1, hin2⟩ := hin
              clear hc0' hp hd hby hc97 hr q1 q2 q3 hP HNX hIn hy hk0
              go_wp2
              go_roundw
              case rel =>
                obtain ⟨i1, i2⟩ := HI.out
                have hq := HP.out.1.put hlt I (I * 4) (I * 4 + 1) (I * 4 + 2) (I * 4 + 3) ⟨0, 0, y - 96, false⟩ i2 rfl rfl rfl rfl
                rw [i1] at hq
                refine ⟨k + 1, by omega, by go_num, by rw [HD.out], by rw [HD.out], ?_, ?_⟩
                · rw [HD.out, ← i1]
                  rw [← i1] at hq
                  exact hq
                · exact other_set (other_set (other_set (other_set HP.out.2 (by omega)) (by omega)) (by omega)) (by omega)
              case measure => simp [intOf]; omega
            · have HD : Hid (picS g (s.data.toList.take (k + 1)) = (f, R, C' + 1)) := by
                show picS g _ = _
                rw [HNX.out]; unfold pic1; rw [if_neg hd]; simp only
                rw [if_neg (fun hh => hin hh.2.2)]
              by_cases hin1 : R < g.high
              · have hin2 : g.wide ≤ C' := by omega
                clear hp hd hby hc97 hr hin HNX hy hk0
                go_wp2
                go_roundw
                case rel => exact ⟨k + 1, by omega, by go_num, by rw [HD.out], by rw [HD.out], by rw [HD.out]; exact HP.out.1, HP.out.2⟩
                case measure => simp [intOf]; omega
              · have hin1' : g.high ≤ R := by omega
                clear hp hd hby hc97 hr hin HNX hy hin1 hk0
                go_wp2
                go_roundw
                case rel => exact ⟨k + 1, by omega, by go_num, by rw [HD.out], by rw [HD.out], by rw [HD.out]; exact HP.out.1, HP.out.2⟩
                case measure => simp [intOf]; omega
          · have HD : Hid (picS g (s.data.toList.take (k + 1)) = (f, R, C' + 1)) := by
              show picS g _ = _
              rw [HNX.out]; unfold pic1; rw [if_neg hd]; simp only
              rw [if_neg (fun hh => hr (hc97.1 ⟨hh.1, hh.2.1⟩))]
            by_cases h97 : 97 ≤ y
            · have e1 : 1 ≤ y - 96 := by omega
              have e2 : 8 < y - 96 := by omega
              clear hp hd hby hc97 hr HNX hy hk0
              go_wp2
              go_roundw
              case rel => exact ⟨k + 1, by omega, by go_num, by rw [HD.out], by rw [HD.out], by rw [HD.out]; exact HP.out.1, HP.out.2⟩
              case measure => simp [intOf]; omega
            · have e1 : y - 96 < 1 := by omega
              clear hp hd hby hc97 hr HNX h97 hy hk0
              go_wp2
              go_roundw
              case rel => exact ⟨k + 1, by omega, by go_num, by rw [HD.out], by rw [HD.out], by rw [HD.out]; exact HP.out.1, HP.out.2⟩
              case measure => simp [intOf]; omega
      · have HE : Hid (fx = f) := by
          show fx = f
          rw [List.take_of_length_le (by simp; omega)] at hst
          rw [HFX.out, ← hst]
        obtain ⟨⟨x0, x1, x2, x3, x4, x5, x6, x7, x8⟩, z⟩ := nine hp.box
        obtain ⟨⟨u0, u1, u2, u3, u4, u5, u6, u7, u8⟩, v⟩ := nine hp.res
        clear hp hst hln hby0 hys
        go_wp2
        refine bodyPost_ret (v := gval ⟨g.wide, g.high, g.n, f, g.row, g.col, g.ink, g.bold, g.top, g.bottom⟩ (some ⟨b, 0, none⟩) cap) (by simp [results, Try.results57, go_sem, *]) rfl ?_
        rw [HE.out]
        exact ⟨rfl, fin9 (w := w) ⟨HP.out.1.scr, HP.out.1.grown⟩ (by omega) hlt _ _ _ _ _ _ _ _ _⟩

end Go.Proofs.Yteenppbpjdldgaa
