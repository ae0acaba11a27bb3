/- What 'pictured' does to a screen. -/
import Derived.Test.YtpichplhidiokacGreatDoorGDones
import Derived.Test.YtpichplhidiokacGreatDoorGNum
namespace Go.Proofs.YtpichplhidiokacGreatDoor
open Go.RowKit

/-- In the midst of a picture: the box holds the screen, the list what is drawn so far. -/
structure PMid (w : World) (g : Gr) (b cap : Nat) (f : Nat → Cel) (wr : World) : Prop where
  box : wr.heap[w.heap.size]? = some (gbox g (some ⟨b, 0, none⟩) cap)
  res : wr.heap[w.heap.size + 1]? = some gzero
  scr : Scr wr b g.n f
  grown : w.grownBy wr (some b)

theorem PMid.alloc {w : World} {g : Gr} {b cap : Nat} {f : Nat → Cel} {wr : World} (h : PMid w g b cap f wr) (o : Obj) : PMid w g b cap f (wr.alloc o) :=
  ⟨at_old h.box o, at_old h.res o, h.scr.alloc o, grown_alloc h.grown o⟩
theorem PMid.drew {w : World} {g : Gr} {b cap : Nat} {f : Nat → Cel} {wr : World} (h : PMid w g b cap f wr) : PMid w g b cap f wr.drew :=
  ⟨h.box, h.res, h.scr, grown_drew h.grown⟩
theorem PMid.put {w : World} {g : Gr} {b cap : Nat} {f : Nat → Cel} {wr : World} (h : PMid w g b cap f wr) (hlt : b < w.heap.size) (i o0 o1 o2 o3 : Nat) (c : Cel) (hi : i < g.n) (e0 : o0 = i * 4) (e1 : o1 = i * 4 + 1) (e2 : o2 = i * 4 + 2) (e3 : o3 = i * 4 + 3) :
    PMid w g b cap (putF f i c) ((((wr.setCell ⟨b, o0, none⟩ (.int .i64 c.ch)).setCell ⟨b, o1, none⟩ (.int .i64 c.ink)).setCell ⟨b, o2, none⟩ (.int .i64 c.pic)).setCell ⟨b, o3, none⟩ (.bool c.bold)) :=
  ⟨other_set (other_set (other_set (other_set h.box (by omega)) (by omega)) (by omega)) (by omega), other_set (other_set (other_set (other_set h.res (by omega)) (by omega)) (by omega)) (by omega), h.scr.put i o0 o1 o2 o3 c hi e0 e1 e2 e3, grown_put h.grown⟩

theorem take_snoc (s : ByteArray) (k : Nat) (h : k < s.size) : s.data.toList.take (k + 1) = s.data.toList.take k ++ [s[k]] := by
  rw [List.take_succ_eq_append_getElem (by simpa using h)]; rfl
theorem pic_snoc (g : Gr) (l : List UInt8) (c : UInt8) : picS g (l ++ [c]) = pic1 g (picS g l) c := by
  unfold picS
  rw [List.foldl_append]
  rfl
theorem pic_bound {g : Gr} (h : OkG g) (l : List UInt8) : 0 ≤ (picS g l).2.1 ∧ (picS g l).2.1 ≤ 24 + l.length ∧ 0 ≤ (picS g l).2.2 ∧ (picS g l).2.2 ≤ 24 + l.length := by
  have hk1 : 0 ≤ hereC g := by have := h.c1; have := h.w1; unfold hereC; omega
  have hk2 : hereC g ≤ 24 := by have := h.w2; unfold hereC; omega
  suffices H : ∀ (l : List UInt8) (s : (Nat → Cel) × Int × Int) (A : Int), 24 ≤ A → (0 ≤ s.2.1 ∧ s.2.1 ≤ A ∧ 0 ≤ s.2.2 ∧ s.2.2 ≤ A) → 0 ≤ (l.foldl (pic1 g) s).2.1 ∧ (l.foldl (pic1 g) s).2.1 ≤ A + l.length ∧ 0 ≤ (l.foldl (pic1 g) s).2.2 ∧ (l.foldl (pic1 g) s).2.2 ≤ A + l.length by
    refine H l _ 24 (Int.le_refl _) ⟨h.r1, ?_, hk1, hk2⟩
    have := h.r2
    have := h.h2
    show g.row ≤ 24
    omega
  intro l
  induction l with
  | nil => intro s A _ hs; simpa using hs
  | cons c r ih =>
    intro s A hA hs
    have h1 : 0 ≤ (pic1 g s c).2.1 ∧ (pic1 g s c).2.1 ≤ A + 1 ∧ 0 ≤ (pic1 g s c).2.2 ∧ (pic1 g s c).2.2 ≤ A + 1 := by
      unfold pic1
      split
      · exact ⟨by simp only; omega, by simp only; omega, by simp only; omega, by simp only; omega⟩
      · exact ⟨by simp only; omega, by simp only; omega, by simp only; omega, by simp only; omega⟩
    have := ih (pic1 g s c) (A + 1) (by omega) h1
    simp only [List.foldl_cons, List.length_cons] at this ⊢
    omega

theorem rows_at (g : Gr) (h : OkG g) (b cap : Nat) (w : World) (hc : g.n ≤ cap) (r : Int) (h0 : 0 ≤ r) (h1 : r < g.high) :
    Calls Tryz.prog 126 #[gval g (some ⟨b, 0, none⟩) cap, .int .i64 r, .int .i64 (r + 1)] w fun e w' => e = .returned (.slice (some ⟨b, (r * g.wide).toNat * 4, none⟩) g.wide.toNat (cap - (r * g.wide).toNat)) ∧ w' = w.alloc (gbox g (some ⟨b, 0, none⟩) cap) := by
  obtain ⟨q1, q2, _⟩ := h.nums
  have hw := h.w1
  have q3 := mul_bound h0 h1 (w := g.wide) (by omega)
  have e : (r + 1) * g.wide = r * g.wide + g.wide := by rw [Int.add_mul]; omega
  have k := rows_any g b cap r (r + 1) w (by omega) (by omega) (by omega) (by omega) hc
  rw [e] at k
  have e2 : (r * g.wide + g.wide).toNat - (r * g.wide).toNat = g.wide.toNat := by omega
  rw [e2] at k
  exact k

set_option maxRecDepth 2000 in
set_option maxHeartbeats 4000000 in
theorem pictured_any (g : Gr) (h : OkG g) (b cap : Nat) (w : World) (hS : Scr w b g.n g.f) (hc : g.n ≤ cap) (s : ByteArray) (hs : s.size ≤ 140737488355328) (fx : Nat → Cel) (hfx : fx = (picS g s.data.toList).1) :
    Calls Tryz.prog 111 #[gval g (some ⟨b, 0, none⟩) cap, .string s] w (GEnd w b cap ⟨g.wide, g.high, g.n, fx, g.row, g.col, g.ink, g.bold, g.top, g.bottom⟩) := by
  have hlt := hS.lt
  have HS : Hid (Scr w b g.n g.f) := hS
  have HO : Hid (OkG g ∧ g.n ≤ cap) := ⟨h, hc⟩
  have HFX : Hid (fx = (picS g s.data.toList).1) := hfx
  have hw0 := h.w1
  have hw1 := h.w2
  have hc0 := h.c1
  have hc1 := h.c2
  obtain ⟨k0, hk0⟩ : ∃ k, k = hereC g := ⟨_, rfl⟩
  have HH : Hid (∀ w, Calls Tryz.prog 127 #[gval g (some ⟨b, 0, none⟩) cap] w fun e w' => e = .returned (.int .i64 k0) ∧ w' = w.alloc (gbox g (some ⟨b, 0, none⟩) cap)) := by
    intro w
    rw [hk0]
    exact here_any g _ cap w ⟨by omega, by omega⟩
  have HK0 : Hid (k0 = hereC g) := hk0
  clear hS h hc hfx hk0
  go_enter Tryz.func111, Tryz.ntmps111
  go_wp2_with fail
  go_region_held3 (fun w' => w'.cell? ⟨w.heap.size, 0, none⟩ = some (.int .i64 g.wide) ∧ w'.cell? ⟨w.heap.size, 1, none⟩ = some (.int .i64 g.high) ∧ w'.cell? ⟨w.heap.size, 2, none⟩ = some (.slice (some ⟨b, 0, none⟩) g.n cap) ∧ w'.cell? ⟨w.heap.size, 3, none⟩ = some (.int .i64 g.row) ∧ w'.cell? ⟨w.heap.size, 4, none⟩ = some (.int .i64 g.col) ∧ w'.cell? ⟨w.heap.size, 5, none⟩ = some (.int .i64 g.ink) ∧ w'.cell? ⟨w.heap.size, 6, none⟩ = some (.bool g.bold) ∧ w'.cell? ⟨w.heap.size, 7, none⟩ = some (.int .i64 g.top) ∧ w'.cell? ⟨w.heap.size, 8, none⟩ = some (.int .i64 g.bottom)) (first | go_keep | (simp [*, World.cell?_alloc_past]))
    ((go_at_call 127; refine (HH.out _).mono ?_; rintro e w1 ⟨rfl, rfl⟩))
  go_wp2
  go_loopw [5, 6, 15] (fun r c i wr => ∃ k : Nat, k ≤ s.size ∧ i = .int .i64 k ∧ r = .int .i64 (picS g (s.data.toList.take k)).2.1 ∧ c = .int .i64 (picS g (s.data.toList.take k)).2.2 ∧ PMid w g b cap (picS g (s.data.toList.take k)).1 wr) (fun _ _ i _ => s.size - (intOf i).toNat)
  case atStart =>
    refine ⟨0, Nat.zero_le _, rfl, rfl, ?_, ?_⟩
    · show Value.int .i64 k0 = _
      rw [HK0.out]
      rfl
    · have hp : PMid w g b cap g.f ((w.alloc (gbox g (some ⟨b, 0, none⟩) cap)).alloc gzero) := ⟨at_old (at_new w _) _, at_new1 w _ _, (HS.out.alloc _).alloc _, grown_alloc (grown_alloc (grown_refl _ _) _) _⟩
      exact (hp.alloc _).drew
  case round =>
    obtain ⟨k, hk, rfl, rfl, rfl, hp⟩ := hrel
    have hb := pic_bound HO.out.1 (s.data.toList.take k)
    have hln : (s.data.toList.take k).length ≤ k := List.length_take_le _ _
    obtain ⟨st, hst⟩ : ∃ st, st = picS g (s.data.toList.take k) := ⟨_, rfl⟩
    rw [← hst] at hb hp ⊢
    obtain ⟨f, R, C⟩ := st
    simp only at hb hp ⊢
    have HP : Hid (PMid w g b cap f wr) := hp
    obtain ⟨hb1, hb2, hb3, hb4⟩ := hb
    have hb2' : R ≤ 140737488355400 := by omega
    have hb4' : C ≤ 140737488355400 := by omega
    by_cases hlk : k < s.size
    · have HNX : Hid (picS g (s.data.toList.take (k + 1)) = pic1 g (f, R, C) s[k]) := by
        show picS g _ = _
        rw [take_snoc s k hlk, pic_snoc, ← hst]
      obtain ⟨⟨x0, x1, x2, x3, x4, x5, x6, x7, x8⟩, z⟩ := nine hp.box
      have hsz : w.heap.size < wr.heap.size := (Array.getElem?_eq_some_iff.1 hp.box).1
      have hlk' : (k : Int) < (s.size : Int) := by omega
      have hk0 : (0 : Int) ≤ (k : Int) := by omega
      have hby : s[k].toNat < 256 := UInt8.toNat_lt _
      obtain ⟨y, hy⟩ : ∃ y : Int, (s[k].toNat : Int) = y := ⟨_, rfl⟩
      have hy0 : 0 ≤ y := by omega
      have hy1 : y ≤ 255 := by omega
      clear hst hln hb2 hb4
      by_cases hd : s[k] = 45
      · have HD : Hid (picS g (s.data.toList.take (k + 1)) = (f, R + 1, k0)) := by
          show picS g _ = _
          rw [HNX.out, HK0.out]; unfold pic1; rw [if_pos hd]
        have hy45 : y = 45 := by rw [← hy, hd]; rfl
        subst hy45
        clear hp hd hby hy0 hy1
        go_wp2_with (go_at_call 127; refine (HH.out _).mono ?_; rintro e w1 ⟨rfl, rfl⟩)
        go_roundw
        case rel => exact ⟨k + 1, by omega, by go_num, by rw [HD.out], by rw [HD.out], by rw [HD.out]; exact HP.out.alloc _⟩
        case measure => simp [intOf]; omega
      · have hy45 : (y == 45) = false := by
          have : y ≠ 45 := fun e => hd (by apply UInt8.toNat_inj.1; show s[k].toNat = 45; omega)
          simp [this]
        have hc97 : 97 ≤ s[k].toNat ∧ s[k].toNat ≤ 104 ↔ 97 ≤ y ∧ y ≤ 104 := by omega
        by_cases hr : 97 ≤ y ∧ y ≤ 104
        · have e1 : 1 ≤ y - 97 + 1 := by omega
          have e2 : y - 97 + 1 ≤ 8 := by omega
          by_cases hin : R < g.high ∧ C < g.wide
          · have HD : Hid (picS g (s.data.toList.take (k + 1)) = (putF f (R * g.wide + C).toNat ⟨0, 0, y - 97 + 1, false⟩, R, C + 1)) := by
              show picS g _ = _
              rw [HNX.out]; unfold pic1; rw [if_neg hd]; simp only
              rw [if_pos ⟨(hc97.2 hr).1, (hc97.2 hr).2, hin⟩, hy, show y - 97 + 1 = y - 96 by omega]
            have HHS : Hid (∀ w, Calls Tryz.prog 88 #[gval g (some ⟨b, 0, none⟩) cap, .int .i64 R, .int .i64 C] w fun e w' => e = .returned (.bool true) ∧ w' = w.alloc (gbox g (some ⟨b, 0, none⟩) cap)) := fun w => by
              have := has_any g (some ⟨b, 0, none⟩) cap R C w
              rw [decide_eq_true ⟨hb1, hin.1, hb3, hin.2⟩] at this
              exact this
            obtain ⟨q1, q2, _⟩ := HO.out.1.nums
            have q3 := mul_bound hb1 hin.1 (w := g.wide) (by omega)
            obtain ⟨P, hP⟩ : ∃ P, P = (R * g.wide).toNat := ⟨_, rfl⟩
            obtain ⟨Wd, hWd⟩ : ∃ W, W = g.wide.toNat := ⟨_, rfl⟩
            have hwrap : IntKind.i64.wrap (R + 1) = R + 1 := by rw [IntKind.wrap_i64]; omega
            have HRW : Hid (∀ w v, v = R + 1 → Calls Tryz.prog 126 #[gval g (some ⟨b, 0, none⟩) cap, .int .i64 R, .int .i64 v] w fun e w' => e = .returned (.slice (some ⟨b, P * 4, none⟩) Wd (cap - P)) ∧ w' = w.alloc (gbox g (some ⟨b, 0, none⟩) cap)) := by
              intro w v hv
              rw [hP, hv, hWd]
              exact rows_at g HO.out.1 b cap w HO.out.2 R hb1 hin.1
            have HWR : Hid (IntKind.i64.wrap (R + 1) = R + 1) := hwrap
            obtain ⟨I, hI⟩ : ∃ I, I = P + C.toNat := ⟨_, rfl⟩
            have hIn : I < g.n := by omega
            obtain ⟨t0, t1, t2, t3⟩ := hp.scr.cells I hIn
            have hoff : I * 4 = P * 4 + C.toNat * 4 := by omega
            rw [hoff] at t0 t1 t2 t3
            have hfr : ∀ j, wr.frozen? ⟨b, j, none⟩ = false := hp.scr.free
            have hblt : b < wr.heap.size := hp.scr.lt
            have hCW : C < (Wd : Int) := by omega
            have HI : Hid (I = (R * g.wide + C).toNat ∧ I < g.n ∧ I * 4 = P * 4 + C.toNat * 4) := ⟨by omega, hIn, hoff⟩
            obtain ⟨c0, hc0'⟩ : ∃ c, c = f I := ⟨_, rfl⟩
            rw [← hc0'] at t0 t1 t2 t3
            clear hc0' hp hd hby hc97 hr hin q1 q2 q3 hP hWd hI hIn hoff hwrap HNX
            go_wp2_with (first
              | (go_at_call 88; refine (HHS.out _).mono ?_; rintro e w1 ⟨rfl, rfl⟩)
              | (go_at_call 126; refine (HRW.out _ _ (by first | exact HWR.out | rfl)).mono ?_; rintro e w1 ⟨rfl, rfl⟩))
            go_roundw
            case rel =>
              obtain ⟨i1, i2, i3⟩ := HI.out
              refine ⟨k + 1, by omega, by go_num, by rw [HD.out], by rw [HD.out], ?_⟩
              rw [HD.out]
              have hq := HP.out.put hlt I (P * 4 + C.toNat * 4) (P * 4 + C.toNat * 4 + 1) (P * 4 + C.toNat * 4 + 2) (P * 4 + C.toNat * 4 + 3) ⟨0, 0, y - 97 + 1, false⟩ i2 (by omega) (by omega) (by omega) (by omega)
              rw [i1] at hq
              exact (hq.alloc _).alloc _
            case measure => simp [intOf]; omega
          · have HD : Hid (picS g (s.data.toList.take (k + 1)) = (f, R, C + 1)) := by
              show picS g _ = _
              rw [HNX.out]; unfold pic1; rw [if_neg hd]; simp only
              rw [if_neg (fun hh => hin hh.2.2)]
            have HHS : Hid (∀ w, Calls Tryz.prog 88 #[gval g (some ⟨b, 0, none⟩) cap, .int .i64 R, .int .i64 C] w fun e w' => e = .returned (.bool false) ∧ w' = w.alloc (gbox g (some ⟨b, 0, none⟩) cap)) := fun w => by
              have := has_any g (some ⟨b, 0, none⟩) cap R C w
              rw [decide_eq_false (fun hh => hin ⟨hh.2.1, hh.2.2.2⟩)] at this
              exact this
            clear hp hd hby hc97 hr hin HNX
            go_wp2_with (go_at_call 88; refine (HHS.out _).mono ?_; rintro e w1 ⟨rfl, rfl⟩)
            go_roundw
            case rel => exact ⟨k + 1, by omega, by go_num, by rw [HD.out], by rw [HD.out], by rw [HD.out]; exact HP.out.alloc _⟩
            case measure => simp [intOf]; omega
        · have HD : Hid (picS g (s.data.toList.take (k + 1)) = (f, R, C + 1)) := by
            show picS g _ = _
            rw [HNX.out]; unfold pic1; rw [if_neg hd]; simp only
            rw [if_neg (fun hh => hr (hc97.1 ⟨hh.1, hh.2.1⟩))]
          by_cases h97 : 97 ≤ y
          · have e1 : 1 ≤ y - 97 + 1 := by omega
            have e2 : 8 < y - 97 + 1 := by omega
            clear hp hd hby hc97 hr HNX
            go_wp2
            go_roundw
            case rel => exact ⟨k + 1, by omega, by go_num, by rw [HD.out], by rw [HD.out], by rw [HD.out]; exact HP.out⟩
            case measure => simp [intOf]; omega
          · have e1 : y - 97 + 1 < 1 := by omega
            clear hp hd hby hc97 hr HNX h97
            go_wp2
            go_roundw
            case rel => exact ⟨k + 1, by omega, by go_num, by rw [HD.out], by rw [HD.out], by rw [HD.out]; exact HP.out⟩
            case measure => simp [intOf]; omega
    · have HE : Hid (fx = f) := by
        show fx = f
        rw [List.take_of_length_le (by simp; omega)] at hst
        rw [HFX.out, ← hst]
      obtain ⟨⟨x0, x1, x2, x3, x4, x5, x6, x7, x8⟩, z⟩ := nine hp.box
      obtain ⟨⟨u0, u1, u2, u3, u4, u5, u6, u7, u8⟩, v⟩ := nine hp.res
      clear hp hst hln
      go_wp2
      refine bodyPost_ret (v := gval ⟨g.wide, g.high, g.n, f, g.row, g.col, g.ink, g.bold, g.top, g.bottom⟩ (some ⟨b, 0, none⟩) cap) (by simp [results, Tryz.results111, go_sem, *]) rfl ?_
      rw [HE.out]
      exact ⟨rfl, fin9 (w := w) ⟨HP.out.scr, HP.out.grown⟩ (by omega) hlt _ _ _ _ _ _ _ _ _⟩

end Go.Proofs.YtpichplhidiokacGreatDoor
