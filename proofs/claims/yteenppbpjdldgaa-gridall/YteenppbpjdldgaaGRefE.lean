/- What the document's own 'Resized' makes of a screen. -/
import Derived.Test.YteenppbpjdldgaaGRefA
import Derived.Test.YteenppbpjdldgaaGRefC
import Derived.Test.YteenppbpjdldgaaGRefD
import Derived.Test.YteenppbpjdldgaaGResize3
namespace Go.Proofs.Yteenppbpjdldgaa
open Go.RowKit

/-- The first p cells of a screen of that width. -/
def resN (g : Gr) (wide : Int) (p : Nat) : Nat → Cel := fun i => if i < p then resF g wide i else noCel
theorem resN_put {g : Gr} {W : Int} {p : Nat} {r c : Int} (h1 : 0 ≤ c) (h2 : c < W) (hp : (p : Int) = r * W + c) (i : Nat) : putF (resN g W p) p (atG g r c) i = resN g W (p + 1) i := by
  have hd := div_row (r := r) (c := c) (w := W) h1 h2
  have e : resF g W p = atG g r c := by unfold resF; rw [hp, hd.1, hd.2]
  unfold putF resN
  by_cases h : i = p
  · subst h; rw [if_pos rfl, if_pos (by omega), e]
  · rw [if_neg h]
    by_cases h3 : i < p
    · rw [if_pos h3, if_pos (by omega)]
    · rw [if_neg h3, if_neg (by omega)]

/-- In the midst of 'Resized'. -/
structure QInv (w : World) (g t : Gr) (ao : Option Addr) (cap b c2 T : Nat) (f : Nat → Cel) (wr : World) : Prop where
  one : wr.heap[w.heap.size]? = some (gbox g ao cap)
  res : wr.heap[w.heap.size + 1]? = some gzero
  two : wr.heap[T]? = some (gbox t (some ⟨b, 0, none⟩) c2)
  scr : Scr wr b t.n f
  below : Below w.heap.size w wr
  own : w.heap.size + 2 ≤ b
  far : b < T

theorem QInv.later {w : World} {g t : Gr} {ao : Option Addr} {cap b c2 T : Nat} {f : Nat → Cel} {wr w' : World} (h : QInv w g t ao cap b c2 T f wr) (hb : Below wr.heap.size wr w') : QInv w g t ao cap b c2 T f w' :=
  ⟨below_block hb h.one (Array.getElem?_eq_some_iff.1 h.one).1, below_block hb h.res (Array.getElem?_eq_some_iff.1 h.res).1, below_block hb h.two (Array.getElem?_eq_some_iff.1 h.two).1, h.scr.below hb h.scr.lt, h.below.trans (hb.mono h.below.size), h.own, h.far⟩

theorem QInv.drew {w : World} {g t : Gr} {ao : Option Addr} {cap b c2 T : Nat} {f : Nat → Cel} {wr : World} (h : QInv w g t ao cap b c2 T f wr) : QInv w g t ao cap b c2 T f wr.drew := ⟨h.one, h.res, h.two, h.scr, h.below.drew, h.own, h.far⟩

theorem QInv.put {w : World} {g t : Gr} {ao : Option Addr} {cap b c2 T : Nat} {f : Nat → Cel} {wr : World} (h : QInv w g t ao cap b c2 T f wr) (i o0 o1 o2 o3 : Nat) (c : Cel) (hi : i < t.n) (e0 : o0 = i * 4) (e1 : o1 = i * 4 + 1) (e2 : o2 = i * 4 + 2) (e3 : o3 = i * 4 + 3) :
    QInv w g t ao cap b c2 T (putF f i c) ((((wr.setCell ⟨b, o0, none⟩ (.int .i64 c.ch)).setCell ⟨b, o1, none⟩ (.int .i64 c.ink)).setCell ⟨b, o2, none⟩ (.int .i64 c.pic)).setCell ⟨b, o3, none⟩ (.bool c.bold)) := by
  have h0 := h.own
  have h1 := h.far
  have hB : w.heap.size ≤ b := by omega
  exact ⟨other_set (other_set (other_set (other_set h.one (by omega)) (by omega)) (by omega)) (by omega), other_set (other_set (other_set (other_set h.res (by omega)) (by omega)) (by omega)) (by omega), other_set (other_set (other_set (other_set h.two (by omega)) (by omega)) (by omega)) (by omega), h.scr.put i o0 o1 o2 o3 c hi e0 e1 e2 e3, (((h.below.setCell hB _).setCell hB _).setCell hB _).setCell hB _, h0, h1⟩

/-- The ending of a function of the document's own that may hand back the very list that it was handed. -/
def RefEnd (w : World) (r : Gr × Int) (e : Ending) (w' : World) : Prop :=
  ∃ ao cap, e = .returned (.tuple #[gval r.1 ao cap, .int .i64 r.2]) ∧ RdS w' ao r.1.n r.1.f ∧ Below w.heap.size w w'

set_option maxHeartbeats 1000000 in
theorem resized_bad (g : Gr) (ao : Option Addr) (cap : Nat) (wide high : Int) (w : World) (hr : RdS w ao g.n g.f) (hm : g.n ≤ 4398046511104) (hg : goodG g = false) :
    Calls Try.prog 34 #[gval g ao cap, .int .i64 wide, .int .i64 high] w (RefEnd w (g, 1)) := by
  have HR : Hid (RdS w ao g.n g.f) := hr
  have HGD : Hid (∀ w, RdS w ao g.n g.f → Calls Try.prog 31 #[gval g ao cap] w fun e w' => e = .returned (.bool false) ∧ Below w.heap.size w w') := fun w hr => goodGrid_any g ao cap w hr hm false hg.symm
  clear hr hm hg
  go_enter Try.func34, Try.ntmps34
  go_wp2_with (go_at_call 31; refine (HGD.out _ (HR.out.below (below2 _ _ _))).mono ?_; rintro e w2 ⟨rfl, hb2⟩; have HB : Hid (Below w.heap.size w w2) := (below2 _ _ _).trans (hb2.mono (by simp; omega)); obtain ⟨⟨x0, x1, x2, x3, x4, x5, x6, x7, x8⟩, z⟩ := nine (below_block hb2 (at_old (at_new w _) _) (by simp; omega)); have q2 := below_block hb2 (at_new1 w _ _) (by simp); obtain ⟨⟨u0, u1, u2, u3, u4, u5, u6, u7, u8⟩, v⟩ := nine q2; clear hb2 q2)
  refine bodyPost_ret (v := .tuple #[gval g ao cap, .int .i64 1]) (by simp [results, Try.results34, go_sem, *]) rfl ?_
  have hb9 := below_set9 HB.out (B := w.heap.size + 1) (by omega) (.int .i64 g.wide) (.int .i64 g.high) (.slice ao g.n cap) (.int .i64 g.row) (.int .i64 g.col) (.int .i64 g.ink) (.bool g.bold) (.int .i64 g.top) (.int .i64 g.bottom)
  exact ⟨ao, cap, rfl, HR.out.below hb9, hb9⟩

set_option maxRecDepth 2000 in
set_option maxHeartbeats 4000000 in
theorem resized_good (g : Gr) (ok : OkG g) (ao : Option Addr) (cap : Nat) (wide high : Int) (w : World) (hr : RdS w ao g.n g.f) (x : Gr) (hx : x = resG g wide high) :
    Calls Try.prog 34 #[gval g ao cap, .int .i64 wide, .int .i64 high] w (RefEnd w (x, 0)) := by
  have hgn : g.n ≤ 4398046511104 := by obtain ⟨q1, q2, _⟩ := ok.nums; omega
  obtain ⟨t, ht⟩ : ∃ t, t = newG wide high := ⟨_, rfl⟩
  have okt : OkG t := by rw [ht]; exact ok_new wide high
  have HX : Hid (x = ⟨t.wide, t.high, t.n, resF g t.wide, min g.row (t.high - 1), min g.col (t.wide - 1), g.ink, g.bold, t.top, t.bottom⟩) := by
    show x = _
    rw [hx, ht]
    rfl
  have HR : Hid (RdS w ao g.n g.f) := hr
  have HO : Hid (OkG g ∧ OkG t) := ⟨ok, okt⟩
  have HGD : Hid (∀ w, RdS w ao g.n g.f → Calls Try.prog 31 #[gval g ao cap] w fun e w' => e = .returned (.bool true) ∧ Below w.heap.size w w') := fun w hr => goodGrid_any g ao cap w hr hgn true ((goodG_iff g).2 ok).symm
  have HN : Hid (∀ w, Calls Try.prog 36 #[.int .i64 wide, .int .i64 high] w fun e w' => ∃ b c2, e = .returned (gval t (some ⟨b, 0, none⟩) c2) ∧ Scr w' b t.n t.f ∧ t.n ≤ c2 ∧ w.heap.size ≤ b ∧ Below w.heap.size w w') := fun w => newGrid_any wide high w t ht
  have HCA : Hid (∀ w r c, RdS w ao g.n g.f → Calls Try.prog 38 #[gval g ao cap, .int .i64 r, .int .i64 c] w fun e w' => e = .returned (cval (atG g r c)) ∧ Below w.heap.size w w') := fun w r c h => cellAt_any g ao cap r c w h hgn
  have HTF : Hid (∀ i, t.f i = resN g t.wide 0 i) := by
    intro i
    rw [ht]
    show noCel = resN g _ 0 i
    unfold resN
    rw [if_neg (by omega)]
  have hth0 := okt.h1
  have hth1 := okt.h2
  have htw0 := okt.w1
  have htw1 := okt.w2
  have hr0 := ok.r1
  have hr1 : g.row ≤ 10 := by have := ok.r2; have := ok.h2; omega
  have hc0 := ok.c1
  have hc1 : g.col ≤ 24 := by have := ok.c2; have := ok.w2; omega
  obtain ⟨H, hH⟩ : ∃ H : Nat, t.high = H := ⟨t.high.toNat, by omega⟩
  obtain ⟨Wd, hW⟩ : ∃ W : Nat, t.wide = W := ⟨t.wide.toNat, by omega⟩
  have hH2 : H ≤ 10 := by omega
  have hW2 : Wd ≤ 24 := by omega
  have hnum : (t.n : Int) = H * Wd := by rw [← hH, ← hW]; obtain ⟨q1, _⟩ := okt.nums; exact q1
  have hnn : t.n = H * Wd := by exact_mod_cast hnum
  have HHW : Hid (t.high = H ∧ t.wide = Wd ∧ t.n = H * Wd) := ⟨hH, hW, hnn⟩
  clear hr hx ht ok okt hH hW hnum hnn hgn
  have FIN : Hid (∀ (b c2 : Nat) (w' : World), Scr w' b t.n (resN g t.wide (H * Wd)) → Below w.heap.size w w' → ∀ r c : Int, r = min g.row (t.high - 1) → c = min g.col (t.wide - 1) → RefEnd w (x, 0) (.returned (.tuple #[.agg #[.int .i64 t.wide, .int .i64 t.high, .slice (some ⟨b, 0, none⟩) t.n c2, .int .i64 r, .int .i64 c, .int .i64 g.ink, .bool g.bold, .int .i64 t.top, .int .i64 t.bottom], .int .i64 0])) w') := by
    intro b c2 w' hs hbel r c hr hc
    have hs2 : Scr w' b t.n (resF g t.wide) := hs.congr fun i hi => by unfold resN; rw [if_pos (by have := HHW.out.2.2; omega)]
    rw [HX.out, hr, hc]
    exact ⟨some ⟨b, 0, none⟩, c2, rfl, hs2.rd, hbel⟩
  go_enter Try.func34, Try.ntmps34
  go_wp2_with (first
    | (go_at_call 31; refine (HGD.out _ (HR.out.below (below2 _ _ _))).mono ?_; rintro e w2 ⟨rfl, hb2⟩; have HB : Hid (Below w.heap.size w w2) := (below2 _ _ _).trans (hb2.mono (by simp; omega)); have HQ : Hid _ := below_block hb2 (at_old (at_new w _) _) (by simp; omega); have HQ2 : Hid _ := below_block hb2 (at_new1 w _ _) (by simp); clear hb2)
    | (go_at_call 36; refine (HN.out _).mono ?_; rintro e w3 ⟨b, c2, rfl, hs, hcc, hbb, hb3⟩; have HV : Hid (QInv w g t ao cap b c2 w3.heap.size (resN g t.wide 0) (w3.alloc (gbox t (some ⟨b, 0, none⟩) c2))) := ⟨at_old (below_block hb3 HQ.out (Array.getElem?_eq_some_iff.1 HQ.out).1) _, at_old (below_block hb3 HQ2.out (Array.getElem?_eq_some_iff.1 HQ2.out).1) _, at_new _ _, (hs.congr (fun i _ => HTF.out i)).alloc _, (HB.out.trans (hb3.mono HB.out.size)).alloc (by have := HB.out.size; have := hb3.size; omega) _, (by have := (Array.getElem?_eq_some_iff.1 HQ2.out).1; omega), hs.lt⟩; have hsz3 : w.heap.size < w3.heap.size := (by have := (Array.getElem?_eq_some_iff.1 HQ.out).1; have := hb3.size; omega); have hsz4 : w.heap.size + 1 < w3.heap.size := (by have := (Array.getElem?_eq_some_iff.1 HQ2.out).1; have := hb3.size; omega); clear hs hbb hb3))
  clear HQ HQ2 HN HGD
  go_loopw [20] (fun i wr => ∃ k : Nat, k ≤ H ∧ i = .int .i64 k ∧ QInv w g t ao cap b c2 w3.heap.size (resN g t.wide (k * Wd)) wr) (fun i _ => H - (intOf i).toNat)
  case atStart => exact ⟨0, Nat.zero_le _, rfl, by rw [Nat.zero_mul]; exact HV.out⟩
  case round =>
    obtain ⟨k, hk, rfl, hv⟩ := hrel
    have HI : Hid (QInv w g t ao cap b c2 w3.heap.size (resN g t.wide (k * Wd)) wr) := hv
    obtain ⟨⟨y0, y1, y2, y3, y4, y5, y6, y7, y8⟩, z3⟩ := nine hv.two
    obtain ⟨⟨x0, x1, x2, x3, x4, x5, x6, x7, x8⟩, z⟩ := nine hv.one
    by_cases hlt : k < H
    · have hlt' : (k : Int) < t.high := by rw [HHW.out.1]; omega
      have hk0 : (0 : Int) ≤ (k : Int) := by omega
      clear hv
      go_wp2
      clear x0 x1 x2 x3 x4 x5 x6 x7 x8 z y0 y1 y2 y3 y4 y5 y6 y7 y8 z3
      go_loopw [25] (fun j ws => ∃ m : Nat, m ≤ Wd ∧ j = .int .i64 m ∧ QInv w g t ao cap b c2 w3.heap.size (resN g t.wide (k * Wd + m)) ws) (fun j _ => Wd - (intOf j).toNat)
      case atStart => exact ⟨0, Nat.zero_le _, rfl, HI.out⟩
      case round =>
        obtain ⟨m, hm, rfl, hv5⟩ := hrel
        rename_i wr0 wr
        have HTi : Hid (QInv w g t ao cap b c2 w3.heap.size (resN g t.wide (k * Wd + m)) wr) := hv5
        obtain ⟨⟨x0, x1, x2, x3, x4, x5, x6, x7, x8⟩, z⟩ := nine hv5.one
        obtain ⟨⟨y0, y1, y2, y3, y4, y5, y6, y7, y8⟩, z3⟩ := nine hv5.two
        have hl1 : w.heap.size < wr.heap.size := (Array.getElem?_eq_some_iff.1 hv5.one).1
        have hl2 : w3.heap.size < wr.heap.size := (Array.getElem?_eq_some_iff.1 hv5.two).1
        by_cases hlm : m < Wd
        · have hlm' : (m : Int) < t.wide := by rw [HHW.out.2.1]; omega
          have hm0 : (0 : Int) ≤ (m : Int) := by omega
          obtain ⟨y, hy⟩ : ∃ y, y = atG g k m := ⟨_, rfl⟩
          have HXA : Hid (∀ w, RdS w ao g.n g.f → Calls Try.prog 38 #[gval g ao cap, .int .i64 k, .int .i64 m] w fun e w' => e = .returned (cval y) ∧ Below w.heap.size w w') := fun w h => by rw [hy]; exact HCA.out w k m h
          obtain ⟨P, hP⟩ : ∃ P : Nat, P = k * Wd := ⟨_, rfl⟩
          obtain ⟨I, hI⟩ : ∃ I : Nat, I = P + m := ⟨_, rfl⟩
          have hPI : (k : Int) * t.wide = P := by rw [HHW.out.2.1, hP]; simp
          have hIn : I < t.n := by
            have h9 := HHW.out.2.2
            have h8 : (k + 1) * Wd ≤ H * Wd := Nat.mul_le_mul_right _ (by omega)
            rw [Nat.add_mul] at h8
            omega
          have hn240 : t.n ≤ 240 := by obtain ⟨q1, q2, _⟩ := HO.out.2.nums; omega
          have hwr1 : IntKind.i64.wrap ((k : Int) * t.wide) = (P : Int) := by rw [hPI, IntKind.wrap_i64]; omega
          have hsum : (P : Int) + (m : Int) = (I : Int) := by omega
          have hwr2 : IntKind.i64.wrap ((P : Int) + (m : Int)) = (I : Int) := by rw [hsum, IntKind.wrap_i64]; omega
          have hwr3 : IntKind.i64.wrap (I : Int) = (I : Int) := by rw [IntKind.wrap_i64]; omega
          have hI0 : (0 : Int) ≤ (I : Int) := by omega
          have hI1 : (I : Int) < (t.n : Int) := by omega
          have HNX : Hid (∀ i, putF (resN g t.wide (k * Wd + m)) I y i = resN g t.wide (k * Wd + (m + 1)) i) := by
            intro i
            have := resN_put (g := g) (W := t.wide) (p := k * Wd + m) (r := k) (c := m) hm0 hlm' (by rw [hPI, hP]; simp) i
            rw [← hy] at this
            rw [hI, hP, this]
            rfl
          have hneB1 : b ≠ w.heap.size := by have := hv5.own; omega
          have hneB2 : b ≠ w3.heap.size := by have := hv5.far; omega
          have HII : Hid (I < t.n) := hIn
          clear hy hP hI hPI hIn hv5
          go_wp2_with fail
          go_region_held3 (fun w' => (w'.cell? ⟨w3.heap.size, 0, none⟩ = some (.int .i64 t.wide) ∧ w'.cell? ⟨w3.heap.size, 1, none⟩ = some (.int .i64 t.high) ∧ w'.cell? ⟨w3.heap.size, 2, none⟩ = some (.slice (some ⟨b, 0, none⟩) t.n c2) ∧ w'.cell? ⟨w3.heap.size, 3, none⟩ = some (.int .i64 t.row) ∧ w'.cell? ⟨w3.heap.size, 4, none⟩ = some (.int .i64 t.col) ∧ w'.cell? ⟨w3.heap.size, 5, none⟩ = some (.int .i64 t.ink) ∧ w'.cell? ⟨w3.heap.size, 6, none⟩ = some (.bool t.bold) ∧ w'.cell? ⟨w3.heap.size, 7, none⟩ = some (.int .i64 t.top) ∧ w'.cell? ⟨w3.heap.size, 8, none⟩ = some (.int .i64 t.bottom)) ∧ (w'.cell? ⟨w.heap.size, 0, none⟩ = some (.int .i64 g.wide) ∧ w'.cell? ⟨w.heap.size, 1, none⟩ = some (.int .i64 g.high) ∧ w'.cell? ⟨w.heap.size, 2, none⟩ = some (.slice ao g.n cap) ∧ w'.cell? ⟨w.heap.size, 3, none⟩ = some (.int .i64 g.row) ∧ w'.cell? ⟨w.heap.size, 4, none⟩ = some (.int .i64 g.col) ∧ w'.cell? ⟨w.heap.size, 5, none⟩ = some (.int .i64 g.ink) ∧ w'.cell? ⟨w.heap.size, 6, none⟩ = some (.bool g.bold) ∧ w'.cell? ⟨w.heap.size, 7, none⟩ = some (.int .i64 g.top) ∧ w'.cell? ⟨w.heap.size, 8, none⟩ = some (.int .i64 g.bottom))) (first | go_keep | (simp [*, World.cell?_alloc_past, World.cell?_setCell_far]))
            ((go_at_call 38; refine (HXA.out _ ((HR.out.below HTi.out.below).below (Below.drew (Below.refl _ _)))).mono ?_; rintro e w6 ⟨rfl, hb6⟩; have HT6 : Hid (QInv w g t ao cap b c2 w3.heap.size (resN g t.wide (k * Wd + m)) w6) := HTi.out.drew.later hb6; obtain ⟨⟨c0, c1, c2', c3, c4, c5, c6, c7, c8⟩, c9⟩ := nine HT6.out.two; obtain ⟨⟨d0, d1, d2, d3, d4, d5, d6, d7, d8⟩, d9⟩ := nine HT6.out.one; obtain ⟨k0, k1, k2, k3⟩ := HT6.out.scr.cells I HII.out; have k4 := HT6.out.scr.free; clear hb6))
          go_wp2
          go_roundw
          case rel =>
            have hq := HT6.out.put I (I * 4) (I * 4 + 1) (I * 4 + 2) (I * 4 + 3) y HII.out rfl rfl rfl rfl
            refine ⟨m + 1, by omega, by go_num, ?_⟩
            exact ⟨hq.one, hq.res, hq.two, hq.scr.congr (fun i _ => HNX.out i), hq.below, hq.own, hq.far⟩
          case measure => simp [intOf]; omega
        · have hge : t.wide ≤ (m : Int) := by rw [HHW.out.2.1]; omega
          have HME : Hid (m = Wd) := (by omega : m = Wd)
          clear hv5
          go_wp2
          go_roundw
          case rel => exact ⟨k + 1, by omega, by go_num, by have h9 := HTi.out; rw [HME.out] at h9; rw [Nat.add_mul, Nat.one_mul]; exact h9⟩
          case measure => simp [intOf]; omega
    · have hge : t.high ≤ (k : Int) := by rw [HHW.out.1]; omega
      have HK : Hid (k = H) := (by omega : k = H)
      obtain ⟨⟨u0, u1, u2, u3, u4, u5, u6, u7, u8⟩, v⟩ := nine hv.res
      have hs3 : w.heap.size + 1 < wr.heap.size := (Array.getElem?_eq_some_iff.1 hv.res).1
      have hown := hv.own
      have hfar := hv.far
      have hne1 : w3.heap.size ≠ w.heap.size := by omega
      have hne2 : w3.heap.size ≠ w.heap.size + 1 := by omega
      have hwh : IntKind.i64.wrap (t.high - 1) = t.high - 1 := by rw [IntKind.wrap_i64]; omega
      have hww : IntKind.i64.wrap (t.wide - 1) = t.wide - 1 := by rw [IntKind.wrap_i64]; omega
      clear hv
      have hoc : ∀ (w' : World) (u : Value) (j i : Nat), j ≠ i → (w'.setCell ⟨w3.heap.size, j, none⟩ u).cell? ⟨w3.heap.size, i, none⟩ = w'.cell? ⟨w3.heap.size, i, none⟩ := fun w' u j i h => World.cell?_setCell_other _ _ _ _ (by intro e; simp only [Addr.mk.injEq] at e; omega)
      obtain ⟨R, hR⟩ : ∃ R, (if t.high - 1 < g.row then t.high - 1 else g.row) = R := ⟨_, rfl⟩
      obtain ⟨C, hC⟩ : ∃ C, (if t.wide - 1 < g.col then t.wide - 1 else g.col) = C := ⟨_, rfl⟩
      have HRC : Hid (R = min g.row (t.high - 1) ∧ C = min g.col (t.wide - 1)) := ⟨by rw [← hR]; split <;> omega, by rw [← hC]; split <;> omega⟩
      go_wp2_with fail
      go_region_held3 (fun w' => (w'.cell? ⟨w3.heap.size, 0, none⟩ = some (.int .i64 t.wide) ∧ w'.cell? ⟨w3.heap.size, 1, none⟩ = some (.int .i64 t.high)) ∧ w'.cell? ⟨w.heap.size, 3, none⟩ = some (.int .i64 g.row) ∧ w'.cell? ⟨w.heap.size, 4, none⟩ = some (.int .i64 g.col) ∧ w'.cell? ⟨w.heap.size, 5, none⟩ = some (.int .i64 g.ink) ∧ w'.cell? ⟨w.heap.size, 6, none⟩ = some (.bool g.bold)) (first | go_keep | (simp [*, World.cell?_setCell_far, World.cell?_setCell_other])) (fail)
      all_goals (
        go_wp2
        refine bodyPost_ret (by simp [results, Try.results34, go_sem, *]; rfl) rfl ?_
        have hi := HI.out
        rw [HK.out] at hi
        exact FIN.out _ _ _ (Scr.drew (scr_set9 ((((hi.scr.set (by simp; omega) _).set (by simp; omega) _).set (by simp; omega) _).set (by simp; omega) _) (by omega) _ _ _ _ _ _ _ _ _)) (Below.drew (below_set9 ((((hi.below.setCell (by simp; omega) _).setCell (by simp; omega) _).setCell (by simp; omega) _).setCell (by simp; omega) _) (by omega) _ _ _ _ _ _ _ _ _)) _ _ HRC.out.1 HRC.out.2)

theorem resized_any (g : Gr) (ao : Option Addr) (cap : Nat) (wide high : Int) (w : World) (hr : RdS w ao g.n g.f) (hm : g.n ≤ 4398046511104) (r : Gr × Int) (hrr : r = resR g wide high) :
    Calls Try.prog 34 #[gval g ao cap, .int .i64 wide, .int .i64 high] w (RefEnd w r) := by
  unfold resR at hrr
  cases hg : goodG g
  · rw [hg] at hrr
    rw [hrr]
    exact resized_bad g ao cap wide high w hr hm hg
  · rw [hg] at hrr
    rw [hrr]
    exact resized_good g ((goodG_iff g).1 hg) ao cap wide high w hr _ rfl

end Go.Proofs.Yteenppbpjdldgaa
