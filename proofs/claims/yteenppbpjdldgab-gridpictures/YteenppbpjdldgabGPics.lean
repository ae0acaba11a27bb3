/- What 'GridPictures' answers: true. -/
import Derived.Test.YteenppbpjdldgabGPicLaw
import Derived.Handy
namespace Go.Proofs.Yteenppbpjdldgab
open Go.RowKit

@[reducible] def cbox (c : Cel) : Obj := .cells #[.int .i64 c.ch, .int .i64 c.ink, .int .i64 c.pic, .bool c.bold] 33

/-- Behind the two calls: the two new variables hold the cells. -/
def PicMid (w : World) (g x : Gr) (ao ax : Option Addr) (cap cx B : Nat) (ya yb : Cel) (s9 s10 : Value) (wx : World) : Prop :=
  ∃ p q : Nat, s9 = .pointer (some ⟨p, 0, none⟩) ∧ s10 = .pointer (some ⟨q, 0, none⟩) ∧ wx.heap[p]? = some (cbox ya) ∧ wx.heap[q]? = some (cbox yb) ∧ Two w g x ao ax cap cx B wx

theorem at_later {w w' : World} {b : Nat} {o : Obj} (hb : Below w.heap.size w w') (h : w.heap[b]? = some o) : w'.heap[b]? = some o := below_block hb h (Array.getElem?_eq_some_iff.1 h).1
theorem at_drew {w w' : World} {b : Nat} {o : Obj} (hb : Below w.drew.heap.size w.drew w') (h : w.heap[b]? = some o) : w'.heap[b]? = some o := at_later hb h
theorem other4 {w : World} {B b : Nat} {o : Obj} (h : w.heap[b]? = some o) (hne : b ≠ B) (u0 u1 u2 u3 : Value) :
    ((((w.setCell ⟨B, 0, none⟩ u0).setCell ⟨B, 1, none⟩ u1).setCell ⟨B, 2, none⟩ u2).setCell ⟨B, 3, none⟩ u3).heap[b]? = some o :=
  other_set (other_set (other_set (other_set h hne) hne) hne) hne

theorem below_then {a b c : World} (h1 : Below a.heap.size a b) (h2 : Below b.heap.size b c) : Below a.heap.size a c := h1.trans (h2.mono h1.size)
theorem below_set4 {a w : World} {B P : Nat} (h : Below B a w) (hP : B ≤ P) (u0 u1 u2 u3 : Value) : Below B a ((((w.setCell ⟨P, 0, none⟩ u0).setCell ⟨P, 1, none⟩ u1).setCell ⟨P, 2, none⟩ u2).setCell ⟨P, 3, none⟩ u3) :=
  (((h.setCell hP _).setCell hP _).setCell hP _).setCell hP _
theorem size_set4 (w : World) (P : Nat) (u0 u1 u2 u3 : Value) : ((((w.setCell ⟨P, 0, none⟩ u0).setCell ⟨P, 1, none⟩ u1).setCell ⟨P, 2, none⟩ u2).setCell ⟨P, 3, none⟩ u3).heap.size = w.heap.size := by simp

section
variable {w wr w7 : World} {g x : Gr} {ao ax : Option Addr} {cap cx B P Q : Nat} {ya yb c d : Cel}
theorem picA (h : Two w g x ao ax cap cx B wr) (hb : Below wr.heap.size wr w7) : PicMid w g x ao ax cap cx B ya yb (.pointer (some ⟨w7.heap.size, 0, none⟩)) (.pointer (some ⟨w7.heap.size + 1, 0, none⟩)) ((w7.alloc (cbox ya)).alloc (cbox yb)) :=
  ⟨_, _, rfl, rfl, at_old (at_new w7 _) _, at_new1 w7 _ _, h.later ((hb.alloc hb.size _).alloc (by have := hb.size; simp; omega) _)⟩
theorem picA' (h : Two w g x ao ax cap cx B wr) (hb : Below wr.heap.size wr w7) : PicMid w g x ao ax cap cx B ya yb (.pointer (some ⟨w7.heap.size + 1, 0, none⟩)) (.pointer (some ⟨w7.heap.size, 0, none⟩)) ((w7.alloc (cbox yb)).alloc (cbox ya)) :=
  ⟨_, _, rfl, rfl, at_new1 w7 _ _, at_old (at_new w7 _) _, h.later ((hb.alloc hb.size _).alloc (by have := hb.size; simp; omega) _)⟩
theorem picB (h : Two w g x ao ax cap cx B wr) (hb : Below wr.heap.size wr w7) (hp : w7.heap[P]? = some (cbox c)) (hP : wr.heap.size ≤ P) : PicMid w g x ao ax cap cx B ya yb (.pointer (some ⟨P, 0, none⟩)) (.pointer (some ⟨w7.heap.size, 0, none⟩)) (((((w7.setCell ⟨P, 0, none⟩ (.int .i64 ya.ch)).setCell ⟨P, 1, none⟩ (.int .i64 ya.ink)).setCell ⟨P, 2, none⟩ (.int .i64 ya.pic)).setCell ⟨P, 3, none⟩ (.bool ya.bold)).alloc (cbox yb)) := by
  have hn := at_new ((((w7.setCell ⟨P, 0, none⟩ (.int .i64 ya.ch)).setCell ⟨P, 1, none⟩ (.int .i64 ya.ink)).setCell ⟨P, 2, none⟩ (.int .i64 ya.pic)).setCell ⟨P, 3, none⟩ (.bool ya.bold)) (cbox yb)
  rw [size_set4] at hn
  have hb2 := below_set4 hb hP (.int .i64 ya.ch) (.int .i64 ya.ink) (.int .i64 ya.pic) (.bool ya.bold)
  exact ⟨_, _, rfl, rfl, at_old (set4_same hp _ _ _ _) _, hn, h.later (hb2.alloc hb2.size _)⟩
theorem picB' (h : Two w g x ao ax cap cx B wr) (hb : Below wr.heap.size wr w7) (hp : w7.heap[Q]? = some (cbox c)) (hQ : wr.heap.size ≤ Q) : PicMid w g x ao ax cap cx B ya yb (.pointer (some ⟨w7.heap.size, 0, none⟩)) (.pointer (some ⟨Q, 0, none⟩)) (((((w7.setCell ⟨Q, 0, none⟩ (.int .i64 yb.ch)).setCell ⟨Q, 1, none⟩ (.int .i64 yb.ink)).setCell ⟨Q, 2, none⟩ (.int .i64 yb.pic)).setCell ⟨Q, 3, none⟩ (.bool yb.bold)).alloc (cbox ya)) := by
  have hn := at_new ((((w7.setCell ⟨Q, 0, none⟩ (.int .i64 yb.ch)).setCell ⟨Q, 1, none⟩ (.int .i64 yb.ink)).setCell ⟨Q, 2, none⟩ (.int .i64 yb.pic)).setCell ⟨Q, 3, none⟩ (.bool yb.bold)) (cbox ya)
  rw [size_set4] at hn
  have hb2 := below_set4 hb hQ (.int .i64 yb.ch) (.int .i64 yb.ink) (.int .i64 yb.pic) (.bool yb.bold)
  exact ⟨_, _, rfl, rfl, hn, at_old (set4_same hp _ _ _ _) _, h.later (hb2.alloc hb2.size _)⟩
theorem picC (h : Two w g x ao ax cap cx B wr) (hb : Below wr.heap.size wr w7) (hp : w7.heap[P]? = some (cbox c)) (hq : w7.heap[Q]? = some (cbox d)) (hP : wr.heap.size ≤ P) (hQ : wr.heap.size ≤ Q) (hne : P ≠ Q) : PicMid w g x ao ax cap cx B ya yb (.pointer (some ⟨P, 0, none⟩)) (.pointer (some ⟨Q, 0, none⟩)) ((((((((w7.setCell ⟨P, 0, none⟩ (.int .i64 ya.ch)).setCell ⟨P, 1, none⟩ (.int .i64 ya.ink)).setCell ⟨P, 2, none⟩ (.int .i64 ya.pic)).setCell ⟨P, 3, none⟩ (.bool ya.bold)).setCell ⟨Q, 0, none⟩ (.int .i64 yb.ch)).setCell ⟨Q, 1, none⟩ (.int .i64 yb.ink)).setCell ⟨Q, 2, none⟩ (.int .i64 yb.pic)).setCell ⟨Q, 3, none⟩ (.bool yb.bold)) :=
  ⟨_, _, rfl, rfl, other4 (set4_same hp _ _ _ _) hne _ _ _ _, set4_same (other4 hq (fun e => hne e.symm) _ _ _ _) _ _ _ _, h.later (below_set4 (below_set4 hb hP _ _ _ _) hQ _ _ _ _)⟩
end

set_option maxRecDepth 2000 in
set_option maxHeartbeats 8000000 in
theorem pics_yes (g : Gr) (ok : OkG g) (ao : Option Addr) (cap : Nat) (s : ByteArray) (w : World) (hr : RdS w ao g.n g.f) (fx : Nat → Cel) (hfx : fx = (picS g s.data.toList).1)
    (HD : Hid (∀ w', Below w.heap.size w w' → Calls Try.prog 12 #[gval g ao cap, .agg #[.int .i64 4, .int .i64 0, .slice none 0 0, .string s]] w' (AllEnd w' (⟨g.wide, g.high, g.n, fx, g.row, g.col, g.ink, g.bold, g.top, g.bottom⟩, 0)))) :
    Calls Try.prog 3 #[gval g ao cap, .string s] w fun e w' => e = .returned (.bool true) ∧ Below w.heap.size w w' := by
  obtain ⟨x, hx⟩ : ∃ x : Gr, x = ⟨g.wide, g.high, g.n, fx, g.row, g.col, g.ink, g.bold, g.top, g.bottom⟩ := ⟨_, rfl⟩
  rw [← hx] at HD
  have HX : Hid (x.row = g.row ∧ x.col = g.col ∧ x.ink = g.ink ∧ x.bold = g.bold) := by rw [hx]; exact ⟨rfl, rfl, rfl, rfl⟩
  have hxn : x.n = g.n := by rw [hx]
  have HPC : Hid (∀ r c : Int, 0 ≤ r → r < g.high → 0 ≤ c → c < g.wide → atG x r c = atG g r c ∨ (g.row ≤ r ∧ hereC g ≤ c ∧ 1 ≤ (atG x r c).pic)) := fun r c h1 h2 h3 h4 => by rw [hx]; exact atG_pic ok s.data.toList h1 h2 h3 h4 fx hfx
  have HAT : Hid (∀ (wr : World) (ax : Option Addr) (cx B : Nat) (r c : Int), Two w g x ao ax cap cx B wr → Calls Try.prog 14 #[gval x ax cx, .int .i64 r, .int .i64 c] wr fun e w' => e = .returned (cval (atG x r c)) ∧ Below wr.heap.size wr w') := fun wr ax cx B r c h2 => at_any x ax cx r c wr h2.rx (by obtain ⟨q1, q2, _⟩ := ok.nums; omega)
  have HAG : Hid (∀ (wr : World) (ax : Option Addr) (cx B : Nat) (r c : Int), Two w g x ao ax cap cx B wr → Calls Try.prog 14 #[gval g ao cap, .int .i64 r, .int .i64 c] wr fun e w' => e = .returned (cval (atG g r c)) ∧ Below wr.heap.size wr w') := fun wr ax cx B r c h2 => at_any g ao cap r c wr h2.rg (by obtain ⟨q1, q2, _⟩ := ok.nums; omega)
  have HR : Hid (RdS w ao g.n g.f) := hr
  obtain ⟨H, hH⟩ : ∃ H : Nat, g.high = H := ⟨g.high.toNat, by have := ok.h1; omega⟩
  obtain ⟨Wd, hW⟩ : ∃ W : Nat, g.wide = W := ⟨g.wide.toNat, by have := ok.w1; omega⟩
  have hH2 : H ≤ 10 := by have := ok.h2; omega
  have hW2 : Wd ≤ 24 := by have := ok.w2; omega
  have HHW : Hid (g.high = H ∧ g.wide = Wd) := ⟨hH, hW⟩
  have hw0 := ok.w1
  have hw1 := ok.w2
  clear hr hx ok hH hW hfx hxn
  go_enter Try.func3, Try.ntmps3
  go_wp2_with (first
    | (go_at_call 12; refine (HD.out _ (below1 _ _)).mono ?_; rintro e w2 ⟨ax, cx, rfl, hcp⟩; have HT : Hid (Two w g x ao ax cap cx w2.heap.size (w2.alloc (gbox x ax cx))) := two_of HR.out rfl hcp; obtain ⟨⟨x0, x1, x2, x3, x4, x5, x6, x7, x8⟩, z⟩ := nine (below_block hcp.2.2 (at_new w _) (by simp)); have hsz : w.heap.size < w2.heap.size := (by have := hcp.2.2.size; simp at this; omega); clear hcp)
    | (go_at_call 13; refine (shows_any _).mono ?_; rintro e w3 ⟨rfl, hb3⟩; have HT3 : Hid (Two w g x ao ax cap cx w2.heap.size w3) := HT.out.later hb3; obtain ⟨⟨y0, y1, y2, y3, y4, y5, y6, y7, y8⟩, z3⟩ := nine HT3.out.one; clear hb3))
  clear x0 x1 x2 x3 x4 x5 x6 x7 x8 z y0 y1 y2 y3 y4 y5 y6 y7 y8 z3 HT HD HR
  go_loopw [27] (fun i wr => ∃ k : Nat, k ≤ H ∧ i = .int .i64 k ∧ Two w g x ao ax cap cx w2.heap.size wr) (fun i _ => H - (intOf i).toNat)
  case atStart => exact ⟨0, Nat.zero_le _, rfl, HT3.out⟩
  case round =>
    obtain ⟨k, hk, rfl, ht⟩ := hrel
    have HT4 : Hid (Two w g x ao ax cap cx w2.heap.size wr) := ht
    obtain ⟨⟨x0, x1, x2, x3, x4, x5, x6, x7, x8⟩, z⟩ := nine ht.one
    obtain ⟨⟨y0, y1, y2, y3, y4, y5, y6, y7, y8⟩, z3⟩ := nine ht.two
    clear ht
    by_cases hlt : k < H
    · have hlt' : (k : Int) < g.high := by rw [HHW.out.1]; omega
      have hk0 : (0 : Int) ≤ (k : Int) := by omega
      go_wp2
      clear x0 x1 x2 x3 x4 x5 x6 x7 x8 z y0 y1 y2 y3 y4 y5 y6 y7 y8 z3
      go_loopw [32] (fun j ws => ∃ m : Nat, m ≤ Wd ∧ j = .int .i64 m ∧ Two w g x ao ax cap cx w2.heap.size ws) (fun j _ => Wd - (intOf j).toNat)
      case atStart => exact ⟨0, Nat.zero_le _, rfl, HT4.out⟩
      case round =>
        obtain ⟨m, hm, rfl, ht5⟩ := hrel
        rename_i wr0 wr
        have HTi : Hid (Two w g x ao ax cap cx w2.heap.size wr) := ht5
        obtain ⟨⟨x0, x1, x2, x3, x4, x5, x6, x7, x8⟩, z⟩ := nine ht5.one
        obtain ⟨⟨y0, y1, y2, y3, y4, y5, y6, y7, y8⟩, z3⟩ := nine ht5.two
        have hl1 := ht5.lt1
        have hl2 := ht5.lt2
        clear ht5
        by_cases hlm : m < Wd
        · have hlm' : (m : Int) < g.wide := by rw [HHW.out.2]; omega
          have hm0 : (0 : Int) ≤ (m : Int) := by omega
          obtain ⟨ya, hya⟩ : ∃ y, y = atG g k m := ⟨_, rfl⟩
          obtain ⟨yb, hyb⟩ : ∃ y, y = atG x k m := ⟨_, rfl⟩
          have HGA : Hid (∀ wr, Two w g x ao ax cap cx w2.heap.size wr → Calls Try.prog 14 #[gval g ao cap, .int .i64 k, .int .i64 m] wr fun e w' => e = .returned (cval ya) ∧ Below wr.heap.size wr w') := fun wr h => by rw [hya]; exact HAG.out wr ax cx _ k m h
          have HXA : Hid (∀ wr, Two w g x ao ax cap cx w2.heap.size wr → Calls Try.prog 14 #[gval x ax cx, .int .i64 k, .int .i64 m] wr fun e w' => e = .returned (cval yb) ∧ Below wr.heap.size wr w') := fun wr h => by rw [hyb]; exact HAT.out wr ax cx _ k m h
          have HYY : Hid (yb = ya ∨ (g.row ≤ k ∧ hereC g ≤ m ∧ 1 ≤ yb.pic)) := by rw [hya, hyb]; exact HPC.out k m hk0 hlt' hm0 hlm'
          clear hya hyb HAT HAG HPC
          have hD1 : wr.heap.size ≠ w.heap.size := by omega
          have hD2 : wr.heap.size ≠ w2.heap.size := by omega
          have hD3 : wr.heap.size + 1 ≠ w.heap.size := by omega
          have hD4 : wr.heap.size + 1 ≠ w2.heap.size := by omega
          go_wp2_with fail
          go_cut [9, 10] from 33 to 67 (fun s9 s10 wx => PicMid w g x ao ax cap cx w2.heap.size ya yb s9 s10 wx)
          case first =>
            go_region_held3 (fun w' => (w'.cell? ⟨w2.heap.size, 0, none⟩ = some (.int .i64 x.wide) ∧ w'.cell? ⟨w2.heap.size, 1, none⟩ = some (.int .i64 x.high) ∧ w'.cell? ⟨w2.heap.size, 2, none⟩ = some (.slice ax x.n cx) ∧ w'.cell? ⟨w2.heap.size, 3, none⟩ = some (.int .i64 x.row) ∧ w'.cell? ⟨w2.heap.size, 4, none⟩ = some (.int .i64 x.col) ∧ w'.cell? ⟨w2.heap.size, 5, none⟩ = some (.int .i64 x.ink) ∧ w'.cell? ⟨w2.heap.size, 6, none⟩ = some (.bool x.bold) ∧ w'.cell? ⟨w2.heap.size, 7, none⟩ = some (.int .i64 x.top) ∧ w'.cell? ⟨w2.heap.size, 8, none⟩ = some (.int .i64 x.bottom)) ∧ (w'.cell? ⟨w.heap.size, 0, none⟩ = some (.int .i64 g.wide) ∧ w'.cell? ⟨w.heap.size, 1, none⟩ = some (.int .i64 g.high) ∧ w'.cell? ⟨w.heap.size, 2, none⟩ = some (.slice ao g.n cap) ∧ w'.cell? ⟨w.heap.size, 3, none⟩ = some (.int .i64 g.row) ∧ w'.cell? ⟨w.heap.size, 4, none⟩ = some (.int .i64 g.col) ∧ w'.cell? ⟨w.heap.size, 5, none⟩ = some (.int .i64 g.ink) ∧ w'.cell? ⟨w.heap.size, 6, none⟩ = some (.bool g.bold) ∧ w'.cell? ⟨w.heap.size, 7, none⟩ = some (.int .i64 g.top) ∧ w'.cell? ⟨w.heap.size, 8, none⟩ = some (.int .i64 g.bottom))) (first | go_keep | (simp [*, World.cell?_alloc_past]))
              (first
              | (have _t := HT6; go_at_call 14; refine (HXA.out _ (HT6.out.later (by go_grown))).mono ?_; rintro e w7 ⟨rfl, hb7⟩; have HT7 : Hid (Two w g x ao ax cap cx w2.heap.size w7) := (HT6.out.later (by go_grown)).later hb7; obtain ⟨⟨a0, a1, a2, a3, a4, a5, a6, a7, a8⟩, a9⟩ := nine HT7.out.two; obtain ⟨⟨b0, b1, b2, b3, b4, b5, b6, b7, b8⟩, b9⟩ := nine HT7.out.one; have HW7 : Hid (Below wr.heap.size wr w7) := below_then (below_then HW6.out (by go_grown)) hb7; have hl71 := HT7.out.lt1; have hl72 := HT7.out.lt2; have hF1 : w7.heap.size ≠ w.heap.size := (by omega); have hF2 : w7.heap.size ≠ w2.heap.size := (by omega); have hF3 : w7.heap.size + 1 ≠ w.heap.size := (by omega); have hF4 : w7.heap.size + 1 ≠ w2.heap.size := (by omega); (first
                | (have q5 := at_later hb7 HQ5.out; have q6 := at_later hb7 HQ6.out; have HP5 : Hid _ := q5; have HP6 : Hid _ := q6; obtain ⟨⟨l0, l1, l2, l3⟩, l4⟩ := four q5; obtain ⟨⟨m0, m1, m2, m3⟩, m4⟩ := four q6; have hz6 : wr.heap.size + 1 < w7.heap.size := (Array.getElem?_eq_some_iff.1 q6).1; clear q5 q6)
                | (have q5 := at_later hb7 (at_old HQ5.out _); have q6 := at_later hb7 (at_new w6 _); have HP5 : Hid _ := q5; have HP6 : Hid _ := q6; obtain ⟨⟨l0, l1, l2, l3⟩, l4⟩ := four q5; obtain ⟨⟨m0, m1, m2, m3⟩, m4⟩ := four q6; have hz6 : w6.heap.size < w7.heap.size := (Array.getElem?_eq_some_iff.1 q6).1; clear q5 q6)
                | (have q5 := at_later hb7 HQ5.out; have HP5 : Hid _ := q5; obtain ⟨⟨l0, l1, l2, l3⟩, l4⟩ := four q5; have hz6 : wr.heap.size < w7.heap.size := (Array.getElem?_eq_some_iff.1 q5).1; clear q5)
                | (have q5 := at_later hb7 (at_old (at_new w6 _) _); have q6 := at_later hb7 (at_new1 w6 _ _); have HP5 : Hid _ := q5; have HP6 : Hid _ := q6; obtain ⟨⟨l0, l1, l2, l3⟩, l4⟩ := four q5; obtain ⟨⟨m0, m1, m2, m3⟩, m4⟩ := four q6; have hz6 : w6.heap.size + 1 < w7.heap.size := (Array.getElem?_eq_some_iff.1 q6).1; clear q5 q6)
                | (have q5 := at_later hb7 (at_new w6 _); have HP5 : Hid _ := q5; obtain ⟨⟨l0, l1, l2, l3⟩, l4⟩ := four q5; have hz6 : w6.heap.size < w7.heap.size := (Array.getElem?_eq_some_iff.1 q5).1; clear q5)
                | skip); clear hb7)
              | (go_at_call 14; refine (HGA.out _ (HTi.out.later (by go_grown))).mono ?_; rintro e w6 ⟨rfl, hb6⟩; have HT6 : Hid (Two w g x ao ax cap cx w2.heap.size w6) := (HTi.out.later (by go_grown)).later hb6; obtain ⟨⟨c0, c1, c2, c3, c4, c5, c6, c7, c8⟩, c9⟩ := nine HT6.out.two; obtain ⟨⟨d0, d1, d2, d3, d4, d5, d6, d7, d8⟩, d9⟩ := nine HT6.out.one; have HW6 : Hid (Below wr.heap.size wr w6) := below_then (by go_grown) hb6; have hw6 := HW6.out.size; have hl61 := HT6.out.lt1; have hl62 := HT6.out.lt2; have hE1 : w6.heap.size ≠ w.heap.size := (by omega); have hE2 : w6.heap.size ≠ w2.heap.size := (by omega); have hE3 : w6.heap.size + 1 ≠ w.heap.size := (by omega); have hE4 : w6.heap.size + 1 ≠ w2.heap.size := (by omega); (first
                | (have q5 := at_drew hb6 (at_old (at_new wr _) _); have q6 := at_drew hb6 (at_new1 wr _ _); have HQ5 : Hid _ := q5; have HQ6 : Hid _ := q6; obtain ⟨⟨i0, i1, i2, i3⟩, i4⟩ := four q5; obtain ⟨⟨j0, j1, j2, j3⟩, j4⟩ := four q6; have hz5 : wr.heap.size + 1 < w6.heap.size := (Array.getElem?_eq_some_iff.1 q6).1; clear q5 q6)
                | (have q5 := at_drew hb6 (at_new wr _); have HQ5 : Hid _ := q5; obtain ⟨⟨i0, i1, i2, i3⟩, i4⟩ := four q5; have hz5 : wr.heap.size < w6.heap.size := (Array.getElem?_eq_some_iff.1 q5).1; clear q5)
                | skip); clear hb6))
            all_goals (go_wp2_with fail; go_meet)
            · exact picA HTi.out HW7.out
            · exact picA' HTi.out HW7.out
            · exact picB (c := noCel) HTi.out HW7.out HP5.out (by omega)
            · exact picC (c := noCel) (d := noCel) HTi.out HW7.out HP5.out HP6.out (by omega) (by omega) (by omega)
            · exact picB' (c := noCel) HTi.out HW7.out HP5.out (by omega)
            · exact picC (c := noCel) (d := noCel) HTi.out HW7.out HP6.out HP5.out (by omega) (by omega) (by omega)
            · exact picB (c := noCel) HTi.out HW7.out HP5.out (by omega)
            · exact picC (c := noCel) (d := noCel) HTi.out HW7.out HP5.out HP6.out (by omega) (by omega) (by omega)
            · exact picC (c := noCel) (d := noCel) HTi.out HW7.out HP5.out HP6.out (by omega) (by omega) (by omega)
            · exact picB' (c := noCel) HTi.out HW7.out HP5.out (by omega)
            · exact picC (c := noCel) (d := noCel) HTi.out HW7.out HP6.out HP5.out (by omega) (by omega) (by omega)
            · exact picC (c := noCel) (d := noCel) HTi.out HW7.out HP6.out HP5.out (by omega) (by omega) (by omega)
          case rest =>
            obtain ⟨p, q, rfl, rfl, hp, hq, ht8⟩ := hcut
            have HT8 : Hid (Two w g x ao ax cap cx w2.heap.size wc) := ht8
            obtain ⟨⟨a0, a1, a2, a3, a4, a5, a6, a7, a8⟩, a9⟩ := nine ht8.one
            obtain ⟨⟨i0, i1, i2, i3⟩, i4⟩ := four hp
            obtain ⟨⟨j0, j1, j2, j3⟩, j4⟩ := four hq
            have hNE : ∀ w, (binOp .neq 33 (.agg #[.int .i64 ya.ch, .int .i64 ya.ink, .int .i64 ya.pic, .bool ya.bold]) (.agg #[.int .i64 yb.ch, .int .i64 yb.ink, .int .i64 yb.pic, .bool yb.bold])).run Try.prog w = .ok (.bool (!celB ya yb)) w := fun w => neq_cell ya yb w
            clear ht8 hp hq HGA HXA
            by_cases hyy : yb = ya
            · have hd : celB ya yb = true := (celB_iff ya yb).2 hyy.symm
              rw [hd] at hNE
              clear hyy hd HYY
              go_wp2
              go_roundw
              case rel => exact ⟨m + 1, by omega, by go_num, HT8.out⟩
              case measure => simp [intOf]; omega
            · have hd : celB ya yb = false := Bool.eq_false_iff.2 fun e => hyy ((celB_iff ya yb).1 e).symm
              rw [hd] at hNE
              obtain ⟨h1, h2, h3⟩ := HYY.out.resolve_left hyy
              have hpic : (yb.pic == 0) = false := by simp; omega
              by_cases hcol : g.col ≤ g.wide - 1
              · have hhc : g.col ≤ (m : Int) := by unfold hereC at h2; omega
                clear hyy hd HYY h2
                go_wp2
                go_roundw
                case rel => exact ⟨m + 1, by omega, by go_num, HT8.out⟩
                case measure => simp [intOf]; omega
              · have hcol' : g.wide - 1 < g.col := by omega
                have hhc : g.wide - 1 ≤ (m : Int) := by unfold hereC at h2; omega
                clear hyy hd HYY h2 hcol
                go_wp2
                go_roundw
                case rel => exact ⟨m + 1, by omega, by go_num, HT8.out⟩
                case measure => simp [intOf]; omega
        · have hge : g.wide ≤ (m : Int) := by rw [HHW.out.2]; omega
          go_wp2
          go_roundw
          case rel => exact ⟨k + 1, by omega, by go_num, HTi.out⟩
          case measure => simp [intOf]; omega
    · have hge : g.high ≤ (k : Int) := by rw [HHW.out.1]; omega
      obtain ⟨e1, e2, e3, e4⟩ := HX.out
      rw [e1] at y3
      rw [e2] at y4
      rw [e3] at y5
      rw [e4] at y6
      go_wp2
      go_ret
      exact ⟨rfl, HT4.out.below⟩

end Go.Proofs.Yteenppbpjdldgab
