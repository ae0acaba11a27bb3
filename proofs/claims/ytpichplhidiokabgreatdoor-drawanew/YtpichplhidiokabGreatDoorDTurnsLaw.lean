/- The law DrawTurns: what Turn sends turns the one screen into the other. -/
import Derived.Test.YtpichplhidiokabGreatDoorDDraws
import Derived.Test.YtpichplhidiokabGreatDoorDSame
import Derived.Test.YtpichplhidiokabGreatDoorDSent
namespace Go.Proofs.YtpichplhidiokabGreatDoor
open Go.RowKit
set_option maxRecDepth 100000

/-- The law's boxes behind Turn. -/
structure B3 (w wr : World) (a b c : Obj) (k : Nat) : Prop where
  one : wr.heap[w.heap.size]? = some a
  two : wr.heap[w.heap.size + 1]? = some b
  thr : wr.heap[k]? = some c
  below : Below w.heap.size w wr
theorem B3.later {w wr w' : World} {a b c : Obj} {k : Nat} (h : B3 w wr a b c k) (hb : Below wr.heap.size wr w') : B3 w w' a b c k :=
  ⟨below_block hb h.one (Array.getElem?_eq_some_iff.1 h.one).1, below_block hb h.two (Array.getElem?_eq_some_iff.1 h.two).1, below_block hb h.thr (Array.getElem?_eq_some_iff.1 h.thr).1, h.below.trans (hb.mono h.below.size)⟩
theorem b3 {w w1 : World} {a b : Obj} (hb : Below ((w.alloc a).alloc b).heap.size ((w.alloc a).alloc b) w1) (c : Obj) : B3 w (w1.alloc c) a b c w1.heap.size :=
  have h2 : Below w.heap.size w ((w.alloc a).alloc b) := (below1 _ _).alloc (by simp) _
  have h3 : Below w.heap.size w w1 := h2.trans (hb.mono h2.size)
  ⟨at_old (below_block hb (at_old (at_new w _) _) (by simp; omega)) _, at_old (below_block hb (at_new1 w _ _) (by simp)) _, at_new w1 _, h3.alloc h3.size _⟩

theorem below_two (w : World) (a b : Obj) : Below w.heap.size w ((w.alloc a).alloc b) := (below1 _ _).alloc (by simp) _

set_option maxHeartbeats 4000000 in
theorem drawTurns_yes (f : Gr) (okf : OkG f) (ao : Option Addr) (cap : Nat) (t : Gr) (okt : OkG t) (ta : Option Addr) (ct : Nat) (htc : t.col < t.wide) (hwd : f.wide = t.wide) (hhg : f.high = t.high) (w : World) (hr : RdS w ao f.n f.f) (hn : ao = none → f.n = 0 ∧ cap = 0) (ht : RdS w ta t.n t.f) (hct : t.n ≤ ct) :
    Calls Tryz.prog 3 #[gval f ao cap, gval t ta ct] w fun e w' => e = .returned (.bool true) ∧ Below w.heap.size w w' := by
  have hd := turn_draws okf okt htc hwd hhg
  have hB := (turnB_iff f t).2 ⟨okf, okt, htc, hwd, hhg⟩
  obtain ⟨m1, m2, _⟩ := okf.nums
  obtain ⟨m3, m4, _⟩ := okt.nums
  obtain ⟨q, hq⟩ : ∃ q, q = turnP f t := ⟨_, rfl⟩
  rw [← hq] at hd
  obtain ⟨m5, m6, _⟩ := hd.ok.nums
  obtain ⟨S, hS⟩ : ∃ S, S = bs q.out := ⟨_, rfl⟩
  obtain ⟨x, hx⟩ : ∃ x, x = q.g := ⟨_, rfl⟩
  have HT : Hid (∀ w', Below w.heap.size w w' → Calls Tryz.prog 5 #[gval f ao cap, gval t ta ct] w' fun e w'' => ∃ og cg, e = .returned (.tuple #[.string S, gval x og cg, .int .i64 0]) ∧ Copied w' x.n x.f og cg w'') := fun w' hb => by
    rw [hS, hx, hq]
    exact turn_yes f ao cap t ta ct w' (hr.below hb) hn (ht.below hb) hct hB
  have HG1 : Hid (∀ w', Below w.heap.size w w' → Calls Tryz.prog 6 #[gval f ao cap] w' fun e w'' => e = .returned (.bool true) ∧ Below w'.heap.size w' w'') := fun w' hb => good_any f ao cap w' (hr.below hb) (by omega) true ((goodG_iff f).2 okf).symm
  have HG2 : Hid (∀ w', Below w.heap.size w w' → Calls Tryz.prog 6 #[gval t ta ct] w' fun e w'' => e = .returned (.bool true) ∧ Below w'.heap.size w' w'') := fun w' hb => good_any t ta ct w' (ht.below hb) (by omega) true ((goodG_iff t).2 okt).symm
  have HSE : Hid (∀ w', Below w.heap.size w w' → Calls Tryz.prog 9 #[gval f ao cap, .string S] w' fun e w'' => ∃ ox cx, e = .returned (.tuple #[gval x ox cx, .bool true]) ∧ Copied w' x.n x.f ox cx w'') := fun w' hb => by
    rw [hS, hx]
    exact sent_any okf hd.sends (by have := hd.short; omega) ao cap w' (hr.below hb) hn
  have HSG : Hid (∀ w' oa ca ob cb, RdS w' oa x.n x.f → RdS w' ob x.n x.f → Calls Tryz.prog 7 #[gval x oa ca, gval x ob cb] w' fun e w'' => e = .returned (.bool true) ∧ Below w'.heap.size w' w'') := fun w' oa ca ob cb ha hb => by
    rw [hx] at ha hb ⊢
    exact sameGridK_eq q.g oa ob ca cb w' ha hb (by omega)
  have HSC : Hid (∀ w' oa ca, Below w.heap.size w w' → RdS w' oa x.n x.f → Calls Tryz.prog 10 #[gval x oa ca, gval t ta ct] w' fun e w'' => e = .returned (.bool true) ∧ Below w'.heap.size w' w'') := fun w' oa ca hb ha => by
    rw [hx] at ha ⊢
    have hb2 : RdS w' ta q.g.n q.g.f := by
      rw [hd.n]
      exact (ht.below hb).congr (fun i hi => (hd.cells i hi).symm)
    have h := sameCells_eq q.g t.row t.col t.ink t.bold t.top t.bottom oa ta ca ct w' ha hb2 (by omega)
    have e : gval ⟨q.g.wide, q.g.high, q.g.n, q.g.f, t.row, t.col, t.ink, t.bold, t.top, t.bottom⟩ ta ct = gval t ta ct := by
      show Value.agg _ = Value.agg _
      rw [hd.wide, hd.high, hd.n]
    rw [e] at h
    exact h
  have e1 : (f.wide != t.wide) = false := by simpa using hwd
  have e2 : (f.high != t.high) = false := by simpa using hhg
  have e3 : (t.col == t.wide) = false := by simp; omega
  have e4 : (x.row == t.row) = true := by rw [hx]; simpa using hd.row
  have e5 : (x.col == t.col) = true := by rw [hx]; simpa using hd.col
  have e6 : (S.size : Int) ≤ 4000 := by
    have := hd.short
    rw [hS]
    show ((q.out.toArray.size : Nat) : Int) ≤ 4000
    simp
    omega
  clear hr hn ht hct hd hB m1 m2 m3 m4 m5 m6 hq hS hx okf okt htc hwd hhg
  go_enter Tryz.func3, Tryz.ntmps3
  go_wp2_with (first
    | (go_at_call 5; refine (HT.out _ (below_two _ _ _)).mono ?_; rintro e w1 ⟨og, cg, rfl, hcp⟩; have H1 : Hid (B3 w (w1.alloc (gbox x og cg)) (gbox f ao cap) (gbox t ta ct) (gbox x og cg) w1.heap.size ∧ RdS (w1.alloc (gbox x og cg)) og x.n x.f) := ⟨b3 hcp.2.2 _, hcp.1.below (below1 _ _)⟩; obtain ⟨⟨x0, x1, x2, x3, x4, x5, x6, x7, x8⟩, xf⟩ := nine (below_block hcp.2.2 (at_old (at_new w _) _) (by simp; omega)); have hlt1 : w.heap.size < w1.heap.size := (by have := hcp.2.2.size; simp at this; omega); clear hcp HT)
    | (go_at_call 6; refine (HG1.out _ H1.out.1.below).mono ?_; rintro e w2 ⟨rfl, hb2⟩; have H2 : Hid (B3 w w2 (gbox f ao cap) (gbox t ta ct) (gbox x og cg) w1.heap.size ∧ RdS w2 og x.n x.f) := ⟨H1.out.1.later hb2, H1.out.2.below hb2⟩; clear hb2 x0 x1 x2 x3 x4 x5 x6 x7 x8 xf H1 HG1; obtain ⟨⟨y0, y1, y2, y3, y4, y5, y6, y7, y8⟩, yf⟩ := nine H2.out.1.two)
    | (go_at_call 6; refine (HG2.out _ H2.out.1.below).mono ?_; rintro e w3 ⟨rfl, hb3⟩; have H3 : Hid (B3 w w3 (gbox f ao cap) (gbox t ta ct) (gbox x og cg) w1.heap.size ∧ RdS w3 og x.n x.f) := ⟨H2.out.1.later hb3, H2.out.2.below hb3⟩; clear hb3 y0 y1 y2 y3 y4 y5 y6 y7 y8 yf H2 HG2; obtain ⟨⟨x0, x1, x2, x3, x4, x5, x6, x7, x8⟩, xf⟩ := nine H3.out.1.one; obtain ⟨⟨y0, y1, y2, y3, y4, y5, y6, y7, y8⟩, yf⟩ := nine H3.out.1.two)
    | (go_at_call 9; refine (HSE.out _ H3.out.1.below).mono ?_; rintro e w4 ⟨ox, cx, rfl, hcp⟩; have H4 : Hid (B3 w w4 (gbox f ao cap) (gbox t ta ct) (gbox x og cg) w1.heap.size ∧ RdS w4 og x.n x.f ∧ RdS w4 ox x.n x.f) := ⟨H3.out.1.later hcp.2.2, H3.out.2.below hcp.2.2, hcp.1⟩; clear hcp x0 x1 x2 x3 x4 x5 x6 x7 x8 xf y0 y1 y2 y3 y4 y5 y6 y7 y8 yf H3 HSE; obtain ⟨⟨y0, y1, y2, y3, y4, y5, y6, y7, y8⟩, yf⟩ := nine H4.out.1.thr; have hlt4 := (Array.getElem?_eq_some_iff.1 H4.out.1.thr).1)
    | (go_at_call 7; refine (HSG.out _ ox cx og cg (H4.out.2.2.below (below1 _ _)) (H4.out.2.1.below (below1 _ _))).mono ?_; rintro e w5 ⟨rfl, hb5⟩; have H5 : Hid (B3 w w5 (gbox f ao cap) (gbox t ta ct) (gbox x ox cx) w4.heap.size ∧ RdS w5 ox x.n x.f) := ⟨(B3.later ⟨at_old H4.out.1.one _, at_old H4.out.1.two _, at_new w4 _, H4.out.1.below.alloc H4.out.1.below.size _⟩ hb5), (H4.out.2.2.below (below1 _ _)).below hb5⟩; clear hb5 y0 y1 y2 y3 y4 y5 y6 y7 y8 yf H4 HSG; obtain ⟨⟨x0, x1, x2, x3, x4, x5, x6, x7, x8⟩, xf⟩ := nine H5.out.1.thr; obtain ⟨⟨y0, y1, y2, y3, y4, y5, y6, y7, y8⟩, yf⟩ := nine H5.out.1.two)
    | (go_at_call 10; refine (HSC.out _ ox cx H5.out.1.below H5.out.2).mono ?_; rintro e w6 ⟨rfl, hb6⟩; have H6 : Hid (B3 w w6 (gbox f ao cap) (gbox t ta ct) (gbox x ox cx) w4.heap.size) := H5.out.1.later hb6; clear hb6 x0 x1 x2 x3 x4 x5 x6 x7 x8 xf y0 y1 y2 y3 y4 y5 y6 y7 y8 yf H5 HSC; obtain ⟨⟨x0, x1, x2, x3, x4, x5, x6, x7, x8⟩, xf⟩ := nine H6.out.thr; obtain ⟨⟨y0, y1, y2, y3, y4, y5, y6, y7, y8⟩, yf⟩ := nine H6.out.two)
    | (go_at_call 8; refine (draws_any _).mono ?_; rintro e w7 ⟨rfl, hb7⟩; have H7 : Hid (Below w.heap.size w w7) := H6.out.below.trans (hb7.mono H6.out.below.size); clear hb7))
  go_ret
  exact ⟨rfl, H7.out⟩

set_option maxHeartbeats 4000000 in
theorem drawTurns_no (f : Gr) (ao : Option Addr) (cap : Nat) (t : Gr) (ta : Option Addr) (ct : Nat) (w : World) (hr : RdS w ao f.n f.f) (hn : ao = none → f.n = 0 ∧ cap = 0) (hm : f.n ≤ 4398046511104) (ht : RdS w ta t.n t.f) (hmt : t.n ≤ 4398046511104)
    (hB : goodG f = false ∨ goodG f = true ∧ goodG t = false ∨ goodG f = true ∧ goodG t = true ∧ f.wide ≠ t.wide ∨ goodG f = true ∧ goodG t = true ∧ f.wide = t.wide ∧ f.high ≠ t.high ∨ goodG f = true ∧ goodG t = true ∧ f.wide = t.wide ∧ f.high = t.high ∧ t.col = t.wide) :
    Calls Tryz.prog 3 #[gval f ao cap, gval t ta ct] w fun e w' => e = .returned (.bool true) ∧ Below w.heap.size w w' := by
  have hT : turnB f t = false := by
    unfold turnB showsB
    rcases hB with h | ⟨h1, h⟩ | ⟨h1, h2, h⟩ | ⟨h1, h2, h3, h⟩ | ⟨h1, h2, h3, h4, h⟩ <;> simp [*]
  obtain ⟨F, hF⟩ : ∃ F, F = goodG f := ⟨_, rfl⟩
  obtain ⟨T, hT2⟩ : ∃ T, T = goodG t := ⟨_, rfl⟩
  have HT : Hid (∀ w', Below w.heap.size w w' → Calls Tryz.prog 5 #[gval f ao cap, gval t ta ct] w' fun e w'' => ∃ og cg, e = .returned (.tuple #[.string (bs []), gval f og cg, .int .i64 1]) ∧ Copied w' f.n f.f og cg w'') := fun w' hb => turn_no f ao cap t ta ct w' (hr.below hb) hn hm (ht.below hb) hmt hT
  have HG1 : Hid (∀ w', Below w.heap.size w w' → Calls Tryz.prog 6 #[gval f ao cap] w' fun e w'' => e = .returned (.bool F) ∧ Below w'.heap.size w' w'') := fun w' hb => good_any f ao cap w' (hr.below hb) (by omega) F hF
  have HG2 : Hid (∀ w', Below w.heap.size w w' → Calls Tryz.prog 6 #[gval t ta ct] w' fun e w'' => e = .returned (.bool T) ∧ Below w'.heap.size w' w'') := fun w' hb => good_any t ta ct w' (ht.below hb) (by omega) T hT2
  have HSG : Hid (∀ w' oa ca, Below w.heap.size w w' → RdS w' oa f.n f.f → Calls Tryz.prog 7 #[gval f oa ca, gval f ao cap] w' fun e w'' => e = .returned (.bool true) ∧ Below w'.heap.size w' w'') := fun w' oa ca hb ha => sameGridK_eq f oa ao ca cap w' ha (hr.below hb) hm
  rw [← hF, ← hT2] at hB
  have hB' : F = false ∨ F = true ∧ T = false ∨ F = true ∧ T = true ∧ (f.wide != t.wide) = true ∨ F = true ∧ T = true ∧ (f.wide != t.wide) = false ∧ (f.high != t.high) = true ∨ F = true ∧ T = true ∧ (f.wide != t.wide) = false ∧ (f.high != t.high) = false ∧ (t.col == t.wide) = true := by
    simpa using hB
  clear hr hn hm ht hmt hB hT hF hT2
  rcases hB' with rfl | ⟨rfl, rfl⟩ | ⟨rfl, rfl, e1⟩ | ⟨rfl, rfl, e1, e2⟩ | ⟨rfl, rfl, e1, e2, e3⟩
  · go_enter Tryz.func3, Tryz.ntmps3
    go_wp2_with (first
      | (go_at_call 5; refine (HT.out _ (below_two _ _ _)).mono ?_; rintro e w1 ⟨og, cg, rfl, hcp⟩; have H1 : Hid (B3 w (w1.alloc (gbox f og cg)) (gbox f ao cap) (gbox t ta ct) (gbox f og cg) w1.heap.size ∧ RdS (w1.alloc (gbox f og cg)) og f.n f.f) := ⟨b3 hcp.2.2 _, hcp.1.below (below1 _ _)⟩; obtain ⟨⟨x0, x1, x2, x3, x4, x5, x6, x7, x8⟩, xf⟩ := nine (below_block hcp.2.2 (at_old (at_new w _) _) (by simp; omega)); have hlt1 : w.heap.size < w1.heap.size := (by have := hcp.2.2.size; simp at this; omega); clear hcp HT)
      | (go_at_call 6; refine (HG1.out _ H1.out.1.below).mono ?_; rintro e w3 ⟨rfl, hb2⟩; have H3 : Hid (B3 w w3 (gbox f ao cap) (gbox t ta ct) (gbox f og cg) w1.heap.size ∧ RdS w3 og f.n f.f) := ⟨H1.out.1.later hb2, H1.out.2.below hb2⟩; clear hb2 x0 x1 x2 x3 x4 x5 x6 x7 x8 xf H1 HG1; obtain ⟨⟨x0, x1, x2, x3, x4, x5, x6, x7, x8⟩, xf⟩ := nine H3.out.1.one; obtain ⟨⟨z0, z1, z2, z3, z4, z5, z6, z7, z8⟩, zf⟩ := nine H3.out.1.thr)
      | (go_at_call 7; refine (HSG.out _ og cg H3.out.1.below H3.out.2).mono ?_; rintro e w5 ⟨rfl, hb5⟩; have H5 : Hid (Below w.heap.size w w5) := H3.out.1.below.trans (hb5.mono H3.out.1.below.size); clear hb5)
      | (go_at_call 8; refine (draws_any _).mono ?_; rintro e w7 ⟨rfl, hb7⟩; have H7 : Hid (Below w.heap.size w w7) := H5.out.trans (hb7.mono H5.out.size); clear hb7))
    go_ret
    exact ⟨rfl, H7.out⟩
  all_goals (
    go_enter Tryz.func3, Tryz.ntmps3
    go_wp2_with (first
      | (go_at_call 5; refine (HT.out _ (below_two _ _ _)).mono ?_; rintro e w1 ⟨og, cg, rfl, hcp⟩; have H1 : Hid (B3 w (w1.alloc (gbox f og cg)) (gbox f ao cap) (gbox t ta ct) (gbox f og cg) w1.heap.size ∧ RdS (w1.alloc (gbox f og cg)) og f.n f.f) := ⟨b3 hcp.2.2 _, hcp.1.below (below1 _ _)⟩; obtain ⟨⟨x0, x1, x2, x3, x4, x5, x6, x7, x8⟩, xf⟩ := nine (below_block hcp.2.2 (at_old (at_new w _) _) (by simp; omega)); have hlt1 : w.heap.size < w1.heap.size := (by have := hcp.2.2.size; simp at this; omega); clear hcp HT)
      | (go_at_call 6; refine (HG1.out _ H1.out.1.below).mono ?_; rintro e w2 ⟨rfl, hb2⟩; have H2 : Hid (B3 w w2 (gbox f ao cap) (gbox t ta ct) (gbox f og cg) w1.heap.size ∧ RdS w2 og f.n f.f) := ⟨H1.out.1.later hb2, H1.out.2.below hb2⟩; clear hb2 x0 x1 x2 x3 x4 x5 x6 x7 x8 xf H1 HG1; obtain ⟨⟨y0, y1, y2, y3, y4, y5, y6, y7, y8⟩, yf⟩ := nine H2.out.1.two)
      | (go_at_call 6; refine (HG2.out _ H2.out.1.below).mono ?_; rintro e w3 ⟨rfl, hb3⟩; have H3 : Hid (B3 w w3 (gbox f ao cap) (gbox t ta ct) (gbox f og cg) w1.heap.size ∧ RdS w3 og f.n f.f) := ⟨H2.out.1.later hb3, H2.out.2.below hb3⟩; clear hb3 y0 y1 y2 y3 y4 y5 y6 y7 y8 yf H2 HG2; obtain ⟨⟨x0, x1, x2, x3, x4, x5, x6, x7, x8⟩, xf⟩ := nine H3.out.1.one; obtain ⟨⟨y0, y1, y2, y3, y4, y5, y6, y7, y8⟩, yf⟩ := nine H3.out.1.two; obtain ⟨⟨z0, z1, z2, z3, z4, z5, z6, z7, z8⟩, zf⟩ := nine H3.out.1.thr)
      | (go_at_call 7; refine (HSG.out _ og cg H3.out.1.below H3.out.2).mono ?_; rintro e w5 ⟨rfl, hb5⟩; have H5 : Hid (Below w.heap.size w w5) := H3.out.1.below.trans (hb5.mono H3.out.1.below.size); clear hb5)
      | (go_at_call 8; refine (draws_any _).mono ?_; rintro e w7 ⟨rfl, hb7⟩; have H7 : Hid (Below w.heap.size w w7) := H5.out.trans (hb7.mono H5.out.size); clear hb7))
    go_ret
    exact ⟨rfl, H7.out⟩)

theorem drawTurns_any (f : Gr) (ao : Option Addr) (cap : Nat) (t : Gr) (ta : Option Addr) (ct : Nat) (w : World) (hr : RdS w ao f.n f.f) (hn : ao = none → f.n = 0 ∧ cap = 0) (hm : f.n ≤ 4398046511104) (ht : RdS w ta t.n t.f) (hmt : t.n ≤ 4398046511104) (hct : t.n ≤ ct) :
    Calls Tryz.prog 3 #[gval f ao cap, gval t ta ct] w fun e w' => e = .returned (.bool true) ∧ Below w.heap.size w w' := by
  have no := drawTurns_no f ao cap t ta ct w hr hn hm ht hmt
  cases hF : goodG f
  · exact no (.inl hF)
  cases hT : goodG t
  · exact no (.inr (.inl ⟨hF, hT⟩))
  by_cases e1 : f.wide = t.wide
  · by_cases e2 : f.high = t.high
    · by_cases e3 : t.col = t.wide
      · exact no (.inr (.inr (.inr (.inr ⟨hF, hT, e1, e2, e3⟩))))
      · have okf := (goodG_iff f).1 hF
        have okt := (goodG_iff t).1 hT
        have := okt.c2
        exact drawTurns_yes f okf ao cap t okt ta ct (by omega) e1 e2 w hr hn ht hct
    · exact no (.inr (.inr (.inr (.inl ⟨hF, hT, e1, e2⟩))))
  · exact no (.inr (.inr (.inl ⟨hF, hT, e1⟩)))

end Go.Proofs.YtpichplhidiokabGreatDoor
