/- Several texts in one, each as it was: GAll, GAll2. -/
import Derived.Test.YtpichplhidiokacGreatDoorGStart
import Derived.Test.YtpichplhidiokacGreatDoorGDones
import Derived.Test.YtpichplhidiokacGreatDoorGGood2

/- What 'All' does: the screen behind events, or the first error. -/
namespace Go.Proofs.YtpichplhidiokacGreatDoor
open Go.RowKit

abbrev EvIt := Evt × Option Addr × Nat
@[reducible] def ebox (x : EvIt) : Obj := .cells #[.int .i64 x.1.kind, .int .i64 x.1.b, .slice x.2.1 x.1.ps.length x.2.2, .string x.1.pl] 126

/-- The events lie in memory where the slice points, and the numbers of each. -/
def RdE (w : World) (lo : Option Addr) (evs : List EvIt) : Prop :=
  (∀ x ∈ evs, RdL w x.2.1 x.1.ps) ∧ (evs = [] ∨ ∃ b off, lo = some ⟨b, off, none⟩ ∧ ∀ k (hk : k < evs.length), w.cell? ⟨b, off + k * 4, none⟩ = some (.int .i64 evs[k].1.kind) ∧ w.cell? ⟨b, off + k * 4 + 1, none⟩ = some (.int .i64 evs[k].1.b) ∧ w.cell? ⟨b, off + k * 4 + 2, none⟩ = some (.slice evs[k].2.1 evs[k].1.ps.length evs[k].2.2) ∧ w.cell? ⟨b, off + k * 4 + 3, none⟩ = some (.string evs[k].1.pl))

theorem RdE.below {w w' : World} {lo : Option Addr} {evs : List EvIt} (h : RdE w lo evs) (hb : Below w.heap.size w w') : RdE w' lo evs := by
  refine ⟨fun x hx => (h.1 x hx).below hb, ?_⟩
  rcases h.2 with h | ⟨b, off, ha, hc⟩
  · exact .inl h
  · refine .inr ⟨b, off, ha, fun k hk => ?_⟩
    obtain ⟨h0, h1, h2, h3⟩ := hc k hk
    have hlt := World.block_lt_of_cell? _ _ h0
    simp only at hlt
    exact ⟨(hb.cell (p := ⟨b, off + k * 4, none⟩) hlt).trans h0, (hb.cell (p := ⟨b, off + k * 4 + 1, none⟩) hlt).trans h1, (hb.cell (p := ⟨b, off + k * 4 + 2, none⟩) hlt).trans h2, (hb.cell (p := ⟨b, off + k * 4 + 3, none⟩) hlt).trans h3⟩

/-- The ending of 'All'. -/
def AllEnd (w : World) (r : Gr × Int) (e : Ending) (w' : World) : Prop :=
  ∃ ao cap, e = .returned (.tuple #[gval r.1 ao cap, .int .i64 r.2]) ∧ Copied w r.1.n r.1.f ao cap w'

def allR (g : Gr) (evs : List Evt) : Gr × Int := if evs = [] then (g, 0) else if goodG g then allG g evs else (g, 1)

set_option maxHeartbeats 1000000 in
theorem all_stop (g : Gr) (ao : Option Addr) (cap : Nat) (lo : Option Addr) (ln lc : Nat) (w : World) (hr : RdS w ao g.n g.f) (hn : ao = none → g.n = 0 ∧ cap = 0) (hm : g.n ≤ 4398046511104) (hs : 0 < ln) (hl : ln ≤ 140737488355328) (hg : goodG g = false) :
    Calls Tryz.prog 51 #[gval g ao cap, .slice lo ln lc] w (AllEnd w (g, 1)) := by
  have HR : Hid (RdS w ao g.n g.f) := hr
  have HCL : Hid (∀ w, RdS w ao g.n g.f → Calls Tryz.prog 46 #[.slice ao g.n cap] w fun e w' => ∃ ao' cap', e = .returned (.slice ao' g.n cap') ∧ Copied w g.n g.f ao' cap' w') := fun w hr => clone_any ao cap g.n g.f w hr hn (by omega)
  have HGD : Hid (∀ w ao' cap', RdS w ao' g.n g.f → Calls Tryz.prog 35 #[gval g ao' cap'] w fun e w' => e = .returned (.bool false) ∧ Below w.heap.size w w') := fun w ao' cap' hr => good_any g ao' cap' w hr (by omega) false hg.symm
  have HB2 : Hid (∀ o1 o2 : Obj, Below w.heap.size w ((w.alloc o1).alloc o2)) := fun o1 o2 => (below1 _ _).alloc (by simp) _
  have hl1 : (0 : Int) < (ln : Int) := by omega
  clear hr hn hm hg hs
  go_enter Tryz.func51, Tryz.ntmps51
  go_upto_region 1 with fail
  go_cut [] from 9 to 12 (fun wx => ∃ ao' cap', Start w g ao' cap' wx)
  case first =>
    go_wp2_with (go_at_call 46; refine (HCL.out _ (HR.out.below (HB2.out _ _))).mono ?_; rintro e w1 ⟨ao', cap', rfl, hcp⟩; have HCP : Hid (Copied _ g.n g.f ao' cap' w1) := hcp; obtain ⟨⟨x0, x1, x2, x3, x4, x5, x6, x7, x8⟩, z⟩ := nine (below_block hcp.2.2 (at_old (at_new w _) _) (by simp; omega)); clear hcp)
    go_meet
    exact ⟨ao', cap', start_of HCP.out⟩
  case rest =>
    obtain ⟨ao', cap', hst⟩ := hcut
    obtain ⟨⟨x0, x1, x2, x3, x4, x5, x6, x7, x8⟩, z⟩ := nine hst.box
    have HST : Hid (Start w g ao' cap' wc) := hst
    clear hst HCL HR
    go_wp2_with (go_at_call 35; refine (HGD.out _ ao' cap' HST.out.rd).mono ?_; rintro e w2 ⟨rfl, hb2⟩; have HB : Hid (Below wc.heap.size wc w2) := hb2; have q1 := below_block hb2 HST.out.box (Array.getElem?_eq_some_iff.1 HST.out.box).1; have q2 := below_block hb2 HST.out.res (Array.getElem?_eq_some_iff.1 HST.out.res).1; obtain ⟨⟨y0, y1, y2, y3, y4, y5, y6, y7, y8⟩, z2⟩ := nine q1; obtain ⟨⟨u0, u1, u2, u3, u4, u5, u6, u7, u8⟩, v⟩ := nine q2; clear hb2 q1 q2)
    refine bodyPost_ret (v := .tuple #[gval g ao' cap', .int .i64 1]) (by simp [results, Tryz.results51, go_sem, *]) rfl ?_
    exact ⟨ao', cap', rfl, HST.out.copied HB.out _ _ _ _ _ _ _ _ _⟩

/-- What holds at each round's head: the screen so far, in the box; the events to come make of it what all make of the first one. -/
structure AInv (w : World) (g : Gr) (evs : List Evt) (k : Nat) (x : Gr) (b cap : Nat) (wr : World) : Prop where
  ok : OkG x
  says : allG g evs = allG x (evs.drop k)
  box : wr.heap[w.heap.size]? = some (gbox x (some ⟨b, 0, none⟩) cap)
  res : wr.heap[w.heap.size + 1]? = some gzero
  scr : Scr wr b x.n x.f
  caps : x.n ≤ cap
  own : w.heap.size + 2 ≤ b
  below : Below w.heap.size w wr

theorem AInv.rd {w : World} {g : Gr} {evs : List Evt} {k : Nat} {x : Gr} {b cap : Nat} {wr : World} (h : AInv w g evs k x b cap wr) (u0 u1 u2 u3 u4 u5 u6 u7 u8 : Value) : RdS (((((((((wr.setCell ⟨w.heap.size + 1, 0, none⟩ u0).setCell ⟨w.heap.size + 1, 1, none⟩ u1).setCell ⟨w.heap.size + 1, 2, none⟩ u2).setCell ⟨w.heap.size + 1, 3, none⟩ u3).setCell ⟨w.heap.size + 1, 4, none⟩ u4).setCell ⟨w.heap.size + 1, 5, none⟩ u5).setCell ⟨w.heap.size + 1, 6, none⟩ u6).setCell ⟨w.heap.size + 1, 7, none⟩ u7).setCell ⟨w.heap.size + 1, 8, none⟩ u8) (some ⟨b, 0, none⟩) x.n x.f :=
  (scr_set9 h.scr (by have := h.own; omega) _ _ _ _ _ _ _ _ _).rd

theorem drop_step {evs : List Evt} {k : Nat} (hk : k < evs.length) : evs.drop k = evs[k] :: evs.drop (k + 1) := List.drop_eq_getElem_cons hk

/-- Behind one event: what holds at the next round's head. -/
theorem ainv_step {w : World} {g : Gr} {evs : List Evt} {k : Nat} {x y : Gr} {b cap b' cap' : Nat} {wr w3 : World} {o1 o2 : Obj} (h : AInv w g evs k x b cap wr) (hk : k < evs.length) (hc : checkE evs[k] = 0) (hy : y = doneG x evs[k])
    (hs : Scr w3 b' y.n y.f) (hcap : y.n ≤ cap') (hg : ((wr.alloc o1).alloc o2).grownBy w3 (some b)) (hb : b' = b ∨ ((wr.alloc o1).alloc o2).heap.size ≤ b') :
    AInv w g evs (k + 1) y b' cap' (((((((((w3.setCell ⟨w.heap.size, 0, none⟩ (.int .i64 y.wide)).setCell ⟨w.heap.size, 1, none⟩ (.int .i64 y.high)).setCell ⟨w.heap.size, 2, none⟩ (.slice (some ⟨b', 0, none⟩) y.n cap')).setCell ⟨w.heap.size, 3, none⟩ (.int .i64 y.row)).setCell ⟨w.heap.size, 4, none⟩ (.int .i64 y.col)).setCell ⟨w.heap.size, 5, none⟩ (.int .i64 y.ink)).setCell ⟨w.heap.size, 6, none⟩ (.bool y.bold)).setCell ⟨w.heap.size, 7, none⟩ (.int .i64 y.top)).setCell ⟨w.heap.size, 8, none⟩ (.int .i64 y.bottom)) := by
  have hb0 := h.own
  have hsz : w.heap.size + 2 ≤ wr.heap.size := by have := (Array.getElem?_eq_some_iff.1 h.res).1; omega
  have hb1 : w.heap.size + 2 ≤ b' := by rcases hb with rfl | hb
                                        · exact hb0
                                        · simp at hb; omega
  have hbx := grown_block hg (at_old (at_old h.box o1) o2) (by simp; omega)
  have hrs := grown_block hg (at_old (at_old h.res o1) o2) (by simp; omega)
  have hw : Below w.heap.size w w3 := (((h.below.alloc h.below.size _).alloc (by have := h.below.size; simp; omega) _)).trans (grown_below hg (by have := h.below.size; simp; omega) (by omega))
  refine ⟨?_, ?_, set9_same hbx _ _ _ _ _ _ _ _ _, set9_other hrs (by omega) _ _ _ _ _ _ _ _ _, scr_set9 hs (by omega) _ _ _ _ _ _ _ _ _, hcap, hb1, below_set9 hw (Nat.le_refl _) _ _ _ _ _ _ _ _ _⟩
  · rw [hy]; exact (ok_done h.ok _ hc).1
  · rw [h.says, drop_step hk, allG, if_pos hc, hy]

theorem ainv_done {w : World} {g : Gr} {evs : List Evt} {k : Nat} {x : Gr} {b cap : Nat} {wr : World} (h : AInv w g evs k x b cap wr) (hk : ¬ k < evs.length) : allG g evs = (x, 0) := by
  rw [h.says, List.drop_eq_nil_of_le (by omega)]
  rfl
theorem ainv_stop {w : World} {g : Gr} {evs : List Evt} {k : Nat} {x : Gr} {b cap : Nat} {wr : World} (h : AInv w g evs k x b cap wr) (hk : k < evs.length) (hc : checkE evs[k] ≠ 0) : allG g evs = (x, checkE evs[k]) := by
  rw [h.says, drop_step hk, allG, if_neg hc]

end Go.Proofs.YtpichplhidiokacGreatDoor

/- 'All' on a good screen, event by event. -/
namespace Go.Proofs.YtpichplhidiokacGreatDoor
open Go.RowKit

set_option maxHeartbeats 2000000 in
theorem all_go (g : Gr) (ok : OkG g) (ao : Option Addr) (cap : Nat) (lo : Option Addr) (evs : List EvIt) (lc : Nat) (w : World) (hr : RdS w ao g.n g.f) (hn : ao = none → g.n = 0 ∧ cap = 0) (hev : RdE w lo evs) (hl : evs.length ≤ 140737488355328) (hpos : 0 < evs.length)
    (hd : ∀ x ∈ evs, checkE x.1 = 0 → DoneOk x.1 x.2.1 x.2.2) (r : Gr × Int) (hrr : r = allG g (evs.map (·.1))) :
    Calls Tryz.prog 51 #[gval g ao cap, .slice lo evs.length lc] w (AllEnd w r) := by
  have hm : g.n ≤ 240 := by obtain ⟨q1, q2, _⟩ := ok.nums; omega
  have hn1 : 0 < g.n := by
    have h1 := ok.size
    have h2 : 1 * g.high ≤ g.wide * g.high := mul_mono ok.w1 (by have := ok.h1; omega)
    have := ok.h1
    omega
  have HR : Hid (RdS w ao g.n g.f) := hr
  have HEV : Hid (RdE w lo evs) := hev
  have HD : Hid (∀ x ∈ evs, checkE x.1 = 0 → DoneOk x.1 x.2.1 x.2.2) := hd
  have HRR : Hid (r = allG g (evs.map (·.1))) := hrr
  have HOK : Hid (OkG g) := ok
  have HN1 : Hid (0 < g.n) := hn1
  have HCL : Hid (∀ w, RdS w ao g.n g.f → Calls Tryz.prog 46 #[.slice ao g.n cap] w fun e w' => ∃ ao' cap', e = .returned (.slice ao' g.n cap') ∧ Copied w g.n g.f ao' cap' w') := fun w hr => clone_any ao cap g.n g.f w hr hn (by omega)
  have HGD : Hid (∀ w ao' cap', RdS w ao' g.n g.f → Calls Tryz.prog 35 #[gval g ao' cap'] w fun e w' => e = .returned (.bool true) ∧ Below w.heap.size w w') := fun w ao' cap' hr => good_any g ao' cap' w hr (by omega) true ((goodG_iff g).2 ok).symm
  have HB2 : Hid (∀ o1 o2 : Obj, Below w.heap.size w ((w.alloc o1).alloc o2)) := fun o1 o2 => (below1 _ _).alloc (by simp) _
  have hl1 : (0 : Int) < (evs.length : Int) := by omega
  clear hr hn hm hev hd hrr ok hpos hn1
  go_enter Tryz.func51, Tryz.ntmps51
  go_upto_region 1 with fail
  go_cut [] from 9 to 12 (fun wx => ∃ ao' cap', Start w g ao' cap' wx)
  case first =>
    go_wp2_with (go_at_call 46; refine (HCL.out _ (HR.out.below (HB2.out _ _))).mono ?_; rintro e w1 ⟨ao', cap', rfl, hcp⟩; have HCP : Hid (Copied _ g.n g.f ao' cap' w1) := hcp; obtain ⟨⟨x0, x1, x2, x3, x4, x5, x6, x7, x8⟩, z⟩ := nine (below_block hcp.2.2 (at_old (at_new w _) _) (by simp; omega)); clear hcp)
    go_meet
    exact ⟨ao', cap', start_of HCP.out⟩
  case rest =>
    obtain ⟨ao', cap', hst⟩ := hcut
    obtain ⟨⟨x0, x1, x2, x3, x4, x5, x6, x7, x8⟩, z⟩ := nine hst.box
    have HST : Hid (Start w g ao' cap' wc) := hst
    clear hst HCL HR
    go_wp2_with (go_at_call 35; refine (HGD.out _ ao' cap' HST.out.rd).mono ?_; rintro e w2 ⟨rfl, hb2⟩; have HB : Hid (Below wc.heap.size wc w2) := hb2; clear hb2)
    clear x0 x1 x2 x3 x4 x5 x6 x7 x8 z HGD HB2
    go_loopw [24] (fun i wr => ∃ (k : Nat) (x : Gr) (b c : Nat), k ≤ evs.length ∧ i = .int .i64 k ∧ AInv w g (evs.map (·.1)) k x b c wr) (fun i _ => evs.length - (intOf i).toNat)
    case atStart =>
      obtain ⟨b, rfl, hb, hc, hs⟩ := HST.out.scr HN1.out
      have k1 := below_block HB.out HST.out.box (Array.getElem?_eq_some_iff.1 HST.out.box).1
      have k2 := below_block HB.out HST.out.res (Array.getElem?_eq_some_iff.1 HST.out.res).1
      exact ⟨0, g, b, cap', Nat.zero_le _, rfl, HOK.out, rfl, k1, k2, hs.below HB.out hs.lt, hc, hb, HST.out.below.trans (HB.out.mono HST.out.below.size)⟩
    case round =>
      obtain ⟨k, x, b, c, hk, rfl, hinv⟩ := hrel
      have HV : Hid (AInv w g (evs.map (·.1)) k x b c wr) := hinv
      obtain ⟨⟨x0, x1, x2, x3, x4, x5, x6, x7, x8⟩, z⟩ := nine hinv.box
      obtain ⟨⟨u0, u1, u2, u3, u4, u5, u6, u7, u8⟩, v⟩ := nine hinv.res
      have hsz : w.heap.size + 1 < wr.heap.size := (Array.getElem?_eq_some_iff.1 hinv.res).1
      have hsz0 : w.heap.size < wr.heap.size := by omega
      by_cases hlt : k < evs.length
      · have hE := HEV.out.below hinv.below
        obtain ⟨lb, off, rfl, hcell⟩ : ∃ lb off, lo = some ⟨lb, off, none⟩ ∧ ∀ k (hk : k < evs.length), wr.cell? ⟨lb, off + k * 4, none⟩ = some (.int .i64 evs[k].1.kind) ∧ wr.cell? ⟨lb, off + k * 4 + 1, none⟩ = some (.int .i64 evs[k].1.b) ∧ wr.cell? ⟨lb, off + k * 4 + 2, none⟩ = some (.slice evs[k].2.1 evs[k].1.ps.length evs[k].2.2) ∧ wr.cell? ⟨lb, off + k * 4 + 3, none⟩ = some (.string evs[k].1.pl) := by
          rcases hE.2 with h0 | h0
          · rw [h0] at hlt; simp at hlt
          · exact h0
        obtain ⟨t0, t1, t2, t3⟩ := hcell k hlt
        have hbl := World.block_lt_of_cell? _ _ t0
        simp only at hbl
        have hlt' : (k : Int) < (evs.length : Int) := by omega
        have hk0 : (0 : Int) ≤ (k : Int) := by omega
        have hmem : evs[k] ∈ evs := List.getElem_mem hlt
        have HRL : Hid (RdL wr evs[k].2.1 evs[k].1.ps) := hE.1 _ hmem
        have HDK : Hid (checkE evs[k].1 = 0 → DoneOk evs[k].1 evs[k].2.1 evs[k].2.2) := HD.out _ hmem
        have hml : k < (evs.map (·.1)).length := by simpa using hlt
        have hme : (evs.map (·.1))[k] = evs[k].1 := by simp
        obtain ⟨ev, hev⟩ : ∃ ev, ev = evs[k] := ⟨_, rfl⟩
        rw [← hev] at t0 t1 t2 t3 HRL HDK hme
        have HME : Hid (∃ h : k < (evs.map (·.1)).length, (evs.map (·.1))[k] = ev.1) := ⟨hml, hme⟩
        clear hE hcell hmem hml hme hev hinv
        obtain ⟨e, eo, ec⟩ := ev
        simp only at t0 t1 t2 t3 HRL HDK HME
        obtain ⟨q, hq⟩ : ∃ q, q = checkE e := ⟨_, rfl⟩
        have HCH : Hid (∀ w, Calls Tryz.prog 84 #[eval e eo ec] w fun r w' => r = .returned (.int .i64 q) ∧ w' = w.alloc (ebox (e, eo, ec))) := fun w => by rw [hq]; exact check_any e eo ec w
        by_cases hq0 : q = 0
        · obtain ⟨y, hy⟩ : ∃ y, y = doneG x e := ⟨_, rfl⟩
          have HDN : Hid (∀ w, Scr w b x.n x.f → RdL w eo e.ps → Calls Tryz.prog 85 #[gval x (some ⟨b, 0, none⟩) c, eval e eo ec] w (GEndN w b y)) := fun w h1 h2 => HDK.out (by rw [← hq]; exact hq0) x HV.out.ok b c w h1 HV.out.caps h2 y hy
          have HQ : Hid (checkE e = 0 ∧ y = doneG x e) := ⟨by rw [← hq]; exact hq0, hy⟩
          clear hq hy HDK
          subst hq0
          go_wp2_with (first
            | (go_at_call 84; refine (HCH.out _).mono ?_; rintro e1 w1 ⟨rfl, rfl⟩)
            | (go_at_call 85; refine (HDN.out _ ((HV.out.scr.alloc _).alloc _) (HRL.out.below ((below1 _ _).alloc (by simp) _))).mono ?_; rintro e1 w3 ⟨b', cap3, rfl, hs3, hc3, hg3, hb3⟩; have HF : Hid (∃ o1 o2 : Obj, Scr w3 b' y.n y.f ∧ y.n ≤ cap3 ∧ ((wr.alloc o1).alloc o2).grownBy w3 (some b) ∧ (b' = b ∨ ((wr.alloc o1).alloc o2).heap.size ≤ b')) := ⟨_, _, hs3, hc3, hg3, hb3⟩; obtain ⟨⟨m0, m1, m2, m3, m4, m5, m6, m7, m8⟩, n0⟩ := nine (grown_block hg3 (at_old (at_old HV.out.box _) _) (by have := HV.out.own; simp; omega)); clear hs3 hc3 hg3 hb3))
          go_roundw
          case rel =>
            obtain ⟨o1, o2, f1, f2, f3, f4⟩ := HF.out
            obtain ⟨g1, g2⟩ := HME.out
            refine ⟨k + 1, y, b', cap3, by omega, by go_num, ainv_step HV.out g1 (by rw [g2]; exact HQ.out.1) (by rw [g2]; exact HQ.out.2) f1 f2 f3 f4⟩
          case measure => simp [intOf]; omega
        · have hqe : (q == 0) = false := by simp [hq0]
          have HQ : Hid (q = checkE e ∧ q ≠ 0) := ⟨hq, hq0⟩
          clear hq hq0 HDK
          go_wp2_with (go_at_call 84; refine (HCH.out _).mono ?_; rintro e1 w1 ⟨rfl, rfl⟩)
          refine bodyPost_ret (v := .tuple #[gval x (some ⟨b, 0, none⟩) c, .int .i64 q]) (by simp [results, Tryz.results51, go_sem, *]) rfl ?_
          obtain ⟨g1, g2⟩ := HME.out
          have hr : r = (x, q) := by rw [HRR.out, ainv_stop HV.out g1 (by rw [g2, ← HQ.out.1]; exact HQ.out.2), g2, HQ.out.1]
          rw [hr]
          have hbs := HV.out.below.size
          have hown := HV.out.own
          have hsc := ((scr_set9 HV.out.scr (B := w.heap.size + 1) (by omega) (.int .i64 x.wide) (.int .i64 x.high) (.slice (some ⟨b, 0, none⟩) x.n c) (.int .i64 x.row) (.int .i64 x.col) (.int .i64 x.ink) (.bool x.bold) (.int .i64 x.top) (.int .i64 x.bottom)).alloc (ebox (e, eo, ec))).alloc (ebox (e, eo, ec))
          exact ⟨some ⟨b, 0, none⟩, c, rfl, hsc.rd, fun _ => ⟨b, rfl, by omega, HV.out.caps, hsc⟩, ((below_set9 HV.out.below (by omega) _ _ _ _ _ _ _ _ _).alloc (by simp; omega) _).alloc (by simp; omega) _⟩
      · clear hinv
        go_wp2
        refine bodyPost_ret (v := .tuple #[gval x (some ⟨b, 0, none⟩) c, .int .i64 0]) (by simp [results, Tryz.results51, go_sem, *]) rfl ?_
        have hr : r = (x, 0) := by rw [HRR.out, ainv_done HV.out (by simpa using hlt)]
        rw [hr]
        have hown := HV.out.own
        exact ⟨some ⟨b, 0, none⟩, c, rfl, HV.out.rd _ _ _ _ _ _ _ _ _, fun _ => ⟨b, rfl, by omega, HV.out.caps, scr_set9 HV.out.scr (by omega) _ _ _ _ _ _ _ _ _⟩, below_set9 HV.out.below (by omega) _ _ _ _ _ _ _ _ _⟩

theorem all_some (g : Gr) (ao : Option Addr) (cap : Nat) (lo : Option Addr) (evs : List EvIt) (lc : Nat) (w : World) (hr : RdS w ao g.n g.f) (hn : ao = none → g.n = 0 ∧ cap = 0) (hm : g.n ≤ 4398046511104) (hev : RdE w lo evs) (hl : evs.length ≤ 140737488355328) (hpos : 0 < evs.length)
    (hd : ∀ x ∈ evs, checkE x.1 = 0 → DoneOk x.1 x.2.1 x.2.2) (r : Gr × Int) (hrr : r = if goodG g then allG g (evs.map (·.1)) else (g, 1)) :
    Calls Tryz.prog 51 #[gval g ao cap, .slice lo evs.length lc] w (AllEnd w r) := by
  cases hg : goodG g
  · rw [hg] at hrr
    rw [hrr]
    exact all_stop g ao cap lo evs.length lc w hr hn hm hpos hl hg
  · rw [hg] at hrr
    exact all_go g ((goodG_iff g).1 hg) ao cap lo evs lc w hr hn hev hl hpos hd r hrr

end Go.Proofs.YtpichplhidiokacGreatDoor
