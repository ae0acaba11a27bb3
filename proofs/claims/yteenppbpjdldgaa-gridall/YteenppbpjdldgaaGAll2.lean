/- 'All' on a good screen, event by event. -/
import Derived.Test.YteenppbpjdldgaaGAll
namespace Go.Proofs.Yteenppbpjdldgaa
open Go.RowKit

set_option maxHeartbeats 2000000 in
theorem all_go (g : Gr) (ok : OkG g) (ao : Option Addr) (cap : Nat) (lo : Option Addr) (evs : List EvIt) (lc : Nat) (w : World) (hr : RdS w ao g.n g.f) (hn : ao = none → g.n = 0 ∧ cap = 0) (hev : RdE w lo evs) (hl : evs.length ≤ 140737488355328) (hpos : 0 < evs.length)
    (hd : ∀ x ∈ evs, checkE x.1 = 0 → DoneOk x.1 x.2.1 x.2.2) (r : Gr × Int) (hrr : r = allG g (evs.map (·.1))) :
    Calls Try.prog 41 #[gval g ao cap, .slice lo evs.length lc] w (AllEnd w r) := by
  have hm : g.n ≤ 240 := by obtain ⟨q1, q2, _⟩ := ok.nums; omega
  have hn1 : 0 < g.n := by
    have h1 := ok.size
    have h2 : 1 * g.high ≤ g.wide * g.high := mul_mono ok.w1 (by have := ok.h1; omega)
    have := ok.h1
    omega
  have HR : Hid (RdS w ao g.n g.f) := hr
  have HEV : Hid (RdE w lo evs) := hev
  have HD : Hid (∀ x ∈ evs, checkE x.1 = 0 → DoneOk x.1 x.2.1 x.2.2) := hd
  have HRR : Hid (r = allG g (evs.map (·.1))) := hrr
  have HOK : Hid (OkG g) := ok
  have HN1 : Hid (0 < g.n) := hn1
  have HCL : Hid (∀ w, RdS w ao g.n g.f → Calls Try.prog 63 #[.slice ao g.n cap] w fun e w' => ∃ ao' cap', e = .returned (.slice ao' g.n cap') ∧ Copied w g.n g.f ao' cap' w') := fun w hr => clone_any ao cap g.n g.f w hr hn (by omega)
  have HGD : Hid (∀ w ao' cap', RdS w ao' g.n g.f → Calls Try.prog 30 #[gval g ao' cap'] w fun e w' => e = .returned (.bool true) ∧ Below w.heap.size w w') := fun w ao' cap' hr => good_any g ao' cap' w hr (by omega) true ((goodG_iff g).2 ok).symm
  have HB2 : Hid (∀ o1 o2 : Obj, Below w.heap.size w ((w.alloc o1).alloc o2)) := fun o1 o2 => (below1 _ _).alloc (by simp) _
  have hl1 : (0 : Int) < (evs.length : Int) := by omega
  clear hr hn hm hev hd hrr ok hpos hn1
  go_enter Try.func41, Try.ntmps41
  go_upto_region 1 with fail
  go_cut [] from 9 to 12 (fun wx => ∃ ao' cap', Start w g ao' cap' wx)
  case first =>
    go_wp2_with (go_at_call 63; refine (HCL.out _ (HR.out.below (HB2.out _ _))).mono ?_; rintro e w1 ⟨ao', cap', rfl, hcp⟩; have HCP : Hid (Copied _ g.n g.f ao' cap' w1) := hcp; obtain ⟨⟨x0, x1, x2, x3, x4, x5, x6, x7, x8⟩, z⟩ := nine (below_block hcp.2.2 (at_old (at_new w _) _) (by simp; omega)); clear hcp)
    go_meet
    exact ⟨ao', cap', start_of HCP.out⟩
  case rest =>
    obtain ⟨ao', cap', hst⟩ := hcut
    obtain ⟨⟨x0, x1, x2, x3, x4, x5, x6, x7, x8⟩, z⟩ := nine hst.box
    have HST : Hid (Start w g ao' cap' wc) := hst
    clear hst HCL HR
    go_wp2_with (go_at_call 30; refine (HGD.out _ ao' cap' HST.out.rd).mono ?_; rintro e w2 ⟨rfl, hb2⟩; have HB : Hid (Below wc.heap.size wc w2) := hb2; clear hb2)
    clear x0 x1 x2 x3 x4 x5 x6 x7 x8 z HGD HB2
    go_loopw [24] (fun i wr => ∃ (k : Nat) (x : Gr) (b c : Nat), k ≤ evs.length ∧ i = .int .i64 k ∧ AInv w g (evs.map (·.1)) k x b c wr) (fun i _ => evs.length - (intOf i).toNat)
    case atStart =>
      obtain ⟨b, rfl, hb, hc, hs⟩ := HST.out.scr HN1.out
      have k1 := below_block HB.out HST.out.box (Array.getElem?_eq_some_iff.1 HST.out.box).1
      have k2 := below_block HB.out HST.out.res (Array.getElem?_eq_some_iff.1 HST.out.res).1
      exact ⟨0, g, b, cap', Nat.zero_le _, rfl, HOK.out, rfl, k1, k2, hs.below HB.out hs.lt, hc, hb, HST.out.below.trans (HB.out.mono HST.out.below.size)⟩
    case round =>
      obtain ⟨k, x, b, c, hk, rfl, hinv⟩ := hrel
      have HV : Hid (AInv w g (evs.map (·.1)) k x b c wr) := hinv
      obtain ⟨⟨x0, x1, x2, x3, x4, x5, x6, x7, x8⟩, z⟩ := nine hinv.box
      obtain ⟨⟨u0, u1, u2, u3, u4, u5, u6, u7, u8⟩, v⟩ := nine hinv.res
      have hsz : w.heap.size + 1 < wr.heap.size := (Array.getElem?_eq_some_iff.1 hinv.res).1
      have hsz0 : w.heap.size < wr.heap.size := by omega
      by_cases hlt : k < evs.length
      · have hE := HEV.out.below hinv.below
        obtain ⟨lb, off, rfl, hcell⟩ : ∃ lb off, lo = some ⟨lb, off, none⟩ ∧ ∀ k (hk : k < evs.length), wr.cell? ⟨lb, off + k * 4, none⟩ = some (.int .i64 evs[k].1.kind) ∧ wr.cell? ⟨lb, off + k * 4 + 1, none⟩ = some (.int .i64 evs[k].1.b) ∧ wr.cell? ⟨lb, off + k * 4 + 2, none⟩ = some (.slice evs[k].2.1 evs[k].1.ps.length evs[k].2.2) ∧ wr.cell? ⟨lb, off + k * 4 + 3, none⟩ = some (.string evs[k].1.pl) := by
          rcases hE.2 with h0 | h0
          · rw [h0] at hlt; simp at hlt
          · exact h0
        obtain ⟨t0, t1, t2, t3⟩ := hcell k hlt
        have hbl := World.block_lt_of_cell? _ _ t0
        simp only at hbl
        have hlt' : (k : Int) < (evs.length : Int) := by omega
        have hk0 : (0 : Int) ≤ (k : Int) := by omega
        have hmem : evs[k] ∈ evs := List.getElem_mem hlt
        have HRL : Hid (RdL wr evs[k].2.1 evs[k].1.ps) := hE.1 _ hmem
        have HDK : Hid (checkE evs[k].1 = 0 → DoneOk evs[k].1 evs[k].2.1 evs[k].2.2) := HD.out _ hmem
        have hml : k < (evs.map (·.1)).length := by simpa using hlt
        have hme : (evs.map (·.1))[k] = evs[k].1 := by simp
        obtain ⟨ev, hev⟩ : ∃ ev, ev = evs[k] := ⟨_, rfl⟩
        rw [← hev] at t0 t1 t2 t3 HRL HDK hme
        have HME : Hid (∃ h : k < (evs.map (·.1)).length, (evs.map (·.1))[k] = ev.1) := ⟨hml, hme⟩
        clear hE hcell hmem hml hme hev hinv
        obtain ⟨e, eo, ec⟩ := ev
        simp only at t0 t1 t2 t3 HRL HDK HME
        obtain ⟨q, hq⟩ : ∃ q, q = checkE e := ⟨_, rfl⟩
        have HCH : Hid (∀ w, Calls Try.prog 69 #[eval e eo ec] w fun r w' => r = .returned (.int .i64 q) ∧ w' = w.alloc (ebox (e, eo, ec))) := fun w => by rw [hq]; exact check_any e eo ec w
        by_cases hq0 : q = 0
        · obtain ⟨y, hy⟩ : ∃ y, y = doneG x e := ⟨_, rfl⟩
          have HDN : Hid (∀ w, Scr w b x.n x.f → RdL w eo e.ps → Calls Try.prog 70 #[gval x (some ⟨b, 0, none⟩) c, eval e eo ec] w (GEndN w b y)) := fun w h1 h2 => HDK.out (by rw [← hq]; exact hq0) x HV.out.ok b c w h1 HV.out.caps h2 y hy
          have HQ : Hid (checkE e = 0 ∧ y = doneG x e) := ⟨by rw [← hq]; exact hq0, hy⟩
          clear hq hy HDK
          subst hq0
          go_wp2_with (first
            | (go_at_call 69; refine (HCH.out _).mono ?_; rintro e1 w1 ⟨rfl, rfl⟩)
            | (go_at_call 70; refine (HDN.out _ ((HV.out.scr.alloc _).alloc _) (HRL.out.below ((below1 _ _).alloc (by simp) _))).mono ?_; rintro e1 w3 ⟨b', cap3, rfl, hs3, hc3, hg3, hb3⟩; have HF : Hid (∃ o1 o2 : Obj, Scr w3 b' y.n y.f ∧ y.n ≤ cap3 ∧ ((wr.alloc o1).alloc o2).grownBy w3 (some b) ∧ (b' = b ∨ ((wr.alloc o1).alloc o2).heap.size ≤ b')) := ⟨_, _, hs3, hc3, hg3, hb3⟩; obtain ⟨⟨m0, m1, m2, m3, m4, m5, m6, m7, m8⟩, n0⟩ := nine (grown_block hg3 (at_old (at_old HV.out.box _) _) (by have := HV.out.own; simp; omega)); clear hs3 hc3 hg3 hb3))
          go_roundw
          case rel =>
            obtain ⟨o1, o2, f1, f2, f3, f4⟩ := HF.out
            obtain ⟨g1, g2⟩ := HME.out
            refine ⟨k + 1, y, b', cap3, by omega, by go_num, ainv_step HV.out g1 (by rw [g2]; exact HQ.out.1) (by rw [g2]; exact HQ.out.2) f1 f2 f3 f4⟩
          case measure => simp [intOf]; omega
        · have hqe : (q == 0) = false := by simp [hq0]
          have HQ : Hid (q = checkE e ∧ q ≠ 0) := ⟨hq, hq0⟩
          clear hq hq0 HDK
          go_wp2_with (go_at_call 69; refine (HCH.out _).mono ?_; rintro e1 w1 ⟨rfl, rfl⟩)
          refine bodyPost_ret (v := .tuple #[gval x (some ⟨b, 0, none⟩) c, .int .i64 q]) (by simp [results, Try.results41, go_sem, *]) rfl ?_
          obtain ⟨g1, g2⟩ := HME.out
          have hr : r = (x, q) := by rw [HRR.out, ainv_stop HV.out g1 (by rw [g2, ← HQ.out.1]; exact HQ.out.2), g2, HQ.out.1]
          rw [hr]
          have hbs := HV.out.below.size
          have hown := HV.out.own
          have hsc := ((scr_set9 HV.out.scr (B := w.heap.size + 1) (by omega) (.int .i64 x.wide) (.int .i64 x.high) (.slice (some ⟨b, 0, none⟩) x.n c) (.int .i64 x.row) (.int .i64 x.col) (.int .i64 x.ink) (.bool x.bold) (.int .i64 x.top) (.int .i64 x.bottom)).alloc (ebox (e, eo, ec))).alloc (ebox (e, eo, ec))
          exact ⟨some ⟨b, 0, none⟩, c, rfl, hsc.rd, fun _ => ⟨b, rfl, by omega, HV.out.caps, hsc⟩, ((below_set9 HV.out.below (by omega) _ _ _ _ _ _ _ _ _).alloc (by simp; omega) _).alloc (by simp; omega) _⟩
      · clear hinv
        go_wp2
        refine bodyPost_ret (v := .tuple #[gval x (some ⟨b, 0, none⟩) c, .int .i64 0]) (by simp [results, Try.results41, go_sem, *]) rfl ?_
        have hr : r = (x, 0) := by rw [HRR.out, ainv_done HV.out (by simpa using hlt)]
        rw [hr]
        have hown := HV.out.own
        exact ⟨some ⟨b, 0, none⟩, c, rfl, HV.out.rd _ _ _ _ _ _ _ _ _, fun _ => ⟨b, rfl, by omega, HV.out.caps, scr_set9 HV.out.scr (by omega) _ _ _ _ _ _ _ _ _⟩, below_set9 HV.out.below (by omega) _ _ _ _ _ _ _ _ _⟩

theorem all_some (g : Gr) (ao : Option Addr) (cap : Nat) (lo : Option Addr) (evs : List EvIt) (lc : Nat) (w : World) (hr : RdS w ao g.n g.f) (hn : ao = none → g.n = 0 ∧ cap = 0) (hm : g.n ≤ 4398046511104) (hev : RdE w lo evs) (hl : evs.length ≤ 140737488355328) (hpos : 0 < evs.length)
    (hd : ∀ x ∈ evs, checkE x.1 = 0 → DoneOk x.1 x.2.1 x.2.2) (r : Gr × Int) (hrr : r = if goodG g then allG g (evs.map (·.1)) else (g, 1)) :
    Calls Try.prog 41 #[gval g ao cap, .slice lo evs.length lc] w (AllEnd w r) := by
  cases hg : goodG g
  · rw [hg] at hrr
    rw [hrr]
    exact all_stop g ao cap lo evs.length lc w hr hn hm hpos hl hg
  · rw [hg] at hrr
    exact all_go g ((goodG_iff g).1 hg) ao cap lo evs lc w hr hn hev hl hpos hd r hrr

set_option maxHeartbeats 1000000 in
theorem do_any (g : Gr) (ao : Option Addr) (cap : Nat) (e : Evt) (eo : Option Addr) (ec : Nat) (w : World) (hr : RdS w ao g.n g.f) (hn : ao = none → g.n = 0 ∧ cap = 0) (hm : g.n ≤ 4398046511104) (hl : RdL w eo e.ps) (hd : checkE e = 0 → DoneOk e eo ec) (r : Gr × Int) (hrr : r = actG g e) :
    Calls Try.prog 27 #[gval g ao cap, eval e eo ec] w (AllEnd w r) := by
  have HB : Hid (∀ o1 o2 o3 o4 : Obj, Below w.heap.size w ((((w.alloc o1).alloc o2).alloc o3).alloc o4)) := fun o1 o2 o3 o4 => (((below1 _ _).alloc (by simp) _).alloc (by simp; omega) _).alloc (by simp; omega) _
  have HA : Hid (∀ o1 o2 o3 : Obj, Calls Try.prog 41 #[gval g ao cap, .slice (some ⟨w.heap.size + 1 + 1 + 1, 0, none⟩) 1 1] ((((w.alloc o1).alloc o2).alloc o3).alloc (ebox (e, eo, ec))) (AllEnd ((((w.alloc o1).alloc o2).alloc o3).alloc (ebox (e, eo, ec))) r)) := by
    intro o1 o2 o3
    have hb := HB.out o1 o2 o3 (ebox (e, eo, ec))
    have hblk : ((((w.alloc o1).alloc o2).alloc o3).alloc (ebox (e, eo, ec))).heap[w.heap.size + 1 + 1 + 1]? = some (ebox (e, eo, ec)) := by
      have := at_new (((w.alloc o1).alloc o2).alloc o3) (ebox (e, eo, ec))
      simpa using this
    obtain ⟨⟨c0, c1, c2, c3⟩, _⟩ := four hblk
    refine all_some g ao cap _ [(e, eo, ec)] 1 _ (hr.below hb) hn hm ⟨?_, .inr ⟨_, 0, rfl, ?_⟩⟩ (by simp) (by simp) ?_ r ?_
    · intro x hx
      simp only [List.mem_singleton] at hx
      subst hx
      exact hl.below hb
    · intro k hk
      have : k = 0 := by simpa using hk
      subst this
      exact ⟨c0, c1, c2, c3⟩
    · intro x hx
      simp only [List.mem_singleton] at hx
      subst hx
      exact hd
    · rw [hrr]
      unfold actG
      cases goodG g
      · rfl
      · simp only [if_true, List.map_cons, List.map_nil, allG]
  clear hr hn hm hl hd hrr
  go_enter Try.func27, Try.ntmps27
  go_wp2_with (go_at_call 41; refine (HA.out _ _ _).mono ?_; rintro e1 w2 ⟨ao2, cap2, rfl, hcp⟩; obtain ⟨⟨u0, u1, u2, u3, u4, u5, u6, u7, u8⟩, v⟩ := nine (below_block hcp.2.2 (at_old (at_new2 w _ _ _) _) (by simp)); have HF : Hid (Copied _ r.1.n r.1.f ao2 cap2 w2) := hcp; clear hcp)
  refine bodyPost_ret (v := .tuple #[gval r.1 ao2 cap2, .int .i64 r.2]) (by simp [results, Try.results27, go_sem, *]) rfl ?_
  exact ⟨ao2, cap2, rfl, HF.out.out (HB.out _ _ _ _) (by omega) (by simp) _ _ _ _ _ _ _ _ _⟩

end Go.Proofs.Yteenppbpjdldgaa
