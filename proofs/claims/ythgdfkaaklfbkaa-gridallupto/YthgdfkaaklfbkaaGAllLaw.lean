/- What 'GridAll' answers: true. -/
import Derived.Test.YthgdfkaaklfbkaaGAllL1
import Derived.Test.YthgdfkaaklfbkaaGAct
namespace Go.Proofs.Ythgdfkaaklfbkaa
open Go.RowKit

set_option maxRecDepth 4000 in
set_option maxHeartbeats 4000000 in
theorem alllaw_any (g : Gr) (ao : Option Addr) (cap : Nat) (lo : Option Addr) (evs : List EvIt) (lc : Nat) (w : World) (hr : RdS w ao g.n g.f) (hn : ao = none → g.n = 0 ∧ cap = 0) (hm : g.n ≤ 1048576) (hev : RdE w lo evs) (hl : evs.length ≤ 1048576) (hb : ∀ x ∈ evs, x.1.ps.length + x.1.pl.size ≤ 1048576) :
    Calls Try.prog 9 #[gval g ao cap, .slice lo evs.length lc] w fun e w' => e = .returned (.bool true) ∧ Below w.heap.size w w' := by
  obtain ⟨r, hrr⟩ : ∃ r, r = allR g (evs.map (·.1)) := ⟨_, rfl⟩
  have HCP : Hid (∀ w, RdS w ao g.n g.f → Calls Try.prog 26 #[gval g ao cap] w (CopyEnd w g)) := fun w hr => copyGrid_any g ao cap w hr hn hm
  have HAL : Hid (∀ w oc cc, RdS w oc g.n g.f → (oc = none → g.n = 0 ∧ cc = 0) → RdE w lo evs → Calls Try.prog 41 #[gval g oc cc, .slice lo evs.length lc] w (AllEnd w r)) := fun w oc cc h1 h2 h3 => alls_any g oc cc lo evs lc w h1 h2 hm h3 hl hb r hrr
  obtain ⟨gg, hgg⟩ : ∃ b, b = goodG g := ⟨_, rfl⟩
  have HGR : Hid (∀ w, RdS w ao g.n g.f → Calls Try.prog 31 #[gval g ao cap] w fun e w' => e = .returned (.bool gg) ∧ Below w.heap.size w w') := fun w h => goodGrid_any g ao cap w h hm gg hgg
  obtain ⟨ra, q0⟩ := r
  have HR : Hid (RdS w ao g.n g.f ∧ RdE w lo evs) := ⟨hr, hev⟩
  have HBN : Hid (∀ x ∈ evs, x.1.ps.length + x.1.pl.size ≤ 1048576) := hb
  have HRR : Hid ((ra, q0) = allR g (evs.map (·.1))) := hrr
  have HGG : Hid (gg = goodG g ∧ g.n ≤ 1048576) := ⟨hgg, hm⟩
  clear hr hn hm hev hb hrr hgg
  cases gg
  · have hra : ra = g ∧ ((((evs.length : Int) == 0) = true ∧ q0 = 0) ∨ (((evs.length : Int) == 0) = false ∧ q0 = 1)) := by
      have h := HRR.out
      unfold allR at h
      rw [← HGG.out.1] at h
      cases evs with
      | nil => simp at h; exact ⟨h.1, .inl ⟨rfl, h.2⟩⟩
      | cons e l => simp at h; exact ⟨h.1, .inr ⟨by simp; omega, h.2⟩⟩
    obtain ⟨rfl, hq⟩ := hra
    have HSG : Hid (∀ w oc cc, RdS w oc ra.n ra.f → RdS w ao ra.n ra.f → Calls Try.prog 29 #[gval ra oc cc, gval ra ao cap] w fun e w' => e = .returned (.bool true) ∧ Below w.heap.size w w') := fun w oc cc h1 h2 => sameGrid_eq ra oc ao cc cap w h1 h2 HGG.out.2
    rcases hq with ⟨hq1, hq2⟩ | ⟨hq1, hq2⟩
    all_goals (
      subst hq2
      clear HRR HBN
      go_enter Try.func9, Try.ntmps9
      go_wp2_with (first
        | (go_at_call 26; refine (HCP.out _ (HR.out.1.below (below1 _ _))).mono ?_; rintro e1 w2 ⟨oc, cc, rfl, hcp, hcn, hcc⟩; have HC2 : Hid (Copied (w.alloc (gbox ra ao cap)) ra.n ra.f oc cc w2 ∧ (oc = none → ra.n = 0 ∧ cc = 0)) := ⟨hcp, hcn⟩; clear hcp hcn hcc)
        | (go_at_call 41; refine (HAL.out _ oc cc HC2.out.1.1 HC2.out.2 (HR.out.2.below (below_on (below1 _ _) HC2.out.1.2.2))).mono ?_; rintro e1 w3 ⟨oa, ca, rfl, hcp⟩; have HC3 : Hid (Copied w2 ra.n ra.f oa ca w3) := hcp; obtain ⟨⟨p0, p1, p2, p3, p4, p5, p6, p7, p8⟩, p9⟩ := nine (at_later' hcp.2.2 (at_later' HC2.out.1.2.2 (at_new w _))); have hs3 : w.heap.size < w3.heap.size := (by have := hcp.2.2.size; have h2 := HC2.out.1.2.2.size; simp at h2; omega); clear hcp)
        | (go_at_call 31; refine (HGR.out _ (HR.out.1.below (below_on (below_on (below_on (below1 _ _) HC2.out.1.2.2) HC3.out.2.2) (below1 _ _)))).mono ?_; rintro e1 w4 ⟨rfl, hb4⟩; have HBW : Hid (Below w.heap.size w w4) := below_on (below_on (below_on (below_on (below1 _ _) HC2.out.1.2.2) HC3.out.2.2) (below1 _ _)) hb4; have HL4 : Hid (RdS w4 ao ra.n ra.f ∧ RdS w4 oa ra.n ra.f ∧ Below w.heap.size w w4) := ⟨HR.out.1.below HBW.out, HC3.out.1.below (below_on (below1 _ _) hb4), HBW.out⟩; have HLG : Hid (w4.heap[w3.heap.size]? = some (gbox ra oa ca) ∧ RdS w4 oa ra.n ra.f ∧ RdS w4 ao ra.n ra.f ∧ RdS w3 oa ra.n ra.f ∧ Below w.heap.size w w4 ∧ w3.heap.size < w4.heap.size ∧ w.heap.size ≤ w3.heap.size) := ⟨at_later' hb4 (at_new _ _), HL4.out.2.1, HL4.out.1, HC3.out.1, HBW.out, (by have := hb4.size; simp at this; omega), (by omega)⟩; clear p0 p1 p2 p3 p4 p5 p6 p7 p8 p9; obtain ⟨⟨p0, p1, p2, p3, p4, p5, p6, p7, p8⟩, p9⟩ := nine (at_later' hb4 (at_old (at_later' HC3.out.2.2 (at_later' HC2.out.1.2.2 (at_new w _))) _)); obtain ⟨⟨d0, d1, d2, d3, d4, d5, d6, d7, d8⟩, d9⟩ := nine (at_later' hb4 (at_new w3 _)); have hs4 : w3.heap.size < w4.heap.size := (by have := hb4.size; simp at this; omega); have hs40 : w.heap.size < w4.heap.size := (by omega); clear hb4)
        | (go_at_call 29; refine (HSG.out _ oa ca HL4.out.2.1 HL4.out.1).mono ?_; rintro e1 w5 ⟨rfl, hb5⟩; have HL5 : Hid (Below w.heap.size w w5) := below_on HL4.out.2.2 hb5; clear hb5)
        | (go_at_call 32; refine (showsL_any _).mono ?_; rintro e1 w6 ⟨rfl, hb6⟩; have HL6 : Hid (Below w.heap.size w w6) := below_on HL5.out hb6; clear hb6))
      go_ret
      exact ⟨rfl, HL6.out⟩)
  · have ok : OkG g := (goodG_iff g).1 HGG.out.1.symm
    have HS0 : Hid (OkG g ∧ (ra, q0) = allG g (evs.map (·.1))) := by
      refine ⟨ok, ?_⟩
      have h := HRR.out
      unfold allR at h
      rw [← HGG.out.1] at h
      cases evs with
      | nil => simpa [allG] using h
      | cons e l => simpa using h
    have hgp := ok_pos ok
    have HGP : Hid (0 < g.n) := hgp
    clear HRR HGG ok hgp
    go_enter Try.func9, Try.ntmps9
    go_wp2_with (first
        | (go_at_call 26; refine (HCP.out _ (HR.out.1.below (below1 _ _))).mono ?_; rintro e1 w2 ⟨oc, cc, rfl, hcp, hcn, hcc⟩; have HC2 : Hid (Copied (w.alloc (gbox g ao cap)) g.n g.f oc cc w2 ∧ (oc = none → g.n = 0 ∧ cc = 0)) := ⟨hcp, hcn⟩; clear hcp hcn hcc)
        | (go_at_call 41; refine (HAL.out _ oc cc HC2.out.1.1 HC2.out.2 (HR.out.2.below (below_on (below1 _ _) HC2.out.1.2.2))).mono ?_; rintro e1 w3 ⟨oa, ca, rfl, hcp⟩; have HC3 : Hid (Copied w2 ra.n ra.f oa ca w3) := hcp; obtain ⟨⟨p0, p1, p2, p3, p4, p5, p6, p7, p8⟩, p9⟩ := nine (at_later' hcp.2.2 (at_later' HC2.out.1.2.2 (at_new w _))); have hs3 : w.heap.size < w3.heap.size := (by have := hcp.2.2.size; have h2 := HC2.out.1.2.2.size; simp at h2; omega); clear hcp)
        | (go_at_call 31; refine (HGR.out _ (HR.out.1.below (below_on (below_on (below_on (below1 _ _) HC2.out.1.2.2) HC3.out.2.2) (below1 _ _)))).mono ?_; rintro e1 w4 ⟨rfl, hb4⟩; have HBW : Hid (Below w.heap.size w w4) := below_on (below_on (below_on (below_on (below1 _ _) HC2.out.1.2.2) HC3.out.2.2) (below1 _ _)) hb4; have HL4 : Hid (RdS w4 ao g.n g.f ∧ RdS w4 oa ra.n ra.f ∧ Below w.heap.size w w4) := ⟨HR.out.1.below HBW.out, HC3.out.1.below (below_on (below1 _ _) hb4), HBW.out⟩; have HLG : Hid (w4.heap[w3.heap.size]? = some (gbox ra oa ca) ∧ RdS w4 oa ra.n ra.f ∧ RdS w4 ao g.n g.f ∧ RdS w3 oa ra.n ra.f ∧ Below w.heap.size w w4 ∧ w3.heap.size < w4.heap.size ∧ w.heap.size ≤ w3.heap.size) := ⟨at_later' hb4 (at_new _ _), HL4.out.2.1, HL4.out.1, HC3.out.1, HBW.out, (by have := hb4.size; simp at this; omega), (by omega)⟩; clear p0 p1 p2 p3 p4 p5 p6 p7 p8 p9; obtain ⟨⟨p0, p1, p2, p3, p4, p5, p6, p7, p8⟩, p9⟩ := nine (at_later' hb4 (at_old (at_later' HC3.out.2.2 (at_later' HC2.out.1.2.2 (at_new w _))) _)); obtain ⟨⟨d0, d1, d2, d3, d4, d5, d6, d7, d8⟩, d9⟩ := nine (at_later' hb4 (at_new w3 _)); have hs4 : w3.heap.size < w4.heap.size := (by have := hb4.size; simp at this; omega); have hs40 : w.heap.size < w4.heap.size := (by omega); clear hb4)
      )
    go_loopw [8, 9] (fun s8 s9 wr => ∃ (k : Nat) (x : Gr) (q : Int) (ob : Option Addr) (cb : Nat), k ≤ evs.length ∧ s9 = .int .i64 k ∧ s8 = .int .i64 q ∧ Lv w g ra q0 oa ca w3.heap.size w4.heap.size (evs.map (·.1)) k x q ob cb wr) (fun _ i _ => evs.length - (intOf i).toNat)
    case atStart =>
      refine ⟨0, g, 0, ao, cap, Nat.zero_le _, rfl, rfl, ?_⟩
      obtain ⟨c1, c2, c3, c4, c5, c6, c7⟩ := HLG.out
      exact ⟨HS0.out.1, .inl ⟨rfl, HS0.out.2⟩, at_old c1 _, at_new _ _, c2.below (below1 _ _), c3.below (below1 _ _), fun hp a ha => by have := rd_far c4 hp a ha; omega, fun hp a ha => by have := rd_far HR.out.1 HGP.out a ha; omega, c6, c7, below_on c5 (below1 _ _)⟩
    case round =>
      obtain ⟨k, x, q, ob, cb, hk, rfl, rfl, hlv⟩ := hrel
      have HLV : Hid (Lv w g ra q0 oa ca w3.heap.size w4.heap.size (evs.map (·.1)) k x q ob cb wr) := hlv
      clear p0 p1 p2 p3 p4 p5 p6 p7 p8 p9
      obtain ⟨⟨p0, p1, p2, p3, p4, p5, p6, p7, p8⟩, p9⟩ := nine hlv.boxa
      obtain ⟨⟨s0, s1, s2, s3, s4, s5, s6, s7, s8⟩, s9⟩ := nine hlv.boxb
      by_cases hlt : k < evs.length
      · have hlt' : (k : Int) < (evs.length : Int) := by omega
        have hk0 : (0 : Int) ≤ (k : Int) := by omega
        by_cases hq : q = 0
        · subst hq
          have hE := HR.out.2.below hlv.below
          obtain ⟨lb, off, rfl, hcell⟩ := hE.2.resolve_left (fun h0 => by rw [h0] at hlt; simp at hlt)
          obtain ⟨t0, t1, t2, t3⟩ := hcell k hlt
          have hmem : evs[k] ∈ evs := List.getElem_mem hlt
          have HRL : Hid (RdL wr evs[k].2.1 evs[k].1.ps ∧ evs[k].1.ps.length + evs[k].1.pl.size ≤ 1048576) := ⟨hE.1 _ hmem, HBN.out _ hmem⟩
          have hml : k < (evs.map (·.1)).length := by simpa using hlt
          have hme : (evs.map (·.1))[k] = evs[k].1 := by simp
          obtain ⟨ev, hev⟩ : ∃ ev, ev = evs[k] := ⟨_, rfl⟩
          rw [← hev] at t0 t1 t2 t3 HRL hme
          have HME : Hid (∃ h : k < (evs.map (·.1)).length, (evs.map (·.1))[k] = ev.1) := ⟨hml, hme⟩
          have HAC : Hid (Calls Try.prog 28 #[gval x ob cb, eval ev.1 ev.2.1 ev.2.2] wr.drew (RefEndS wr.drew ob (actG x ev.1))) := by
            have hxp := ok_pos hlv.ok
            have hx1 : x.n ≤ 1048576 := by obtain ⟨q1, q2, _⟩ := hlv.ok.nums; omega
            refine act_any x ob cb ev.1 ev.2.1 ev.2.2 wr.drew hlv.rdb ?_ hx1 HRL.out.1 (by have := HRL.out.2; omega) (by have := HRL.out.2; omega) _ rfl
            intro hnone
            obtain ⟨b9, o9, h9, _⟩ := hlv.rdb.resolve_left (by omega)
            rw [hnone] at h9
            cases h9
          clear hE hcell hmem hml hme hev hlv
          obtain ⟨e, eo, ec⟩ := ev
          simp only at t0 t1 t2 t3 HRL HME HAC
          obtain ⟨r2, hr2⟩ : ∃ r2, r2 = actG x e := ⟨_, rfl⟩
          rw [← hr2] at HAC
          have HR2 : Hid (r2 = actG x e) := hr2
          clear hr2
          obtain ⟨y, q2⟩ := r2
          go_wp2_with fail
          go_region_with
            ((go_at_call 28; refine HAC.out.mono ?_; rintro e1 w5 ⟨o5, c5, rfl, hrd5, hb50, ho5⟩; have hb5 : Below wr.heap.size wr w5 := ((Below.refl wr.heap.size wr).drew).trans hb50; clear hb50; have hlb := World.block_lt_of_cell? _ _ t0; simp only at hlb; have g0 := (hb5.cell (p := ⟨lb, off + k * 4, none⟩) hlb).trans t0; have g1 := (hb5.cell (p := ⟨lb, off + k * 4 + 1, none⟩) hlb).trans t1; have g2 := (hb5.cell (p := ⟨lb, off + k * 4 + 2, none⟩) hlb).trans t2; have g3 := (hb5.cell (p := ⟨lb, off + k * 4 + 3, none⟩) hlb).trans t3; have HE5 : Hid (RdS w5 o5 y.n y.f ∧ Below wr.heap.size wr w5 ∧ (o5 = ob ∨ ∃ b, o5 = some ⟨b, 0, none⟩ ∧ wr.heap.size ≤ b)) := ⟨hrd5, hb5, ho5⟩; clear s0 s1 s2 s3 s4 s5 s6 s7 s8 s9; obtain ⟨⟨s0, s1, s2, s3, s4, s5, s6, s7, s8⟩, s9⟩ := nine (below_block (show Below wr.heap.size wr w5 from hb5) HLV.out.boxb (Array.getElem?_eq_some_iff.1 HLV.out.boxb).1); clear hrd5 hb5 ho5))
          all_goals (
            go_wp2
            go_roundw
            case rel =>
              obtain ⟨f1, f2, f3⟩ := HE5.out
              obtain ⟨m1, m2⟩ := HME.out
              exact ⟨k + 1, y, q2, o5, c5, by omega, by go_num, rfl, lv_step (r2 := (y, q2)) HLV.out m1 (by rw [m2]; exact HR2.out) f1 f2 f3⟩
            case measure => (simp [intOf]; omega))
        · have hqb : (q == 0) = false := by simp [hq]
          obtain ⟨rfl, rfl⟩ := lv_end hlv (fun h => absurd h hq)
          have HSG : Hid (Calls Try.prog 29 #[gval ra oa ca, gval ra ob cb] wr fun e w' => e = .returned (.bool true) ∧ Below wr.heap.size wr w') := sameGrid_eq ra oa ob ca cb wr hlv.rda hlv.rdb (by obtain ⟨q1, q2, _⟩ := hlv.ok.nums; omega)
          clear hlv
          go_wp2_with (first
            | (go_at_call 29; refine HSG.out.mono ?_; rintro e1 w5 ⟨rfl, hb5⟩; have HL5 : Hid (Below w.heap.size w w5) := below_on HLV.out.below hb5; clear hb5)
            | (go_at_call 32; refine (showsL_any _).mono ?_; rintro e1 w6 ⟨rfl, hb6⟩; have HL6 : Hid (Below w.heap.size w w6) := below_on HL5.out hb6; clear hb6))
          go_ret
          exact ⟨rfl, HL6.out⟩
      · have hge : (evs.length : Int) ≤ (k : Int) := by omega
        obtain ⟨rfl, rfl⟩ := lv_end hlv (fun _ => by simp; omega)
        have HSG : Hid (Calls Try.prog 29 #[gval ra oa ca, gval ra ob cb] wr fun e w' => e = .returned (.bool true) ∧ Below wr.heap.size wr w') := sameGrid_eq ra oa ob ca cb wr hlv.rda hlv.rdb (by obtain ⟨q1, q2, _⟩ := hlv.ok.nums; omega)
        clear hlv
        go_wp2_with (first
          | (go_at_call 29; refine HSG.out.mono ?_; rintro e1 w5 ⟨rfl, hb5⟩; have HL5 : Hid (Below w.heap.size w w5) := below_on HLV.out.below hb5; clear hb5)
          | (go_at_call 32; refine (showsL_any _).mono ?_; rintro e1 w6 ⟨rfl, hb6⟩; have HL6 : Hid (Below w.heap.size w w6) := below_on HL5.out hb6; clear hb6))
        go_ret
        exact ⟨rfl, HL6.out⟩

end Go.Proofs.Ythgdfkaaklfbkaa
