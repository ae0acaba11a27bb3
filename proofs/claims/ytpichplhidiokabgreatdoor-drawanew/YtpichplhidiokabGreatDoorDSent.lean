/- What 'sent' answers: bytes that send a screen make it. -/
import Derived.Test.YtpichplhidiokabGreatDoorFSents
import Derived.Test.YtpichplhidiokabGreatDoorDErase
import Derived.Test.YtpichplhidiokabGreatDoorGStart
import Derived.Deep.RegionHeld3
import Derived.Deep.DeepFit
namespace Go.Proofs.YtpichplhidiokabGreatDoor
open Go.RowKit
set_option maxRecDepth 100000

theorem Copied.later {w w1 w2 : World} {n : Nat} {f : Nat → Cel} {ao : Option Addr} {cap : Nat} (h : Copied w n f ao cap w1) (hb : Below w1.heap.size w1 w2) : Copied w n f ao cap w2 :=
  ⟨h.1.below hb, fun hp => by obtain ⟨b, e, h1, h2, s⟩ := h.2.1 hp; exact ⟨b, e, h1, h2, s.below hb s.lt⟩, h.2.2.trans (hb.mono h.2.2.size)⟩

@[reducible] def parbox (a : Option Addr) (c : Nat) : Obj := .cells #[.int .i64 0, .slice a 0 c, .string ⟨#[]⟩, .bool false] 45 (0, 0)

theorem cell_set9 {w : World} {B R j : Nat} (h : B ≠ R) {u0 u1 u2 u3 u4 u5 u6 u7 u8 : Value} :
    (((((((((w.setCell ⟨R, 0, none⟩ u0).setCell ⟨R, 1, none⟩ u1).setCell ⟨R, 2, none⟩ u2).setCell ⟨R, 3, none⟩ u3).setCell ⟨R, 4, none⟩ u4).setCell ⟨R, 5, none⟩ u5).setCell ⟨R, 6, none⟩ u6).setCell ⟨R, 7, none⟩ u7).setCell ⟨R, 8, none⟩ u8).cell? ⟨B, j, none⟩ = w.cell? ⟨B, j, none⟩ := by
  iterate 9 rw [World.cell?_setCell_other _ _ _ _ (by intro e; simp only [Addr.mk.injEq] at e; omega)]

/-- Ahead of sent's return. -/
structure SentAt (w wm W : World) (x : Gr) (oa : Option Addr) (ca : Nat) (po : Option Addr) (pc P X : Nat) : Prop where
  copied : Copied wm x.n x.f oa ca W
  mid : Below w.heap.size w wm
  hm : w.heap.size + 1 < wm.heap.size
  par : W.heap[P]? = some (parbox po pc)
  scr : W.heap[X]? = some (gbox x oa ca)
  res : W.heap[w.heap.size + 1]? = some gzero
  hp : w.heap.size + 1 < P
  hx : P < X

set_option maxHeartbeats 4000000 in
theorem sent_any {g x : Gr} (ok : OkG g) {l : List UInt8} (hs : Sends g l x) (hl : l.length ≤ 4000) (ao : Option Addr) (cap : Nat) (w : World) (hr : RdS w ao g.n g.f) (hn : ao = none → g.n = 0 ∧ cap = 0) :
    Calls Tryz.prog 9 #[gval g ao cap, .string (bs l)] w fun e w' => ∃ ao' cap', e = .returned (.tuple #[gval x ao' cap', .bool true]) ∧ Copied w x.n x.f ao' cap' w' := by
  have HF : Hid (∀ w, Calls Tryz.prog 19 #[gpar none 0, .string (bs l)] w fun e w' => ∃ ao' cap' tq tc, ∃ its : List EvIt, e = .returned (.tuple #[gpar ao' cap', .slice tq its.length tc, .int .i64 0]) ∧ RdE w' tq its ∧ its.map (·.1) = (Ps.feedE Ps.ground l).map toE ∧ Below w.heap.size w w') := fun w => feed_sent hs hl w
  have HA : Hid (∀ w, RdS w ao g.n g.f → ∀ tq tc, ∀ its : List EvIt, RdE w tq its → its.map (·.1) = (Ps.feedE Ps.ground l).map toE → Calls Tryz.prog 20 #[gval g ao cap, .slice tq its.length tc] w (AllEnd w (x, 0))) := fun w hr tq tc its he hi => all_sent ok hs hl ao cap w hr hn tq tc its he hi
  have HR : Hid (RdS w ao g.n g.f) := hr
  have HB2 : Hid (∀ o1 o2 : Obj, Below w.heap.size w ((w.alloc o1).alloc o2)) := fun o1 o2 => (below1 _ _).alloc (by simp) _
  clear hr hn hs ok hl
  obtain ⟨S, hS⟩ : ∃ S, S = bs l := ⟨_, rfl⟩
  rw [← hS] at HF ⊢
  clear hS
  go_enter Tryz.func9, Tryz.ntmps9
  go_upto_region 3 with (first
    | (go_at_call 19; refine (HF.out _).mono ?_; rintro e w1 ⟨po, pc, tq, tc, its, rfl, hrd, hit, hb1⟩; have HE1 : Hid (RdE w1 tq its ∧ its.map (·.1) = (Ps.feedE Ps.ground l).map toE) := ⟨hrd, hit⟩; have HW1 : Hid (Below w.heap.size w w1) := (HB2.out _ _).trans (hb1.mono (HB2.out _ _).size); have HG1 := below_block hb1 (at_old (at_new w _) _) (by simp; omega); have HR1 := below_block hb1 (at_new1 w _ _) (by simp); have hlt1 : w.heap.size + 1 < w1.heap.size := (Array.getElem?_eq_some_iff.1 HR1).1; have HRR1 : Hid (w1.heap[w.heap.size + 1]? = some gzero) := HR1; obtain ⟨⟨x0, x1, x2, x3, x4, x5, x6, x7, x8⟩, xf⟩ := nine HG1; clear hb1 HG1 HR1 hrd hit; have hlt0 : w.heap.size < w1.heap.size := (by omega))
    | (go_at_call 20; refine (HA.out _ (HR.out.below (HW1.out.alloc HW1.out.size _)) tq tc its (HE1.out.1.below (below1 _ _)) HE1.out.2).mono ?_; rintro e w3 ⟨oa, ca, rfl, hcp⟩; have HCP : Hid (Copied (w1.alloc (parbox po pc)) x.n x.f oa ca w3) := hcp; clear hcp x0 x1 x2 x3 x4 x5 x6 x7 x8 xf))
  have HSA : SentAt w (w1.alloc (parbox po pc)) (w3.alloc (gbox x oa ca)) x oa ca po pc w1.heap.size w3.heap.size := by
    have hb := HCP.out.2.2
    have hb0 : Below w.heap.size w (w1.alloc (parbox po pc)) := HW1.out.alloc HW1.out.size _
    have hz := hb.size
    have hz1 : (w1.alloc (parbox po pc)).heap.size = w1.heap.size + 1 := by simp
    exact ⟨HCP.out.later (below1 _ _), hb0, by omega, at_old (below_block hb (at_new w1 _) (by omega)) _, at_new w3 _, at_old (below_block hb (at_old HRR1.out _) (by omega)) _, hlt1, by omega⟩
  generalize hX : w3.heap.size = X at *
  generalize hP : w1.heap.size = P at *
  clear hX hP HW1 HE1 HRR1 HCP hlt0 hlt1 HF HA HR HB2
  show Code.wp _ _ _ _ (w3.alloc (gbox x oa ca))
  generalize w1.alloc (parbox po pc) = wm at *
  generalize w3.alloc (gbox x oa ca) = W at *
  have HS : Hid (SentAt w wm W x oa ca po pc P X) := HSA
  have HSP : Hid (∀ w, Calls Tryz.prog 21 #[gpar po pc, gpar none 0] w fun e w' => e = .returned (.bool true) ∧ Below w.heap.size w w') := fun w => sameParser_nil po none pc 0 w
  clear HSA
  have hXlt : X < W.heap.size := (Array.getElem?_eq_some_iff.1 HS.out.scr).1
  have hPX : P < X := HS.out.hx
  have hRP : w.heap.size + 1 < P := HS.out.hp
  have hPlt : P < W.heap.size := by omega
  have hXR : X ≠ w.heap.size + 1 := by omega
  have hPR : P ≠ w.heap.size + 1 := by omega
  have hRlt : w.heap.size + 1 < W.heap.size := by omega
  obtain ⟨⟨x0, x1, x2, x3, x4, x5, x6, x7, x8⟩, xf⟩ := nine HS.out.scr
  obtain ⟨p0, p1, p2, p3, f0, f1, f2, f3⟩ := Ps.four HS.out.par
  obtain ⟨⟨u0, u1, u2, u3, u4, u5, u6, u7, u8⟩, uf⟩ := nine HS.out.res
  go_region_held3 (fun w' => w'.cell? ⟨X, 0, none⟩ = some (.int .i64 x.wide) ∧ w'.cell? ⟨X, 1, none⟩ = some (.int .i64 x.high) ∧ w'.cell? ⟨X, 2, none⟩ = some (.slice oa x.n ca) ∧ w'.cell? ⟨X, 3, none⟩ = some (.int .i64 x.row) ∧ w'.cell? ⟨X, 4, none⟩ = some (.int .i64 x.col) ∧ w'.cell? ⟨X, 5, none⟩ = some (.int .i64 x.ink) ∧ w'.cell? ⟨X, 6, none⟩ = some (.bool x.bold) ∧ w'.cell? ⟨X, 7, none⟩ = some (.int .i64 x.top) ∧ w'.cell? ⟨X, 8, none⟩ = some (.int .i64 x.bottom) ∧ w'.cell? ⟨P, 0, none⟩ = some (.int .i64 0) ∧ w'.cell? ⟨P, 1, none⟩ = some (.slice po 0 pc) ∧ w'.cell? ⟨P, 2, none⟩ = some (.string ⟨#[]⟩) ∧ w'.cell? ⟨P, 3, none⟩ = some (.bool false)) (first | (with_reducible exact ⟨x0, x1, x2, x3, x4, x5, x6, x7, x8, p0, p1, p2, p3⟩) | (refine ⟨?_, ?_, ?_, ?_, ?_, ?_, ?_, ?_, ?_, ?_, ?_, ?_, ?_⟩ <;> first | (rw [cell_set9 hXR]; with_reducible assumption) | (rw [cell_set9 hPR]; with_reducible assumption)) | (exact ⟨x0, x1, x2, x3, x4, x5, x6, x7, x8, p0, p1, p2, p3⟩))
    ((go_at_call 21; clear x0 x1 x2 x3 x4 x5 x6 x7 x8 xf p0 p1 p2 p3 f0 f1 f2 f3 u0 u1 u2 u3 u4 u5 u6 u7 u8 uf; go_fit (HSP.out _); rintro e w4 ⟨rfl, hb4⟩; have hb4' : Below W.heap.size W w4 := (by exact undrew hb4); have HB4 : Hid (Below W.heap.size W w4) := hb4'; obtain ⟨⟨x0, x1, x2, x3, x4, x5, x6, x7, x8⟩, xf⟩ := nine (below_block hb4' HS.out.scr hXlt); obtain ⟨p0, p1, p2, p3, f0, f1, f2, f3⟩ := Ps.four (below_block hb4' HS.out.par hPlt); obtain ⟨⟨u0, u1, u2, u3, u4, u5, u6, u7, u8⟩, uf⟩ := nine (below_block hb4' HS.out.res hRlt); have hX4 : X < w4.heap.size := Nat.lt_of_lt_of_le hXlt hb4'.size; have hR4 : w.heap.size + 1 < w4.heap.size := Nat.lt_of_lt_of_le hRlt hb4'.size; clear hb4 hb4'; dsimp only))
  all_goals (
    go_wp2
    refine bodyPost_ret (v := .tuple #[gval x oa ca, .bool true]) (by simp [results, Tryz.results9, go_sem, *]) rfl ?_
    have hc4 := HS.out.copied.later HB4.out
    exact ⟨oa, ca, rfl, hc4.out HS.out.mid (by omega) HS.out.hm _ _ _ _ _ _ _ _ _⟩)

end Go.Proofs.YtpichplhidiokabGreatDoor
