/- Several texts in one, each as it was: FGrid, FSame, GAllNil, FSent. -/
import Derived.Test.YtpichplhidiokabGreatDoorFFeeds
import Derived.Test.YtpichplhidiokabGreatDoorFEvs
import Derived.Test.YtpichplhidiokabGreatDoorGAlls
import Derived.Test.YtpichplhidiokabGreatDoorFBase
import Derived.Test.YtpichplhidiokabGreatDoorGMem
import Derived.Test.YtpichplhidiokabGreatDoorGDone2
import Derived.Test.YtpichplhidiokabGreatDoorFPures
import Derived.Test.YtpichplhidiokabGreatDoorDFun

/- The events that Feed tells, as All reads them. -/
namespace Go.Proofs.YtpichplhidiokabGreatDoor
open Go.RowKit

def toIt (x : Ps.Item) : EvIt := (toE x.1, x.2.1, x.2.2)

theorem own_read {base : Nat} {w : World} {ao : Option Addr} {cap : Nat} {l : List Int} (h : Ps.Own base w ao cap l) : RdL w ao l := by
  rcases h.2 with ⟨_, h0⟩ | ⟨g, c, cur, hv, _, hg, hc, _, hs, ht⟩
  · exact .inl (List.length_eq_zero_iff.1 h0)
  · simp only [Value.slice.injEq] at hv
    refine .inr ⟨g, 0, hv.1, fun j hj => ?_⟩
    rw [Nat.zero_add, cell_of_row w g j _ _ _ hg]
    have h1 : (Ps.ints l)[j]? = some (.int .i64 (l.getD j 0)) := by simp [Ps.ints, hj]
    rw [← ht, List.getElem?_take_of_lt (by omega)] at h1
    simpa using h1

theorem allCells_at (evs : List Ps.Item) (k j : Nat) (hk : k < evs.length) (hj : j < 4) : (Ps.allCells evs)[k * 4 + j]? = (Ps.cellsOf evs[k])[j]? := by
  induction evs generalizing k with
  | nil => simp at hk
  | cons x r ih =>
    have e : Ps.allCells (x :: r) = Ps.cellsOf x ++ Ps.allCells r := rfl
    have hl : (Ps.cellsOf x).length = 4 := rfl
    rw [e]
    cases k with
    | zero =>
      rw [Nat.zero_mul, Nat.zero_add, List.getElem?_append_left (by omega)]
      rfl
    | succ k =>
      rw [List.getElem?_append_right (by omega), hl, show (k + 1) * 4 + j - 4 = k * 4 + j by omega, ih k (by simpa using hk)]
      rfl

theorem told_read {base : Nat} {w : World} {tq : Option Addr} {tc : Nat} {evs : List Ps.Item} (h : Ps.Told base w tq tc evs) : RdE w tq (evs.map toIt) := by
  refine ⟨fun x hx => ?_, ?_⟩
  · obtain ⟨y, hy, rfl⟩ := List.mem_map.1 hx
    exact own_read (h.each y hy)
  · rcases h.row.2 with ⟨_, h0⟩ | ⟨g, c, cur, hv, _, hg, hc, _, hs, ht⟩
    · exact .inl (by rw [List.length_eq_zero_iff.1 h0]; rfl)
    · simp only [Value.slice.injEq] at hv
      refine .inr ⟨g, 0, hv.1, fun k hk => ?_⟩
      have hk' : k < evs.length := by simpa using hk
      have key : ∀ j, j < 4 → w.cell? ⟨g, 0 + k * 4 + j, none⟩ = (Ps.cellsOf evs[k])[j]? := fun j hj => by
        rw [cell_of_row w g (0 + k * 4 + j) _ _ _ hg, Nat.zero_add, ← allCells_at evs k j hk' hj, ← ht, List.getElem?_take_of_lt (by omega)]
        simp
      have e : (evs.map toIt)[k] = toIt evs[k] := by simp
      rw [e]
      exact ⟨key 0 (by omega), key 1 (by omega), key 2 (by omega), key 3 (by omega)⟩

theorem told_evs {evs : List Ps.Item} {es : List Ps.Ev} (h : evs.map (·.1) = es) : (evs.map toIt).map (·.1) = es.map toE := by
  rw [← h]
  simp [toIt]

end Go.Proofs.YtpichplhidiokabGreatDoor

/- The verifier's comparison of two parsers on the ground: true; it changes nothing. -/
namespace Go.Proofs.YtpichplhidiokabGreatDoor
open Go.RowKit

set_option maxHeartbeats 400000 in
theorem sameNumbers_nil (a1 a2 : Option Addr) (c1 c2 : Nat) (w : World) :
    Calls Tryz.prog 36 #[.slice a1 0 c1, .slice a2 0 c2] w fun e w' => e = .returned (.bool true) ∧ w' = w := by
  go_enter Tryz.func36, Tryz.ntmps36
  go_wp2
  go_loop [13] (fun i => i = .int .i64 0) (fun _ => 0)
  case atStart => rfl
  case round =>
    subst hrel
    go_wp2
    go_ret
    exact ⟨rfl, rfl⟩

/-- A parser on the ground, as a value. -/
@[reducible] def gpar (a : Option Addr) (c : Nat) : Value := .agg #[.int .i64 0, .slice a 0 c, .string ⟨#[]⟩, .bool false]

set_option maxHeartbeats 400000 in
theorem sameParser_nil (a1 a2 : Option Addr) (c1 c2 : Nat) (w : World) :
    Calls Tryz.prog 21 #[gpar a1 c1, gpar a2 c2] w fun e w' => e = .returned (.bool true) ∧ Below w.heap.size w w' := by
  have HB : Hid (∀ o1 o2 : Obj, Below w.heap.size w ((w.alloc o1).alloc o2)) := fun o1 o2 => (below1 _ _).alloc (by simp) _
  go_enter Tryz.func21, Tryz.ntmps21
  go_wp2_with (go_at_call 36; refine (sameNumbers_nil a1 a2 c1 c2 _).mono ?_; rintro e w1 ⟨rfl, rfl⟩)
  go_ret
  exact ⟨ret_bool (by simp), HB.out _ _⟩

end Go.Proofs.YtpichplhidiokabGreatDoor

/- What 'All' does with no events; what it does, whole. -/
namespace Go.Proofs.YtpichplhidiokabGreatDoor
open Go.RowKit

set_option maxHeartbeats 1000000 in
theorem all_nil (g : Gr) (ao : Option Addr) (cap : Nat) (lo : Option Addr) (lc : Nat) (w : World) (hr : RdS w ao g.n g.f) (hn : ao = none → g.n = 0 ∧ cap = 0) (hm : g.n ≤ 4398046511104) :
    Calls Tryz.prog 20 #[gval g ao cap, .slice lo 0 lc] w (AllEnd w (g, 0)) := by
  have HR : Hid (RdS w ao g.n g.f) := hr
  have HCL : Hid (∀ w, RdS w ao g.n g.f → Calls Tryz.prog 23 #[.slice ao g.n cap] w fun e w' => ∃ ao' cap', e = .returned (.slice ao' g.n cap') ∧ Copied w g.n g.f ao' cap' w') := fun w hr => clone_any ao cap g.n g.f w hr hn (by omega)
  have HB2 : Hid (∀ o1 o2 : Obj, Below w.heap.size w ((w.alloc o1).alloc o2)) := fun o1 o2 => (below1 _ _).alloc (by simp) _
  clear hr hn hm
  go_enter Tryz.func20, Tryz.ntmps20
  go_upto_region 1 with fail
  go_cut [] from 9 to 12 (fun wx => ∃ ao' cap', Start w g ao' cap' wx)
  case first =>
    go_wp2_with (go_at_call 23; refine (HCL.out _ (HR.out.below (HB2.out _ _))).mono ?_; rintro e w1 ⟨ao', cap', rfl, hcp⟩; have HCP : Hid (Copied _ g.n g.f ao' cap' w1) := hcp; obtain ⟨⟨x0, x1, x2, x3, x4, x5, x6, x7, x8⟩, z⟩ := nine (below_block hcp.2.2 (at_old (at_new w _) _) (by simp; omega)); clear hcp)
    go_meet
    exact ⟨ao', cap', start_of HCP.out⟩
  case rest =>
    obtain ⟨ao', cap', hst⟩ := hcut
    obtain ⟨⟨x0, x1, x2, x3, x4, x5, x6, x7, x8⟩, z⟩ := nine hst.box
    obtain ⟨⟨y0, y1, y2, y3, y4, y5, y6, y7, y8⟩, z2⟩ := nine hst.res
    have HST : Hid (Start w g ao' cap' wc) := hst
    clear hst HCL HR
    go_wp2
    go_loopw [24] (fun i wr => i = .int .i64 0 ∧ wr = wc) (fun _ _ => 0)
    case atStart => exact ⟨rfl, rfl⟩
    case round =>
      obtain ⟨rfl, rfl⟩ := hrel
      go_wp2
      refine bodyPost_ret (v := .tuple #[gval g ao' cap', .int .i64 0]) (by simp [results, Tryz.results20, go_sem, *]) rfl ?_
      exact ⟨ao', cap', rfl, HST.out.copied (Below.refl _ _) _ _ _ _ _ _ _ _ _⟩

theorem alls_any (g : Gr) (ao : Option Addr) (cap : Nat) (lo : Option Addr) (evs : List EvIt) (lc : Nat) (w : World) (hr : RdS w ao g.n g.f) (hn : ao = none → g.n = 0 ∧ cap = 0) (hm : g.n ≤ 4398046511104) (hev : RdE w lo evs) (hl : evs.length ≤ 140737488355328)
    (hb : ∀ x ∈ evs, x.1.ps.length ≤ 140737488355328 ∧ x.1.pl.size ≤ 140737488355328) (r : Gr × Int) (hrr : r = allR g (evs.map (·.1))) :
    Calls Tryz.prog 20 #[gval g ao cap, .slice lo evs.length lc] w (AllEnd w r) := by
  cases evs with
  | nil =>
    have : r = (g, 0) := by rw [hrr]; rfl
    rw [this]
    exact all_nil g ao cap lo lc w hr hn hm
  | cons e l =>
    refine all_some g ao cap lo (e :: l) lc w hr hn hm hev hl (by simp) ?_ r ?_
    · intro x hx hc
      have := hb x hx
      exact done_any x.1 x.2.1 x.2.2 (by omega) (by omega) hc
    · rw [hrr]; unfold allR; rw [if_neg (by simp)]

end Go.Proofs.YtpichplhidiokabGreatDoor

/- Feed and All over bytes that send. -/
namespace Go.Proofs.YtpichplhidiokabGreatDoor
open Go.RowKit
set_option maxRecDepth 100000

theorem feed_sent {g x : Gr} {l : List UInt8} (hs : Sends g l x) (hl : l.length ≤ 4000) (w : World) :
    Calls Tryz.prog 19 #[gpar none 0, .string (bs l)] w fun e w' => ∃ ao' cap' tq tc, ∃ its : List EvIt, e = .returned (.tuple #[gpar ao' cap', .slice tq its.length tc, .int .i64 0]) ∧
      RdE w' tq its ∧ its.map (·.1) = (Ps.feedE Ps.ground l).map toE ∧ Below w.heap.size w w' := by
  have hd : (bs l).data.toList = l := by simp []
  have hz : (bs l).size = l.length := by simp [ByteArray.size]
  have h := Ps.feed_any Ps.ground none 0 (bs l) w (.inl rfl) (fun _ => ⟨rfl, rfl⟩) (by decide) (by omega)
  refine h.mono ?_
  rintro e w' ⟨hb, _, hg⟩
  obtain ⟨ao', cap', tq, tc, evs, he, _, ht, hm⟩ := hg ((Ps.goodB_iff _).2 Ps.good_ground)
  rw [hd] at he hm
  rw [hs.all.1] at he
  refine ⟨ao', cap', tq, tc, evs.map toIt, ?_, told_read ht, told_evs hm, hb⟩
  rw [he, List.length_map]
  rfl

theorem all_sent {g x : Gr} (ok : OkG g) {l : List UInt8} (hs : Sends g l x) (hl : l.length ≤ 4000) (ao : Option Addr) (cap : Nat) (w : World) (hr : RdS w ao g.n g.f) (hn : ao = none → g.n = 0 ∧ cap = 0) (tq : Option Addr) (tc : Nat) (its : List EvIt) (he : RdE w tq its) (hi : its.map (·.1) = (Ps.feedE Ps.ground l).map toE) :
    Calls Tryz.prog 20 #[gval g ao cap, .slice tq its.length tc] w (AllEnd w (x, 0)) := by
  have hlen : its.length ≤ 4000 := by
    have h1 := congrArg List.length hi
    have h2 := Ps.feed_len l Ps.ground
    simp only [List.length_map] at h1
    omega
  obtain ⟨m1, m2, _⟩ := ok.nums
  refine alls_any g ao cap tq its tc w hr hn (by omega) he (by omega) (fun y hy => ?_) (x, 0) ?_
  · have h1 : y.1 ∈ (Ps.feedE Ps.ground l).map toE := by rw [← hi]; exact List.mem_map_of_mem hy
    obtain ⟨v, hv, he⟩ := List.mem_map.1 h1
    have h2 := Ps.small_feed l Ps.ground Ps.sm_ground v hv
    rw [← he]
    have e1 : (toE v).ps.length = v.ps.length := rfl
    have e2 : (toE v).pl.size = v.pl.size := rfl
    obtain ⟨q1, q2⟩ := h2
    omega
  · rw [hi, ← hs.all.2]
    unfold allR
    by_cases hnil : (Ps.feedE Ps.ground l).map toE = []
    · rw [if_pos hnil, hnil]
      rfl
    · rw [if_neg hnil, if_pos ((goodG_iff g).2 ok)]

end Go.Proofs.YtpichplhidiokabGreatDoor
