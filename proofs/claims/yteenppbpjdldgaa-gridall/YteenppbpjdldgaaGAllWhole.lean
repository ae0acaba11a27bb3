/- How great what came in may be: a screen, an event. -/
import Derived.Test.YteenppbpjdldgaaGOpenE
import Derived.SizedLaws
import Derived.Test.YteenppbpjdldgaaGOpenL
import Derived.Test.YteenppbpjdldgaaGAll2
import Derived.Test.YteenppbpjdldgaaGDone2
import Derived.Test.YteenppbpjdldgaaGSizes
import Derived.Test.YteenppbpjdldgaaGAct
namespace Go.Proofs.Yteenppbpjdldgaa
open Go.ChangeShapes Go.WideShapes Go.ChangeAt Go.RowKit Go.Joins
open Go.ChangeMaps (open_string shut_string)

theorem bytesC : Try.prog.bytesOf 49 = 32 := by kernel_rfl
theorem bytes3 : Try.prog.bytesOf 3 = 8 := by kernel_rfl

section
variable {H : Type} {enc : TypeId × Value → H} {W : World} {base : Nat}

set_option maxRecDepth 100000 in
/-- A screen that came in. -/
theorem grid_size {g : Gr} {ao : Option Addr} {cap : Nat} {d : DataW H} {p : List MemPlace} (hv : Value.okWide Try.prog W .any base 41 (gval g ao cap)) (h : DataW.Trod enc Try.prog W 0 (fun _ => true) true 41 (gval g ao cap) d p) (hw : ∀ m ∈ d.weights Try.prog 41, m ≤ reachBytes) : g.n * 32 ≤ reachBytes := by
  obtain ⟨c0, c1, c2, c3, c4, c5, c6, c7, c8, y0, y1, y2, y3, y4, y5, y6, y7, y8, n, he, hd, _, _, h2, _⟩ := open_agg9 Try.underlying41 (by kernel_rfl) cellsG hv h
  simp only [Value.agg.injEq, Array.mk.injEq, List.cons.injEq, and_true] at he
  obtain ⟨_, _, e2, _⟩ := he
  rw [← e2] at h2
  have hw2 : ∀ m ∈ y2.1.weights Try.prog 39, m ≤ reachBytes := fun m hm => hw m (by
    rw [hd]
    simp only [DataW.weights, Try.underlying41, List.map_cons, List.map_nil, DataW.weightsEach]
    exact List.mem_append_right _ (List.mem_append_right _ (List.mem_append_left _ hm)))
  rcases Deep.open_slice Try.underlying39 h2 with ⟨hcs, _⟩ | ⟨a, len, cap', m, n', D, Pl, hcs, _, hl, _, _, hx, _⟩
  · simp only [List.cons.injEq, and_true, Value.slice.injEq] at hcs
    omega
  · simp only [List.cons.injEq, and_true, Value.slice.injEq] at hcs
    have h3 := hw2 _ (by rw [hx]; simp only [DataW.weights, Try.underlying39]; exact List.mem_cons_self ..)
    rw [bytesC] at h3
    simp only [List.length_map, List.length_range] at h3
    omega

set_option maxRecDepth 100000 in
/-- An event that came in. -/
theorem event_size {e : Evt} {eo : Option Addr} {ec : Nat} {d : DataW H} {p : List MemPlace} (hv : Value.okWide Try.prog W .any base 37 (eval e eo ec)) (h : DataW.Trod enc Try.prog W 0 (fun _ => true) true 37 (eval e eo ec) d p) (hw : ∀ m ∈ d.weights Try.prog 37, m ≤ reachBytes) : e.ps.length * 8 ≤ reachBytes ∧ e.pl.size ≤ reachBytes := by
  obtain ⟨c0, c1, c2, c3, y0, y1, y2, y3, m, he, hd, _, _, _, h2, h3⟩ := open_agg4 Try.underlying37 (by kernel_rfl) cellsE hv h
  simp only [Value.agg.injEq, Array.mk.injEq, List.cons.injEq, and_true] at he
  obtain ⟨_, _, e2, e3⟩ := he
  rw [← e2] at h2
  rw [← e3] at h3
  have hw2 : ∀ m ∈ y2.1.weights Try.prog 22, m ≤ reachBytes := fun m hm => hw m (by
    rw [hd]
    simp only [DataW.weights, Try.underlying37, List.map_cons, List.map_nil, DataW.weightsEach]
    exact List.mem_append_right _ (List.mem_append_right _ (List.mem_append_left _ hm)))
  have hw3 : ∀ m ∈ y3.1.weights Try.prog 9, m ≤ reachBytes := fun m hm => hw m (by
    rw [hd]
    simp only [DataW.weights, Try.underlying37, List.map_cons, List.map_nil, DataW.weightsEach]
    exact List.mem_append_right _ (List.mem_append_right _ (List.mem_append_right _ (List.mem_append_left _ hm))))
  constructor
  · rcases Deep.open_slice Try.underlying22 h2 with ⟨hcs, _⟩ | ⟨a, len, cap', m', n', D, Pl, hcs, _, hl, _, _, hx, _⟩
    · simp only [List.cons.injEq, and_true, Value.slice.injEq] at hcs
      omega
    · simp only [List.cons.injEq, and_true, Value.slice.injEq] at hcs
      have h4 := hw2 _ (by rw [hx]; simp only [DataW.weights, Try.underlying22]; exact List.mem_cons_self ..)
      rw [bytes3] at h4
      simp only [List.length_map, List.length_range] at h4
      omega
  · obtain ⟨pl, e4, e5, _⟩ := DataW.trod_string Try.underlying9 h3
    simp only [List.cons.injEq, and_true, Value.string.injEq] at e4
    have h4 := hw3 _ (by rw [e5]; simp only [DataW.weights]; exact List.mem_cons_self ..)
    rw [e4]
    have : pl.data.toList.length = pl.size := by rw [Array.length_toList]; rfl
    omega
end

end Go.Proofs.Yteenppbpjdldgaa

namespace Go.Proofs.Yteenppbpjdldgaa
open Go.ChangeShapes Go.WideShapes Go.ChangeAt Go.RowKit Go.Joins
open Go.ChangeMaps (open_string shut_string)

theorem bytesE : Try.prog.bytesOf 37 = 56 := by kernel_rfl
theorem weights_all {H : Type} {P : Program} {e : TypeId} {d : DataW H} {q : Nat} : ∀ {l : List (DataW H)}, d ∈ l → q ∈ d.weights P e → q ∈ DataW.weightsAll P e l
  | x :: r, hd, hq => by
    simp only [DataW.weightsAll, List.mem_append]
    rcases List.mem_cons.1 hd with h | h
    · subst h; exact .inl hq
    · exact .inr (weights_all h hq)
  | [], hd, _ => by cases hd

section
variable {H : Type} {enc : TypeId × Value → H} {W : World} {base : Nat}

set_option maxRecDepth 100000 in
theorem open_event4F {sp : Nat → Bool} {hd : Bool} {n : Nat} {cs : List Value} {x : DataW H × List MemPlace} (h : DataW.trod enc Try.prog W 0 sp hd n 37 cs = some x) :
    ∃ ev : EvIt, cs = [.int .i64 ev.1.kind, .int .i64 ev.1.b, .slice ev.2.1 ev.1.ps.length ev.2.2, .string ev.1.pl] ∧ RdL W ev.2.1 ev.1.ps ∧ ((∀ m ∈ x.1.weights Try.prog 37, m ≤ reachBytes) → ev.1.ps.length * 8 ≤ reachBytes ∧ ev.1.pl.size ≤ reachBytes) := by
  obtain ⟨y0, y1, y2, y3, m, hx, hl, h0, h1, h2, h3⟩ := trod_struct4 Try.underlying37 h
  rw [cellsE] at hl
  obtain ⟨c0, c1, c2, c3, rfl⟩ := list4 hl
  have one3 : Try.prog.cellsOf 3 = 1 := by kernel_rfl
  have one2 : Try.prog.cellsOf 22 = 1 := by kernel_rfl
  have one9 : Try.prog.cellsOf 9 = 1 := by kernel_rfl
  simp only [List.drop, one3, one2, one9, List.take] at h0 h1 h2 h3
  obtain ⟨e, eo, ec, rfl, rfl, rfl, rfl, hr, hb⟩ := open_event_cells h0 h1 h2 h3
  refine ⟨(e, eo, ec), rfl, hr, fun hw => ?_⟩
  have hw2 : ∀ m ∈ y2.1.weights Try.prog 22, m ≤ reachBytes := fun m hm => hw m (by
    rw [hx]
    simp only [DataW.weights, Try.underlying37, List.map_cons, List.map_nil, DataW.weightsEach]
    exact List.mem_append_right _ (List.mem_append_right _ (List.mem_append_left _ hm)))
  have hw3 : ∀ m ∈ y3.1.weights Try.prog 9, m ≤ reachBytes := fun m hm => hw m (by
    rw [hx]
    simp only [DataW.weights, Try.underlying37, List.map_cons, List.map_nil, DataW.weightsEach]
    exact List.mem_append_right _ (List.mem_append_right _ (List.mem_append_right _ (List.mem_append_left _ hm))))
  constructor
  · show e.ps.length * 8 ≤ reachBytes
    rcases Deep.open_slice Try.underlying22 h2 with ⟨hcs, _⟩ | ⟨a, len, cap', m', n', D, Pl, hcs, _, hl', _, _, hx', _⟩
    · simp only [List.cons.injEq, and_true, Value.slice.injEq] at hcs
      omega
    · simp only [List.cons.injEq, and_true, Value.slice.injEq] at hcs
      have h4 := hw2 _ (by rw [hx']; simp only [DataW.weights, Try.underlying22]; exact List.mem_cons_self ..)
      rw [bytes3] at h4
      simp only [List.length_map, List.length_range] at h4
      omega
  · show e.pl.size ≤ reachBytes
    obtain ⟨pl, e4, e5, _⟩ := DataW.trod_string Try.underlying9 h3
    simp only [List.cons.injEq, and_true, Value.string.injEq] at e4
    have h4 := hw3 _ (by rw [e5]; simp only [DataW.weights]; exact List.mem_cons_self ..)
    rw [e4]
    have : pl.data.toList.length = pl.size := by rw [Array.length_toList]; rfl
    omega

set_option maxRecDepth 100000 in
theorem open_eventsF {v : Value} {d : DataW H} {p : List MemPlace} (hv : Value.okWide Try.prog W .any base 26 v) (h : DataW.Trod enc Try.prog W 0 (fun _ => true) true 26 v d p) :
    ∃ (lo : Option Addr) (lc : Nat) (evs : List EvIt), v = .slice lo evs.length lc ∧ RdE W lo evs ∧ ((∀ m ∈ d.weights Try.prog 26, m ≤ reachBytes) → evs.length ≤ reachBytes ∧ ∀ x ∈ evs, x.1.ps.length * 8 ≤ reachBytes ∧ x.1.pl.size ≤ reachBytes) := by
  obtain ⟨a0, l0, c0, rfl⟩ := okWide_slice Try.underlying26 hv
  obtain ⟨fuel, hf⟩ := h
  have hf' : DataW.trod enc Try.prog W 0 (fun _ => true) true fuel 26 [.slice a0 l0 c0] = some (d, p) := hf
  rcases Deep.open_slice Try.underlying26 hf' with ⟨hcs, _⟩ | ⟨a, len, cap, m, n', D, Pl, hcs, _, hl, hm, hmm, hx, each⟩
  · simp only [List.cons.injEq, and_true, Value.slice.injEq] at hcs
    obtain ⟨rfl, rfl, rfl⟩ := hcs
    exact ⟨none, 0, [], rfl, ⟨fun x hx => (by cases hx), .inl rfl⟩, fun _ => ⟨Nat.zero_le _, fun x hx => (by cases hx)⟩⟩
  · simp only [List.cons.injEq, and_true, Value.slice.injEq] at hcs
    obtain ⟨rfl, rfl, rfl⟩ := hcs
    have hlm : l0 ≤ m := by rw [hmm]; split <;> omega
    have hd : d = (.slice ((List.range l0).map D) ((List.range (m - l0)).map fun j => D (l0 + j)) : DataW H) := by
      have := congrArg Prod.fst hx
      exact this
    have hbk : (∀ m ∈ d.weights Try.prog 26, m ≤ reachBytes) → l0 ≤ reachBytes := by
      intro hw
      have h4 := hw _ (by rw [hd]; simp only [DataW.weights, Try.underlying26]; exact List.mem_cons_self ..)
      rw [bytesE] at h4
      simp only [List.length_map, List.length_range] at h4
      omega
    have ev : ∀ i, i < l0 → ∃ x : EvIt, (W.cell? (a.add (i * 4)) = some (.int .i64 x.1.kind) ∧ W.cell? (a.add (i * 4 + 1)) = some (.int .i64 x.1.b) ∧ W.cell? (a.add (i * 4 + 2)) = some (.slice x.2.1 x.1.ps.length x.2.2) ∧ W.cell? (a.add (i * 4 + 3)) = some (.string x.1.pl)) ∧ RdL W x.2.1 x.1.ps ∧ ((∀ m ∈ d.weights Try.prog 26, m ≤ reachBytes) → x.1.ps.length * 8 ≤ reachBytes ∧ x.1.pl.size ≤ reachBytes) := by
      intro i hi
      obtain ⟨cs', h1, h2⟩ := each i (by omega)
      obtain ⟨_, _, hcell⟩ := World.cells?_some h1
      obtain ⟨x, rfl, hr, hb⟩ := open_event4F h2
      have hc : ∀ j, j < 4 → W.cell? (a.add (i * 4 + j)) = [Value.int .i64 x.1.kind, .int .i64 x.1.b, .slice x.2.1 x.1.ps.length x.2.2, .string x.1.pl][j]? := by
        intro j hj
        have := hcell j (by rw [cellsE]; exact hj)
        rw [cellsE, Deep.add_add] at this
        exact this
      refine ⟨x, ⟨hc 0 (by omega), hc 1 (by omega), hc 2 (by omega), hc 3 (by omega)⟩, hr, fun hw => hb fun q hq => hw q ?_⟩
      rw [hd]
      simp only [DataW.weights, Try.underlying26]
      exact List.mem_cons_of_mem _ (List.mem_append_left _ (weights_all (List.mem_map.2 ⟨i, List.mem_range.2 hi, rfl⟩) hq))
    obtain ⟨F, hF⟩ : ∃ F : Nat → EvIt, F = fun i => if h : i < l0 then Classical.choose (ev i h) else (⟨0, 0, [], ⟨#[]⟩⟩, none, 0) := ⟨_, rfl⟩
    have hFs : ∀ i, i < l0 → (W.cell? (a.add (i * 4)) = some (.int .i64 (F i).1.kind) ∧ W.cell? (a.add (i * 4 + 1)) = some (.int .i64 (F i).1.b) ∧ W.cell? (a.add (i * 4 + 2)) = some (.slice (F i).2.1 (F i).1.ps.length (F i).2.2) ∧ W.cell? (a.add (i * 4 + 3)) = some (.string (F i).1.pl)) ∧ RdL W (F i).2.1 (F i).1.ps ∧ ((∀ m ∈ d.weights Try.prog 26, m ≤ reachBytes) → (F i).1.ps.length * 8 ≤ reachBytes ∧ (F i).1.pl.size ≤ reachBytes) := by
      intro i hi
      have hs := Classical.choose_spec (ev i hi)
      have e : F i = Classical.choose (ev i hi) := by rw [hF]; simp only [dif_pos hi]
      rw [e]
      exact hs
    clear hF ev
    have hlen : ((List.range l0).map F).length = l0 := by simp
    refine ⟨some a, c0, (List.range l0).map F, by rw [hlen], ⟨?_, ?_⟩, fun hw => ⟨by rw [hlen]; exact hbk hw, ?_⟩⟩
    · intro x hx
      obtain ⟨i, hi, rfl⟩ := List.mem_map.1 hx
      exact (hFs i (List.mem_range.1 hi)).2.1
    · rcases Nat.eq_zero_or_pos l0 with h0 | h0
      · left; simp [h0]
      · right
        obtain ⟨b, off, spot⟩ := a
        have hspot : spot = none := by
          have h1 := (hFs 0 h0).1.1
          have h2 := World.cell?_spot h1
          simpa [Addr.add] using h2
        subst hspot
        refine ⟨b, off, rfl, fun k hk => ?_⟩
        rw [hlen] at hk
        have h1 := (hFs k hk).1
        simp only [add_at] at h1
        simp only [List.getElem_map, List.getElem_range, ← Nat.add_assoc] at h1 ⊢
        exact h1
    · intro x hx
      obtain ⟨i, hi, rfl⟩ := List.mem_map.1 hx
      exact (hFs i (List.mem_range.1 hi)).2.2 hw
end

end Go.Proofs.Yteenppbpjdldgaa

namespace Go.Proofs.Yteenppbpjdldgaa
open Go.RowKit

set_option maxHeartbeats 1000000 in
theorem all_nil (g : Gr) (ao : Option Addr) (cap : Nat) (lo : Option Addr) (lc : Nat) (w : World) (hr : RdS w ao g.n g.f) (hn : ao = none → g.n = 0 ∧ cap = 0) (hm : g.n ≤ 4398046511104) :
    Calls Try.prog 41 #[gval g ao cap, .slice lo 0 lc] w (AllEnd w (g, 0)) := by
  have HR : Hid (RdS w ao g.n g.f) := hr
  have HCL : Hid (∀ w, RdS w ao g.n g.f → Calls Try.prog 63 #[.slice ao g.n cap] w fun e w' => ∃ ao' cap', e = .returned (.slice ao' g.n cap') ∧ Copied w g.n g.f ao' cap' w') := fun w hr => clone_any ao cap g.n g.f w hr hn (by omega)
  have HB2 : Hid (∀ o1 o2 : Obj, Below w.heap.size w ((w.alloc o1).alloc o2)) := fun o1 o2 => (below1 _ _).alloc (by simp) _
  clear hr hn hm
  go_enter Try.func41, Try.ntmps41
  go_upto_region 1 with fail
  go_cut [] from 9 to 12 (fun wx => ∃ ao' cap', Start w g ao' cap' wx)
  case first =>
    go_wp2_with (go_at_call 63; refine (HCL.out _ (HR.out.below (HB2.out _ _))).mono ?_; rintro e w1 ⟨ao', cap', rfl, hcp⟩; have HCP : Hid (Copied _ g.n g.f ao' cap' w1) := hcp; obtain ⟨⟨x0, x1, x2, x3, x4, x5, x6, x7, x8⟩, z⟩ := nine (below_block hcp.2.2 (at_old (at_new w _) _) (by simp; omega)); clear hcp)
    go_meet
    exact ⟨ao', cap', start_of HCP.out⟩
  case rest =>
    obtain ⟨ao', cap', hst⟩ := hcut
    obtain ⟨⟨x0, x1, x2, x3, x4, x5, x6, x7, x8⟩, z⟩ := nine hst.box
    obtain ⟨⟨y0, y1, y2, y3, y4, y5, y6, y7, y8⟩, z2⟩ := nine hst.res
    have HST : Hid (Start w g ao' cap' wc) := hst
    clear hst HCL HR
    go_wp2
    go_loopw [24] (fun i wr => i = .int .i64 0 ∧ wr = wc) (fun _ _ => 0)
    case atStart => exact ⟨rfl, rfl⟩
    case round =>
      obtain ⟨rfl, rfl⟩ := hrel
      go_wp2
      refine bodyPost_ret (v := .tuple #[gval g ao' cap', .int .i64 0]) (by simp [results, Try.results41, go_sem, *]) rfl ?_
      exact ⟨ao', cap', rfl, HST.out.copied (Below.refl _ _) _ _ _ _ _ _ _ _ _⟩

theorem alls_any (g : Gr) (ao : Option Addr) (cap : Nat) (lo : Option Addr) (evs : List EvIt) (lc : Nat) (w : World) (hr : RdS w ao g.n g.f) (hn : ao = none → g.n = 0 ∧ cap = 0) (hm : g.n ≤ 4398046511104) (hev : RdE w lo evs) (hl : evs.length ≤ 140737488355328)
    (hb : ∀ x ∈ evs, x.1.ps.length ≤ 140737488355328 ∧ x.1.pl.size ≤ 140737488355328) (r : Gr × Int) (hrr : r = allR g (evs.map (·.1))) :
    Calls Try.prog 41 #[gval g ao cap, .slice lo evs.length lc] w (AllEnd w r) := by
  cases evs with
  | nil =>
    have : r = (g, 0) := by rw [hrr]; rfl
    rw [this]
    exact all_nil g ao cap lo lc w hr hn hm
  | cons e l =>
    refine all_some g ao cap lo (e :: l) lc w hr hn hm hev hl (by simp) ?_ r ?_
    · intro x hx hc
      have := hb x hx
      exact done_any x.1 x.2.1 x.2.2 (by omega) (by omega) hc
    · rw [hrr]; unfold allR; rw [if_neg (by simp)]

end Go.Proofs.Yteenppbpjdldgaa


namespace Go.Proofs.Yteenppbpjdldgaa
open Go.RowKit

theorem rd_far {w : World} {ao : Option Addr} {n : Nat} {f : Nat → Cel} (h : RdS w ao n f) (hn : 0 < n) (a : Addr) (ha : ao = some a) : a.block < w.heap.size := by
  obtain ⟨b, off, rfl, hc⟩ := h.resolve_left (by omega)
  obtain rfl : (⟨b, off, none⟩ : Addr) = a := by simpa using ha
  exact World.block_lt_of_cell? _ _ (hc 0 hn).1

theorem rd_set {w : World} {ao : Option Addr} {n : Nat} {f : Nat → Cel} {B : Nat} (h : RdS w ao n f) (hf : 0 < n → ∀ a, ao = some a → a.block ≠ B) (j : Nat) (u : Value) : RdS (w.setCell ⟨B, j, none⟩ u) ao n f := by
  rcases Nat.eq_zero_or_pos n with h0 | h0
  · exact .inl h0
  · obtain ⟨b, off, rfl, hc⟩ := h.resolve_left (by omega)
    have hne : b ≠ B := hf h0 _ rfl
    have e : ∀ i, (w.setCell ⟨B, j, none⟩ u).cell? ⟨b, i, none⟩ = w.cell? ⟨b, i, none⟩ := fun i => World.cell?_setCell_other _ _ _ _ (by intro e; simp only [Addr.mk.injEq] at e; omega)
    refine .inr ⟨b, off, rfl, fun i hi => ?_⟩
    obtain ⟨a0, a1, a2, a3⟩ := hc i hi
    exact ⟨(e _).trans a0, (e _).trans a1, (e _).trans a2, (e _).trans a3⟩
theorem rd_set9 {w : World} {ao : Option Addr} {n : Nat} {f : Nat → Cel} {B : Nat} (h : RdS w ao n f) (hf : 0 < n → ∀ a, ao = some a → a.block ≠ B) (u0 u1 u2 u3 u4 u5 u6 u7 u8 : Value) :
    RdS (((((((((w.setCell ⟨B, 0, none⟩ u0).setCell ⟨B, 1, none⟩ u1).setCell ⟨B, 2, none⟩ u2).setCell ⟨B, 3, none⟩ u3).setCell ⟨B, 4, none⟩ u4).setCell ⟨B, 5, none⟩ u5).setCell ⟨B, 6, none⟩ u6).setCell ⟨B, 7, none⟩ u7).setCell ⟨B, 8, none⟩ u8) ao n f :=
  rd_set (rd_set (rd_set (rd_set (rd_set (rd_set (rd_set (rd_set (rd_set h hf _ _) hf _ _) hf _ _) hf _ _) hf _ _) hf _ _) hf _ _) hf _ _) hf _ _

/-- What holds at each round's head. -/
structure Lv (w : World) (g ra : Gr) (q0 : Int) (oa : Option Addr) (ca A Bb : Nat) (evl : List Evt) (k : Nat) (x : Gr) (q : Int) (ob : Option Addr) (cb : Nat) (wr : World) : Prop where
  ok : OkG x
  says : (q = 0 ∧ (ra, q0) = allG x (evl.drop k)) ∨ (q ≠ 0 ∧ (ra, q0) = (x, q))
  boxa : wr.heap[A]? = some (gbox ra oa ca)
  boxb : wr.heap[Bb]? = some (gbox x ob cb)
  rda : RdS wr oa ra.n ra.f
  rdb : RdS wr ob x.n x.f
  fara : 0 < ra.n → ∀ a, oa = some a → a.block ≠ Bb
  farb : 0 < x.n → ∀ a, ob = some a → a.block ≠ Bb
  ab : A < Bb
  wb : w.heap.size ≤ A
  below : Below w.heap.size w wr

theorem ok_pos {g : Gr} (ok : OkG g) : 0 < g.n := by
  obtain ⟨q1, q2, q3, q4, _⟩ := ok.nums
  have := ok.w1
  have := ok.r1
  omega

theorem lv_step {w : World} {g ra : Gr} {q0 : Int} {oa : Option Addr} {ca A Bb : Nat} {evl : List Evt} {k : Nat} {x : Gr} {ob : Option Addr} {cb : Nat} {wr w5 : World} (h : Lv w g ra q0 oa ca A Bb evl k x 0 ob cb wr) (hk : k < evl.length) {r2 : Gr × Int} (hr2 : r2 = actG x evl[k]) {o5 : Option Addr} {c5 : Nat} (hrd : RdS w5 o5 r2.1.n r2.1.f) (hb : Below wr.heap.size wr w5) (ho : o5 = ob ∨ ∃ b, o5 = some ⟨b, 0, none⟩ ∧ wr.heap.size ≤ b) :
    Lv w g ra q0 oa ca A Bb evl (k + 1) r2.1 r2.2 o5 c5 (((((((((w5.setCell ⟨Bb, 0, none⟩ (.int .i64 r2.1.wide)).setCell ⟨Bb, 1, none⟩ (.int .i64 r2.1.high)).setCell ⟨Bb, 2, none⟩ (.slice o5 r2.1.n c5)).setCell ⟨Bb, 3, none⟩ (.int .i64 r2.1.row)).setCell ⟨Bb, 4, none⟩ (.int .i64 r2.1.col)).setCell ⟨Bb, 5, none⟩ (.int .i64 r2.1.ink)).setCell ⟨Bb, 6, none⟩ (.bool r2.1.bold)).setCell ⟨Bb, 7, none⟩ (.int .i64 r2.1.top)).setCell ⟨Bb, 8, none⟩ (.int .i64 r2.1.bottom)) := by
  have hs : (ra, q0) = allG x (evl.drop k) := by
    rcases h.says with ⟨_, h⟩ | ⟨h, _⟩
    · exact h
    · exact absurd rfl h
  rw [List.drop_eq_getElem_cons hk] at hs
  have hBlt : Bb < wr.heap.size := (Array.getElem?_eq_some_iff.1 h.boxb).1
  have hAlt : A < wr.heap.size := (Array.getElem?_eq_some_iff.1 h.boxa).1
  have hg2 : goodG x = true := (goodG_iff x).2 h.ok
  have hfar : 0 < r2.1.n → ∀ a, o5 = some a → a.block ≠ Bb := by
    intro _ a ha
    rcases ho with rfl | ⟨b, rfl, hb⟩
    · exact h.farb (ok_pos h.ok) a ha
    · obtain rfl : (⟨b, 0, none⟩ : Addr) = a := by simpa using ha
      show b ≠ Bb
      omega
  have hok : OkG r2.1 ∧ ((r2.2 = 0 ∧ (ra, q0) = allG r2.1 (evl.drop (k + 1))) ∨ (r2.2 ≠ 0 ∧ (ra, q0) = (r2.1, r2.2))) := by
    unfold actG at hr2
    rw [hg2] at hr2
    simp only [if_true] at hr2
    unfold allG at hs
    by_cases hc : checkE evl[k] = 0
    · rw [if_pos hc] at hr2 hs
      rw [hr2]
      exact ⟨(ok_done h.ok _ hc).1, .inl ⟨rfl, hs⟩⟩
    · rw [if_neg hc] at hr2 hs
      rw [hr2]
      exact ⟨h.ok, .inr ⟨hc, hs⟩⟩
  have hAB := h.ab
  have hwA := h.wb
  refine ⟨hok.1, hok.2, set9_other (below_block hb h.boxa hAlt) (by omega) _ _ _ _ _ _ _ _ _, set9_same (below_block hb h.boxb hBlt) _ _ _ _ _ _ _ _ _, rd_set9 (h.rda.below hb) h.fara _ _ _ _ _ _ _ _ _, rd_set9 hrd hfar _ _ _ _ _ _ _ _ _, h.fara, hfar, h.ab, h.wb, below_set9 (h.below.trans (hb.mono h.below.size)) (by omega) _ _ _ _ _ _ _ _ _⟩

theorem lv_end {w : World} {g ra : Gr} {q0 : Int} {oa : Option Addr} {ca A Bb : Nat} {evl : List Evt} {k : Nat} {x : Gr} {q : Int} {ob : Option Addr} {cb : Nat} {wr : World} (h : Lv w g ra q0 oa ca A Bb evl k x q ob cb wr) (hk : q = 0 → evl.length ≤ k) : ra = x ∧ q0 = q := by
  rcases h.says with ⟨rfl, hs⟩ | ⟨_, hs⟩
  · rw [List.drop_eq_nil_of_le (hk rfl)] at hs
    simpa [allG] using hs
  · simpa using hs

end Go.Proofs.Yteenppbpjdldgaa

namespace Go.Proofs.Yteenppbpjdldgaa
open Go.RowKit

set_option maxRecDepth 4000 in
set_option maxHeartbeats 4000000 in
theorem alllaw_any (g : Gr) (ao : Option Addr) (cap : Nat) (lo : Option Addr) (evs : List EvIt) (lc : Nat) (w : World) (hr : RdS w ao g.n g.f) (hn : ao = none → g.n = 0 ∧ cap = 0) (hm : g.n ≤ 4398046511104) (hev : RdE w lo evs) (hl : evs.length ≤ 140737488355328) (hb : ∀ x ∈ evs, x.1.ps.length ≤ 140737488355328 ∧ x.1.pl.size ≤ 140737488355328) :
    Calls Try.prog 9 #[gval g ao cap, .slice lo evs.length lc] w fun e w' => e = .returned (.bool true) ∧ Below w.heap.size w w' := by
  obtain ⟨r, hrr⟩ : ∃ r, r = allR g (evs.map (·.1)) := ⟨_, rfl⟩
  have HCP : Hid (∀ w, RdS w ao g.n g.f → Calls Try.prog 26 #[gval g ao cap] w (CopyEnd w g)) := fun w hr => copyGrid_any g ao cap w hr hn hm
  have HAL : Hid (∀ w oc cc, RdS w oc g.n g.f → (oc = none → g.n = 0 ∧ cc = 0) → RdE w lo evs → Calls Try.prog 41 #[gval g oc cc, .slice lo evs.length lc] w (AllEnd w r)) := fun w oc cc h1 h2 h3 => alls_any g oc cc lo evs lc w h1 h2 hm h3 hl hb r hrr
  obtain ⟨gg, hgg⟩ : ∃ b, b = goodG g := ⟨_, rfl⟩
  have HGR : Hid (∀ w, RdS w ao g.n g.f → Calls Try.prog 31 #[gval g ao cap] w fun e w' => e = .returned (.bool gg) ∧ Below w.heap.size w w') := fun w h => goodGrid_any g ao cap w h hm gg hgg
  obtain ⟨ra, q0⟩ := r
  have HR : Hid (RdS w ao g.n g.f ∧ RdE w lo evs) := ⟨hr, hev⟩
  have HBN : Hid (∀ x ∈ evs, x.1.ps.length ≤ 140737488355328 ∧ x.1.pl.size ≤ 140737488355328) := hb
  have HRR : Hid ((ra, q0) = allR g (evs.map (·.1))) := hrr
  have HGG : Hid (gg = goodG g ∧ g.n ≤ 4398046511104) := ⟨hgg, hm⟩
  clear hr hn hm hev hb hrr hgg
  cases gg
  · have hra : ra = g ∧ ((((evs.length : Int) == 0) = true ∧ q0 = 0) ∨ (((evs.length : Int) == 0) = false ∧ q0 = 1)) := by
      have h := HRR.out
      unfold allR at h
      rw [← HGG.out.1] at h
      cases evs with
      | nil => simp at h; exact ⟨h.1, .inl ⟨rfl, h.2⟩⟩
      | cons e l => simp at h; exact ⟨h.1, .inr ⟨by simp; omega, h.2⟩⟩
    obtain ⟨rfl, hq⟩ := hra
    have HSG : Hid (∀ w oc cc, RdS w oc ra.n ra.f → RdS w ao ra.n ra.f → Calls Try.prog 29 #[gval ra oc cc, gval ra ao cap] w fun e w' => e = .returned (.bool true) ∧ Below w.heap.size w w') := fun w oc cc h1 h2 => sameGrid_eq ra oc ao cc cap w h1 h2 HGG.out.2
    rcases hq with ⟨hq1, hq2⟩ | ⟨hq1, hq2⟩
    all_goals (
      subst hq2
      clear HRR HBN
      go_enter Try.func9, Try.ntmps9
      go_wp2_with (first
        | (go_at_call 26; refine (HCP.out _ (HR.out.1.below (below1 _ _))).mono ?_; rintro e1 w2 ⟨oc, cc, rfl, hcp, hcn, hcc⟩; have HC2 : Hid (Copied (w.alloc (gbox ra ao cap)) ra.n ra.f oc cc w2 ∧ (oc = none → ra.n = 0 ∧ cc = 0)) := ⟨hcp, hcn⟩; clear hcp hcn hcc)
        | (go_at_call 41; refine (HAL.out _ oc cc HC2.out.1.1 HC2.out.2 (HR.out.2.below (below_on (below1 _ _) HC2.out.1.2.2))).mono ?_; rintro e1 w3 ⟨oa, ca, rfl, hcp⟩; have HC3 : Hid (Copied w2 ra.n ra.f oa ca w3) := hcp; obtain ⟨⟨p0, p1, p2, p3, p4, p5, p6, p7, p8⟩, p9⟩ := nine (at_later' hcp.2.2 (at_later' HC2.out.1.2.2 (at_new w _))); have hs3 : w.heap.size < w3.heap.size := (by have := hcp.2.2.size; have h2 := HC2.out.1.2.2.size; simp at h2; omega); clear hcp)
        | (go_at_call 31; refine (HGR.out _ (HR.out.1.below (below_on (below_on (below_on (below1 _ _) HC2.out.1.2.2) HC3.out.2.2) (below1 _ _)))).mono ?_; rintro e1 w4 ⟨rfl, hb4⟩; have HBW : Hid (Below w.heap.size w w4) := below_on (below_on (below_on (below_on (below1 _ _) HC2.out.1.2.2) HC3.out.2.2) (below1 _ _)) hb4; have HL4 : Hid (RdS w4 ao ra.n ra.f ∧ RdS w4 oa ra.n ra.f ∧ Below w.heap.size w w4) := ⟨HR.out.1.below HBW.out, HC3.out.1.below (below_on (below1 _ _) hb4), HBW.out⟩; have HLG : Hid (w4.heap[w3.heap.size]? = some (gbox ra oa ca) ∧ RdS w4 oa ra.n ra.f ∧ RdS w4 ao ra.n ra.f ∧ RdS w3 oa ra.n ra.f ∧ Below w.heap.size w w4 ∧ w3.heap.size < w4.heap.size ∧ w.heap.size ≤ w3.heap.size) := ⟨at_later' hb4 (at_new _ _), HL4.out.2.1, HL4.out.1, HC3.out.1, HBW.out, (by have := hb4.size; simp at this; omega), (by omega)⟩; clear p0 p1 p2 p3 p4 p5 p6 p7 p8 p9; obtain ⟨⟨p0, p1, p2, p3, p4, p5, p6, p7, p8⟩, p9⟩ := nine (at_later' hb4 (at_old (at_later' HC3.out.2.2 (at_later' HC2.out.1.2.2 (at_new w _))) _)); obtain ⟨⟨d0, d1, d2, d3, d4, d5, d6, d7, d8⟩, d9⟩ := nine (at_later' hb4 (at_new w3 _)); have hs4 : w3.heap.size < w4.heap.size := (by have := hb4.size; simp at this; omega); have hs40 : w.heap.size < w4.heap.size := (by omega); clear hb4)
        | (go_at_call 29; refine (HSG.out _ oa ca HL4.out.2.1 HL4.out.1).mono ?_; rintro e1 w5 ⟨rfl, hb5⟩; have HL5 : Hid (Below w.heap.size w w5) := below_on HL4.out.2.2 hb5; clear hb5)
        | (go_at_call 32; refine (showsL_any _).mono ?_; rintro e1 w6 ⟨rfl, hb6⟩; have HL6 : Hid (Below w.heap.size w w6) := below_on HL5.out hb6; clear hb6))
      go_ret
      exact ⟨rfl, HL6.out⟩)
  · have ok : OkG g := (goodG_iff g).1 HGG.out.1.symm
    have HS0 : Hid (OkG g ∧ (ra, q0) = allG g (evs.map (·.1))) := by
      refine ⟨ok, ?_⟩
      have h := HRR.out
      unfold allR at h
      rw [← HGG.out.1] at h
      cases evs with
      | nil => simpa [allG] using h
      | cons e l => simpa using h
    have hgp := ok_pos ok
    have HGP : Hid (0 < g.n) := hgp
    clear HRR HGG ok hgp
    go_enter Try.func9, Try.ntmps9
    go_wp2_with (first
        | (go_at_call 26; refine (HCP.out _ (HR.out.1.below (below1 _ _))).mono ?_; rintro e1 w2 ⟨oc, cc, rfl, hcp, hcn, hcc⟩; have HC2 : Hid (Copied (w.alloc (gbox g ao cap)) g.n g.f oc cc w2 ∧ (oc = none → g.n = 0 ∧ cc = 0)) := ⟨hcp, hcn⟩; clear hcp hcn hcc)
        | (go_at_call 41; refine (HAL.out _ oc cc HC2.out.1.1 HC2.out.2 (HR.out.2.below (below_on (below1 _ _) HC2.out.1.2.2))).mono ?_; rintro e1 w3 ⟨oa, ca, rfl, hcp⟩; have HC3 : Hid (Copied w2 ra.n ra.f oa ca w3) := hcp; obtain ⟨⟨p0, p1, p2, p3, p4, p5, p6, p7, p8⟩, p9⟩ := nine (at_later' hcp.2.2 (at_later' HC2.out.1.2.2 (at_new w _))); have hs3 : w.heap.size < w3.heap.size := (by have := hcp.2.2.size; have h2 := HC2.out.1.2.2.size; simp at h2; omega); clear hcp)
        | (go_at_call 31; refine (HGR.out _ (HR.out.1.below (below_on (below_on (below_on (below1 _ _) HC2.out.1.2.2) HC3.out.2.2) (below1 _ _)))).mono ?_; rintro e1 w4 ⟨rfl, hb4⟩; have HBW : Hid (Below w.heap.size w w4) := below_on (below_on (below_on (below_on (below1 _ _) HC2.out.1.2.2) HC3.out.2.2) (below1 _ _)) hb4; have HL4 : Hid (RdS w4 ao g.n g.f ∧ RdS w4 oa ra.n ra.f ∧ Below w.heap.size w w4) := ⟨HR.out.1.below HBW.out, HC3.out.1.below (below_on (below1 _ _) hb4), HBW.out⟩; have HLG : Hid (w4.heap[w3.heap.size]? = some (gbox ra oa ca) ∧ RdS w4 oa ra.n ra.f ∧ RdS w4 ao g.n g.f ∧ RdS w3 oa ra.n ra.f ∧ Below w.heap.size w w4 ∧ w3.heap.size < w4.heap.size ∧ w.heap.size ≤ w3.heap.size) := ⟨at_later' hb4 (at_new _ _), HL4.out.2.1, HL4.out.1, HC3.out.1, HBW.out, (by have := hb4.size; simp at this; omega), (by omega)⟩; clear p0 p1 p2 p3 p4 p5 p6 p7 p8 p9; obtain ⟨⟨p0, p1, p2, p3, p4, p5, p6, p7, p8⟩, p9⟩ := nine (at_later' hb4 (at_old (at_later' HC3.out.2.2 (at_later' HC2.out.1.2.2 (at_new w _))) _)); obtain ⟨⟨d0, d1, d2, d3, d4, d5, d6, d7, d8⟩, d9⟩ := nine (at_later' hb4 (at_new w3 _)); have hs4 : w3.heap.size < w4.heap.size := (by have := hb4.size; simp at this; omega); have hs40 : w.heap.size < w4.heap.size := (by omega); clear hb4)
      )
    go_loopw [8, 9] (fun s8 s9 wr => ∃ (k : Nat) (x : Gr) (q : Int) (ob : Option Addr) (cb : Nat), k ≤ evs.length ∧ s9 = .int .i64 k ∧ s8 = .int .i64 q ∧ Lv w g ra q0 oa ca w3.heap.size w4.heap.size (evs.map (·.1)) k x q ob cb wr) (fun _ i _ => evs.length - (intOf i).toNat)
    case atStart =>
      refine ⟨0, g, 0, ao, cap, Nat.zero_le _, rfl, rfl, ?_⟩
      obtain ⟨c1, c2, c3, c4, c5, c6, c7⟩ := HLG.out
      exact ⟨HS0.out.1, .inl ⟨rfl, HS0.out.2⟩, at_old c1 _, at_new _ _, c2.below (below1 _ _), c3.below (below1 _ _), fun hp a ha => by have := rd_far c4 hp a ha; omega, fun hp a ha => by have := rd_far HR.out.1 HGP.out a ha; omega, c6, c7, below_on c5 (below1 _ _)⟩
    case round =>
      obtain ⟨k, x, q, ob, cb, hk, rfl, rfl, hlv⟩ := hrel
      have HLV : Hid (Lv w g ra q0 oa ca w3.heap.size w4.heap.size (evs.map (·.1)) k x q ob cb wr) := hlv
      clear p0 p1 p2 p3 p4 p5 p6 p7 p8 p9
      obtain ⟨⟨p0, p1, p2, p3, p4, p5, p6, p7, p8⟩, p9⟩ := nine hlv.boxa
      obtain ⟨⟨s0, s1, s2, s3, s4, s5, s6, s7, s8⟩, s9⟩ := nine hlv.boxb
      by_cases hlt : k < evs.length
      · have hlt' : (k : Int) < (evs.length : Int) := by omega
        have hk0 : (0 : Int) ≤ (k : Int) := by omega
        by_cases hq : q = 0
        · subst hq
          have hE := HR.out.2.below hlv.below
          obtain ⟨lb, off, rfl, hcell⟩ := hE.2.resolve_left (fun h0 => by rw [h0] at hlt; simp at hlt)
          obtain ⟨t0, t1, t2, t3⟩ := hcell k hlt
          have hmem : evs[k] ∈ evs := List.getElem_mem hlt
          have HRL : Hid (RdL wr evs[k].2.1 evs[k].1.ps ∧ evs[k].1.ps.length ≤ 140737488355328 ∧ evs[k].1.pl.size ≤ 140737488355328) := ⟨hE.1 _ hmem, HBN.out _ hmem⟩
          have hml : k < (evs.map (·.1)).length := by simpa using hlt
          have hme : (evs.map (·.1))[k] = evs[k].1 := by simp
          obtain ⟨ev, hev⟩ : ∃ ev, ev = evs[k] := ⟨_, rfl⟩
          rw [← hev] at t0 t1 t2 t3 HRL hme
          have HME : Hid (∃ h : k < (evs.map (·.1)).length, (evs.map (·.1))[k] = ev.1) := ⟨hml, hme⟩
          have HAC : Hid (Calls Try.prog 28 #[gval x ob cb, eval ev.1 ev.2.1 ev.2.2] wr.drew (RefEndS wr.drew ob (actG x ev.1))) := by
            have hxp := ok_pos hlv.ok
            have hx1 : x.n ≤ 4398046511104 := by obtain ⟨q1, q2, _⟩ := hlv.ok.nums; omega
            refine act_any x ob cb ev.1 ev.2.1 ev.2.2 wr.drew hlv.rdb ?_ hx1 HRL.out.1 (by have := HRL.out.2; omega) (by have := HRL.out.2; omega) _ rfl
            intro hnone
            obtain ⟨b9, o9, h9, _⟩ := hlv.rdb.resolve_left (by omega)
            rw [hnone] at h9
            cases h9
          clear hE hcell hmem hml hme hev hlv
          obtain ⟨e, eo, ec⟩ := ev
          simp only at t0 t1 t2 t3 HRL HME HAC
          obtain ⟨r2, hr2⟩ : ∃ r2, r2 = actG x e := ⟨_, rfl⟩
          rw [← hr2] at HAC
          have HR2 : Hid (r2 = actG x e) := hr2
          clear hr2
          obtain ⟨y, q2⟩ := r2
          go_wp2_with fail
          go_region_with
            ((go_at_call 28; refine HAC.out.mono ?_; rintro e1 w5 ⟨o5, c5, rfl, hrd5, hb50, ho5⟩; have hb5 : Below wr.heap.size wr w5 := ((Below.refl wr.heap.size wr).drew).trans hb50; clear hb50; have hlb := World.block_lt_of_cell? _ _ t0; simp only at hlb; have g0 := (hb5.cell (p := ⟨lb, off + k * 4, none⟩) hlb).trans t0; have g1 := (hb5.cell (p := ⟨lb, off + k * 4 + 1, none⟩) hlb).trans t1; have g2 := (hb5.cell (p := ⟨lb, off + k * 4 + 2, none⟩) hlb).trans t2; have g3 := (hb5.cell (p := ⟨lb, off + k * 4 + 3, none⟩) hlb).trans t3; have HE5 : Hid (RdS w5 o5 y.n y.f ∧ Below wr.heap.size wr w5 ∧ (o5 = ob ∨ ∃ b, o5 = some ⟨b, 0, none⟩ ∧ wr.heap.size ≤ b)) := ⟨hrd5, hb5, ho5⟩; clear s0 s1 s2 s3 s4 s5 s6 s7 s8 s9; obtain ⟨⟨s0, s1, s2, s3, s4, s5, s6, s7, s8⟩, s9⟩ := nine (below_block (show Below wr.heap.size wr w5 from hb5) HLV.out.boxb (Array.getElem?_eq_some_iff.1 HLV.out.boxb).1); clear hrd5 hb5 ho5))
          all_goals (
            go_wp2
            go_roundw
            case rel =>
              obtain ⟨f1, f2, f3⟩ := HE5.out
              obtain ⟨m1, m2⟩ := HME.out
              exact ⟨k + 1, y, q2, o5, c5, by omega, by go_num, rfl, lv_step (r2 := (y, q2)) HLV.out m1 (by rw [m2]; exact HR2.out) f1 f2 f3⟩
            case measure => (simp [intOf]; omega))
        · have hqb : (q == 0) = false := by simp [hq]
          obtain ⟨rfl, rfl⟩ := lv_end hlv (fun h => absurd h hq)
          have HSG : Hid (Calls Try.prog 29 #[gval ra oa ca, gval ra ob cb] wr fun e w' => e = .returned (.bool true) ∧ Below wr.heap.size wr w') := sameGrid_eq ra oa ob ca cb wr hlv.rda hlv.rdb (by obtain ⟨q1, q2, _⟩ := hlv.ok.nums; omega)
          clear hlv
          go_wp2_with (first
            | (go_at_call 29; refine HSG.out.mono ?_; rintro e1 w5 ⟨rfl, hb5⟩; have HL5 : Hid (Below w.heap.size w w5) := below_on HLV.out.below hb5; clear hb5)
            | (go_at_call 32; refine (showsL_any _).mono ?_; rintro e1 w6 ⟨rfl, hb6⟩; have HL6 : Hid (Below w.heap.size w w6) := below_on HL5.out hb6; clear hb6))
          go_ret
          exact ⟨rfl, HL6.out⟩
      · have hge : (evs.length : Int) ≤ (k : Int) := by omega
        obtain ⟨rfl, rfl⟩ := lv_end hlv (fun _ => by simp; omega)
        have HSG : Hid (Calls Try.prog 29 #[gval ra oa ca, gval ra ob cb] wr fun e w' => e = .returned (.bool true) ∧ Below wr.heap.size wr w') := sameGrid_eq ra oa ob ca cb wr hlv.rda hlv.rdb (by obtain ⟨q1, q2, _⟩ := hlv.ok.nums; omega)
        clear hlv
        go_wp2_with (first
          | (go_at_call 29; refine HSG.out.mono ?_; rintro e1 w5 ⟨rfl, hb5⟩; have HL5 : Hid (Below w.heap.size w w5) := below_on HLV.out.below hb5; clear hb5)
          | (go_at_call 32; refine (showsL_any _).mono ?_; rintro e1 w6 ⟨rfl, hb6⟩; have HL6 : Hid (Below w.heap.size w w6) := below_on HL5.out hb6; clear hb6))
        go_ret
        exact ⟨rfl, HL6.out⟩

end Go.Proofs.Yteenppbpjdldgaa

namespace Go.Proofs.Yteenppbpjdldgaa
open Go.ChangeShapes Go.WideShapes Go.ChangeAt Go.RowKit Go.Joins
open Go.ChangeMaps (open_string shut_string)

set_option maxRecDepth 100000 in
theorem alllaw_contract (H : Type) (enc : TypeId × Value → H) (W : World) (base : Nat) (args : Array Value) (ds gs : List (DataW H)) (before : List MemPlace)
    (hval : ∀ (j : Nat) t v, Try.f9.params[j]? = some t → args[j]? = some v → Value.okWide Try.prog W .any base t v)
    (hW : DataW.Whole enc Try.prog Try.f9.params.toList Rows.gridAllSpec.vars false W args.toList ds gs before) (hz : (DataW.weightsEach Try.prog (Try.f9.params.toList ++ Rows.gridAllSpec.plain.varTypes Try.prog) (ds ++ gs)).all (· ≤ reachBytes) = true) :
    Calls Try.prog 9 args W fun e W' => ∃ v, e = .returned v ∧ Rows.gridAllSpec.post enc Try.prog Try.f9 false true false false W args v W' := by
  have hW' := hW
  obtain ⟨p, q, hA0, hV, rfl, hfz, hnd⟩ := hW
  have hA : DataW.TrodAll enc Try.prog W 0 (fun _ => true) true Try.f9.params.toList args.toList ds p := hA0
  rw [Try.params9] at hA hval
  obtain ⟨v0, vs0, d0, ds0, p0, q0, hargs, rfl, rfl, h0, r0⟩ := trodAll_cons hA
  obtain ⟨v1, vs1, d1, ds1, p1, q1, rfl, rfl, rfl, h1, r1⟩ := trodAll_cons r0
  obtain ⟨rfl, rfl, rfl⟩ := trodAll_nil r1
  obtain rfl : args = #[v0, v1] := by cases args; simp_all
  obtain ⟨rfl, rfl⟩ := trodVars_none hV
  have k0 := h0
  have k1 := h1
  have lt0 : ∀ x ∈ p0, x.block < W.heap.size := by obtain ⟨m, hm⟩ := k0; exact DataW.trod_lt m _ _ _ hm
  have lt1 : ∀ x ∈ p1, x.block < W.heap.size := by obtain ⟨m, hm⟩ := k1; exact DataW.trod_lt m _ _ _ hm
  obtain ⟨g0, ao0, cap0, rfl, hr0, hn0, hb0⟩ := open_grid (hval 0 41 v0 rfl rfl) h0
  obtain ⟨lo1, lc1, evs1, rfl, hr1, hb1⟩ := open_eventsF (hval 1 26 v1 rfl rfl) h1
  have zz0 := grid_size (hval 0 41 _ rfl rfl) k0 (fun q hq => by simpa using List.all_eq_true.1 hz _ (DataW.weights_mem_each (j := 0) rfl rfl q hq))
  have zz1 := hb1 (fun q hq => by simpa using List.all_eq_true.1 hz _ (DataW.weights_mem_each (j := 1) rfl rfl q hq))
  unfold reachBytes at *
  clear hA0
  refine (alllaw_any g0 ao0 cap0 lo1 evs1 lc1 W hr0 hn0 (by omega) hr1 (by have := zz1.1; omega) (fun x hx => by have := zz1.2 x hx; omega)).mono fun e W' ⟨he, bel⟩ => ?_
  subst he
  exact ⟨_, rfl, _, _, _, [], _, [], hW', trodAll_mk1 (shut_bool Try.underlying4 _), (trodAll_cons_mk (Below.trod laidOut (by kernel_rfl) (of_decide_eq_true (by kernel_rfl)) k0 bel lt0) (trodAll_cons_mk (Below.trod laidOut (by kernel_rfl) (of_decide_eq_true (by kernel_rfl)) k1 bel lt1) trodAll_mk0)), rfl, bel.frame _, fun h => by cases h⟩

set_option maxRecDepth 100000 in
theorem alllaw_lifted (os : Os) (started : os.Started) (H : Type) (enc : TypeId × Value → H) :
    ReturnsInHanded {} Try.checked os 9 .any (Rows.gridAllSpec.pre6 enc Try.prog Try.f9 Rows.gridAllRow.domain false) (Rows.gridAllSpec.post enc Try.prog Try.f9 false true false false) := by
  refine returnsInHanded_of_change_sized (C := Try.checked) own started (by kernel_rfl) Try.func9
    (ChangeSpec.witness6 (enc := enc) (C := Try.checked) false ⟨#[], #[.agg #[.int .i64 0, .int .i64 0, .slice none 0 0, .int .i64 0, .int .i64 0, .int .i64 0, .bool false, .int .i64 0, .int .i64 0], .slice none 0 0], []⟩ 8 (by kernel_rfl) (by kernel_rfl) (by kernel_rfl) (by kernel_rfl)) ?_
  intro W base args ds gs before hval hW _ hz _
  exact alllaw_contract H enc W base args ds gs before hval hW hz

theorem alllaw_holds : Rows.GridAllSaid :=
  OpenClaim.holds_of_wide 9 Try.f9 rfl rfl rfl rfl rfl rfl rfl ⟨rfl, rfl, rfl, rfl, rfl⟩ rfl rfl rfl rfl rfl (by kernel_rfl) Try.func9 (by kernel_rfl)
    (of_decide_eq_true (by kernel_rfl)) (by unfold Func.isWrapper; first | (rw [if_pos (by decide +kernel)]; kernel_rfl) | (rw [if_neg (by decide +kernel)]; exact ⟨rfl, rfl⟩))
    (fun os started H enc _ => alllaw_lifted os started H enc)

end Go.Proofs.Yteenppbpjdldgaa
