/- A server that is nil; two views that are alike, as the document's own answer has it. -/
import Derived.Test.YtpichplhidiokacGreatDoorSClient
import Derived.Test.YtpichplhidiokacGreatDoorPSame
import Derived.Test.YtpichplhidiokacGreatDoorTSames
import Derived.Test.YtpichplhidiokacGreatDoorPZero
import Derived.Test.YtpichplhidiokacGreatDoorDWrite
namespace Go.Proofs.YtpichplhidiokacGreatDoor.Sv
open Go.RowKit
open Go.Proofs.YtpichplhidiokacGreatDoor.Pt (Vw VC RdV vcells cbox zv zl wpList_alloc_view wpList_store_view)
open Go.Proofs.YtpichplhidiokacGreatDoor.Tl (colsOf tval)
set_option maxRecDepth 100000

/-- An act's value. -/
@[reducible] def acells (a : Ac) : Array Value := #[.int .i64 a.kind, .int .i64 a.p, .int .i64 a.n, .int .i64 a.m, .string (bs a.bytes)]
@[reducible] def aval (a : Ac) : Value := .agg (acells a)
@[reducible] def abox (a : Ac) : Obj := .cells (acells a) 23
/-- A reply's value. -/
@[reducible] def rpcells (r : Rp) : Array Value := #[.int .i64 r.code, .int .i64 r.n, .string (bs r.out)]
@[reducible] def rpval (r : Rp) : Value := .agg (rpcells r)
@[reducible] def rpbox (r : Rp) : Obj := .cells (rpcells r) 29

theorem three {w : World} {b : Nat} {c0 c1 c2 : Value} {t : TypeId} (h : w.heap[b]? = some (.cells #[c0, c1, c2] t (0, 0))) :
    (w.cell? ⟨b, 0, none⟩ = some c0 ∧ w.cell? ⟨b, 1, none⟩ = some c1 ∧ w.cell? ⟨b, 2, none⟩ = some c2) ∧ (∀ j, w.frozen? ⟨b, j, none⟩ = false) :=
  ⟨⟨cell_of_row w b 0 _ t _ h, cell_of_row w b 1 _ t _ h, cell_of_row w b 2 _ t _ h⟩, fun j => frozen_of_row w b j _ t h⟩
theorem rp_foreign : ¬ Ours 29 := by unfold Ours; decide
/-- A reply goes into its block. -/
theorem SrvTo.reply {w w1 : World} {S S2 : Srv} {L L2 : Lay} (k : SrvTo w S L S2 L2 w1) {B : Nat} {r : Rp} (hb : w1.heap[B]? = some (rpbox r)) (hB : w.heap.size ≤ B) (u0 u1 u2 : Value) : SrvTo w S L S2 L2 (((w1.setCell ⟨B, 0, none⟩ u0).setCell ⟨B, 1, none⟩ u1).setCell ⟨B, 2, none⟩ u2) :=
  ((k.set hb rp_foreign hB 0 u0).set (set_cells hb u0) rp_foreign hB 1 u1).set (set_cells (set_cells hb u0) u1) rp_foreign hB 2 u2

theorem do_nil (a : Ac) (w : World) : Calls Tryz.prog 16 #[.pointer none, aval a] w fun e w' => e = .returned (rpval (err 3)) ∧ Below w.heap.size w w' := by
  have HB : Hid (∀ o1 o2 : Obj, Below w.heap.size w ((w.alloc o1).alloc o2)) := fun o1 o2 => (below1 _ _).alloc (by simp) _
  go_enter Tryz.func16, Tryz.ntmps16
  go_wp2
  exact bodyPost_ret (v := rpval (err 3)) (by simp [results, Tryz.results16, go_sem]; exact ⟨rfl, rfl, rfl⟩) rfl ⟨rfl, HB.out _ _⟩

/-- A view is handed back out of its block. -/
theorem view_ret {w : World} {fn : Func} {R : Ending → World → Prop} {a : Act} {p : Tmp} {B : Nat} {C : Array Value} (hf : fn.results = #[.cell p 40]) (hd : a.defers = []) (hp : a.tmps.getD p undef = .pointer (some ⟨B, 0, none⟩)) (hs : C.size = 58) (hb : w.heap[B]? = some (cbox C)) (h : R (.returned (.agg C)) w) : bodyPost Tryz.prog fn R .ret a w :=
  bodyPost_ret (v := .agg C) (results_cell_row hf _ w B 40 C (0, 0) _ hp hb Tryz.underlying40 rfl (by rw [hs]; exact Pt.infoV)) hd h

theorem build_zero (w : World) : (Instr.build 40 #[]).run Tryz.prog w = .ok (.agg (vcells zv zl)) w := by
  simp only [Instr.build, Sem.run_bind, Pt.zero_view, Result.andThen_ok]
  kernel_rfl
theorem wpList_build_zero {ops : Array Oper} {rest : List Oper} {op : Oper} {a : Act} {w : World} {Q : Exit → Act → World → Prop} (hgd : op.guard = none) (ho : op.op = .build 40 #[])
    (h : wpList Tryz.prog ops Q rest (a.put op.dst (.agg (vcells zv zl))) w) : wpList Tryz.prog ops Q (op :: rest) a w :=
  Pt.wpList_run hgd (by unfold execOp; simp only [ho, Sem.run_bind, build_zero, Result.andThen_ok, Sem.run_pure, List.map_toArray, List.map_nil]) h

theorem view_nil (w : World) : Calls Tryz.prog 18 #[.pointer none] w fun e w' => e = .returned (.agg (vcells zv zl)) ∧ Below w.heap.size w w' := by
  have HB : Hid (Below w.heap.size w (w.alloc (cbox (vcells zv zl)))) := below1 _ _
  go_enter Tryz.func18, Tryz.ntmps18
  go_wp2_with (first
    | (refine wpList_alloc_view rfl rfl ?_)
    | (refine wpList_build_zero rfl rfl ?_)
    | (refine wpList_store_view zv zv zl zl rfl _ _ rfl rfl rfl ?_))
  exact view_ret rfl rfl rfl rfl (at_new w _) ⟨rfl, HB.out⟩

/-! Two views that are alike. -/
theorem yields_grid {ops : Array Oper} {T : World → Prop} {op : Oper} {a : Act} (hw : Region.wanted op (yielded ops a.tmps) = true) (x : Operand) (ho : op.op = .load 37 x) (b p : Nat) (hp : p < 6) (hx : a.eval x = .pointer (some ⟨b, 1 + p * 9, none⟩)) (v : Vw) (l : Pt.Lay) (C : Array Value) (hC : VC v l C) (hS : ∀ w, T w → w.heap[b]? = some (cbox C)) : YieldsIf Tryz.prog ops T op (gval (v.gs p) (l.ga p) (l.gc p)) a :=
  yieldsIf_load_mid (P := Tryz.prog) hw 37 x ho b (1 + p * 9) hx (gcells (v.gs p) (l.ga p) (l.gc p)).toList _ (fun w h => Pt.cbox_grid hC (hS w h) p hp) Tryz.underlying37 rfl Pt.infoG

structure PairV (w : World) (C D : Array Value) (v : Vw) (l m : Pt.Lay) (wr : World) : Prop where
  one : wr.heap[w.heap.size]? = some (cbox C)
  two : wr.heap[w.heap.size + 1]? = some (cbox D)
  ra : RdV wr v l
  rb : RdV wr v m
  below : Below w.heap.size w wr
theorem PairV.later {w : World} {C D : Array Value} {v : Vw} {l m : Pt.Lay} {wr w' : World} (h : PairV w C D v l m wr) (hb : Below wr.heap.size wr w') : PairV w C D v l m w' :=
  ⟨below_block hb h.one (Array.getElem?_eq_some_iff.1 h.one).1, below_block hb h.two (Array.getElem?_eq_some_iff.1 h.two).1, h.ra.below hb, h.rb.below hb, h.below.trans (hb.mono h.below.size)⟩
theorem undrewS {w w1 : World} {B : Nat} (h : Below B w.drew w1) : Below B w w1 := ⟨h.os, h.tape, h.output, h.size, h.block⟩
theorem drewV {w : World} {v : Vw} {l : Pt.Lay} (h : RdV w v l) : RdV w.drew v l := h.below ((Below.refl _ _).drew)

set_option maxHeartbeats 2000000 in
theorem sameViewR_eq (v : Vw) (l m : Pt.Lay) (C D : Array Value) (hC : VC v l C) (hD : VC v m D) (w : World) (ha : RdV w v l) (hb : RdV w v m) :
    Calls Tryz.prog 17 #[.agg C, .agg D] w fun e w' => e = .returned (.bool true) ∧ Below w.heap.size w w' := by
  have HP : Hid (PairV w C D v l m ((w.alloc (cbox C)).alloc (cbox D))) := by
    have hbel : Below w.heap.size w ((w.alloc (cbox C)).alloc (cbox D)) := (below1 _ _).alloc (by simp) _
    exact ⟨at_old (at_new w _) _, at_new1 w _ _, ha.below hbel, hb.below hbel, hbel⟩
  have HC : Hid (VC v l C ∧ VC v m D) := ⟨hC, hD⟩
  have HSG : Hid (∀ p, p < 6 → ∀ w, RdV w v l → RdV w v m → Calls Tryz.prog 42 #[gval (v.gs p) (l.ga p) (l.gc p), gval (v.gs p) (m.ga p) (m.gc p)] w fun e w' => e = .returned (.bool true) ∧ Below w.heap.size w w') := fun p hp w h1 h2 => Pt.sameGrid_eq (v.gs p) _ _ _ _ w (h1.gs p hp) (h2.gs p hp) (h1.m3 p hp)
  have hlen : m.its.length = l.its.length := by
    have := congrArg List.length (hb.cols.symm.trans ha.cols)
    simpa using this
  have HST : Hid (∀ w, RdV w v l → RdV w v m → Calls Tryz.prog 43 #[tval l.co l.its.length l.cap, tval m.co m.its.length m.cap] w fun e w' => e = .returned (.bool true) ∧ Below w.heap.size w w') := fun w h1 h2 => by
    rw [hlen]
    exact Tl.sameT_any l.its m.its l.co m.co l.its.length l.cap m.cap w h1.rd h2.rd (h2.cols.symm.trans h1.cols) rfl h1.m1 h1.m2
  clear ha hb hC hD hlen
  go_enter Tryz.func17, Tryz.ntmps17
  go_wp2
  go_loopw [6] (fun i wr => ∃ k : Nat, k ≤ 6 ∧ i = .int .i64 k ∧ PairV w C D v l m wr) (fun i _ => 6 - (intOf i).toNat)
  case atStart => exact ⟨0, Nat.zero_le _, rfl, HP.out⟩
  case round =>
    obtain ⟨k, hk, rfl, hp⟩ := hrel
    have HQ : Hid (PairV w C D v l m wr) := hp
    by_cases hlt : k < 6
    · have hlt' : (k : Int) < 6 := by omega
      have hk0 : (0 : Int) ≤ (k : Int) := by omega
      clear hp
      go_wp2_with fail
      refine wp_region_noPanic ?_
      refine wp_region_held_drew (S := fun w' => w'.heap[w.heap.size]? = some (cbox C) ∧ w'.heap[w.heap.size + 1]? = some (cbox D)) (by kernel_rfl) ⟨HQ.out.one, HQ.out.two⟩ (fun hHeld => ?_)
      refine wpAnyH_take (i := 0) (v := ?_) rfl (by kernel_rfl) (by kernel_rfl) (by kernel_rfl) (fun _ _ _ h => h) (Or.inl ⟨by kernel_rfl, ?_⟩) hHeld ?_
      rotate_left
      · ((intro w0 hSw; (try dsimp only at hSw); go_simp) <;> with_reducible rfl)
      (try simp only [Act.put, List.setIfInBounds_toArray, List.set_cons_zero, List.set_cons_succ, List.getElem_toArray, List.getElem_cons_zero])
      refine wpAnyH_take (i := 1) (v := ?_) rfl (by kernel_rfl) (by kernel_rfl) (by kernel_rfl) (fun _ _ _ h => h) (Or.inl ⟨by kernel_rfl, ?_⟩) hHeld ?_
      rotate_left
      · ((intro w0 hSw; (try dsimp only at hSw); go_simp) <;> with_reducible rfl)
      (try simp only [Act.put, List.setIfInBounds_toArray, List.set_cons_zero, List.set_cons_succ, List.getElem_toArray, List.getElem_cons_zero, List.getElem_cons_succ])
      refine wpAnyH_take (i := 2) (v := ?_) rfl (by kernel_rfl) (by kernel_rfl) (by kernel_rfl) (fun _ _ _ h => h) (Or.inl ⟨by kernel_rfl, ?_⟩) hHeld ?_
      rotate_left
      · ((intro w0 hSw; (try dsimp only at hSw); go_simp) <;> with_reducible rfl)
      (try simp only [Act.put, List.setIfInBounds_toArray, List.set_cons_zero, List.set_cons_succ, List.getElem_toArray, List.getElem_cons_zero, List.getElem_cons_succ])
      refine wpAnyH_take (i := 3) (v := gval (v.gs k) (l.ga k) (l.gc k)) rfl (by kernel_rfl) (by kernel_rfl) (by kernel_rfl) (fun _ _ _ h => h) (yields_grid (by rfl) _ rfl w.heap.size k hlt rfl v l C HC.out.1 (fun w0 h => h.1)) hHeld ?_
      (try simp only [Act.put, List.setIfInBounds_toArray, List.set_cons_zero, List.set_cons_succ, List.getElem_toArray, List.getElem_cons_zero, List.getElem_cons_succ])
      refine wpAnyH_take (i := 4) (v := ?_) rfl (by kernel_rfl) (by kernel_rfl) (by kernel_rfl) (fun _ _ _ h => h) (Or.inl ⟨by kernel_rfl, ?_⟩) hHeld ?_
      rotate_left
      · ((intro w0 hSw; (try dsimp only at hSw); go_simp) <;> with_reducible rfl)
      (try simp only [Act.put, List.setIfInBounds_toArray, List.set_cons_zero, List.set_cons_succ, List.getElem_toArray, List.getElem_cons_zero, List.getElem_cons_succ])
      refine wpAnyH_take (i := 5) (v := ?_) rfl (by kernel_rfl) (by kernel_rfl) (by kernel_rfl) (fun _ _ _ h => h) (Or.inl ⟨by kernel_rfl, ?_⟩) hHeld ?_
      rotate_left
      · ((intro w0 hSw; (try dsimp only at hSw); go_simp) <;> with_reducible rfl)
      (try simp only [Act.put, List.setIfInBounds_toArray, List.set_cons_zero, List.set_cons_succ, List.getElem_toArray, List.getElem_cons_zero, List.getElem_cons_succ])
      refine wpAnyH_take (i := 6) (v := ?_) rfl (by kernel_rfl) (by kernel_rfl) (by kernel_rfl) (fun _ _ _ h => h) (Or.inl ⟨by kernel_rfl, ?_⟩) hHeld ?_
      rotate_left
      · ((intro w0 hSw; (try dsimp only at hSw); go_simp) <;> with_reducible rfl)
      (try simp only [Act.put, List.setIfInBounds_toArray, List.set_cons_zero, List.set_cons_succ, List.getElem_toArray, List.getElem_cons_zero, List.getElem_cons_succ])
      refine wpAnyH_take (i := 7) (v := gval (v.gs k) (m.ga k) (m.gc k)) rfl (by kernel_rfl) (by kernel_rfl) (by kernel_rfl) (fun _ _ _ h => h) (yields_grid (by rfl) _ rfl (w.heap.size + 1) k hlt rfl v m D HC.out.2 (fun w0 h => h.2)) hHeld ?_
      (try simp only [Act.put, List.setIfInBounds_toArray, List.set_cons_zero, List.set_cons_succ, List.getElem_toArray, List.getElem_cons_zero, List.getElem_cons_succ])
      refine wpAnyH_ready (rs := [8]) (by kernel_rfl) (by simp) ?_
      refine AllReadyH.cons rfl (fun K hK => ?_) AllReadyH.nil
      go_simp
      go_at_call 42
      refine (HSG.out k hlt _ (drewV HQ.out.ra) (drewV HQ.out.rb)).mono ?_
      rintro e w3 ⟨rfl, hb3⟩
      have HQ3 : Hid (PairV w C D v l m w3) := HQ.out.later (undrewS hb3)
      (try go_simp)
      refine hK.out _ _ ⟨HQ3.out.one, HQ3.out.two⟩ (fun hHeld => ?_)
      clear hK K
      (try simp only [Act.put, List.setIfInBounds_toArray, List.set_cons_zero, List.set_cons_succ, List.getElem_toArray, List.getElem_cons_zero, List.getElem_cons_succ])
      refine wpAnyH_take (i := 9) (v := ?_) rfl (by kernel_rfl) (by kernel_rfl) (by kernel_rfl) (fun _ _ _ h => h) (Or.inl ⟨by kernel_rfl, ?_⟩) hHeld ?_
      rotate_left
      · ((intro w0 hSw; (try dsimp only at hSw); go_simp) <;> with_reducible rfl)
      (try simp only [Act.put, List.setIfInBounds_toArray, List.set_cons_zero, List.set_cons_succ, List.getElem_toArray, List.getElem_cons_zero, List.getElem_cons_succ])
      refine wpAnyH_done (by kernel_rfl) ?_ _
      refine NoPanic.normal ?_
      go_wp2
      go_roundw
      case rel => exact ⟨k + 1, by omega, by go_num, HQ3.out⟩
      case measure => simp [intOf]; omega
    · obtain rfl : k = 6 := by omega
      obtain ⟨⟨x0, x1, x2, x3⟩, xf⟩ := Pt.cbox_cells HC.out.1 hp.one
      obtain ⟨⟨y0, y1, y2, y3⟩, yf⟩ := Pt.cbox_cells HC.out.2 hp.two
      clear hp
      go_wp2_with (go_at_call 43; refine (HST.out _ HQ.out.ra HQ.out.rb).mono ?_; rintro e w4 ⟨rfl, hb4⟩; have HQ4 : Hid (PairV w C D v l m w4) := HQ.out.later hb4; clear hb4 x0 x1 x2 x3 xf y0 y1 y2 y3 yf; obtain ⟨⟨x0, x1, x2, x3⟩, xf⟩ := Pt.cbox_cells HC.out.1 HQ4.out.one; obtain ⟨⟨y0, y1, y2, y3⟩, yf⟩ := Pt.cbox_cells HC.out.2 HQ4.out.two)
      go_ret
      exact ⟨ret_bool (by simp), HQ4.out.below⟩

end Go.Proofs.YtpichplhidiokacGreatDoor.Sv
