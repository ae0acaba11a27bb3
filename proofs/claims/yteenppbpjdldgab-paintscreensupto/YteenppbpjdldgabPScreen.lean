/- A client's screen. -/
import Derived.Test.YteenppbpjdldgabPCell
import Derived.Test.YteenppbpjdldgabPStat
import Derived.Test.YteenppbpjdldgabPCur
import Derived.Test.YteenppbpjdldgabPScr
namespace Go.Proofs.Yteenppbpjdldgab.Pt
open Go.RowKit
open Go.Proofs.Yteenppbpjdldgab.Tl (Rc noRc whereT shareT inR findT goodT paneB CIt colsOf RdT RdL tval tbox rval rbox rcells zbox cv)

theorem cell_set_ne {w : World} {b i j : Nat} {u x : Value} (h : w.cell? ⟨b, i, none⟩ = some x) (hne : j ≠ i) : (w.setCell ⟨b, j, none⟩ u).cell? ⟨b, i, none⟩ = some x := by
  rw [World.cell?_setCell_other _ _ _ _ (fun e => hne (by simp only [Addr.mk.injEq] at e; exact e.2.1))]
  exact h

set_option maxRecDepth 100000 in
set_option maxHeartbeats 4000000 in
theorem screen_any (v : Vw) (l : Lay) (C : Array Value) (hC : VC v l C) (wide high : Int) (w : World) (hv : RdV w v l) (hlo : LowV v) (x : Gr) (hx : x = screenV v wide high) :
    Calls Try.prog 42 #[.agg C, .int .i64 wide, .int .i64 high] w fun e w' => ∃ b, e = .returned (gval x (some ⟨b, 0, none⟩) x.n) ∧ Scr w' b x.n x.f ∧ Below w.heap.size w w' := by
  obtain ⟨t, ht⟩ : ∃ t, t = newG wide high := ⟨_, rfl⟩
  have ok : OkG t := by rw [ht]; exact ok_new wide high
  obtain ⟨q1, q2, _⟩ := ok.nums
  have HN : Hid (∀ w, Calls Try.prog 45 #[.int .i64 wide, .int .i64 high] w fun e w' => ∃ b, e = .returned (gval t (some ⟨b, 0, none⟩) t.n) ∧ Scr w' b t.n t.f ∧ w.heap.size ≤ b ∧ Below w.heap.size w w') := fun w => new_any wide high w t ht
  have HTF : Hid (∀ i, t.f i = fillF v t.wide t.high 0 i) := by
    intro i
    rw [← fill_zero, ht]
    rfl
  have HV : Hid (RdV w v l) := hv
  have HS : Hid (C.size = 58) := hC.size
  have HVC : Hid (VC v l C) := hC
  have HCL : Hid (∀ (row col : Int) w, RdV w v l → Calls Try.prog 36 #[.agg C, .int .i64 row, .int .i64 col] w fun e w' => e = .returned (cval (cellT v row col)) ∧ Below w.heap.size w w') := fun row col w hv => cell_any v l C hC row col w hv _ rfl
  have HST : Hid (∀ (col : Int), col ≤ 24 → ∀ w, RdV w v l → Calls Try.prog 38 #[.agg C, .int .i64 col] w fun e w' => e = .returned (cval (footT v col)) ∧ Below w.heap.size w w') := fun col hc w hv => status_any v l C hC col (by omega) w hv _ rfl
  obtain ⟨cu, hcu⟩ : ∃ cu, cu = cursorV v := ⟨_, rfl⟩
  have HCU : Hid (∀ w, RdV w v l → Calls Try.prog 68 #[.agg C] w fun e w' => e = .returned (.tuple #[.int .i64 cu.1, .int .i64 cu.2]) ∧ Below w.heap.size w w') := fun w hv => cursor_any v l C hC w hv hlo cu hcu
  have HX : Hid (x = { t with f := cellsV v t.wide t.high, row := max 0 (min cu.1 (t.high - 1)), col := max 0 (min cu.2 (t.wide - 1)) }) := by
    show x = _
    rw [hx, hcu, ht]
    rfl
  obtain ⟨cu1, cu2⟩ := cu
  simp only at HCU HX
  have h1 := ok.w1
  have h2 := ok.w2
  have h3 := ok.h1
  have h4 := ok.h2
  have HQ : Hid ((t.n : Int) = t.high * t.wide ∧ t.high * t.wide ≤ 240) := ⟨q1, q2⟩
  obtain ⟨Wn, hWn⟩ : ∃ n : Nat, t.wide = n := ⟨t.wide.toNat, by omega⟩
  obtain ⟨Hn, hHn⟩ : ∃ n : Nat, t.high = (n : Int) + 1 := ⟨(t.high - 1).toNat, by omega⟩
  have HWH : Hid (t.wide = Wn ∧ t.high = (Hn : Int) + 1) := ⟨hWn, hHn⟩
  have HB0 : Hid (∀ o1 o2 : Obj, ((w.alloc o1).alloc o2).heap[w.heap.size]? = some o1) := fun o1 o2 => at_old (at_new w o1) o2
  clear hx hcu ht ok q1 q2 hv hC hlo hWn hHn
  go_enter Try.func42, Try.ntmps42
  go_wp2_with (first
    | (go_at_call 45; refine (HN.out _).mono ?_; rintro e w1 ⟨b, rfl, hs, hbb, hb1⟩; have HI0 : Hid (ScInv w C t b w1.heap.size t.n (fillF v t.wide t.high 0) (w1.alloc (gbox t (some ⟨b, 0, none⟩) t.n))) := ⟨at_old (below_block hb1 (at_old (at_new w _) _) (by simp; omega)) _, at_old (below_block hb1 (at_new1 w _ _) (by simp)) _, at_new _ _, (hs.congr (fun i _ => HTF.out i)).alloc _, Tl.below_to (Tl.below_to (Tl.below2 _ _ _) hb1) (below1 _ _), (by simp at hbb; omega), hs.lt⟩; clear hs hbb hb1)
    | fail)
  go_loopw [21] (fun i wr => ∃ k : Nat, k ≤ Hn ∧ i = .int .i64 k ∧ ScInv w C t b w1.heap.size t.n (fillF v t.wide t.high (k * Wn)) wr) (fun i _ => Hn - (intOf i).toNat)
  case atStart => exact ⟨0, Nat.zero_le _, rfl, by rw [Nat.zero_mul]; exact HI0.out⟩
  case round =>
    obtain ⟨k, hk, rfl, hi⟩ := hrel
    have HI : Hid (ScInv w C t b w1.heap.size t.n (fillF v t.wide t.high (k * Wn)) wr) := hi
    obtain ⟨⟨g0, g1, g2, g3, g4, g5, g6, g7, g8⟩, g9⟩ := nine hi.g
    clear hi
    by_cases hlt : k < Hn
    · have hlt' : (k : Int) < t.high - 1 := by have := HWH.out.2; omega
      go_wp2_with fail
      go_loopw [26] (fun i wr2 => ∃ c : Nat, c ≤ Wn ∧ i = .int .i64 c ∧ ScInv w C t b w1.heap.size t.n (fillF v t.wide t.high (k * Wn + c)) wr2) (fun i _ => Wn - (intOf i).toNat)
      case atStart => exact ⟨0, Nat.zero_le _, rfl, HI.out⟩
      case round =>
        obtain ⟨c, hc, rfl, hi⟩ := hrel
        rename_i wr0 wr
        have HJ : Hid (ScInv w C t b w1.heap.size t.n (fillF v t.wide t.high (k * Wn + c)) wr) := hi
        clear g0 g1 g2 g3 g4 g5 g6 g7 g8 g9
        obtain ⟨⟨g0, g1, g2, g3, g4, g5, g6, g7, g8⟩, g9⟩ := nine hi.g
        clear hi
        by_cases hcl : c < Wn
        · have hcl' : (c : Int) < t.wide := by have := HWH.out.1; omega
          obtain ⟨I, hI⟩ : ∃ I : Nat, I = k * Wn + c := ⟨_, rfl⟩
          have hI2 : (I : Int) = k * t.wide + c := by rw [hI, HWH.out.1]; push_cast; rfl
          have hIn : (I : Int) < t.n := by
            have := mul_bound (r := (k : Int)) (h := t.high) (w := t.wide) (by omega) (by omega) (by omega)
            have := HQ.out.1
            omega
          obtain ⟨p, hp⟩ : ∃ p, p = (k : Int) * t.wide := ⟨_, rfl⟩
          have hp0 : 0 ≤ p := by rw [hp]; exact Int.mul_nonneg (by omega) (by omega)
          have hn9 : (t.n : Int) ≤ 240 := by have := HQ.out; omega
          have hwr : IntKind.i64.wrap ((k : Int) * t.wide) = p := by rw [← hp, IntKind.wrap_i64]; omega
          have hwr2 : IntKind.i64.wrap (p + c) = (I : Int) := by rw [hI2, ← hp, IntKind.wrap_i64]; omega
          obtain ⟨y, hy⟩ : ∃ y, y = cellT v k c := ⟨_, rfl⟩
          have HYC : Hid (∀ w, RdV w v l → Calls Try.prog 36 #[.agg C, .int .i64 k, .int .i64 c] w fun e w' => e = .returned (cval y) ∧ Below w.heap.size w w') := fun w hv => by rw [hy]; exact HCL.out k c w hv
          have HY : Hid (y = cellsV v t.wide t.high I) := by
            show y = _
            rw [cellsV_at v hcl' hI2, if_neg (by omega), hy]
          have HII : Hid (I = k * Wn + c ∧ I < t.n) := ⟨hI, by omega⟩
          have n1 := HJ.out.n1
          have n2 := HJ.out.n2
          have ne1 : ¬ b = w1.heap.size := by omega
          have ne2 : ¬ w1.heap.size = b := by omega
          clear hI hI2 hp hy HCL
          go_wp2_with fail
          refine wp_region_noPanic ?_
          refine wp_region_held_drew (S := fun w' => w'.heap[w.heap.size]? = some (cbox C) ∧ w'.cell? ⟨w1.heap.size, 0, none⟩ = some (.int .i64 t.wide) ∧ w'.cell? ⟨w1.heap.size, 2, none⟩ = some (.slice (some ⟨b, 0, none⟩) t.n t.n)) (by kernel_rfl) ⟨HJ.out.box, g0, g2⟩ (fun hHeld => ?_)
          refine wpAnyH_take (i := 0) (v := ?_) rfl (by kernel_rfl) (by kernel_rfl) (by kernel_rfl) (fun _ _ _ h => h) (Or.inl ⟨by rfl, ?_⟩) (by assumption) ?_
          rotate_left
          · ((intro w0 hSw; (try dsimp only at hSw); go_simp) <;> with_reducible rfl)
          try simp only [Act.put, List.setIfInBounds_toArray, List.set_cons_zero, List.set_cons_succ, List.getElem_toArray, List.getElem_cons_zero]
          refine wpAnyH_take (i := 1) (v := ?_) rfl (by kernel_rfl) (by kernel_rfl) (by kernel_rfl) (fun _ _ _ h => h) (Or.inl ⟨by rfl, ?_⟩) (by assumption) ?_
          rotate_left
          · ((intro w0 hSw; (try dsimp only at hSw); go_simp) <;> with_reducible rfl)
          try simp only [Act.put, List.setIfInBounds_toArray, List.set_cons_zero, List.set_cons_succ, List.getElem_toArray, List.getElem_cons_zero, List.getElem_cons_succ]
          refine wpAnyH_take (i := 2) (v := ?_) rfl (by kernel_rfl) (by kernel_rfl) (by kernel_rfl) (fun _ _ _ h => h) (Or.inl ⟨by rfl, ?_⟩) (by assumption) ?_
          rotate_left
          · ((intro w0 hSw; (try dsimp only at hSw); go_simp) <;> with_reducible rfl)
          try simp only [Act.put, List.setIfInBounds_toArray, List.set_cons_zero, List.set_cons_succ, List.getElem_toArray, List.getElem_cons_zero, List.getElem_cons_succ]
          refine wpAnyH_take (i := 3) (v := ?_) rfl (by kernel_rfl) (by kernel_rfl) (by kernel_rfl) (fun _ _ _ h => h) (Or.inl ⟨by rfl, ?_⟩) (by assumption) ?_
          rotate_left
          · ((intro w0 hSw; (try dsimp only at hSw); go_simp) <;> with_reducible rfl)
          try simp only [Act.put, List.setIfInBounds_toArray, List.set_cons_zero, List.set_cons_succ, List.getElem_toArray, List.getElem_cons_zero, List.getElem_cons_succ]
          refine wpAnyH_take (i := 4) (v := ?_) rfl (by kernel_rfl) (by kernel_rfl) (by kernel_rfl) (fun _ _ _ h => h) (Or.inl ⟨by rfl, ?_⟩) (by assumption) ?_
          rotate_left
          · ((intro w0 hSw; (try dsimp only at hSw); go_simp) <;> with_reducible rfl)
          try simp only [Act.put, List.setIfInBounds_toArray, List.set_cons_zero, List.set_cons_succ, List.getElem_toArray, List.getElem_cons_zero, List.getElem_cons_succ]
          refine wpAnyH_take (i := 5) (v := ?_) rfl (by kernel_rfl) (by kernel_rfl) (by kernel_rfl) (fun _ _ _ h => h) (Or.inl ⟨by rfl, ?_⟩) (by assumption) ?_
          rotate_left
          · ((intro w0 hSw; (try dsimp only at hSw); go_simp) <;> with_reducible rfl)
          try simp only [Act.put, List.setIfInBounds_toArray, List.set_cons_zero, List.set_cons_succ, List.getElem_toArray, List.getElem_cons_zero, List.getElem_cons_succ]
          refine wpAnyH_take (i := 6) (v := ?_) rfl (by kernel_rfl) (by kernel_rfl) (by kernel_rfl) (fun _ _ _ h => h) (Or.inl ⟨by rfl, ?_⟩) (by assumption) ?_
          rotate_left
          · ((intro w0 hSw; (try dsimp only at hSw); go_simp) <;> with_reducible rfl)
          try simp only [Act.put, List.setIfInBounds_toArray, List.set_cons_zero, List.set_cons_succ, List.getElem_toArray, List.getElem_cons_zero, List.getElem_cons_succ]
          refine wpAnyH_take (i := 7) (v := ?_) rfl (by kernel_rfl) (by kernel_rfl) (by kernel_rfl) (fun _ _ _ h => h) (Or.inl ⟨by rfl, ?_⟩) (by assumption) ?_
          rotate_left
          · ((intro w0 hSw; (try dsimp only at hSw); go_simp) <;> with_reducible rfl)
          try simp only [Act.put, List.setIfInBounds_toArray, List.set_cons_zero, List.set_cons_succ, List.getElem_toArray, List.getElem_cons_zero, List.getElem_cons_succ]
          refine wpAnyH_take (i := 8) (v := .agg C) rfl (by kernel_rfl) (by kernel_rfl) (by kernel_rfl) (fun _ _ _ h => h) (yields_view (by rfl) _ rfl w.heap.size rfl C HS.out (fun w0 h => h.1)) (by assumption) ?_
          try simp only [Act.put, List.setIfInBounds_toArray, List.set_cons_zero, List.set_cons_succ, List.getElem_toArray, List.getElem_cons_zero, List.getElem_cons_succ]
          refine wpAnyH_take (i := 9) (v := ?_) rfl (by kernel_rfl) (by kernel_rfl) (by kernel_rfl) (fun _ _ _ h => h) (Or.inl ⟨by rfl, ?_⟩) (by assumption) ?_
          rotate_left
          · ((intro w0 hSw; (try dsimp only at hSw); go_simp) <;> with_reducible rfl)
          try simp only [Act.put, List.setIfInBounds_toArray, List.set_cons_zero, List.set_cons_succ, List.getElem_toArray, List.getElem_cons_zero, List.getElem_cons_succ]
          refine wpAnyH_take (i := 10) (v := ?_) rfl (by kernel_rfl) (by kernel_rfl) (by kernel_rfl) (fun _ _ _ h => h) (Or.inl ⟨by rfl, ?_⟩) (by assumption) ?_
          rotate_left
          · ((intro w0 hSw; (try dsimp only at hSw); go_simp) <;> with_reducible rfl)
          try simp only [Act.put, List.setIfInBounds_toArray, List.set_cons_zero, List.set_cons_succ, List.getElem_toArray, List.getElem_cons_zero, List.getElem_cons_succ]
          refine wpAnyH_ready (rs := [11]) (by kernel_rfl) (by simp) ?_
          refine AllReadyH.cons rfl (fun K hK => ?_) AllReadyH.nil
          go_simp
          go_at_call 36
          refine (HYC.out _ (HV.out.below HJ.out.below.drew)).mono ?_
          rintro e w3 ⟨rfl, hb3⟩
          have HJ3 : Hid (ScInv w C t b w1.heap.size t.n (fillF v t.wide t.high (k * Wn + c)) w3) := HJ.out.drew.next hb3
          clear g0 g1 g2 g3 g4 g5 g6 g7 g8 g9 hb3
          obtain ⟨⟨g0, g1, g2, g3, g4, g5, g6, g7, g8⟩, g9⟩ := nine HJ3.out.g
          obtain ⟨t0, t1, t2, t3⟩ := HJ3.out.scr.cells I HII.out.2
          have hfr := HJ3.out.scr.free
          try go_simp
          refine hK.out _ _ ⟨HJ3.out.box, g0, g2⟩ (fun hHeld => ?_)
          clear hK K
          try simp only [Act.put, List.setIfInBounds_toArray, List.set_cons_zero, List.set_cons_succ, List.getElem_toArray, List.getElem_cons_zero, List.getElem_cons_succ]
          refine wpAnyH_take (i := 12) (v := ?_) rfl (by kernel_rfl) (by kernel_rfl) (by kernel_rfl) (fun _ _ _ h => h) (Or.inl ⟨by rfl, ?_⟩) (by assumption) ?_
          rotate_left
          · ((intro w0 hSw; (try dsimp only at hSw); go_simp) <;> with_reducible rfl)
          try simp only [Act.put, List.setIfInBounds_toArray, List.set_cons_zero, List.set_cons_succ, List.getElem_toArray, List.getElem_cons_zero, List.getElem_cons_succ]
          refine wpAnyH_ready (rs := [13]) (by kernel_rfl) (by simp) ?_
          refine AllReadyH.cons rfl (fun K hK => ?_) AllReadyH.nil
          go_simp
          refine hK.out _ _ ⟨(HJ3.out.put I y HII.out.2).box, (nine (HJ3.out.put I y HII.out.2).g).1.1, (nine (HJ3.out.put I y HII.out.2).g).1.2.2.1⟩ (fun hHeld => ?_)
          clear hK K
          try simp only [Act.put, List.setIfInBounds_toArray, List.set_cons_zero, List.set_cons_succ, List.getElem_toArray, List.getElem_cons_zero, List.getElem_cons_succ]
          refine wpAnyH_done (by kernel_rfl) ?_ _
          refine NoPanic.normal ?_
          have HJ4 : Hid (ScInv w C t b w1.heap.size t.n (fillF v t.wide t.high (k * Wn + (c + 1))) ((((w3.setCell ⟨b, I * 4, none⟩ (.int .i64 y.ch)).setCell ⟨b, I * 4 + 1, none⟩ (.int .i64 y.ink)).setCell ⟨b, I * 4 + 2, none⟩ (.int .i64 y.pic)).setCell ⟨b, I * 4 + 3, none⟩ (.bool y.bold))) := by
            have hp := HJ3.out.put I y HII.out.2
            rw [HY.out, ← HII.out.1, fill_put, HII.out.1] at hp
            rw [HY.out, HII.out.1]
            exact hp
          go_wp2
          go_roundw
          case rel => exact ⟨c + 1, by omega, by go_num, HJ4.out⟩
          case measure => simp [intOf]; omega
        · have hge : t.wide ≤ (c : Int) := by have := HWH.out.1; omega
          have HE : Hid (k * Wn + c = (k + 1) * Wn) := by show _ = _; rw [Nat.add_mul]; omega
          go_wp2_with fail
          go_roundw
          case rel => exact ⟨k + 1, by omega, by go_num, by rw [← HE.out]; exact HJ.out⟩
          case measure => simp [intOf]; omega
    · have hge : t.high - 1 ≤ (k : Int) := by have := HWH.out.2; omega
      have HKH : Hid (k = Hn) := (by omega : k = Hn)
      go_wp2_with fail
      go_loopw [46] (fun i wr2 => ∃ c : Nat, c ≤ Wn ∧ i = .int .i64 c ∧ ScInv w C t b w1.heap.size t.n (fillF v t.wide t.high (Hn * Wn + c)) wr2) (fun i _ => Wn - (intOf i).toNat)
      case atStart => exact ⟨0, Nat.zero_le _, rfl, by rw [← HKH.out]; exact HI.out⟩
      case round =>
        obtain ⟨c, hc, rfl, hi⟩ := hrel
        rename_i wr0 wr
        have HJ : Hid (ScInv w C t b w1.heap.size t.n (fillF v t.wide t.high (Hn * Wn + c)) wr) := hi
        clear g0 g1 g2 g3 g4 g5 g6 g7 g8 g9
        obtain ⟨⟨g0, g1, g2, g3, g4, g5, g6, g7, g8⟩, g9⟩ := nine hi.g
        clear hi
        by_cases hcl : c < Wn
        · have hcl' : (c : Int) < t.wide := by have := HWH.out.1; omega
          obtain ⟨I, hI⟩ : ∃ I : Nat, I = Hn * Wn + c := ⟨_, rfl⟩
          have hI2 : (I : Int) = (Hn : Int) * t.wide + c := by rw [hI, HWH.out.1]; push_cast; rfl
          have hIn : (I : Int) < t.n := by
            have := mul_bound (r := (Hn : Int)) (h := t.high) (w := t.wide) (by omega) (by have := HWH.out.2; omega) (by omega)
            have := HQ.out.1
            omega
          obtain ⟨p, hp⟩ : ∃ p, p = (Hn : Int) * t.wide := ⟨_, rfl⟩
          have hp0 : 0 ≤ p := by rw [hp]; exact Int.mul_nonneg (by omega) (by omega)
          have hn9 : (t.n : Int) ≤ 240 := by have := HQ.out; omega
          have hwr : IntKind.i64.wrap ((t.high - 1) * t.wide) = p := by rw [show t.high - 1 = (Hn : Int) by have := HWH.out.2; omega, ← hp, IntKind.wrap_i64]; omega
          have hwr2 : IntKind.i64.wrap (p + c) = (I : Int) := by rw [hI2, ← hp, IntKind.wrap_i64]; omega
          obtain ⟨y, hy⟩ : ∃ y, y = footT v c := ⟨_, rfl⟩
          have HYC : Hid (∀ w, RdV w v l → Calls Try.prog 38 #[.agg C, .int .i64 c] w fun e w' => e = .returned (cval y) ∧ Below w.heap.size w w') := fun w hv => by rw [hy]; exact HST.out c (by omega) w hv
          have HY : Hid (y = cellsV v t.wide t.high I) := by
            show y = _
            rw [cellsV_at v hcl' hI2, if_pos (by have := HWH.out.2; omega), hy]
          have HII : Hid (I = Hn * Wn + c ∧ I < t.n) := ⟨hI, by omega⟩
          have n1 := HJ.out.n1
          have n2 := HJ.out.n2
          have ne1 : ¬ b = w1.heap.size := by omega
          have ne2 : ¬ w1.heap.size = b := by omega
          clear hI hI2 hp hy
          go_wp2_with fail
          refine wp_region_noPanic ?_
          refine wp_region_held_drew (S := fun w' => w'.heap[w.heap.size]? = some (cbox C) ∧ w'.cell? ⟨w1.heap.size, 0, none⟩ = some (.int .i64 t.wide) ∧ w'.cell? ⟨w1.heap.size, 2, none⟩ = some (.slice (some ⟨b, 0, none⟩) t.n t.n)) (by kernel_rfl) ⟨HJ.out.box, g0, g2⟩ (fun hHeld => ?_)
          refine wpAnyH_take (i := 0) (v := ?_) rfl (by kernel_rfl) (by kernel_rfl) (by kernel_rfl) (fun _ _ _ h => h) (Or.inl ⟨by rfl, ?_⟩) (by assumption) ?_
          rotate_left
          · ((intro w0 hSw; (try dsimp only at hSw); go_simp) <;> with_reducible rfl)
          try simp only [Act.put, List.setIfInBounds_toArray, List.set_cons_zero, List.set_cons_succ, List.getElem_toArray, List.getElem_cons_zero]
          refine wpAnyH_take (i := 1) (v := ?_) rfl (by kernel_rfl) (by kernel_rfl) (by kernel_rfl) (fun _ _ _ h => h) (Or.inl ⟨by rfl, ?_⟩) (by assumption) ?_
          rotate_left
          · ((intro w0 hSw; (try dsimp only at hSw); go_simp) <;> with_reducible rfl)
          try simp only [Act.put, List.setIfInBounds_toArray, List.set_cons_zero, List.set_cons_succ, List.getElem_toArray, List.getElem_cons_zero, List.getElem_cons_succ]
          refine wpAnyH_take (i := 2) (v := ?_) rfl (by kernel_rfl) (by kernel_rfl) (by kernel_rfl) (fun _ _ _ h => h) (Or.inl ⟨by rfl, ?_⟩) (by assumption) ?_
          rotate_left
          · ((intro w0 hSw; (try dsimp only at hSw); go_simp) <;> with_reducible rfl)
          try simp only [Act.put, List.setIfInBounds_toArray, List.set_cons_zero, List.set_cons_succ, List.getElem_toArray, List.getElem_cons_zero, List.getElem_cons_succ]
          refine wpAnyH_take (i := 3) (v := ?_) rfl (by kernel_rfl) (by kernel_rfl) (by kernel_rfl) (fun _ _ _ h => h) (Or.inl ⟨by rfl, ?_⟩) (by assumption) ?_
          rotate_left
          · ((intro w0 hSw; (try dsimp only at hSw); go_simp) <;> with_reducible rfl)
          try simp only [Act.put, List.setIfInBounds_toArray, List.set_cons_zero, List.set_cons_succ, List.getElem_toArray, List.getElem_cons_zero, List.getElem_cons_succ]
          refine wpAnyH_take (i := 4) (v := ?_) rfl (by kernel_rfl) (by kernel_rfl) (by kernel_rfl) (fun _ _ _ h => h) (Or.inl ⟨by rfl, ?_⟩) (by assumption) ?_
          rotate_left
          · ((intro w0 hSw; (try dsimp only at hSw); go_simp) <;> with_reducible rfl)
          try simp only [Act.put, List.setIfInBounds_toArray, List.set_cons_zero, List.set_cons_succ, List.getElem_toArray, List.getElem_cons_zero, List.getElem_cons_succ]
          refine wpAnyH_take (i := 5) (v := ?_) rfl (by kernel_rfl) (by kernel_rfl) (by kernel_rfl) (fun _ _ _ h => h) (Or.inl ⟨by rfl, ?_⟩) (by assumption) ?_
          rotate_left
          · ((intro w0 hSw; (try dsimp only at hSw); go_simp) <;> with_reducible rfl)
          try simp only [Act.put, List.setIfInBounds_toArray, List.set_cons_zero, List.set_cons_succ, List.getElem_toArray, List.getElem_cons_zero, List.getElem_cons_succ]
          refine wpAnyH_take (i := 6) (v := ?_) rfl (by kernel_rfl) (by kernel_rfl) (by kernel_rfl) (fun _ _ _ h => h) (Or.inl ⟨by rfl, ?_⟩) (by assumption) ?_
          rotate_left
          · ((intro w0 hSw; (try dsimp only at hSw); go_simp) <;> with_reducible rfl)
          try simp only [Act.put, List.setIfInBounds_toArray, List.set_cons_zero, List.set_cons_succ, List.getElem_toArray, List.getElem_cons_zero, List.getElem_cons_succ]
          refine wpAnyH_take (i := 7) (v := ?_) rfl (by kernel_rfl) (by kernel_rfl) (by kernel_rfl) (fun _ _ _ h => h) (Or.inl ⟨by rfl, ?_⟩) (by assumption) ?_
          rotate_left
          · ((intro w0 hSw; (try dsimp only at hSw); go_simp) <;> with_reducible rfl)
          try simp only [Act.put, List.setIfInBounds_toArray, List.set_cons_zero, List.set_cons_succ, List.getElem_toArray, List.getElem_cons_zero, List.getElem_cons_succ]
          refine wpAnyH_take (i := 8) (v := .agg C) rfl (by kernel_rfl) (by kernel_rfl) (by kernel_rfl) (fun _ _ _ h => h) (yields_view (by rfl) _ rfl w.heap.size rfl C HS.out (fun w0 h => h.1)) (by assumption) ?_
          try simp only [Act.put, List.setIfInBounds_toArray, List.set_cons_zero, List.set_cons_succ, List.getElem_toArray, List.getElem_cons_zero, List.getElem_cons_succ]
          refine wpAnyH_take (i := 9) (v := ?_) rfl (by kernel_rfl) (by kernel_rfl) (by kernel_rfl) (fun _ _ _ h => h) (Or.inl ⟨by rfl, ?_⟩) (by assumption) ?_
          rotate_left
          · ((intro w0 hSw; (try dsimp only at hSw); go_simp) <;> with_reducible rfl)
          try simp only [Act.put, List.setIfInBounds_toArray, List.set_cons_zero, List.set_cons_succ, List.getElem_toArray, List.getElem_cons_zero, List.getElem_cons_succ]
          refine wpAnyH_ready (rs := [10]) (by kernel_rfl) (by simp) ?_
          refine AllReadyH.cons rfl (fun K hK => ?_) AllReadyH.nil
          go_simp
          go_at_call 38
          refine (HYC.out _ (HV.out.below HJ.out.below.drew)).mono ?_
          rintro e w3 ⟨rfl, hb3⟩
          have HJ3 : Hid (ScInv w C t b w1.heap.size t.n (fillF v t.wide t.high (Hn * Wn + c)) w3) := HJ.out.drew.next hb3
          clear g0 g1 g2 g3 g4 g5 g6 g7 g8 g9 hb3
          obtain ⟨⟨g0, g1, g2, g3, g4, g5, g6, g7, g8⟩, g9⟩ := nine HJ3.out.g
          obtain ⟨t0, t1, t2, t3⟩ := HJ3.out.scr.cells I HII.out.2
          have hfr := HJ3.out.scr.free
          try go_simp
          refine hK.out _ _ ⟨HJ3.out.box, g0, g2⟩ (fun hHeld => ?_)
          clear hK K
          try simp only [Act.put, List.setIfInBounds_toArray, List.set_cons_zero, List.set_cons_succ, List.getElem_toArray, List.getElem_cons_zero, List.getElem_cons_succ]
          refine wpAnyH_take (i := 11) (v := ?_) rfl (by kernel_rfl) (by kernel_rfl) (by kernel_rfl) (fun _ _ _ h => h) (Or.inl ⟨by rfl, ?_⟩) (by assumption) ?_
          rotate_left
          · ((intro w0 hSw; (try dsimp only at hSw); go_simp) <;> with_reducible rfl)
          try simp only [Act.put, List.setIfInBounds_toArray, List.set_cons_zero, List.set_cons_succ, List.getElem_toArray, List.getElem_cons_zero, List.getElem_cons_succ]
          refine wpAnyH_ready (rs := [12]) (by kernel_rfl) (by simp) ?_
          refine AllReadyH.cons rfl (fun K hK => ?_) AllReadyH.nil
          go_simp
          refine hK.out _ _ ⟨(HJ3.out.put I y HII.out.2).box, (nine (HJ3.out.put I y HII.out.2).g).1.1, (nine (HJ3.out.put I y HII.out.2).g).1.2.2.1⟩ (fun hHeld => ?_)
          clear hK K
          try simp only [Act.put, List.setIfInBounds_toArray, List.set_cons_zero, List.set_cons_succ, List.getElem_toArray, List.getElem_cons_zero, List.getElem_cons_succ]
          refine wpAnyH_done (by kernel_rfl) ?_ _
          refine NoPanic.normal ?_
          have HJ4 : Hid (ScInv w C t b w1.heap.size t.n (fillF v t.wide t.high (Hn * Wn + (c + 1))) ((((w3.setCell ⟨b, I * 4, none⟩ (.int .i64 y.ch)).setCell ⟨b, I * 4 + 1, none⟩ (.int .i64 y.ink)).setCell ⟨b, I * 4 + 2, none⟩ (.int .i64 y.pic)).setCell ⟨b, I * 4 + 3, none⟩ (.bool y.bold))) := by
            have hp := HJ3.out.put I y HII.out.2
            rw [HY.out, ← HII.out.1, fill_put, HII.out.1] at hp
            rw [HY.out, HII.out.1]
            exact hp
          go_wp2
          go_roundw
          case rel => exact ⟨c + 1, by omega, by go_num, HJ4.out⟩
          case measure => simp [intOf]; omega
        · have hge2 : t.wide ≤ (c : Int) := by have := HWH.out.1; omega
          have HE : Hid (Hn * Wn + c = t.n) := by
            show _ = _
            have h9 : (t.n : Int) = ((Hn * Wn + Wn : Nat) : Int) := by rw [HQ.out.1, HWH.out.1, HWH.out.2]; push_cast; rw [Int.add_mul]; omega
            omega
          have HWR : Hid (IntKind.i64.wrap (t.wide - 1) = t.wide - 1) := by show _ = _; rw [IntKind.wrap_i64]; omega
          obtain ⟨R, hR⟩ : ∃ R, R = max 0 (min cu1 (t.high - 1)) := ⟨_, rfl⟩
          obtain ⟨Q, hQ⟩ : ∃ Q, Q = max 0 (min cu2 (t.wide - 1)) := ⟨_, rfl⟩
          have HW1 : Hid (∀ w, Calls Try.prog 69 #[.int .i64 cu1, .int .i64 0, .int .i64 (t.high - 1)] w fun e w' => e = .returned (.int .i64 R) ∧ w' = w) := fun w => by rw [hR]; exact within_any cu1 0 (t.high - 1) w
          have HW2 : Hid (∀ w, Calls Try.prog 69 #[.int .i64 cu2, .int .i64 0, .int .i64 (t.wide - 1)] w fun e w' => e = .returned (.int .i64 Q) ∧ w' = w) := fun w => by rw [hQ]; exact within_any cu2 0 (t.wide - 1) w
          have HX2 : Hid (x = { t with f := cellsV v t.wide t.high, row := R, col := Q }) := by show x = _; rw [HX.out, hR, hQ]
          have n1 := HJ.out.n1
          have n2 := HJ.out.n2
          clear hR hQ HX HCL HST
          go_wp2_with (first
            | (refine wpList_load_view C HS.out rfl _ rfl w.heap.size rfl HJ.out.box ?_)
            | (go_at_call 68; refine (HCU.out _ (HV.out.below HJ.out.below)).mono ?_; rintro e w5 ⟨rfl, hb5⟩; have HJ5 : Hid (ScInv w C t b w1.heap.size t.n (fillF v t.wide t.high (Hn * Wn + c)) w5) := HJ.out.next hb5; clear g0 g1 g2 g3 g4 g5 g6 g7 g8 g9 hb5; obtain ⟨⟨g0, g1, g2, g3, g4, g5, g6, g7, g8⟩, g9⟩ := nine HJ5.out.g; obtain ⟨⟨u0, u1, u2, u3, u4, u5, u6, u7, u8⟩, u9⟩ := nine HJ5.out.res)
            | fail)
          have ne1 : ¬ w1.heap.size = w.heap.size + 1 := by omega
          have ne2 : ¬ w.heap.size + 1 = w1.heap.size := by omega
          go_region_held3 (fun w' => w'.cell? ⟨w1.heap.size, 0, none⟩ = some (.int .i64 t.wide)) (first | exact g0 | exact cell_set_ne g0 (by decide) | exact cell_set_ne (cell_set_ne g0 (by decide)) (by decide) | go_keep)
            (first
            | (go_at_call_of 69 (Value.int IntKind.i64 cu1); refine (HW1.out _).mono ?_; rintro e w6 ⟨rfl, rfl⟩)
            | (go_at_call_of 69 (Value.int IntKind.i64 cu2); rw [HWR.out]; refine (HW2.out _).mono ?_; rintro e w6 ⟨rfl, rfl⟩))
          all_goals
            go_wp2
            refine bodyPost_ret (v := gval { t with f := cellsV v t.wide t.high, row := R, col := Q } (some ⟨b, 0, none⟩) t.n) (by simp [results, Try.results42, go_sem, *]) rfl ?_
            rw [HX2.out]
            refine ⟨b, rfl, ?_, ?_⟩
            · have hs : Scr w5 b t.n (cellsV v t.wide t.high) := HJ5.out.scr.congr fun i hi => by unfold fillF; rw [HE.out, if_pos hi]
              first | exact Scr.drew (scr_set9 ((hs.set (by simp; omega) _).set (by simp; omega) _) (by omega) _ _ _ _ _ _ _ _ _) | exact (scr_set9 ((hs.set (by simp; omega) _).set (by simp; omega) _) (by omega) _ _ _ _ _ _ _ _ _)
            · first | exact Below.drew (below_set9 ((HJ5.out.below.setCell (by simp; omega) _).setCell (by simp; omega) _) (by omega) _ _ _ _ _ _ _ _ _) | exact below_set9 ((HJ5.out.below.setCell (by simp; omega) _).setCell (by simp; omega) _) (by omega) _ _ _ _ _ _ _ _ _

end Go.Proofs.Yteenppbpjdldgab.Pt
