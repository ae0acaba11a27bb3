/- Several texts in one, each as it was: DColA, DColour. -/
import Derived.Test.YtpichplhidiokabDoorDErase
import Derived.Deep.AppendLies

/- The pen's colours in the making: the payload, and the cells laid so far. -/
namespace Go.Proofs.YtpichplhidiokabDoor
open Go.RowKit
set_option maxRecDepth 100000

/-- The screen behind k columns. -/
def colK (g : Gr) (want : Nat → Cel) (P c k : Nat) : Gr := { g with f := colF g.f want P c k }

/-- Behind k columns: the payload holds 'm' bytes. -/
structure ColInv (w wr : World) (pb b cap : Nat) (oo : Option Addr) (oc : Nat) (l : List UInt8) (g : Gr) (want : Nat → Cel) (P c k m : Nat) (pa : Option Addr) (pc : Nat) : Prop where
  pen : PenIn wr pb b cap oo oc ⟨l, colK g want P c k⟩
  grown : w.grownBy wr (some b)
  pay : wr.ownsRow w.heap.size 5 1 (.slice pa m pc) m (bytesV (paysD g.f want P c m))
  plt : pb < w.heap.size
  blt : b < w.heap.size
  olt : ∀ i, blkD oo = some i → i < w.heap.size

variable {w wr : World} {pb b cap : Nat} {oo : Option Addr} {oc : Nat} {l : List UInt8} {g : Gr} {want : Nat → Cel} {P c k m : Nat} {pa : Option Addr} {pc : Nat}

theorem ColInv.later (h : ColInv w wr pb b cap oo oc l g want P c k m pa pc) {w' : World} (hb : Below wr.heap.size wr w') : ColInv w w' pb b cap oo oc l g want P c k m pa pc :=
  ⟨h.pen.later hb, grown_trans h.grown (Below.toGrown hb _), h.pay.kept (Below.toGrown hb none) (by cases hv : Value.ownBlock (.slice pa m pc) <;> simp), h.plt, h.blt, h.olt⟩
theorem ColInv.kept (h : ColInv w wr pb b cap oo oc l g want P c k m pa pc) : Kept w wr pb b oo oo :=
  ⟨h.grown.os, h.grown.tape, h.grown.output, h.grown.size, fun i hi _ h2 _ => h.grown.block i hi (fun e => h2 (Option.some.inj e)), .inl rfl⟩

/-- The payload does not lie where the screen does. -/
theorem ColInv.pne (h : ColInv w wr pb b cap oo oc l g want P c k m pa pc) : blkD pa ≠ some b := fun e => by
  obtain ⟨cur, hc⟩ := own_tag h.pay e
  obtain ⟨cur2, hc2, _⟩ := h.pen.scr
  exact ne_tag hc hc2 tagBC rfl

/-- One column on, nothing laid. -/
theorem ColInv.same (h : ColInv w wr pb b cap oo oc l g want P c k m pa pc) (hk : lackB (g.f (P + (c + k))) (want (c + k)) = false) : ColInv w wr pb b cap oo oc l g want P c (k + 1) m pa pc := by
  refine ⟨?_, h.grown, h.pay, h.plt, h.blt, h.olt⟩
  have := h.pen
  unfold colK at this ⊢
  rw [colF_have hk]
  exact this
/-- One column on, a colour laid. -/
theorem ColInv.put (h : ColInv w wr pb b cap oo oc l g want P c k m pa pc) (hk : lackB (g.f (P + (c + k))) (want (c + k)) = true) (hn : P + (c + k) < g.n) (o0 o1 o2 o3 : Nat) (e0 : o0 = (P + (c + k)) * 4) (e1 : o1 = (P + (c + k)) * 4 + 1) (e2 : o2 = (P + (c + k)) * 4 + 2) (e3 : o3 = (P + (c + k)) * 4 + 3) (x : Cel) (hx : x = want (c + k)) :
    ColInv w ((((wr.setCell ⟨b, o0, none⟩ (.int .i64 x.ch)).setCell ⟨b, o1, none⟩ (.int .i64 x.ink)).setCell ⟨b, o2, none⟩ (.int .i64 x.pic)).setCell ⟨b, o3, none⟩ (.bool x.bold)) pb b cap oo oc l g want P c (k + 1) m pa pc := by
  refine ⟨?_, grown_put h.grown, own_setD (own_setD (own_setD (own_setD h.pay h.pne _) h.pne _) h.pne _) h.pne _, h.plt, h.blt, h.olt⟩
  have := h.pen.put (P + (c + k)) o0 o1 o2 o3 x hn e0 e1 e2 e3
  unfold colK at this ⊢
  rw [colF_lack hk, ← hx]
  exact this

/-- The payload grows by a byte. -/
theorem wpList_append_col {wx : World} {ops : Array Oper} {rest : List Oper} {o : Oper} {a : Act} {Q : Exit → Act → World → Prop} (hgd : o.guard = none) (sl x : Operand)
    (ho : o.op = .call { callee := .builtin .append, args := #[sl, x], argTypes := #[36, 36] })
    (h : ColInv w wx pb b cap oo oc l g want P c (m + 1) m pa pc) (y : Int) (hy : y = ((payD g.f want P (c + m)).toNat : Int)) (hm : m ≤ 100) (hs : a.eval sl = .slice pa m pc) (B : Nat) (hB : B = wx.heap.size) (hx : a.eval x = .slice (some ⟨B, 0, none⟩) 1 1)
    (hk : ∀ g' cap' w', Hid (ColInv w w' pb b cap oo oc l g want P c (m + 1) (m + 1) (some ⟨g', 0, none⟩) cap') → wpList Tryd.prog ops Q rest (a.put o.dst (.slice (some ⟨g', 0, none⟩) (m + 1) cap')) w') : wpList Tryd.prog ops Q (o :: rest) a (wx.alloc (.cells #[.int .u8 y] 5)) := by
  subst hB
  subst hy
  obtain ⟨i, hi, hz0, hz1, hz2⟩ := info_parts info5
  have hsz := h.grown.size
  have hbe := below1 wx (.cells #[.int .u8 ((payD g.f want P (c + m)).toNat : Int)] 5)
  refine wpList_append_lies _ hgd sl x 36 ho w.heap.size 5 i (.int .u8 0) 1 1 Tryd.underlying36 hi hz0 hz1 hz2 rfl (by decide) (.slice pa m pc) m _ hs (h.pay.alloc _) ⟨wx.heap.size, 0, none⟩ 1 1 [.int .u8 ((payD g.f want P (c + m)).toNat : Int)] hx rfl ?_ ?_ (by decide) (by unfold maxLen; omega) (by omega) (by simp; omega) (wx.heap.size + 1) (by simp) ?_
  · exact World.news_of_block (at_new wx _)
  · intro u hu
    simp only [List.mem_singleton] at hu
    subst hu
    rfl
  · intro g' cap' w' hown hgrow _ _
    rw [ownBlock_D] at hgrow
    have h1 := h.later hbe
    have hp := h1.pen
    have hlo : ∀ k, blkD pa = some k → w.heap.size ≤ k := fun k hk => (h.pay.lt k (by rw [ownBlock_D]; exact hk)).1
    have hne : ∀ i, i < w.heap.size → some i ≠ blkD pa := fun i hi e => by have := hlo i e.symm; omega
    refine hk g' cap' w' ⟨⟨?_, ?_, ?_⟩, ?_, ?_, h.plt, h.blt, h.olt⟩
    · exact grown_block hgrow hp.box (hne _ h.plt)
    · refine hp.own.kept hgrow ?_
      rw [ownBlock_D]
      cases ho : blkD oo with
      | none => exact .inl rfl
      | some j => exact .inr (hne j (h.olt j ho))
    · exact hp.scr.grown hgrow (hne _ h.blt)
    · exact ⟨hgrow.os.trans h1.grown.os, hgrow.tape.trans h1.grown.tape, hgrow.output.trans h1.grown.output, Nat.le_trans h1.grown.size hgrow.size, fun i hi hb => (hgrow.block i (Nat.lt_of_lt_of_le hi h1.grown.size) (hne i hi)).trans (h1.grown.block i hi hb)⟩
    · rw [paysD_succ, bytesV_append]
      exact hown

end Go.Proofs.YtpichplhidiokabDoor

/- The pen lays colours. -/
namespace Go.Proofs.YtpichplhidiokabDoor
open Go.RowKit
set_option maxRecDepth 100000

/-- The text of bytes of one's own. -/
theorem run_text (w : World) (base n oc : Nat) (oo : Option Addr) (l : List UInt8) (hn : n = l.length) (h : w.ownsRow base 5 1 (.slice oo n oc) n (bytesV l)) : (convert 36 9 (.slice oo n oc)).run Tryd.prog w = .ok (.string (bs l)) w := by
  subst hn
  rw [run_convert_bytes_string w 36 9 5 oo l.length oc Tryd.underlying36 Tryd.underlying5 Tryd.underlying9]
  rcases h.2 with ⟨hv, h0⟩ | ⟨g, c, cur, hv, _, hg, hc, _, hs, ht⟩
  · simp only [Value.slice.injEq] at hv
    obtain ⟨rfl, _, rfl⟩ := hv
    have : l = [] := List.length_eq_zero_iff.1 h0
    subst this
    simp [Conv.bytesToString]
    rfl
  · simp only [Value.slice.injEq] at hv
    obtain ⟨rfl, _, rfl⟩ := hv
    have hm : bytesV l = (l.map fun b : UInt8 => (b.toNat : Int)).map (Value.int .u8) := by simp [bytesV]
    have hl := run_loadCells_list (P := Tryd.prog) w ⟨g, 0, none⟩ (bytesV l) (h.cells (g := g) rfl)
    have hlen : (bytesV l).length = l.length := by simp [bytesV]
    rw [hlen, hm] at hl
    rw [run_bytesToString w ⟨g, 0, none⟩ l.length oc _ hl]
    congr 2
    have key : ∀ (l : List UInt8) (s : ByteArray), (l.map fun b : UInt8 => (b.toNat : Int)).foldl (fun r n => r.push (UInt8.ofNat n.toNat)) s = ⟨s.data ++ l.toArray⟩ := by
      intro l
      induction l with
      | nil => intro s; simp
      | cons x r ih =>
        intro s
        rw [List.map_cons, List.foldl_cons, ih]
        apply ByteArray.ext
        simp [ByteArray.push]
    rw [key]
    apply ByteArray.ext
    simp [ByteArray.empty, ByteArray.emptyWithCapacity]
    rfl

set_option maxHeartbeats 1500000 in
theorem colour_pen (pb b cap : Nat) (oo : Option Addr) (oc : Nat) (p : Pen) (ok : OkG p.g) (hcap : p.g.n ≤ cap) (hcol : p.g.col < p.g.wide) (want : Nat → Cel) (hgood : ∀ j, j < p.g.wide.toNat → goodC (want j) = true) (aw : Option Addr) (cw : Nat) (W : Nat) (hW : W = p.g.wide.toNat) (_hcw : W ≤ cw) (hl : p.out.length ≤ 100000) (w : World) (h : PenIn w pb b cap oo oc p)
    (hw : ∀ w' o', Kept w w' pb b oo o' → RdS w' aw W want) :
    Calls Tryd.prog 25 #[.pointer (some ⟨pb, 0, none⟩), .slice aw W cw] w fun e w' => e = .returned (.tuple #[]) ∧ PenTo w pb b cap oo (colourP p want) w' := by
  have w1 := ok.w1
  have w2 := ok.w2
  have r1 := ok.r1
  have r2 := ok.r2
  have k1 := ok.c1
  have hW24 : W ≤ 24 := by omega
  obtain ⟨bw, ow, rfl, _⟩ := (hw w oo (Kept.refl _ _ _ _)).resolve_left (by omega)
  obtain ⟨R, hR⟩ : ∃ R : Nat, (R : Int) = p.g.row := ⟨p.g.row.toNat, by omega⟩
  obtain ⟨C, hC⟩ : ∃ C : Nat, (C : Int) = p.g.col := ⟨p.g.col.toNat, by omega⟩
  obtain ⟨P, hP⟩ : ∃ P, P = R * W := ⟨_, rfl⟩
  have hPr : P = rowAt p.g := by
    rw [hP, hW]
    unfold rowAt
    rw [← hR, row_nat R p.g.wide (by omega)]
  have hCc : C = p.g.col.toNat := by omega
  have hCW : C < W := by omega
  have hPn : P + W ≤ p.g.n := by
    have h1 := size_nat ok
    have h2 : (R + 1) * W ≤ p.g.high.toNat * W := Nat.mul_le_mul_right _ (by omega)
    rw [Nat.succ_mul] at h2
    rw [h1, ← hW]
    omega
  have HCE : Hid (∀ w, Calls Tryd.prog 21 #[gval p.g (some ⟨b, 0, none⟩) cap, .int .i64 p.g.row] w fun e w' => e = .returned (.slice (some ⟨b, P * 4, none⟩) W (cap - P)) ∧ w' = w.alloc (gbox p.g (some ⟨b, 0, none⟩) cap)) := fun w => by
    have := cells_any p.g ok b 0 cap R (by omega) hcap w
    rw [Nat.zero_add, ← hW, ← hP, hR] at this
    exact this
  have HEND : Hid (colourP p want = ⟨p.out ++ 27 :: 80 :: (Lib.trimRightB (paysD p.g.f want P C (W - C)) 32 ++ [27, 92]), colK p.g want P C (W - C)⟩) := by
    show colourP p want = _
    unfold colourP colBytes colG colK leftD
    rw [← hPr, ← hCc, ← hW]
  have HST : Hid (ColInv w (w.alloc (gbox p.g (some ⟨b, 0, none⟩) cap)).drew pb b cap oo oc p.out p.g want P C 0 0 none 0) := by
    have hb := redrew (below1 w (gbox p.g (some ⟨b, 0, none⟩) cap))
    refine ⟨?_, Below.toGrown hb _, World.ownsRow_nil _ _ _ _, h.lt, h.blt, fun i hi => h.olt hi⟩
    unfold colK
    rw [colF_zero]
    exact h.later hb
  have HGD : Hid (∀ j, j < W → goodC (want j) = true) := by rw [hW]; exact hgood
  have HRW : Hid (∀ w' o', Kept w w' pb b oo o' → RdS w' (some ⟨bw, ow, none⟩) W want) := hw
  obtain ⟨⟨c0, c1, c2, c3, c4, c5, c6, c7, c8, c9⟩, cf⟩ := ten h.box
  have hlt := h.lt
  have HP0 : Hid (PenIn w pb b cap oo oc p) := h
  rw [← hC] at c5
  clear h hw hgood hW hR hP hPr hCc ok hcol k1 r1 r2
  have HC : Hid ((C : Int) = p.g.col) := hC
  clear hC
  go_enter Tryd.func25, Tryd.ntmps25
  go_wp2_with fail
  go_region_held3 (fun w' => w'.cell? ⟨pb, 1, none⟩ = some (.int .i64 p.g.wide) ∧ w'.cell? ⟨pb, 2, none⟩ = some (.int .i64 p.g.high) ∧ w'.cell? ⟨pb, 3, none⟩ = some (.slice (some ⟨b, 0, none⟩) p.g.n cap) ∧ w'.cell? ⟨pb, 4, none⟩ = some (.int .i64 p.g.row) ∧ w'.cell? ⟨pb, 5, none⟩ = some (.int .i64 C) ∧ w'.cell? ⟨pb, 6, none⟩ = some (.int .i64 p.g.ink) ∧ w'.cell? ⟨pb, 7, none⟩ = some (.bool p.g.bold) ∧ w'.cell? ⟨pb, 8, none⟩ = some (.int .i64 p.g.top) ∧ w'.cell? ⟨pb, 9, none⟩ = some (.int .i64 p.g.bottom)) (first | go_keep | (simp [*, World.cell?_alloc_past]))
    ((go_at_call 21; rw [HC.out]; go_must (go_fit (HCE.out w.drew)); rintro e v1 ⟨rfl, rfl⟩))
  go_wp2_with fail
  go_loopw [5, 6] (fun pv cv wr => ∃ (J k : Nat) (pa : Option Addr) (pc : Nat), J = C + k ∧ J ≤ W ∧ cv = .int .i64 J ∧ pv = .slice pa k pc ∧ ColInv w wr pb b cap oo oc p.out p.g want P C k k pa pc) (fun _ cv _ => W - (intOf cv).toNat)
  case atStart => exact ⟨C, 0, none, 0, rfl, by omega, rfl, rfl, HST.out⟩
  case round =>
    obtain ⟨J, k, pa, pc, hJ, hJW, rfl, rfl, hinv⟩ := hrel
    have HI : Hid (ColInv w wr pb b cap oo oc p.out p.g want P C k k pa pc) := hinv
    have HJ : Hid (J = C + k) := hJ
    clear HST c0 c1 c2 c3 c4 c5 c6 c7 c8 c9 cf
    by_cases hlt : J < W
    · obtain ⟨bw', ow', e, hcw'⟩ := (HRW.out wr oo hinv.kept).resolve_left (by omega)
      simp only [Option.some.injEq, Addr.mk.injEq, and_true] at e
      obtain ⟨rfl, rfl⟩ := e
      obtain ⟨t0, t1, t2, t3⟩ := hcw' J hlt
      have hPJ : P + J < p.g.n := by omega
      obtain ⟨s0, s1, s2, s3⟩ := hinv.pen.scr.cells (P + J) hPJ
      have hfJ : (colK p.g want P C k).f (P + J) = p.g.f (P + J) := by
        unfold colK colF
        simp only
        rw [if_neg (by omega)]
      simp only [hfJ] at s0 s1 s2 s3
      have hoff : (P + J) * 4 = P * 4 + J * 4 := by omega
      rw [hoff] at s0 s1 s2 s3
      obtain ⟨y, hy⟩ : ∃ y, y = p.g.f (P + J) := ⟨_, rfl⟩
      obtain ⟨x, hx⟩ : ∃ x, x = want J := ⟨_, rfl⟩
      rw [← hy] at s0 s1 s2 s3
      rw [← hx] at t0 t1 t2 t3
      have hfr : ∀ j, wr.frozen? ⟨b, j, none⟩ = false := hinv.pen.scr.free
      have hblt := hinv.pen.blt
      have hwlt := World.block_lt_of_cell? _ _ t0
      simp only at hwlt
      have hlt' : (J : Int) < (W : Int) := by omega
      have hJ0 : (0 : Int) ≤ (J : Int) := by omega
      have hcp : W ≤ cap - P := by omega
      obtain ⟨q, hq⟩ : ∃ q, q = celB y x := ⟨_, rfl⟩
      have E2 : ∀ w, (binOp .neq 33 (.agg #[.int .i64 y.ch, .int .i64 y.ink, .int .i64 y.pic, .bool y.bold]) (.agg #[.int .i64 x.ch, .int .i64 x.ink, .int .i64 x.pic, .bool x.bold])).run Tryd.prog w = .ok (.bool !q) w := fun w => by rw [hq]; exact neq_cell y x w
      have HLB : Hid (lackB (p.g.f (P + (C + k))) (want (C + k)) = (decide (0 < x.pic) && !q)) := by
        show lackB _ _ = _
        rw [← hJ, ← hy, ← hx, hq]
        rfl
      have HPD : Hid (payD p.g.f want P (C + k) = if (decide (0 < x.pic) && !q) = true then UInt8.ofNat (96 + x.pic).toNat else 32) := by
        show payD _ _ _ _ = _
        unfold payD
        rw [HLB.out, ← hJ, ← hx]
      have hx8 : 0 < x.pic → x.pic ≤ 8 := fun hp => (good_pic (by rw [hx]; exact HGD.out J hlt) hp).2
      have HXW : Hid (x = want (C + k)) := by rw [← hJ]; exact hx
      have hk100 : k ≤ 100 := by omega
      clear hinv hcw' hy hx hq hfJ hJ
      by_cases hp : 0 < x.pic
      · have hp8 := hx8 hp
        clear hx8
        cases q
        · have HB32 : Hid ((96 + x.pic : Int) = ((payD p.g.f want P (C + k)).toNat : Int)) := by
            show (96 + x.pic : Int) = _
            rw [HPD.out]
            simp [hp]
            omega
          go_wp2_with fail
          go_quiet (fail)
          have hd1 : Below wr.heap.size wr ((wr.alloc (cbox x)).drewN nq) := below_drewN (below1 _ _) _
          have HI1 : Hid (ColInv w ((wr.alloc (cbox x)).drewN nq) pb b cap oo oc p.out p.g want P C k k pa pc) := HI.out.later hd1
          obtain ⟨⟨z0, z1, z2, z3⟩, zf⟩ := four (show ((wr.alloc (cbox x)).drewN nq).heap[wr.heap.size]? = some (cbox x) from at_new wr _)
          have y0 := HI1.out.pen.scr.cells (P + J) hPJ
          rw [hoff] at y0
          obtain ⟨y0, y1, y2, y3⟩ := y0
          have hfr1 := HI1.out.pen.scr.free
          have hne : wr.heap.size ≠ b := by omega
          have hne2 : b ≠ wr.heap.size := by omega
          generalize (wr.alloc (cbox x)).drewN nq = W1 at *
          obtain ⟨Z, hZ⟩ : ∃ Z, Z = (colK p.g want P C k).f (P + J) := ⟨_, rfl⟩
          simp only [← hZ] at y0 y1 y2 y3
          clear hZ hd1 s0 s1 s2 s3 t0 t1 t2 t3 hfr HI E2
          have HM : Hid (ColInv w ((((W1.setCell ⟨b, P * 4 + J * 4, none⟩ (.int .i64 x.ch)).setCell ⟨b, P * 4 + J * 4 + 1, none⟩ (.int .i64 x.ink)).setCell ⟨b, P * 4 + J * 4 + 2, none⟩ (.int .i64 x.pic)).setCell ⟨b, P * 4 + J * 4 + 3, none⟩ (.bool x.bold)) pb b cap oo oc p.out p.g want P C (k + 1) k pa pc) := by
            have hJ := HJ.out
            exact HI1.out.put (by rw [HLB.out]; simp [hp]) (by omega) _ _ _ _ (by omega) (by omega) (by omega) (by omega) x HXW.out
          have HB33 : Hid ((97 + x.pic - 1 : Int) = ((payD p.g.f want P (C + k)).toNat : Int)) := by
            show (97 + x.pic - 1 : Int) = _
            rw [← HB32.out]
            omega
          clear HI1 HB32
          go_wp2_with (first
            | (at_builtin; refine wpList_append_col rfl _ _ rfl HM.out _ HB33.out hk100 rfl _ (by simp) rfl ?_)
            | go_in)
          intro g' cap' wz HZ
          go_wp2
          go_roundw
          case rel => exact ⟨J + 1, k + 1, some ⟨g', 0, none⟩, cap', by have := HJ.out; omega, by omega, by go_num, rfl, HZ.out⟩
          case measure => simp [intOf]; omega
        · have HM : Hid (∀ (o : Obj) (nq : Nat), ColInv w ((wr.alloc o).drewN nq) pb b cap oo oc p.out p.g want P C (k + 1) k pa pc) := fun o nq => (HI.out.same (by rw [HLB.out]; simp)).later (below_drewN (below1 _ _) _)
          have HB32 : Hid ((32 : Int) = ((payD p.g.f want P (C + k)).toNat : Int)) := by
            show (32 : Int) = _
            rw [HPD.out]
            simp
          go_wp2_with fail
          go_quiet (fail)
          go_wp2_with (first
            | (at_builtin; refine wpList_append_col rfl _ _ rfl (HM.out _ _) _ HB32.out hk100 rfl _ (by simp) rfl ?_)
            | go_in)
          intro g' cap' wz HZ
          go_wp2
          go_roundw
          case rel => exact ⟨J + 1, k + 1, some ⟨g', 0, none⟩, cap', by have := HJ.out; omega, by omega, by go_num, rfl, HZ.out⟩
          case measure => simp [intOf]; omega
      · have hp' : x.pic ≤ 0 := by omega
        have HM : Hid (∀ (o : Obj) (nq : Nat), ColInv w ((wr.alloc o).drewN nq) pb b cap oo oc p.out p.g want P C (k + 1) k pa pc) := fun o nq => (HI.out.same (by rw [HLB.out]; simp [hp])).later (below_drewN (below1 _ _) _)
        have HB32 : Hid ((32 : Int) = ((payD p.g.f want P (C + k)).toNat : Int)) := by
          show (32 : Int) = _
          rw [HPD.out]
          simp [hp]
        have hd : decide (0 < x.pic) = false := by simpa using hp'
        clear hx8 hp
        go_wp2_with fail
        go_quiet (fail)
        go_wp2_with (first
          | (at_builtin; refine wpList_append_col rfl _ _ rfl (HM.out _ _) _ HB32.out hk100 rfl _ (by simp) rfl ?_)
          | go_in)
        intro g' cap' wz HZ
        go_wp2
        go_roundw
        case rel => exact ⟨J + 1, k + 1, some ⟨g', 0, none⟩, cap', by have := HJ.out; omega, by omega, by go_num, rfl, HZ.out⟩
        case measure => simp [intOf]; omega
    · have HIE : Hid (ColInv w wr pb b cap oo oc p.out p.g want P C (W - C) (W - C) pa pc ∧ k = W - C) := by
        have : k = W - C := by omega
        rw [← this]
        exact ⟨HI.out, rfl⟩
      obtain ⟨pays, hpays⟩ : ∃ l, l = paysD p.g.f want P C (W - C) := ⟨_, rfl⟩
      have hpl : pays.length = W - C := by rw [hpays]; exact paysD_length _ _ _ _ _
      obtain ⟨S, hS⟩ : ∃ S, S = bs pays := ⟨_, rfl⟩
      have hSs : S.size ≤ 24 := by rw [hS, bs_size]; omega
      have hcv : (convert 36 9 (.slice pa k pc)).run Tryd.prog wr = .ok (.string S) wr := by
        have h1 := HIE.out.1.pay
        rw [← hpays] at h1
        rw [← HIE.out.2] at h1
        rw [hS]
        exact run_text wr _ k pc pa pays (by rw [hpl]; exact HIE.out.2) h1
      obtain ⟨T, hT⟩ : ∃ T, T = bs (Lib.trimRightB pays 32) := ⟨_, rfl⟩
      have hTs : T.size ≤ 24 := by
        obtain ⟨m, hm⟩ := trim_split pays 32
        have := congrArg List.length hm
        rw [List.length_append] at this
        rw [hT, bs_size]
        omega
      have HTR : Hid (∀ w, Calls Tryd.prog 31 #[.string S, .string ⟨#[32]⟩] w fun e w' => e = .returned (.string T) ∧ w' = w) := fun w => by
        rw [hT, hS]
        have := Tryd.strings_TrimRight_one (bs pays) 32 (by decide) w (by rw [← hS]; omega)
        rw [bs_list] at this
        exact this
      have e1 : ¬ 9223372036854775807 < 2 + T.size := by omega
      have e2 : ¬ 9223372036854775807 < 2 + T.size + 2 := by omega
      have HWR : Hid (Calls Tryd.prog 27 #[.pointer (some ⟨pb, 0, none⟩), .string (⟨#[27, 80]⟩ ++ T ++ ⟨#[27, 92]⟩)] wr fun e w' => e = .returned (.tuple #[]) ∧ PenTo w pb b cap oo (colourP p want) w') := by
        have hpt : PenTo w pb b cap oo ⟨p.out, colK p.g want P C (W - C)⟩ wr := ⟨oo, oc, HIE.out.1.pen, HIE.out.1.kept⟩
        rw [HEND.out, ← hpays]
        exact write_from hpt _ (by simp only [ByteArray.size_append]; show p.out.length + (2 + T.size + 2) ≤ _; omega) _ (by rw [hT]; simp)
      clear hpays hpl hS hT HIE HI HRW HEND HGD HP0 HCE hinv
      go_wp2_with (first
        | (go_at_call 31; refine (HTR.out _).mono ?_; rintro e w9 ⟨rfl, hw9⟩; subst hw9)
        | (go_at_call 27; refine HWR.out.mono ?_; rintro e w5 ⟨rfl, hk5⟩))
      go_end0
      exact ⟨rfl, hk5⟩

end Go.Proofs.YtpichplhidiokabDoor
