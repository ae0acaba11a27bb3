/- The pen's colours in the making: the payload, and the cells laid so far. -/
import Derived.Test.YtdanlnankjgboabDoorDErase
import Derived.Deep.AppendLies
namespace Go.Proofs.YtdanlnankjgboabDoor
open Go.RowKit
set_option maxRecDepth 100000

/-- The screen behind k columns. -/
def colK (g : Gr) (want : Nat → Cel) (P c k : Nat) : Gr := { g with f := colF g.f want P c k }

/-- Behind k columns: the payload holds 'm' bytes. -/
structure ColInv (w wr : World) (pb b cap : Nat) (oo : Option Addr) (oc : Nat) (l : List UInt8) (g : Gr) (want : Nat → Cel) (P c k m : Nat) (pa : Option Addr) (pc : Nat) : Prop where
  pen : PenIn wr pb b cap oo oc ⟨l, colK g want P c k⟩
  grown : w.grownBy wr (some b)
  pay : wr.ownsRow w.heap.size 5 1 (.slice pa m pc) m (bytesV (paysD g.f want P c m))
  plt : pb < w.heap.size
  blt : b < w.heap.size
  olt : ∀ i, blkD oo = some i → i < w.heap.size

variable {w wr : World} {pb b cap : Nat} {oo : Option Addr} {oc : Nat} {l : List UInt8} {g : Gr} {want : Nat → Cel} {P c k m : Nat} {pa : Option Addr} {pc : Nat}

theorem ColInv.later (h : ColInv w wr pb b cap oo oc l g want P c k m pa pc) {w' : World} (hb : Below wr.heap.size wr w') : ColInv w w' pb b cap oo oc l g want P c k m pa pc :=
  ⟨h.pen.later hb, grown_trans h.grown (Below.toGrown hb _), h.pay.kept (Below.toGrown hb none) (by cases hv : Value.ownBlock (.slice pa m pc) <;> simp), h.plt, h.blt, h.olt⟩
theorem ColInv.kept (h : ColInv w wr pb b cap oo oc l g want P c k m pa pc) : Kept w wr pb b oo oo :=
  ⟨h.grown.os, h.grown.tape, h.grown.output, h.grown.size, fun i hi _ h2 _ => h.grown.block i hi (fun e => h2 (Option.some.inj e)), .inl rfl⟩

/-- The payload does not lie where the screen does. -/
theorem ColInv.pne (h : ColInv w wr pb b cap oo oc l g want P c k m pa pc) : blkD pa ≠ some b := fun e => by
  obtain ⟨cur, hc⟩ := own_tag h.pay e
  obtain ⟨cur2, hc2, _⟩ := h.pen.scr
  exact ne_tag hc hc2 tagBC rfl

/-- One column on, nothing laid. -/
theorem ColInv.same (h : ColInv w wr pb b cap oo oc l g want P c k m pa pc) (hk : lackB (g.f (P + (c + k))) (want (c + k)) = false) : ColInv w wr pb b cap oo oc l g want P c (k + 1) m pa pc := by
  refine ⟨?_, h.grown, h.pay, h.plt, h.blt, h.olt⟩
  have := h.pen
  unfold colK at this ⊢
  rw [colF_have hk]
  exact this
/-- One column on, a colour laid. -/
theorem ColInv.put (h : ColInv w wr pb b cap oo oc l g want P c k m pa pc) (hk : lackB (g.f (P + (c + k))) (want (c + k)) = true) (hn : P + (c + k) < g.n) (o0 o1 o2 o3 : Nat) (e0 : o0 = (P + (c + k)) * 4) (e1 : o1 = (P + (c + k)) * 4 + 1) (e2 : o2 = (P + (c + k)) * 4 + 2) (e3 : o3 = (P + (c + k)) * 4 + 3) (x : Cel) (hx : x = want (c + k)) :
    ColInv w ((((wr.setCell ⟨b, o0, none⟩ (.int .i64 x.ch)).setCell ⟨b, o1, none⟩ (.int .i64 x.ink)).setCell ⟨b, o2, none⟩ (.int .i64 x.pic)).setCell ⟨b, o3, none⟩ (.bool x.bold)) pb b cap oo oc l g want P c (k + 1) m pa pc := by
  refine ⟨?_, grown_put h.grown, own_setD (own_setD (own_setD (own_setD h.pay h.pne _) h.pne _) h.pne _) h.pne _, h.plt, h.blt, h.olt⟩
  have := h.pen.put (P + (c + k)) o0 o1 o2 o3 x hn e0 e1 e2 e3
  unfold colK at this ⊢
  rw [colF_lack hk, ← hx]
  exact this

/-- The payload grows by a byte. -/
theorem wpList_append_col {wx : World} {ops : Array Oper} {rest : List Oper} {o : Oper} {a : Act} {Q : Exit → Act → World → Prop} (hgd : o.guard = none) (sl x : Operand)
    (ho : o.op = .call { callee := .builtin .append, args := #[sl, x], argTypes := #[36, 36] })
    (h : ColInv w wx pb b cap oo oc l g want P c (m + 1) m pa pc) (y : Int) (hy : y = ((payD g.f want P (c + m)).toNat : Int)) (hm : m ≤ 100) (hs : a.eval sl = .slice pa m pc) (B : Nat) (hB : B = wx.heap.size) (hx : a.eval x = .slice (some ⟨B, 0, none⟩) 1 1)
    (hk : ∀ g' cap' w', Hid (ColInv w w' pb b cap oo oc l g want P c (m + 1) (m + 1) (some ⟨g', 0, none⟩) cap') → wpList Tryd.prog ops Q rest (a.put o.dst (.slice (some ⟨g', 0, none⟩) (m + 1) cap')) w') : wpList Tryd.prog ops Q (o :: rest) a (wx.alloc (.cells #[.int .u8 y] 5)) := by
  subst hB
  subst hy
  obtain ⟨i, hi, hz0, hz1, hz2⟩ := info_parts info5
  have hsz := h.grown.size
  have hbe := below1 wx (.cells #[.int .u8 ((payD g.f want P (c + m)).toNat : Int)] 5)
  refine wpList_append_lies _ hgd sl x 36 ho w.heap.size 5 i (.int .u8 0) 1 1 Tryd.underlying36 hi hz0 hz1 hz2 rfl (by decide) (.slice pa m pc) m _ hs (h.pay.alloc _) ⟨wx.heap.size, 0, none⟩ 1 1 [.int .u8 ((payD g.f want P (c + m)).toNat : Int)] hx rfl ?_ ?_ (by decide) (by unfold maxLen; omega) (by omega) (by simp; omega) (wx.heap.size + 1) (by simp) ?_
  · exact World.news_of_block (at_new wx _)
  · intro u hu
    simp only [List.mem_singleton] at hu
    subst hu
    rfl
  · intro g' cap' w' hown hgrow _ _
    rw [ownBlock_D] at hgrow
    have h1 := h.later hbe
    have hp := h1.pen
    have hlo : ∀ k, blkD pa = some k → w.heap.size ≤ k := fun k hk => (h.pay.lt k (by rw [ownBlock_D]; exact hk)).1
    have hne : ∀ i, i < w.heap.size → some i ≠ blkD pa := fun i hi e => by have := hlo i e.symm; omega
    refine hk g' cap' w' ⟨⟨?_, ?_, ?_⟩, ?_, ?_, h.plt, h.blt, h.olt⟩
    · exact grown_block hgrow hp.box (hne _ h.plt)
    · refine hp.own.kept hgrow ?_
      rw [ownBlock_D]
      cases ho : blkD oo with
      | none => exact .inl rfl
      | some j => exact .inr (hne j (h.olt j ho))
    · exact hp.scr.grown hgrow (hne _ h.blt)
    · exact ⟨hgrow.os.trans h1.grown.os, hgrow.tape.trans h1.grown.tape, hgrow.output.trans h1.grown.output, Nat.le_trans h1.grown.size hgrow.size, fun i hi hb => (hgrow.block i (Nat.lt_of_lt_of_le hi h1.grown.size) (hne i hi)).trans (h1.grown.block i hi hb)⟩
    · rw [paysD_succ, bytesV_append]
      exact hown

end Go.Proofs.YtdanlnankjgboabDoor
