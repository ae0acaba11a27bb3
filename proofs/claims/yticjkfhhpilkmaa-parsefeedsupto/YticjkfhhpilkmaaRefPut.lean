/- What each store of the document's own 'FeedBytes' makes of what it has in memory. -/
import Derived.Test.YticjkfhhpilkmaaRefInv
namespace Go.Proofs.Yticjkfhhpilkmaa
open Go.RowKit

section
variable {B L Y : Nat} {w wr : World} {ys : Array Value} {ym : Nat × Nat} {st : PS} {ao : Option Addr} {cap : Nat} {tq : Option Addr} {tc : Nat} {evs : List Item}

theorem grown_B1 (wr : World) (B j : Nat) (u : Value) : wr.grownBy (wr.setCell ⟨B, j, none⟩ u) (some B) :=
  ⟨rfl, rfl, rfl, by simp, fun k _ hne => Below.heap_setCell _ _ _ _ (fun e => hne (by rw [e]))⟩

theorem GInv.put0 (h : GInv B L Y w wr ys ym st ao cap tq tc evs) (p : Int) : GInv B L Y w (wr.setCell ⟨B, 0, none⟩ (.int .i64 p)) ys ym { st with place := p } ao cap tq tc evs :=
  h.put (grown_B1 _ _ _ _) (by rw [heap_setCell_same wr B 0 _ 24 _ h.box]; rfl) (own_setb h.own (by simp) _) h.apart
theorem GInv.put1 (h : GInv B L Y w wr ys ym st ao cap tq tc evs) (ps : List Int) (ao' : Option Addr) (cap' : Nat) (hown : Own (B + 2) wr ao' cap' ps) (hap : ∀ x ∈ evs, blk x.2.1 = none ∨ blk x.2.1 ≠ blk ao') :
    GInv B L Y w (wr.setCell ⟨B, 1, none⟩ (.slice ao' ps.length cap')) ys ym { st with ps := ps } ao' cap' tq tc evs :=
  h.put (grown_B1 _ _ _ _) (by rw [heap_setCell_same wr B 1 _ 24 _ h.box]; rfl) (own_setb hown (by simp) _) hap
theorem GInv.put2 (h : GInv B L Y w wr ys ym st ao cap tq tc evs) (pl : ByteArray) : GInv B L Y w (wr.setCell ⟨B, 2, none⟩ (.string pl)) ys ym { st with pl := pl } ao cap tq tc evs :=
  h.put (grown_B1 _ _ _ _) (by rw [heap_setCell_same wr B 2 _ 24 _ h.box]; rfl) (own_setb h.own (by simp) _) h.apart
theorem GInv.put3 (h : GInv B L Y w wr ys ym st ao cap tq tc evs) (lg : Bool) : GInv B L Y w (wr.setCell ⟨B, 3, none⟩ (.bool lg)) ys ym { st with lg := lg } ao cap tq tc evs :=
  h.put (grown_B1 _ _ _ _) (by rw [heap_setCell_same wr B 3 _ 24 _ h.box]; rfl) (own_setb h.own (by simp) _) h.apart

theorem GInv.alloc (h : GInv B L Y w wr ys ym st ao cap tq tc evs) (o : Obj) : GInv B L Y w (wr.alloc o) ys ym st ao cap tq tc evs := h.later ((Below.refl _ _).alloc (Nat.le_refl _) o)
theorem GInv.drew (h : GInv B L Y w wr ys ym st ao cap tq tc evs) : GInv B L Y w wr.drew ys ym st ao cap tq tc evs := h.later (Below.refl _ _).drew

/-- A row that lies above all that is there is apart from every event's. -/
theorem GInv.fresh (h : GInv B L Y w wr ys ym st ao cap tq tc evs) {po : Option Addr} (hp : ∀ g, blk po = some g → wr.heap.size ≤ g) : ∀ x ∈ evs, blk x.2.1 = none ∨ blk x.2.1 ≠ blk po := by
  intro x hx
  cases hb : blk x.2.1 with
  | none => exact .inl rfl
  | some g =>
    right
    intro e
    have h1 := hp g e.symm
    have h2 := (own_blk (h.told.each x hx) hb).2
    omega

/-- 'p = api.Parser{At: 2, Params: []int{0}}'. -/
theorem GInv.putOpen (h : GInv B L Y w wr ys ym st ao cap tq tc evs) :
    GInv B L Y w (((((wr.alloc (.cells #[.int .i64 0] 3)).setCell ⟨B, 0, none⟩ (.int .i64 2)).setCell ⟨B, 1, none⟩ (.slice (some ⟨wr.heap.size, 0, none⟩) 1 1)).setCell ⟨B, 2, none⟩ (.string ⟨#[]⟩)).setCell ⟨B, 3, none⟩ (.bool false)) ys ym ⟨2, [0], ⟨#[]⟩, false⟩ (some ⟨wr.heap.size, 0, none⟩) 1 tq tc evs := by
  have hsz := h.size
  have ha := h.alloc (.cells #[.int .i64 0] 3)
  have hown : Own (B + 2) (wr.alloc (.cells #[.int .i64 0] 3)) (some ⟨wr.heap.size, 0, none⟩) 1 [0] := by
    have := World.ownsRow_lit (base := B + 2) (e := 3) (size := 1) wr #[.int .i64 0] 1 hsz (by decide) rfl
    simpa [Own, ints] using this
  refine ha.put ?_ ?_ ?_ ?_
  · exact ⟨rfl, rfl, rfl, by simp, fun k _ hne => by
      have hk : k ≠ B := fun e => hne (by rw [e])
      rw [Below.heap_setCell _ _ _ _ hk, Below.heap_setCell _ _ _ _ hk, Below.heap_setCell _ _ _ _ hk, Below.heap_setCell _ _ _ _ hk]⟩
  · exact set4 ha.box _ _ _ _
  · exact own_setb (own_setb (own_setb (own_setb hown (by simp) _) (by simp) _) (by simp) _) (by simp) _
  · exact h.fresh (fun g hg => by simp [blk] at hg; omega)

theorem GInv.putOpen2 (h : GInv B L Y w wr ys ym st ao cap tq tc evs) :
    GInv B L Y w (((((wr.setCell ⟨B, 0, none⟩ (.int .i64 2)).setCell ⟨B, 1, none⟩ (.slice (some ⟨wr.heap.size, 0, none⟩) 1 1)).setCell ⟨B, 2, none⟩ (.string ⟨#[]⟩)).setCell ⟨B, 3, none⟩ (.bool false)).alloc (.cells #[.int .i64 0] 3)) ys ym ⟨2, [0], ⟨#[]⟩, false⟩ (some ⟨wr.heap.size, 0, none⟩) 1 tq tc evs := by
  have hB : B < wr.heap.size := lt_block h.box
  have := h.putOpen
  rw [World.setCell_alloc_past _ _ _ _ hB, World.setCell_alloc_past _ _ _ _ (by simpa using hB), World.setCell_alloc_past _ _ _ _ (by simpa using hB), World.setCell_alloc_past _ _ _ _ (by simpa using hB)] at this
  exact this

/-- Two copies of the row, the second one number longer, made above all that is there; the header is stored. -/
theorem GInv.more (h : GInv B L Y w wr ys ym st ao cap tq tc evs) {w7 : World} {g7 cap7 : Nat} {ps : List Int} (hb : Below wr.heap.size wr w7) (hown : Own wr.heap.size w7 (some ⟨g7, 0, none⟩) cap7 ps) :
    GInv B L Y w (w7.setCell ⟨B, 1, none⟩ (.slice (some ⟨g7, 0, none⟩) ps.length cap7)) ys ym { st with ps := ps } (some ⟨g7, 0, none⟩) cap7 tq tc evs :=
  (h.later hb).put1 ps _ _ (own_mono hown h.size) (h.fresh (fun _ hg => (own_blk hown hg).1))

theorem below_none {w w' : World} (hg : w.grownBy w' none) : Below w.heap.size w w' := ⟨hg.os, hg.tape, hg.output, hg.size, fun k hk => hg.block k hk (by simp)⟩

/-- A number of the parser's row is stored. -/
theorem GInv.store {g : Nat} (h : GInv B L Y w wr ys ym st (some ⟨g, 0, none⟩) cap tq tc evs) (j : Nat) (x : Int) : GInv B L Y w (wr.setCell ⟨g, j, none⟩ (.int .i64 x)) ys ym { st with ps := st.ps.set j x } (some ⟨g, 0, none⟩) cap tq tc evs := by
  obtain ⟨hown, hgr⟩ := own_store h.own j x
  have hg := own_blk h.own (g := g) rfl
  have hL := h.hL
  have hY := h.hY
  have hneL : some L ≠ some g := fun e => row_not h.own h.cl (by decide) (by simp only [blk, Option.map_some]; exact e.symm)
  have hneY : some Y ≠ some g := fun e => row_not h.own h.cy (by decide) (by simp only [blk, Option.map_some]; exact e.symm)
  refine ⟨h.below.grown hgr (by have := h.size; omega) (fun k hk => by cases hk; omega), hL, hY, ?_, grown_block hgr h.res (by simp; omega), grown_block hgr h.cl hneL, grown_block hgr h.cy hneY, hown, ?_, h.apart⟩
  · have := grown_block hgr h.box (by simp; omega)
    rw [this]
    simp
  · exact h.told.kept hgr (row_ne h.told.row h.own (by decide)) h.apart

/-- A copy of the parser's row, made above all that is there. -/
theorem GInv.copied (h : GInv B L Y w wr ys ym st ao cap tq tc evs) {w6 : World} (hgrow : wr.grownBy w6 none) : GInv B L Y w w6 ys ym st ao cap tq tc evs := h.later ⟨hgrow.os, hgrow.tape, hgrow.output, hgrow.size, fun k hk => hgrow.block k hk (by simp)⟩

/-- The function's end. -/
theorem GInv.last (h : GInv B L Y w wr ys ym st ao cap tq tc evs) (hB : B = w.heap.size) (u0 u1 u2 u3 : Value) :
    Below w.heap.size w ((((wr.setCell ⟨B + 1, 0, none⟩ u0).setCell ⟨B + 1, 1, none⟩ u1).setCell ⟨B + 1, 2, none⟩ u2).setCell ⟨B + 1, 3, none⟩ u3).drew ∧
    Own w.heap.size ((((wr.setCell ⟨B + 1, 0, none⟩ u0).setCell ⟨B + 1, 1, none⟩ u1).setCell ⟨B + 1, 2, none⟩ u2).setCell ⟨B + 1, 3, none⟩ u3).drew ao cap st.ps ∧
    Told w.heap.size ((((wr.setCell ⟨B + 1, 0, none⟩ u0).setCell ⟨B + 1, 1, none⟩ u1).setCell ⟨B + 1, 2, none⟩ u2).setCell ⟨B + 1, 3, none⟩ u3).drew tq tc evs := by
  subst hB
  refine ⟨((((h.below.setCell (by simp) _).setCell (by simp) _).setCell (by simp) _).setCell (by simp) _).drew, own_drew (own_mono (base := w.heap.size + 2) ?_ (by omega)), (told_mono (base := w.heap.size + 2) ?_ (by omega)).later (Below.refl _ _).drew⟩
  · exact own_setb (own_setb (own_setb (own_setb h.own (by simp) _) (by simp) _) (by simp) _) (by simp) _
  · exact told_set (told_set (told_set (told_set h.told (by simp) _) (by simp) _) (by simp) _) (by simp) _
end

theorem conv_one (W : World) (N : Nat) (b : Int) (h : W.cell? ⟨N, 0, none⟩ = some (.int .u8 b)) : (convert 44 9 (.slice (some ⟨N, 0, none⟩) 1 1)).run Try.prog W = .ok (.string ⟨#[UInt8.ofNat b.toNat]⟩) W := by
  rw [run_convert_bytes_string W 44 9 5 (some ⟨N, 0, none⟩) 1 1 Try.underlying44 Try.underlying5 Try.underlying9]
  have hl : (loadCells ⟨N, 0, none⟩ 1).run Try.prog W = .ok ([b].map (Value.int .u8)).toArray W :=
    run_loadCells_list (P := Try.prog) W ⟨N, 0, none⟩ ([b].map (Value.int .u8)) (fun j v hv => by
      match j, hv with
      | 0, hv => simp at hv; subst hv; simpa [Addr.add] using h)
  rw [run_bytesToString W ⟨N, 0, none⟩ 1 1 [b] hl]
  rfl

theorem push_one (pl : ByteArray) (x : UInt8) : pl ++ (⟨#[x]⟩ : ByteArray) = pl.push x := by
  ext1
  simp

end Go.Proofs.Yticjkfhhpilkmaa
