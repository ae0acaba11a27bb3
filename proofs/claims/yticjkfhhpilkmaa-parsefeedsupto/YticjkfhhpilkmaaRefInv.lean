/- Words for what the document's own 'FeedBytes' has in memory at each round's head; its two closures, walked. -/
import Derived.Test.YticjkfhhpilkmaaRefGood
namespace Go.Proofs.Yticjkfhhpilkmaa
open Go.RowKit

/-- The parser's box, the list's variable, the bytes; rows of numbers and events of the call's own. -/
structure GInv (B L Y : Nat) (w wr : World) (ys : Array Value) (ym : Nat × Nat) (st : PS) (ao : Option Addr) (cap : Nat) (tq : Option Addr) (tc : Nat) (evs : List Item) : Prop where
  below : Below B w wr
  hL : B + 2 ≤ L
  hY : B + 2 ≤ Y
  box : wr.heap[B]? = some (.cells #[.int .i64 st.place, .slice ao st.ps.length cap, .string st.pl, .bool st.lg] 24 (0, 0))
  res : wr.heap[B + 1]? = some (.cells #[.int .i64 0, .slice none 0 0, .string ⟨#[]⟩, .bool false] 24 (0, 0))
  cl : wr.heap[L]? = some (.cells #[.slice tq evs.length tc] 26 (0, 0))
  cy : wr.heap[Y]? = some (.cells ys 5 ym)
  own : Own (B + 2) wr ao cap st.ps
  told : Told (B + 2) wr tq tc evs
  apart : ∀ x ∈ evs, blk x.2.1 = none ∨ blk x.2.1 ≠ blk ao

section
variable {B L Y : Nat} {w wr : World} {ys : Array Value} {ym : Nat × Nat} {st : PS} {ao : Option Addr} {cap : Nat} {tq : Option Addr} {tc : Nat} {evs : List Item}

theorem lt_block {w : World} {b : Nat} {o : Obj} (h : w.heap[b]? = some o) : b < w.heap.size := (Array.getElem?_eq_some_iff.1 h).1

theorem GInv.size (h : GInv B L Y w wr ys ym st ao cap tq tc evs) : B + 2 ≤ wr.heap.size := by have := lt_block h.cl; have := h.hL; omega

theorem GInv.later {w5 : World} (h : GInv B L Y w wr ys ym st ao cap tq tc evs) (hb : Below wr.heap.size wr w5) : GInv B L Y w w5 ys ym st ao cap tq tc evs :=
  ⟨h.below.trans (hb.mono (by have := h.size; omega)), h.hL, h.hY, below_block hb h.box (lt_block h.box), below_block hb h.res (lt_block h.res), below_block hb h.cl (lt_block h.cl), below_block hb h.cy (lt_block h.cy), h.own.later hb, h.told.later hb, h.apart⟩

/-- A row of numbers or events is not the list's variable, nor the bytes. -/
theorem row_not {w : World} {base : Nat} {e : TypeId} {sz : Nat} {ao : Option Addr} {n cap : Nat} {xs : List Value} {b : Nat} {cs : Array Value} {t : TypeId} {fr : Nat × Nat} (h : w.ownsRow base e sz (.slice ao n cap) n xs) (hb : w.heap[b]? = some (.cells cs t fr)) (he : e ≠ t) : blk ao ≠ some b := by
  intro e'
  obtain ⟨_, _, cur, hc⟩ := row_blk h e'
  rw [hc] at hb
  simp at hb
  exact he hb.2.1

theorem row_set {w : World} {base : Nat} {e : TypeId} {sz : Nat} {ao : Option Addr} {n cap : Nat} {xs : List Value} (h : w.ownsRow base e sz (.slice ao n cap) n xs) {p : Addr} (hp : blk ao ≠ some p.block) (u : Value) : (w.setCell p u).ownsRow base e sz (.slice ao n cap) n xs := by
  refine ⟨h.1, ?_⟩
  rcases h.2 with hn | ⟨g, c, cur, hv, hb, hg, rest⟩
  · exact .inl hn
  · refine .inr ⟨g, c, cur, hv, hb, ?_, rest⟩
    rw [Below.heap_setCell _ _ _ _ (fun e => hp (by simp only [Value.slice.injEq] at hv; rw [hv.1]; simp [blk, e]))]
    exact hg

/-- The parser is another one: its box is written anew. -/
theorem GInv.put (h : GInv B L Y w wr ys ym st ao cap tq tc evs) {wp : World} {st' : PS} {ao' : Option Addr} {cap' : Nat} (hg : wr.grownBy wp (some B)) (hbox : wp.heap[B]? = some (.cells #[.int .i64 st'.place, .slice ao' st'.ps.length cap', .string st'.pl, .bool st'.lg] 24 (0, 0)))
    (hown : Own (B + 2) wp ao' cap' st'.ps) (hap : ∀ x ∈ evs, blk x.2.1 = none ∨ blk x.2.1 ≠ blk ao') : GInv B L Y w wp ys ym st' ao' cap' tq tc evs := by
  have hL := h.hL
  have hY := h.hY
  refine ⟨h.below.grown hg (by have := h.size; omega) (fun k hk => by cases hk; exact Nat.le_refl _), hL, hY, hbox, grown_block hg h.res (by simp), grown_block hg h.cl (by simp; omega), grown_block hg h.cy (by simp; omega), hown, ?_, hap⟩
  refine h.told.kept hg ?_ ?_
  · cases hb : blk tq with
    | none => exact .inl rfl
    | some g => right; have := (row_blk h.told.row hb).1; simp; omega
  · intro x hx
    cases hb : blk x.2.1 with
    | none => exact .inl rfl
    | some g => right; have := (own_blk (h.told.each x hx) hb).1; simp; omega

theorem ap_none : ∀ x ∈ evs, blk x.2.1 = none ∨ blk x.2.1 ≠ blk none := by
  intro x _
  cases hb : blk x.2.1 with
  | none => exact .inl rfl
  | some g => right; simp [blk]

/-- All four cells of the box are stored. -/
theorem GInv.put4 (h : GInv B L Y w wr ys ym st ao cap tq tc evs) (st' : PS) (hps : st'.ps = []) :
    GInv B L Y w ((((wr.setCell ⟨B, 0, none⟩ (.int .i64 st'.place)).setCell ⟨B, 1, none⟩ (.slice none 0 0)).setCell ⟨B, 2, none⟩ (.string st'.pl)).setCell ⟨B, 3, none⟩ (.bool st'.lg)) ys ym st' none 0 tq tc evs := by
  refine h.put ?_ ?_ ?_ ap_none
  · exact ⟨rfl, rfl, rfl, by simp, fun k _ hne => by
      have hk : k ≠ B := fun e => hne (by rw [e])
      rw [Below.heap_setCell _ _ _ _ hk, Below.heap_setCell _ _ _ _ hk, Below.heap_setCell _ _ _ _ hk, Below.heap_setCell _ _ _ _ hk]⟩
  · rw [hps]; exact set4 h.box _ _ _ _
  · rw [hps]; exact own_nil _ _

set_option maxHeartbeats 400000 in
theorem ground_any (h : GInv B L Y w wr ys ym st ao cap tq tc evs) :
    Calls Try.prog 22 #[.pointer (some ⟨B, 0, none⟩)] wr fun e w' => e = .returned (.tuple #[]) ∧ GInv B L Y w w' ys ym ground none 0 tq tc evs := by
  obtain ⟨a0, a1, a2, a3, f0, f1, f2, f3⟩ := four h.box
  have H : Hid (GInv B L Y w wr ys ym st ao cap tq tc evs) := h
  clear h
  go_enter Try.func22, Try.ntmps22
  go_wp2
  go_end0
  exact ⟨rfl, H.out.put4 ground rfl⟩

theorem one_cell {w : World} {b : Nat} {c0 : Value} {t : TypeId} (h : w.heap[b]? = some (.cells #[c0] t (0, 0))) : w.cell? ⟨b, 0, none⟩ = some c0 ∧ w.frozen? ⟨b, 0, none⟩ = false :=
  ⟨cell_of_row w b 0 _ t _ h, frozen_of_row w b 0 _ t h⟩

/-- Behind the append and the store into the list's variable. -/
theorem tell_finish {w6 : World} {ev : Ev} {p : Option Addr} {pc : Nat} {o1 o2 : Obj} {g cap' : Nat} (h : GInv B L Y w wr ys ym st ao cap tq tc evs) (hp : Own (B + 2) wr p pc ev.ps) (hpa : blk p = none ∨ blk p ≠ blk ao)
    (hown : w6.ownsRow (B + 2) 37 4 (.slice (some ⟨g, 0, none⟩) (evs.length + 1) cap') (evs.length + 1) (allCells evs ++ cellsOf (ev, p, pc))) (hgrow : ((wr.alloc o1).alloc o2).grownBy w6 (blk tq)) :
    GInv B L Y w (w6.setCell ⟨L, 0, none⟩ (.slice (some ⟨g, 0, none⟩) (evs.length + 1) cap')) ys ym st ao cap (some ⟨g, 0, none⟩) cap' (evs ++ [(ev, p, pc)]) := by
  have hL := h.hL
  have hY := h.hY
  have hsz := h.size
  have ht : ∀ k, blk tq = some k → B + 2 ≤ k := fun k hk => (row_blk h.told.row hk).1
  have hneB : some B ≠ blk tq := fun e => by have := ht _ e.symm; omega
  have hneB1 : some (B + 1) ≠ blk tq := fun e => by have := ht _ e.symm; omega
  have hneL : some L ≠ blk tq := fun e => row_not h.told.row h.cl (by decide) e.symm
  have hneY : some Y ≠ blk tq := fun e => row_not h.told.row h.cy (by decide) e.symm
  have hLY : Y ≠ L := by
    intro e
    have h1 := h.cy
    rw [e, h.cl] at h1
    simp at h1
  have cl6 := grown_block hgrow (at_old (at_old h.cl o1) o2) hneL
  have own6 : Own (B + 2) w6 ao cap st.ps := own_kept (own_alloc (own_alloc h.own o1) o2) hgrow (row_ne h.own h.told.row (by decide))
  have p6 : Own (B + 2) w6 p pc ev.ps := own_kept (own_alloc (own_alloc hp o1) o2) hgrow (row_ne hp h.told.row (by decide))
  have each6 : ∀ x ∈ evs, Own (B + 2) w6 x.2.1 x.2.2 x.1.ps := fun x hx => own_kept (own_alloc (own_alloc (h.told.each x hx) o1) o2) hgrow (row_ne (h.told.each x hx) h.told.row (by decide))
  refine ⟨?_, hL, hY, other_set (grown_block hgrow (at_old (at_old h.box o1) o2) hneB) (by omega), other_set (grown_block hgrow (at_old (at_old h.res o1) o2) hneB1) (by omega), ?_, other_set (grown_block hgrow (at_old (at_old h.cy o1) o2) hneY) hLY, ?_, ⟨?_, ?_⟩, ?_⟩
  · exact (((h.below.alloc (by omega) o1).alloc (by simp; omega) o2).grown hgrow (by simp; omega) (fun k hk => by have := ht k hk; omega)).setCell (by simp; omega) _
  · rw [heap_setCell_same w6 L 0 _ 26 _ cl6]; simp
  · exact row_set own6 (row_not own6 cl6 (by decide)) _
  · rw [allCells_snoc]
    have := row_set hown (row_not hown cl6 (by decide)) (p := ⟨L, 0, none⟩) (.slice (some ⟨g, 0, none⟩) (evs.length + 1) cap')
    simpa using this
  · intro x hx
    rcases List.mem_append.1 hx with hx | hx
    · exact row_set (each6 x hx) (row_not (each6 x hx) cl6 (by decide)) _
    · simp at hx; subst hx; exact row_set p6 (row_not p6 cl6 (by decide)) _
  · intro x hx
    rcases List.mem_append.1 hx with hx | hx
    · exact h.apart x hx
    · simp at hx; subst hx; exact hpa

set_option maxHeartbeats 400000 in
theorem tell_any (ev : Ev) (p : Option Addr) (pc : Nat) (h : GInv B L Y w wr ys ym st ao cap tq tc evs) (hp : Own (B + 2) wr p pc ev.ps) (hpa : blk p = none ∨ blk p ≠ blk ao) (hlen : evs.length ≤ 1048576) :
    Calls Try.prog 21 #[.agg #[.int .i64 ev.kind, .int .i64 ev.b, .slice p ev.ps.length pc, .string ev.pl], .pointer (some ⟨L, 0, none⟩)] wr fun e w' => e = .returned (.tuple #[]) ∧ ∃ g cap', GInv B L Y w w' ys ym st ao cap (some ⟨g, 0, none⟩) cap' (evs ++ [(ev, p, pc)]) := by
  obtain ⟨c0, f0⟩ := one_cell h.cl
  have hLl : L < wr.heap.size := lt_block h.cl
  have H : Hid (GInv B L Y w wr ys ym st ao cap tq tc evs) := h
  have HP : Hid (Own (B + 2) wr p pc ev.ps) := hp
  have HA : Hid (blk p = none ∨ blk p ≠ blk ao) := hpa
  have HR5 : Hid (wr.ownsRow (B + 2) 37 4 (.slice tq evs.length tc) evs.length (allCells evs)) := h.told.row
  have HS : Hid (B + 2 ≤ wr.heap.size) := h.size
  obtain ⟨i37, hi, hz0, hz1, hz2⟩ := info_parts info37
  have hL1 : L < wr.heap.size + 1 := by omega
  clear h hp hpa
  go_enter Try.func21, Try.ntmps21
  go_wp2_with (first | (at_builtin; refine wpList_append_lies _ rfl _ _ 26 rfl (B + 2) 37 i37 _ 4 56 Try.underlying26 hi hz0 hz1 hz2 rfl (by decide) _ evs.length (allCells evs) rfl ((HR5.out.alloc _).alloc _) ⟨wr.heap.size + 1, 0, none⟩ 1 1 (cellsOf (ev, p, pc)) rfl rfl ?d1 ?d2 (by decide) ?d3 ?d4 ?d5 (wr.heap.size + 1 + 1) ?d6 ?_) | go_in)
  case d1 => exact World.news_of_block (at_new1 wr _ _)
  case d2 => intro u hu; simp [cellsOf] at hu; rcases hu with h | h | h | h <;> subst h <;> rfl
  case d3 => unfold maxLen; omega
  case d4 => omega
  case d5 => have := HS.out; simp; omega
  case d6 => simp
  · intro g' cap' w6 hown6 hgrow6 _ _
    rw [ownBlock_eq] at hgrow6
    have cl6 := grown_block hgrow6 (at_old (at_old H.out.cl _) _) (fun e => row_not H.out.told.row H.out.cl (by decide) e.symm)
    obtain ⟨x0, y0⟩ := one_cell cl6
    have HF : Hid _ := tell_finish H.out HP.out HA.out hown6 hgrow6
    clear hown6 hgrow6 cl6
    go_wp2
    go_end0
    exact ⟨rfl, g', cap', HF.out⟩
end

end Go.Proofs.Yticjkfhhpilkmaa
