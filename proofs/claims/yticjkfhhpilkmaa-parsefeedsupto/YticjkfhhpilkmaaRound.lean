/- One round of 'Feed', away from the walk: what the step and the append leave is what holds at the next round's head. -/
import Derived.Test.YticjkfhhpilkmaaTold
import Derived.Deep.AppendLies
namespace Go.Proofs.Yticjkfhhpilkmaa
open Go.RowKit

theorem row_blk {w : World} {base : Nat} {e : TypeId} {sz : Nat} {ao : Option Addr} {n cap : Nat} {xs : List Value} (h : w.ownsRow base e sz (.slice ao n cap) n xs) {g : Nat} (hg : blk ao = some g) :
    base ≤ g ∧ g < w.heap.size ∧ ∃ cur, w.heap[g]? = some (.cells cur e (0, 0)) := by
  rcases h.2 with ⟨hv, _⟩ | ⟨g', c, cur, hv, hb, hc, _⟩
  · simp only [Value.slice.injEq] at hv; rw [hv.1] at hg; simp [blk] at hg
  · simp only [Value.slice.injEq] at hv
    rw [hv.1] at hg
    simp [blk] at hg
    subst hg
    exact ⟨hb, (Array.getElem?_eq_some_iff.1 hc).1, cur, hc⟩

theorem row_ne {w : World} {b1 b2 : Nat} {e1 e2 : TypeId} {s1 s2 : Nat} {a1 a2 : Option Addr} {n1 n2 c1 c2 : Nat} {x1 x2 : List Value} (h1 : w.ownsRow b1 e1 s1 (.slice a1 n1 c1) n1 x1) (h2 : w.ownsRow b2 e2 s2 (.slice a2 n2 c2) n2 x2) (he : e1 ≠ e2) : blk a1 = none ∨ blk a1 ≠ blk a2 := by
  cases hb : blk a1 with
  | none => exact .inl rfl
  | some g =>
    right
    intro e
    obtain ⟨_, _, cur1, hc1⟩ := row_blk h1 hb
    obtain ⟨_, _, cur2, hc2⟩ := row_blk h2 e.symm
    rw [hc1] at hc2
    simp at hc2
    exact he hc2.2

theorem row_kept {w w' : World} {base : Nat} {e : TypeId} {sz : Nat} {ao : Option Addr} {n cap : Nat} {xs : List Value} {row : Option Nat} (h : w.ownsRow base e sz (.slice ao n cap) n xs) (hg : w.grownBy w' row) (hne : blk ao = none ∨ blk ao ≠ row) : w'.ownsRow base e sz (.slice ao n cap) n xs := by
  refine World.ownsRow.kept h hg ?_
  cases ao with
  | none => exact .inl rfl
  | some a => simpa [Value.ownBlock, blk] using hne

theorem Told.kept {base : Nat} {w w' : World} {tq : Option Addr} {tc : Nat} {evs : List Item} {row : Option Nat} (h : Told base w tq tc evs) (hg : w.grownBy w' row) (h1 : blk tq = none ∨ blk tq ≠ row) (h2 : ∀ x ∈ evs, blk x.2.1 = none ∨ blk x.2.1 ≠ row) : Told base w' tq tc evs :=
  ⟨row_kept h.row hg h1, fun x hx => own_kept (h.each x hx) hg (h2 x hx)⟩

theorem Told.later {base : Nat} {w w' : World} {tq : Option Addr} {tc : Nat} {evs : List Item} (h : Told base w tq tc evs) (hb : Below w.heap.size w w') : Told base w' tq tc evs :=
  h.kept (Below.toGrown hb none) (by cases blk tq <;> simp) (fun x _ => by cases blk x.2.1 <;> simp)

theorem Own.later {base : Nat} {w w' : World} {ao : Option Addr} {cap : Nat} {l : List Int} (h : Own base w ao cap l) (hb : Below w.heap.size w w') : Own base w' ao cap l :=
  own_kept h (Below.toGrown hb none) (by cases blk ao <;> simp)

/-- Behind 'p = next'. -/
structure PInv (B : Nat) (w wp : World) (st : PS) (ev : Ev) (a : Option Addr) (c : Nat) (p : Option Addr) (pc : Nat) (tq : Option Addr) (tc : Nat) (evs : List Item) : Prop where
  below : Below B w wp
  size : B + 2 ≤ wp.heap.size
  box : wp.heap[B]? = some (.cells #[.int .i64 st.place, .slice a st.ps.length c, .string st.pl, .bool st.lg] 24 (0, 0))
  res : wp.heap[B + 1]? = some (.cells #[.int .i64 0, .slice none 0 0, .string ⟨#[]⟩, .bool false] 24 (0, 0))
  own : Own (B + 2) wp a c st.ps
  pown : Own (B + 2) wp p pc ev.ps
  told : Told (B + 2) wp tq tc evs
  apart : ∀ x ∈ evs, blk x.2.1 = none ∨ blk x.2.1 ≠ blk a
  papart : blk p = none ∨ blk p ≠ blk a

theorem p_of_mid {B : Nat} {w wr wc : World} {s0 : PS} {l : List UInt8} {a : Option Addr} {c : Nat} {tq : Option Addr} {tc : Nat} {evs : List Item} {r : PS × Ev} {a3 : Option Addr} {c3 : Nat} {p3 : Option Addr} {pc3 : Nat}
    (h : FInv B w wr s0 l a c tq tc evs) (hst : Stepped (B + 2) wr a r a3 c3 p3 pc3 wc) :
    PInv B w ((((wc.setCell ⟨B, 0, none⟩ (.int .i64 r.1.place)).setCell ⟨B, 1, none⟩ (.slice a3 r.1.ps.length c3)).setCell ⟨B, 2, none⟩ (.string r.1.pl)).setCell ⟨B, 3, none⟩ (.bool r.1.lg)) r.1 r.2 a3 c3 p3 pc3 tq tc evs := by
  have hra : ∀ g, blk a = some g → B + 2 ≤ g ∧ g < wr.heap.size := fun g hg => own_blk h.own hg
  have hsz := h.size
  have hgs := hst.grown.size
  have hneB : some B ≠ blk a := fun e => by have := hra _ e.symm; omega
  have hneB1 : some (B + 1) ≠ blk a := fun e => by have := hra _ e.symm; omega
  have hbox := grown_block hst.grown h.box hneB
  have hres := grown_block hst.grown h.res hneB1
  have hbel : Below B w wc := h.below.grown hst.grown (by omega) (fun k hk => by have := hra k hk; omega)
  have htold : Told (B + 2) wc tq tc evs := h.told.kept hst.grown (row_ne h.told.row h.own (by decide)) h.apart
  refine ⟨?_, ?_, set4 hbox _ _ _ _, other4 hres (by omega) _ _ _ _, ?_, ?_, ?_, ?_, ?_⟩
  · exact (((hbel.setCell (by simp) _).setCell (by simp) _).setCell (by simp) _).setCell (by simp) _
  · rw [size4]; omega
  · exact own_setb (own_setb (own_setb (own_setb hst.own (by simp) _) (by simp) _) (by simp) _) (by simp) _
  · exact own_setb (own_setb (own_setb (own_setb hst.pown (by simp) _) (by simp) _) (by simp) _) (by simp) _
  · exact told_set (told_set (told_set (told_set htold (by simp) _) (by simp) _) (by simp) _) (by simp) _
  · intro x hx
    cases hb : blk x.2.1 with
    | none => exact .inl rfl
    | some g =>
      right
      intro e
      rcases hst.lies with h1 | h1 | ⟨g', h1, h2⟩
      · rw [h1] at e; cases e
      · rcases h.apart x hx with h3 | h3
        · rw [hb] at h3; cases h3
        · exact h3 (by rw [hb, e, h1])
      · have := (own_blk (h.told.each x hx) hb).2
        rw [h1] at e
        cases e
        omega
  · rcases hst.plies with h1 | ⟨_, h1⟩
    · left; rw [h1]; rfl
    · cases hb : blk p3 with
      | none => exact .inl rfl
      | some g => right; rw [h1]; simp [blk]

theorem PInv.later {B : Nat} {w wp w5 : World} {st : PS} {ev : Ev} {a : Option Addr} {c : Nat} {p : Option Addr} {pc : Nat} {tq : Option Addr} {tc : Nat} {evs : List Item} (h : PInv B w wp st ev a c p pc tq tc evs) (hb : Below wp.heap.size wp w5) : PInv B w w5 st ev a c p pc tq tc evs :=
  ⟨h.below.trans (hb.mono (by have := h.size; omega)), by have := h.size; have := hb.size; omega, below_block hb h.box (by have := h.size; omega), below_block hb h.res (by have := h.size; omega), h.own.later hb, h.pown.later hb, h.told.later hb, h.apart, h.papart⟩

theorem round_no {B : Nat} {w w5 : World} {s0 : PS} {l : List UInt8} {b : UInt8} {a : Option Addr} {c : Nat} {p : Option Addr} {pc : Nat} {tq : Option Addr} {tc : Nat} {evs : List Item} {r : PS × Ev}
    (hr : r = stp (feedS s0 l) (bint b)) (hsay : evs.map (·.1) = feedE s0 l) (hk : r.2.kind = 0) (h : PInv B w w5 r.1 r.2 a c p pc tq tc evs) : FInv B w w5 s0 (l ++ [b]) a c tq tc evs := by
  have e : feedS s0 (l ++ [b]) = r.1 := by rw [feedS_snoc, hr]
  have e2 : feedE s0 (l ++ [b]) = feedE s0 l := by rw [feedE_snoc, ← hr]; simp [one, hk]
  exact ⟨h.below, h.size, by rw [e]; exact h.box, h.res, by rw [e]; exact h.own, h.told, by rw [e2]; exact hsay, h.apart⟩

theorem allCells_snoc (evs : List Item) (x : Item) : allCells (evs ++ [x]) = allCells evs ++ cellsOf x := by simp [allCells]

theorem round_yes {B : Nat} {w w5 w6 : World} {s0 : PS} {l : List UInt8} {b : UInt8} {a : Option Addr} {c : Nat} {p : Option Addr} {pc : Nat} {tq : Option Addr} {tc : Nat} {evs : List Item} {r : PS × Ev} {o : Obj} {g cap : Nat}
    (hr : r = stp (feedS s0 l) (bint b)) (hsay : evs.map (·.1) = feedE s0 l) (hk : ¬ r.2.kind = 0) (h : PInv B w w5 r.1 r.2 a c p pc tq tc evs)
    (hown : w6.ownsRow (B + 2) 37 4 (.slice (some ⟨g, 0, none⟩) (evs.length + 1) cap) (evs.length + 1) (allCells evs ++ cellsOf (r.2, p, pc))) (hgrow : (w5.alloc o).grownBy w6 (blk tq)) :
    FInv B w w6 s0 (l ++ [b]) a c (some ⟨g, 0, none⟩) cap (evs ++ [(r.2, p, pc)]) := by
  have e : feedS s0 (l ++ [b]) = r.1 := by rw [feedS_snoc, hr]
  have e2 : feedE s0 (l ++ [b]) = feedE s0 l ++ [r.2] := by rw [feedE_snoc, ← hr]; simp [one, hk]
  have ht : ∀ k, blk tq = some k → B + 2 ≤ k ∧ k < w5.heap.size := fun k hk' => by have := row_blk h.told.row hk'; exact ⟨this.1, this.2.1⟩
  have hsz := h.size
  have hneB : some B ≠ blk tq := fun e => by have := ht _ e.symm; omega
  have hneB1 : some (B + 1) ≠ blk tq := fun e => by have := ht _ e.symm; omega
  have hown5 : Own (B + 2) w6 a c r.1.ps := own_kept (own_alloc h.own o) hgrow (row_ne h.own h.told.row (by decide))
  have hp5 : Own (B + 2) w6 p pc r.2.ps := own_kept (own_alloc h.pown o) hgrow (row_ne h.pown h.told.row (by decide))
  refine ⟨?_, ?_, ?_, ?_, by rw [e]; exact hown5, ⟨?_, ?_⟩, ?_, ?_⟩
  · exact (h.below.alloc (by omega) o).grown hgrow (by simp; omega) (fun k hk' => by have := ht k hk'; omega)
  · have := hgrow.size; simp at this; omega
  · rw [e]; exact grown_block hgrow (at_old h.box o) hneB
  · exact grown_block hgrow (at_old h.res o) hneB1
  · rw [allCells_snoc]; simpa using hown
  · intro x hx
    rcases List.mem_append.1 hx with hx | hx
    · exact own_kept (own_alloc (h.told.each x hx) o) hgrow (row_ne (h.told.each x hx) h.told.row (by decide))
    · simp at hx; subst hx; exact hp5
  · rw [e2, List.map_append, hsay]; rfl
  · intro x hx
    rcases List.mem_append.1 hx with hx | hx
    · exact h.apart x hx
    · simp at hx; subst hx; exact h.papart

theorem take_snoc (s : ByteArray) (k : Nat) (h : k < s.size) : s.data.toList.take (k + 1) = s.data.toList.take k ++ [s[k]] := by
  rw [List.take_succ_eq_append_getElem (by simpa using h)]; rfl

theorem evs_len (s0 : PS) (l : List UInt8) : (feedE s0 l).length ≤ l.length := by
  induction l generalizing s0 with
  | nil => simp [feedE]
  | cons c r ih =>
    have := ih (stp s0 (bint c)).1
    simp only [feedE, List.length_append, List.length_cons]
    have : (one (stp s0 (bint c)).2).length ≤ 1 := by unfold one; split <;> simp
    omega

set_option maxHeartbeats 400000 in
theorem tells_any (k b : Int) (po : Option Addr) (n pc : Nat) (pl : ByteArray) (w : World) :
    Calls Try.prog 20 #[.agg #[.int .i64 k, .int .i64 b, .slice po n pc, .string pl]] w fun e w' => e = .returned (.bool (k != 0)) ∧ Below w.heap.size w w' := by
  go_enter Try.func20, Try.ntmps20
  go_wp2
  go_ret
  exact ⟨rfl, (Below.refl _ _).alloc (Nat.le_refl _) _⟩

theorem ownBlock_eq (ao : Option Addr) (n c : Nat) : (Value.slice ao n c).ownBlock = blk ao := by cases ao <;> rfl

theorem info37 : (Try.prog.info? 37).map (fun i => (i.zero, i.size, i.bytes)) = some (some (.agg #[.int .i64 0, .int .i64 0, .slice none 0 0, .string ⟨#[]⟩]), 4, 56) := by kernel_rfl

end Go.Proofs.Yticjkfhhpilkmaa
