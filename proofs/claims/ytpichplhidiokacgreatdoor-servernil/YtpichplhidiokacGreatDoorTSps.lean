/- Several texts in one, each as it was: TSp0, TSp1. -/
import Derived.Test.YtpichplhidiokacGreatDoorTInss

/- What holds in the midst of 'Split' and 'Kill'. -/
namespace Go.Proofs.YtpichplhidiokacGreatDoor.Tl
open Go.RowKit

theorem insL_map {α β : Type} (f : α → β) (l : List α) (i : Nat) (x : α) : insL (l.map f) i (f x) = (insL l i x).map f := by
  simp [insL]

theorem row_setT {w : World} {base sz n B j : Nat} {e t : TypeId} {v u : Value} {xs : List Value} {c : Array Value} (h : w.ownsRow base e sz v n xs) (hB : w.heap[B]? = some (.cells c t (0, 0))) (ht : t ≠ e) : (w.setCell ⟨B, j, none⟩ u).ownsRow base e sz v n xs := by
  refine ⟨h.1, ?_⟩
  rcases h.2 with h0 | ⟨g, c', cur, hv, hbb, hg, rest⟩
  · exact .inl h0
  · refine .inr ⟨g, c', cur, hv, hbb, ?_, rest⟩
    rw [Below.heap_setCell _ _ _ _ (by intro e; simp only at e; subst e; rw [hB] at hg; simp at hg; exact ht hg.2)]
    exact hg
theorem row_grownT {w w' : World} {base sz n g : Nat} {e t : TypeId} {v : Value} {xs : List Value} {c : Array Value} (h : w.ownsRow base e sz v n xs) (hG : w.grownBy w' (some g)) (hB : w.heap[g]? = some (.cells c t (0, 0))) (ht : t ≠ e) : w'.ownsRow base e sz v n xs := by
  refine ⟨h.1, ?_⟩
  rcases h.2 with h0 | ⟨g', c', cur, hv, hbb, hg, rest⟩
  · exact .inl h0
  · refine .inr ⟨g', c', cur, hv, hbb, ?_, rest⟩
    rw [hG.block g' (at_lt hg) (by intro e; simp only [Option.some.injEq] at e; subst e; rw [hB] at hg; simp at hg; exact ht hg.2)]
    exact hg
theorem row_grownB {w w' : World} {base sz n g : Nat} {e : TypeId} {v : Value} {xs : List Value} (h : w.ownsRow base e sz v n xs) (hG : w.grownBy w' (some g)) (hne : v.ownBlock ≠ some g) : w'.ownsRow base e sz v n xs := by
  refine ⟨h.1, ?_⟩
  rcases h.2 with h0 | ⟨g', c', cur, rfl, hbb, hg, rest⟩
  · exact .inl h0
  · exact .inr ⟨g', c', cur, rfl, hbb, by rw [hG.block g' (at_lt hg) (by simpa [Value.ownBlock] using hne)]; exact hg, rest⟩
theorem grown_at {w w' : World} {g b : Nat} {e t : TypeId} {c c' : Array Value} (hG : w.grownBy w' (some g)) (hg : w.heap[g]? = some (.cells c e (0, 0))) (hb : w.heap[b]? = some (.cells c' t (0, 0))) (ht : t ≠ e) : w'.heap[b]? = some (.cells c' t (0, 0)) := by
  rw [hG.block b (at_lt hb) (by intro x; simp only [Option.some.injEq] at x; subst x; rw [hg] at hb; simp at hb; exact ht hb.2.symm)]
  exact hb
theorem set_at {w : World} {g b j : Nat} {e t : TypeId} {u : Value} {c c' : Array Value} (hg : w.heap[g]? = some (.cells c e (0, 0))) (hb : w.heap[b]? = some (.cells c' t (0, 0))) (ht : t ≠ e) : (w.setCell ⟨g, j, none⟩ u).heap[b]? = some (.cells c' t (0, 0)) := by
  rw [Below.heap_setCell _ _ _ _ (by intro x; simp only at x; subst x; rw [hg] at hb; simp at hb; exact ht hb.2.symm)]
  exact hb

/-- Lists of one's own are read. -/
theorem rdT_own {w : World} {base : Nat} {co : Option Addr} {n c : Nat} {its : List CIt} (h : w.ownsRow base 48 1 (.slice co n c) n (its.map cv)) (he : ∀ x ∈ its, ∃ b, w.ownsRow b 3 1 (cv x) x.1.length (ints x.1)) : n = its.length ∧ RdT w co its := by
  have hl : n = its.length := by have := h.1; simp at this; omega
  refine ⟨hl, fun x hx => by obtain ⟨b, hb⟩ := he x hx; exact row_rd hb, ?_⟩
  rcases h.2 with ⟨_, h0⟩ | ⟨g, cap, cur, hv, hb, hg, hc, _, hs, ht⟩
  · left; rw [h0] at hl; exact List.length_eq_zero_iff.1 hl.symm
  · right
    simp only [Value.slice.injEq] at hv
    refine ⟨g, 0, hv.1, fun k hk => ?_⟩
    have e1 : (its.map cv)[k]? = some (cv its[k]) := by simp [hk]
    rw [← ht, List.getElem?_take_of_lt (by omega)] at e1
    simp only [World.cell?, hg, Nat.zero_add]
    simpa using e1

/-- The lists lie in blocks of lists, and of numbers. -/
structure TyT (w : World) (co : Option Addr) (its : List CIt) : Prop where
  outer : ∀ a, co = some a → ∃ c, w.heap[a.block]? = some (.cells c 48 (0, 0))
  inner : ∀ x ∈ its, ∀ a, x.2.1 = some a → ∃ c, w.heap[a.block]? = some (.cells c 3 (0, 0))

theorem row_ty {w : World} {base n c sz : Nat} {e : TypeId} {ao : Option Addr} {xs : List Value} (h : w.ownsRow base e sz (.slice ao n c) n xs) (a : Addr) (ha : ao = some a) : ∃ c, w.heap[a.block]? = some (.cells c e (0, 0)) := by
  rcases h.2 with ⟨hv, _⟩ | ⟨g, cap, cur, hv, _, hg, _⟩
  · simp only [Value.slice.injEq] at hv
    rw [hv.1] at ha
    cases ha
  · simp only [Value.slice.injEq] at hv
    rw [hv.1] at ha
    cases ha
    exact ⟨cur, hg⟩

/-- Lists of one's own are read, and lie so. -/
theorem rdT_ownT {w : World} {base : Nat} {co : Option Addr} {n c : Nat} {its : List CIt} (h : w.ownsRow base 48 1 (.slice co n c) n (its.map cv)) (he : ∀ x ∈ its, ∃ b, w.ownsRow b 3 1 (cv x) x.1.length (ints x.1)) : n = its.length ∧ (RdT w co its ∧ TyT w co its) :=
  ⟨(rdT_own h he).1, (rdT_own h he).2, fun a ha => row_ty h a ha, fun x hx a ha => by obtain ⟨b, hb⟩ := he x hx; exact row_ty hb a ha⟩
theorem Cp.rdT {its : List CIt} {g : Nat} {w : World} (h : Cp its g w) : RdT w (some ⟨g, 0, none⟩) its ∧ TyT w (some ⟨g, 0, none⟩) its :=
  ⟨h.rd, fun a ha => by cases ha; exact ⟨_, h.row⟩, fun x hx a ha => row_ty (h.own x hx) a ha⟩

/-- What the document's own split and kill end with. -/
def SpEnd (w : World) (r : List (List Int) × Int) (e : Ending) (w' : World) : Prop :=
  ∃ co' cap' its', e = .returned (.tuple #[tval co' its'.length cap', .int .i64 r.2]) ∧ colsOf its' = r.1 ∧ RdT w' co' its' ∧ Below w.heap.size w w'
/-- What 'Split' and 'Kill' end with. -/
def SpEndT (w : World) (r : List (List Int) × Int) (e : Ending) (w' : World) : Prop :=
  ∃ co' cap' its', e = .returned (.tuple #[tval co' its'.length cap', .int .i64 r.2]) ∧ colsOf its' = r.1 ∧ (RdT w' co' its' ∧ TyT w' co' its') ∧ Below w.heap.size w w'
theorem SpEndT.plain {w : World} {r : List (List Int) × Int} {e : Ending} {w' : World} (h : SpEndT w r e w') : SpEnd w r e w' := by
  obtain ⟨co', cap', its', h1, h2, h3, h4⟩ := h
  exact ⟨co', cap', its', h1, h2, h3.1, h4⟩

/-- In the midst: the panes that came in, the copy, the boxes. -/
structure SInv (w : World) (its : List CIt) (co : Option Addr) (cap g : Nat) (its' : List CIt) (T : Nat) (wx : World) : Prop where
  cols : colsOf its' = colsOf its
  box : wx.heap[w.heap.size]? = some (tbox co its.length cap)
  res : wx.heap[w.heap.size + 1]? = some (tbox none 0 0)
  to2 : wx.heap[T]? = some (tbox (some ⟨g, 0, none⟩) its.length its.length)
  cp : Cp its' g wx
  rd : RdT wx co its
  far : w.heap.size + 2 ≤ g ∧ w.heap.size + 2 ≤ T
  below : Below w.heap.size w wx

theorem SInv.len {w : World} {its : List CIt} {co : Option Addr} {cap g : Nat} {its' : List CIt} {T : Nat} {wx : World} (h : SInv w its co cap g its' T wx) : its'.length = its.length := by
  have := congrArg List.length h.cols
  simpa using this

theorem SInv.next {w : World} {its : List CIt} {co : Option Addr} {cap g : Nat} {its' : List CIt} {T : Nat} {wx w2 : World} (h : SInv w its co cap g its' T wx) (hb : Below wx.heap.size wx w2) : SInv w its co cap g its' T w2 :=
  ⟨h.cols, below_block hb h.box (at_lt h.box), below_block hb h.res (at_lt h.res), below_block hb h.to2 (at_lt h.to2), h.cp.below hb, h.rd.below hb, h.far, below_to h.below hb⟩

theorem sinv_start {w w1 : World} {its : List CIt} {co : Option Addr} {cap g : Nat} {its' : List CIt} (hr : RdT w co its) (hc : colsOf its' = colsOf its) (hg : ((w.alloc (tbox co its.length cap)).alloc (tbox none 0 0)).heap.size ≤ g) (hcp : Cp its' g w1) (hb : Below ((w.alloc (tbox co its.length cap)).alloc (tbox none 0 0)).heap.size ((w.alloc (tbox co its.length cap)).alloc (tbox none 0 0)) w1) :
    SInv w its co cap g its' w1.heap.size (w1.alloc (tbox (some ⟨g, 0, none⟩) its.length its.length)) := by
  have hl : its'.length = its.length := by
    have := congrArg List.length hc
    simpa using this
  have hb2 : Below w.heap.size w w1 := below_to (below2 w _ _) hb
  have hs : w.heap.size + 2 ≤ w1.heap.size := by have := hb.size; simp at this; omega
  refine ⟨hc, at_old (below_block hb (at_old (at_new w _) _) (by simp; omega)) _, at_old (below_block hb (at_new1 w _ _) (by simp)) _, at_new _ _, hcp.below (below1 _ _), (hr.below hb2).below (below1 _ _), ⟨by simpa using hg, hs⟩, below_to hb2 (below1 _ _)⟩

/-- The copy is handed back as it is. -/
theorem SInv.same {w : World} {its : List CIt} {co : Option Addr} {cap g : Nat} {its' : List CIt} {T : Nat} {wx : World} (h : SInv w its co cap g its' T wx) (q : Int) (r : List (List Int) × Int) (hr : r = (colsOf its, q)) :
    SpEndT w r (.returned (.tuple #[tval (some ⟨g, 0, none⟩) its.length its.length, .int .i64 q])) (wx.setCell ⟨w.heap.size + 1, 0, none⟩ (.slice (some ⟨g, 0, none⟩) its.length its.length)) := by
  subst hr
  have hf := h.far
  exact ⟨some ⟨g, 0, none⟩, its.length, its', by rw [h.len], h.cols, (h.cp.set (by omega)).rdT, h.below.setCell (by simp) _⟩

end Go.Proofs.YtpichplhidiokacGreatDoor.Tl

/- What the insertions of 'Split' end with. -/
namespace Go.Proofs.YtpichplhidiokacGreatDoor.Tl
open Go.RowKit

theorem SInv.row {w : World} {its : List CIt} {co : Option Addr} {cap g : Nat} {its' : List CIt} {T : Nat} {wx : World} (h : SInv w its co cap g its' T wx) (hm : its.length ≤ 1048576) : wx.ownsRow (w.heap.size + 2) 48 1 (.slice (some ⟨g, 0, none⟩) its.length its.length) its.length (its'.map cv) := by
  have hl := h.len
  refine ⟨by simp [hl], .inr ⟨g, its.length, _, rfl, h.far.1, h.cp.row, Nat.le_refl _, by unfold maxLen; omega, by simp [hl], ?_⟩⟩
  rw [List.take_of_length_le (by simp [hl])]

theorem nodup_le {α : Type} [DecidableEq α] : ∀ (l m : List α), l.Nodup → (∀ x ∈ l, x ∈ m) → l.length ≤ m.length
  | [], _, _, _ => Nat.zero_le _
  | x :: r, m, hn, hs => by
    have hx := hs x (by simp)
    rw [List.nodup_cons] at hn
    have ih := nodup_le r (m.erase x) hn.2 (fun y hy => (List.mem_erase_of_ne (a := y) (b := x) (by intro e; subst e; exact hn.1 hy)).2 (hs y (by simp [hy])))
    have := List.length_erase_of_mem hx
    have : 0 < m.length := List.length_pos_of_mem hx
    simp only [List.length_cons]
    omega
theorem flat_len : ∀ (cols : List (List Int)), (∀ c ∈ cols, 1 ≤ c.length) → cols.length ≤ cols.flatten.length
  | [], _ => Nat.le_refl _
  | c :: r, h => by
    have h1 := h c (by simp)
    have h2 := flat_len r (fun d hd => h d (by simp [hd]))
    simp only [List.length_cons, List.flatten_cons, List.length_append]
    omega
/-- Panes that are laid out stand in six columns at most. -/
theorem good_len {cols : List (List Int)} (h : OkT cols) : cols.length ≤ 6 := by
  have h1 := flat_len cols (fun c hc => (h.tall c hc).1)
  have h2 := nodup_le cols.flatten [0, 1, 2, 3, 4, 5] h.once (fun p hp => by
    have := h.pane p hp
    simp only [paneB, decide_eq_true_eq] at this
    have : p = 0 ∨ p = 1 ∨ p = 2 ∨ p = 3 ∨ p = 4 ∨ p = 5 := by omega
    simpa using this)
  simp only [List.length_cons, List.length_nil] at h2
  omega

theorem cv_one (its : List CIt) : ∀ v ∈ its.map cv, v.oneCell' = true := by
  intro v hv
  obtain ⟨x, _, rfl⟩ := List.mem_map.1 hv
  rfl

theorem own_single {w : World} {V : Nat} {n : Int} (h : w.heap[V]? = some (.cells #[.int .i64 n] 3)) : w.ownsRow 0 3 1 (cv ([n], some ⟨V, 0, none⟩, 1)) 1 (ints [n]) :=
  ⟨rfl, .inr ⟨V, 1, _, rfl, Nat.zero_le _, h, Nat.le_refl _, by unfold maxLen; omega, rfl, rfl⟩⟩

theorem ne41 : (34 : TypeId) ≠ 48 := by decide
theorem ne413 : (34 : TypeId) ≠ 3 := by decide
theorem ne283 : (48 : TypeId) ≠ 3 := by decide

theorem mem_insL {α : Type} {l : List α} {i : Nat} {x y : α} (h : y ∈ insL l i x) : y ∈ l ∨ y = x := by
  unfold insL at h
  rcases List.mem_append.1 h with h | h
  · exact .inl (List.mem_of_mem_take h)
  · rcases List.mem_cons.1 h with h | h
    · exact .inr h
    · exact .inl (List.mem_of_mem_drop h)

theorem split_insL {w : World} {its : List CIt} {co : Option Addr} {cap g : Nat} {its' : List CIt} {T : Nat} {wx : World} (h : SInv w its co cap g its' T wx) (hm : its.length ≤ 1048576) (i : Nat) (hi : i + 1 ≤ its.length) (n : Int) :
    Calls Tryz.prog 92 #[.slice (some ⟨g, 0, none⟩) its.length its.length, .int .i64 ((i : Int) + 1), .slice (some ⟨wx.heap.size + 1, 0, none⟩) 1 1] ((wx.alloc (.cells #[.int .i64 n] 3)).alloc (.cells #[.slice (some ⟨wx.heap.size, 0, none⟩) 1 1] 48)) fun e w' =>
      ∃ ao' c', e = .returned (.slice ao' (its.length + 1) c') ∧ w'.heap[w.heap.size + 1]? = some (tbox none 0 0) ∧ w'.heap[T]? = some (tbox (some ⟨g, 0, none⟩) its.length its.length) ∧
        SpEndT w (insL (colsOf its) (i + 1) [n], 0) (.returned (.tuple #[tval ao' (its.length + 1) c', .int .i64 0])) ((w'.setCell ⟨T, 0, none⟩ (.slice ao' (its.length + 1) c')).setCell ⟨w.heap.size + 1, 0, none⟩ (.slice ao' (its.length + 1) c')) := by
  have hf := h.far
  have hb : Below wx.heap.size wx ((wx.alloc (.cells #[.int .i64 n] 3)).alloc (.cells #[.slice (some ⟨wx.heap.size, 0, none⟩) 1 1] 48)) := below2 _ _ _
  have h2 := h.next hb
  have hV2 := at_new1 wx (.cells #[.int .i64 n] 3) (.cells #[.slice (some ⟨wx.heap.size, 0, none⟩) 1 1] 48)
  have hV1 := at_old (at_new wx (.cells #[.int .i64 n] 3)) (.cells #[.slice (some ⟨wx.heap.size, 0, none⟩) 1 1] 48)
  have key := ins_anyL (w.heap.size + 2) g its.length (i + 1) (wx.heap.size + 1) (its'.map cv) (.slice (some ⟨wx.heap.size, 0, none⟩) 1 1) _ (h2.row hm) hm hi hV2 rfl (cv_one its') (by have := at_lt h.to2; simp; omega)
  rw [show ((i + 1 : Nat) : Int) = (i : Int) + 1 by omega] at key
  refine key.mono ?_
  rintro e w' ⟨v', rfl, hown, hg⟩
  obtain ⟨ao', c', rfl⟩ := row_shape hown
  have q2 := grown_at hg h2.cp.row h2.res ne41
  have q3 := grown_at hg h2.cp.row h2.to2 ne41
  refine ⟨ao', c', rfl, q2, q3, ao', c', insL its' (i + 1) ([n], some ⟨wx.heap.size, 0, none⟩, 1), ?_, ?_, ?_, ?_⟩
  · have hl : (insL its' (i + 1) ([n], some ⟨wx.heap.size, 0, none⟩, 1)).length = its.length + 1 := by
      have := h.len
      simp [insL]
      omega
    rw [hl]
  · simp only [colsOf]
    have e0 := insL_map (fun x : CIt => x.1) its' (i + 1) ([n], some ⟨wx.heap.size, 0, none⟩, 1)
    rw [← e0]
    have := h.cols
    simp only [colsOf] at this
    rw [this]
  · have e1 : insL (its'.map cv) (i + 1) (.slice (some ⟨wx.heap.size, 0, none⟩) 1 1) = (insL its' (i + 1) ([n], some ⟨wx.heap.size, 0, none⟩, 1)).map cv := insL_map cv its' (i + 1) ([n], some ⟨wx.heap.size, 0, none⟩, 1)
    rw [e1] at hown
    have hq : (w'.setCell ⟨T, 0, none⟩ (.slice ao' (its.length + 1) c')).heap[w.heap.size + 1]? = some (tbox none 0 0) := by
      rw [Below.heap_setCell _ _ _ _ (by simp; omega)]; exact q2
    refine (rdT_ownT (base := w.heap.size + 2) (n := its.length + 1) (c := c') (row_setT (row_setT hown q3 ne41) hq ne41) (fun x hx => ?_)).2
    rcases mem_insL hx with hx | rfl
    · exact ⟨_, row_setT (row_setT (row_grownT (h2.cp.own x hx) hg h2.cp.row ne283) q3 ne413) hq ne413⟩
    · exact ⟨_, row_setT (row_setT (row_grownT (own_single hV1) hg h2.cp.row ne283) q3 ne413) hq ne413⟩
  · have hb3 : Below w.heap.size w w' := h2.below.trans (grown_below hg h2.below.size (by omega))
    exact (hb3.setCell (by simp; omega) _).setCell (by simp) _

theorem SInv.col {w : World} {its : List CIt} {co : Option Addr} {cap g : Nat} {its' : List CIt} {T : Nat} {wx : World} (h : SInv w its co cap g its' T wx) (i : Nat) (hi : i < its.length) : ∃ x, its'[i]? = some x ∧ x.1 = (colsOf its).getD i [] ∧ wx.cell? ⟨g, i, none⟩ = some (.slice x.2.1 x.1.length x.2.2) ∧ wx.frozen? ⟨g, i, none⟩ = false := by
  have hl := h.len
  have hi' : i < its'.length := by omega
  refine ⟨its'[i], by simp [hi'], ?_, ?_, frozen_of_row wx g i _ _ h.cp.row⟩
  · rw [← h.cols]
    simp [hi']
  · simp only [World.cell?, h.cp.row]
    simp [hi']

theorem ints_ins (l : List Int) (i : Nat) (n : Int) : insL (ints l) i (.int .i64 n) = ints (insL l i n) := insL_map (Value.int .i64) l i n

theorem own_some {w : World} {base : Nat} {x : CIt} (h : w.ownsRow base 3 1 (cv x) x.1.length (ints x.1)) (hx : x.1 ≠ []) : ∃ b, x.2.1 = some ⟨b, 0, none⟩ ∧ base ≤ b := by
  rcases h.2 with ⟨_, h0⟩ | ⟨g, c, cur, hv, hb, _⟩
  · exact absurd (List.length_eq_zero_iff.1 h0) hx
  · simp only [cv, Value.slice.injEq] at hv
    exact ⟨g, hv.1, hb⟩

/-- One column is another one now, in a block that is none of the others'. -/
theorem set_end {w : World} {its : List CIt} {co : Option Addr} {cap g : Nat} {its' : List CIt} {T : Nat} {wx w' : World} (h : SInv w its co cap g its' T wx) (hm : its.length ≤ 1048576) (i : Nat) (hi : i < its.length) (x : CIt) (hx : its'[i]? = some x) (b : Nat) (hxb : x.2.1 = some ⟨b, 0, none⟩) (hg : wx.grownBy w' (some b)) (l : List Int) (ao : Option Addr) (c : Nat) (base : Nat) (hown : w'.ownsRow base 3 1 (.slice ao l.length c) l.length (ints l)) :
    w'.heap[w.heap.size + 1]? = some (tbox none 0 0) ∧ w'.heap[T]? = some (tbox (some ⟨g, 0, none⟩) its.length its.length) ∧ w'.cell? ⟨g, i, none⟩ = some (.slice x.2.1 x.1.length x.2.2) ∧ w'.frozen? ⟨g, i, none⟩ = false ∧
      SpEndT w ((colsOf its).set i l, 0) (.returned (.tuple #[tval (some ⟨g, 0, none⟩) its.length its.length, .int .i64 0])) ((w'.setCell ⟨g, i, none⟩ (.slice ao l.length c)).setCell ⟨w.heap.size + 1, 0, none⟩ (.slice (some ⟨g, 0, none⟩) its.length its.length)) := by
  have hf := h.far
  have hl := h.len
  have hi' : i < its'.length := by omega
  obtain rfl : its'[i] = x := by simpa [hi'] using hx
  have hxo := h.cp.own its'[i] (List.getElem_mem hi')
  unfold cv at hxo
  rw [hxb] at hxo
  obtain ⟨cur, hcur, _, _, hbg, _⟩ := own_row hxo
  have q1 := grown_at hg hcur h.cp.row ne283
  have q2 := grown_at hg hcur h.res ne413
  have q3 := grown_at hg hcur h.to2 ne413
  have hcell : w'.cell? ⟨g, i, none⟩ = some (cv its'[i]) := by
    simp only [World.cell?, q1]
    simp [hi']
  refine ⟨q2, q3, hcell, frozen_of_row w' g i _ _ q1, some ⟨g, 0, none⟩, its.length, its'.set i (l, ao, c), by simp [hl], ?_, ?_, ?_⟩
  · have := h.cols
    simp only [colsOf] at this ⊢
    rw [List.map_set, this]
  · have q4 : (w'.setCell ⟨g, i, none⟩ (.slice ao l.length c)).heap[w.heap.size + 1]? = some (tbox none 0 0) := set_at q1 q2 ne41
    have q5 : (w'.setCell ⟨g, i, none⟩ (.slice ao l.length c)).heap[g]? = some (.cells ((its'.set i (l, ao, c)).map cv).toArray 48) := by
      rw [heap_setCell_same w' g i _ _ _ q1]
      congr 1
      congr 1
      apply Array.ext'
      simp [List.map_set]
    have q6 : (w'.setCell ⟨g, i, none⟩ (.slice ao l.length c)).ownsRow 0 48 1 (.slice (some ⟨g, 0, none⟩) its.length its.length) its.length ((its'.set i (l, ao, c)).map cv) :=
      ⟨by simp [hl], .inr ⟨g, its.length, _, rfl, Nat.zero_le _, q5, Nat.le_refl _, by unfold maxLen; omega, by simp [hl], by rw [List.take_of_length_le (by simp [hl])]⟩⟩
    refine (rdT_ownT (row_setT q6 q4 ne41) (fun y hy => ?_)).2
    obtain ⟨k, hk, rfl⟩ := List.getElem_of_mem hy
    have hk' : k < its'.length := by simpa using hk
    by_cases e : i = k
    · subst e
      have e1 : (its'.set i (l, ao, c))[i] = (l, ao, c) := by simp
      rw [e1]
      exact ⟨base, row_setT (row_setT hown q1 ne283) q4 ne413⟩
    · have e1 : (its'.set i (l, ao, c))[k] = its'[k] := by simp [e]
      rw [e1]
      refine ⟨_, row_setT (row_setT (row_grownB (h.cp.own its'[k] (List.getElem_mem hk')) hg ?_) q1 ne283) q4 ne413⟩
      unfold cv
      cases hko : its'[k].2.1 with
      | none => simp [Value.ownBlock]
      | some a =>
        simp only [Value.ownBlock, ne_eq, Option.some.injEq]
        rcases Nat.lt_or_gt_of_ne e with h1 | h1
        · have := h.cp.apart i k hi' hk' h1 _ _ hxb hko
          simp only at this
          omega
        · have := h.cp.apart k i hk' hi' h1 _ _ hko hxb
          simp only at this
          omega
  · have hb3 : Below w.heap.size w w' := h.below.trans (grown_below hg h.below.size (by omega))
    exact (hb3.setCell (by simp; omega) _).setCell (by simp) _

theorem split_insI {w : World} {its : List CIt} {co : Option Addr} {cap g : Nat} {its' : List CIt} {T : Nat} {wx : World} (h : SInv w its co cap g its' T wx) (hm : its.length ≤ 1048576) (i : Nat) (hi : i < its.length) (x : CIt) (hx : its'[i]? = some x) (hxm : x.1.length ≤ 1048576) (j : Nat) (hj : j + 1 ≤ x.1.length) (n : Int) (W : World) (V : Nat) (q : Int) (hq : q = (j : Int) + 1) (hb : Below wx.heap.size wx W) (hV : W.heap[V]? = some (.cells #[.int .i64 n] 3)) (hVx : wx.heap.size ≤ V) :
    Calls Tryz.prog 93 #[.slice x.2.1 x.1.length x.2.2, .int .i64 q, .slice (some ⟨V, 0, none⟩) 1 1] W fun e w' =>
      ∃ ao' c', e = .returned (.slice ao' (x.1.length + 1) c') ∧ (w'.cell? ⟨w.heap.size + 1, 0, none⟩ = some (.slice none 0 0) ∧ w'.frozen? ⟨w.heap.size + 1, 0, none⟩ = false) ∧ w'.cell? ⟨T, 0, none⟩ = some (.slice (some ⟨g, 0, none⟩) its.length its.length) ∧ w'.cell? ⟨g, i, none⟩ = some (.slice x.2.1 x.1.length x.2.2) ∧ w'.frozen? ⟨g, i, none⟩ = false ∧
        SpEndT w ((colsOf its).set i (insL x.1 (j + 1) n), 0) (.returned (.tuple #[tval (some ⟨g, 0, none⟩) its.length its.length, .int .i64 0])) ((w'.setCell ⟨g, i, none⟩ (.slice ao' (x.1.length + 1) c')).setCell ⟨w.heap.size + 1, 0, none⟩ (.slice (some ⟨g, 0, none⟩) its.length its.length)) := by
  subst hq
  have h2 := h.next hb
  have hxo := h2.cp.own x (List.mem_of_getElem? hx)
  obtain ⟨b, hxb, hgb⟩ := own_some hxo (by intro e; rw [e] at hj; simp at hj)
  have hxo' := hxo
  unfold cv at hxo'
  rw [hxb] at hxo' ⊢
  have hbx : b < wx.heap.size := by
    have h3 := h.cp.own x (List.mem_of_getElem? hx)
    unfold cv at h3
    rw [hxb] at h3
    exact (own_lt h3).2
  have key := ins_anyI (g + 1) b x.1.length x.2.2 (j + 1) V (ints x.1) (.int .i64 n) W hxo' hxm hj hV (by omega) rfl (ints_one _) (by have := hb.size; omega)
  rw [show ((j + 1 : Nat) : Int) = (j : Int) + 1 by omega] at key
  refine key.mono ?_
  rintro e w' ⟨v', rfl, hown, hg⟩
  obtain ⟨ao', c', rfl⟩ := row_shape hown
  have hll : (insL x.1 (j + 1) n).length = x.1.length + 1 := by simp [insL]; omega
  rw [ints_ins] at hown
  have hown' : w'.ownsRow (g + 1) 3 1 (.slice ao' (insL x.1 (j + 1) n).length c') (insL x.1 (j + 1) n).length (ints (insL x.1 (j + 1) n)) := by rw [hll]; exact hown
  have := set_end h2 hm i hi x hx b hxb hg (insL x.1 (j + 1) n) ao' c' (g + 1) hown'
  rw [hll, hxb] at this
  obtain ⟨t1, t2, t3⟩ := this
  exact ⟨ao', c', rfl, ⟨(one t1).1, (one t1).2 0⟩, (one t2).1, t3⟩

end Go.Proofs.YtpichplhidiokacGreatDoor.Tl
