/- The document's own copy of panes. -/
import Derived.Test.YtmdlbclaipajlabTSp0
import Derived.Test.YtmdlbclaipajlabTRef1
import Derived.Deep.RegionLaw
namespace Go.Proofs.Ytmdlbclaipajlab.Tl
open Go.RowKit

section
variable {P : Program}
/-- 'append' onto a row of one's own, in a region that draws its order. -/
theorem step_append_own {ops : Array Oper} {o : Oper} {a : Act} {w : World} {K : Act → World → Prop} {Q : Exit → Act → World → Prop} {E : Prop} (hgd : o.guard = none) (s x : Operand) (t : TypeId)
    (ho : o.op = .call { callee := .builtin .append, args := #[s, x], argTypes := #[t, t] })
    (base : Nat) (e : TypeId) (i : TypeInfo) (z : Value) (size bytes : Nat) (ht : P.underlying t = some (.slice e)) (hi : P.info? e = some i) (hz : i.zero = some z)
    (hsize : i.size = size) (hby : i.bytes = bytes) (hzs : z.cells.size = size) (hsz : 0 < size)
    (v : Value) (n : Nat) (xs : List Value) (hs : a.eval s = v) (hown : w.ownsRow base e size v n xs) (ad : Addr) (m c : Nat) (news : List Value) (hx : a.eval x = .slice (some ad) m c) (hn : news.length = m * size)
    (hc : ∀ j u, news[j]? = some u → w.cell? (ad.add j) = some u) (h1 : ∀ u ∈ news, u.oneCell' = true) (h63 : n + m ≤ maxLen) (hbytes : (n + m) * bytes ≤ 140737488355328) (hbase : base ≤ w.heap.size)
    (h : ∀ v' w', w'.ownsRow base e size v' (n + m) (xs ++ news) → w.grownBy w' v.ownBlock → K (a.put o.dst v') w') :
    if Region.wanted o (yielded ops a.tmps) = true then Oper.wp P o a w K Q else E := by
  have hw : Region.wanted o (yielded ops a.tmps) = true := by simp [Region.wanted, hgd]
  rw [if_pos hw]
  obtain ⟨v', w', hr, h2, h3, _⟩ := run_append_own (P := P) w base t o.type e i z size bytes ht hi hz hsize hby hzs hsz v n xs hown ad m c news hn hc h1 h63 hbytes hbase
  unfold Oper.wp
  simp [execOp, ho, resolve, invoke, builtin, hs, hx, hr, Result.andThen]
  exact h v' w' h2 h3
/-- 'append' of nil. -/
theorem step_append_nil {ops : Array Oper} {o : Oper} {a : Act} {w : World} {K : Act → World → Prop} {Q : Exit → Act → World → Prop} {E : Prop} (hgd : o.guard = none) (s x : Operand) (t : TypeId)
    (ho : o.op = .call { callee := .builtin .append, args := #[s, x], argTypes := #[t, t] })
    (base : Nat) (e : TypeId) (i : TypeInfo) (size : Nat) (ht : P.underlying t = some (.slice e)) (hi : P.info? e = some i)
    (v : Value) (n : Nat) (xs : List Value) (hs : a.eval s = v) (hown : w.ownsRow base e size v n xs) (hx : a.eval x = .slice none 0 0)
    (h : K (a.put o.dst v) w) : if Region.wanted o (yielded ops a.tmps) = true then Oper.wp P o a w K Q else E := by
  have hw : Region.wanted o (yielded ops a.tmps) = true := by simp [Region.wanted, hgd]
  rw [if_pos hw]
  have hr := run_append_owned_none (P := P) w base t o.type e i size ht hi v n xs hown
  unfold Oper.wp
  simp [execOp, ho, resolve, invoke, builtin, hs, hx, hr, Result.andThen]
  exact h
end

theorem ne41' : (41 : TypeId) ≠ 28 := by decide
theorem ne413' : (41 : TypeId) ≠ 3 := by decide
theorem ne283' : (28 : TypeId) ≠ 3 := by decide

@[reducible] def vbox (v : Value) : Obj := .cells #[v] 41

theorem row_keep {w w' : World} {base base' sz n m : Nat} {e e' : TypeId} {v v' : Value} {xs ys : List Value} (h : w.ownsRow base e sz v n xs) (hv : w.ownsRow base' e' 1 v' m ys) (hne : e' ≠ e) (hg : w.grownBy w' v'.ownBlock) : w'.ownsRow base e sz v n xs := by
  rcases hv.2 with ⟨rfl, _⟩ | ⟨g, c, cur, rfl, _, hgg, _⟩
  · refine ⟨h.1, ?_⟩
    rcases h.2 with h0 | ⟨g', c', cur', hv', hbb, hg', rest⟩
    · exact .inl h0
    · exact .inr ⟨g', c', cur', hv', hbb, by rw [hg.block g' (at_lt hg') (by simp [Value.ownBlock])]; exact hg', rest⟩
  · exact row_grownT h hg hgg hne

/-- In the midst of the copying, k columns are copied. -/
structure KInv (w : World) (its : List CIt) (co : Option Addr) (cap k : Nat) (done : List CIt) (v : Value) (wr : World) : Prop where
  same : colsOf done = (colsOf its).take k
  row : wr.ownsRow (w.heap.size + 3) 28 1 v k (done.map cv)
  own : ∀ x ∈ done, wr.ownsRow (w.heap.size + 3) 3 1 (cv x) x.1.length (ints x.1)
  box : wr.heap[w.heap.size]? = some (tbox co its.length cap)
  res : wr.heap[w.heap.size + 1]? = some (tbox none 0 0)
  out : wr.heap[w.heap.size + 2]? = some (vbox v)
  below : Below w.heap.size w wr

theorem kinv_step {w : World} {its : List CIt} {co : Option Addr} {cap k : Nat} {done : List CIt} {v v' : Value} {wr w1 w2 : World} (h : KInv w its co cap k done v wr) (hk : k < its.length) {ao : Option Addr} {c : Nat}
    (ho : w1.ownsRow (w.heap.size + 3) 3 1 (.slice ao its[k].1.length c) its[k].1.length (ints its[k].1)) (hb : Below wr.heap.size wr w1)
    (hown : w2.ownsRow (w.heap.size + 3) 28 1 v' (k + 1) (done.map cv ++ [.slice ao its[k].1.length c])) (hg : (w1.alloc (.cells #[.slice ao its[k].1.length c] 28)).grownBy w2 v.ownBlock) :
    KInv w its co cap (k + 1) (done ++ [(its[k].1, ao, c)]) v' (w2.setCell ⟨w.heap.size + 2, 0, none⟩ v') := by
  have hb2 : Below wr.heap.size wr (w1.alloc (.cells #[.slice ao its[k].1.length c] 28)) := below_to hb (below1 _ _)
  have hrow2 := row_below h.row hb2
  have hblk : ∀ b, b < w.heap.size + 3 → some b ≠ v.ownBlock := fun b hbl e => by have := own_ge h.row e.symm; omega
  have key : ∀ (b : Nat) (o : Obj), wr.heap[b]? = some o → b < w.heap.size + 3 → w2.heap[b]? = some o := fun b o hbo hbl => by
    have h1 := below_block hb2 hbo (at_lt hbo)
    rw [hg.block b (at_lt h1) (hblk b hbl)]
    exact h1
  have hout := key _ _ h.out (by omega)
  refine ⟨?_, ?_, ?_, ?_, ?_, ?_, ?_⟩
  · rw [List.take_succ_eq_append_getElem (by simpa using hk)]
    have := h.same
    simp only [colsOf] at this ⊢
    rw [List.map_append, this]
    simp
  · have := row_setT (j := 0) (u := v') hown hout ne41'
    simpa using this
  · intro x hx
    rcases List.mem_append.1 hx with hx | hx
    · exact row_setT (row_keep (row_below (h.own x hx) hb2) hrow2 ne283' hg) hout ne413'
    · simp at hx
      subst hx
      exact row_setT (row_keep (row_below ho (below1 _ _)) hrow2 ne283' hg) hout ne413'
  · rw [Below.heap_setCell _ _ _ _ (by simp)]; exact key _ _ h.box (by omega)
  · rw [Below.heap_setCell _ _ _ _ (by simp)]; exact key _ _ h.res (by omega)
  · rw [heap_setCell_same w2 (w.heap.size + 2) 0 _ _ v' hout]
    rfl
  · have hb3 : Below w.heap.size w w2 := (below_to h.below hb2).trans ⟨hg.os, hg.tape, hg.output, hg.size, fun b hbl => hg.block b (by have := (below_to h.below hb2).size; omega) (hblk b (by omega))⟩
    exact hb3.setCell (by simp) _

theorem kinv_out {w : World} {its : List CIt} {co : Option Addr} {cap k : Nat} {done : List CIt} {v : Value} {wr w1 w2 : World} {o : Obj} (h : KInv w its co cap k done v wr) (hb : Below wr.heap.size wr w1) (hg : (w1.alloc o).grownBy w2 v.ownBlock) : w2.heap[w.heap.size + 2]? = some (vbox v) := by
  have h1 := below_block (below_to hb (below1 w1 o)) h.out (at_lt h.out)
  rw [hg.block _ (at_lt h1) (fun e => by have := own_ge h.row e.symm; omega)]
  exact h1

set_option maxHeartbeats 2000000 in
set_option maxRecDepth 100000 in
theorem copyR_any (its : List CIt) (co : Option Addr) (cap : Nat) (w : World) (hr : RdT w co its) (hm : its.length ≤ 5864062014805) (hm2 : ∀ x ∈ its, x.1.length ≤ 17592186044416) :
    Calls Try.prog 15 #[tval co its.length cap] w fun e w' => ∃ co' cap' its', e = .returned (tval co' its.length cap') ∧ colsOf its' = colsOf its ∧ RdT w' co' its' ∧ Below w.heap.size w w' := by
  obtain ⟨i0, hi, hz0, hz1, hz2⟩ := info_parts info3
  obtain ⟨i1, hj, hy0, hy1, hy2⟩ := info_parts infoL
  have HR : Hid (RdT w co its) := hr
  have HM : Hid (∀ x ∈ its, x.1.length ≤ 17592186044416) := hm2
  clear hr hm2
  go_enter Try.func15, Try.ntmps15
  go_wp2
  go_loopw [9] (fun i wr => ∃ (k : Nat) (done : List CIt) (v : Value), k ≤ its.length ∧ i = .int .i64 k ∧ KInv w its co cap k done v wr) (fun i _ => its.length - (intOf i).toNat)
  case atStart =>
    refine ⟨0, [], .slice none 0 0, Nat.zero_le _, rfl, rfl, by simpa using World.ownsRow_nil _ _ _ _, fun x hx => by simp at hx, at_old (at_old (at_new w _) _) _, at_old (at_new1 w _ _) _, ?_, (below2 w _ _).alloc (by simp; omega) _⟩
    have := at_new ((w.alloc (tbox co its.length cap)).alloc (tbox none 0 0)) (vbox (.slice none 0 0))
    simpa using this
  case round =>
    obtain ⟨k, done, v, hk, rfl, hinv⟩ := hrel
    obtain ⟨x1', x2'⟩ := one hinv.box
    obtain ⟨x5, x6⟩ := one hinv.out
    obtain ⟨x7, x8⟩ := one hinv.res
    have HI : Hid (KInv w its co cap k done v wr) := hinv
    have hsz : w.heap.size + 3 ≤ wr.heap.size := by have := at_lt hinv.out; omega
    clear hinv
    by_cases hlt : k < its.length
    · have hlt' : (k : Int) < (its.length : Int) := by omega
      have hrd := HR.out.below HI.out.below
      obtain ⟨b, off, rfl, hc⟩ := hrd.row.resolve_left (by intro h; subst h; simp at hlt)
      have h0 := hc k hlt
      obtain ⟨⟨x1, x2, x3⟩, hx⟩ : ∃ x, x = its[k] := ⟨_, rfl⟩
      rw [← hx] at h0
      have h1 : wr.cell? ⟨b, off + k, none⟩ = some (.slice x2 x1.length x3) := h0
      have hmem : (x1, x2, x3) ∈ its := by rw [hx]; exact List.getElem_mem hlt
      have hxl := HM.out _ hmem
      have hrx := hrd.each _ hmem
      simp only at hxl hrx
      have HST : Hid (∀ (w1 w2 : World) (v' : Value) (ao : Option Addr) (c : Nat), w1.ownsRow (w.heap.size + 3) 3 1 (.slice ao x1.length c) x1.length (ints x1) → Below wr.heap.size wr w1 → w2.ownsRow (w.heap.size + 3) 28 1 v' (k + 1) (done.map cv ++ [.slice ao x1.length c]) → (w1.alloc (.cells #[.slice ao x1.length c] 28)).grownBy w2 v.ownBlock →
          KInv w its (some ⟨b, off, none⟩) cap (k + 1) (done ++ [(x1, ao, c)]) v' (w2.setCell ⟨w.heap.size + 2, 0, none⟩ v')) := by
        intro w1 w2 v' ao c q1 q2 q3 q4
        have e1 : its[k].1 = x1 := by rw [← hx]
        have := kinv_step HI.out hlt (ao := ao) (c := c) (w1 := w1) (w2 := w2) (v' := v')
        rw [e1] at this
        exact this q1 q2 q3 q4
      clear hc h0 hx hmem hrd
      cases x2 with
      | none =>
        obtain ⟨rfl, rfl⟩ := hrx.2 rfl
        clear hrx
        obtain ⟨c7, c8⟩ := one (at_old HI.out.out (.cells #[.slice none 0 0] 28))
        go_wp2_with fail
        go_region_law (first
          | (refine step_append_nil rfl (.const (Value.slice none 0 0)) (.tmp 15) 28 rfl (w.heap.size + 3) 3 i0 1 Try.underlying28 hi (.slice none 0 0) 0 [] (by simp [Act.eval]) (World.ownsRow_nil _ _ _ _) (by simp [Act.eval, Act.put]) ?_)
          | (refine step_append_own rfl (.tmp 14) (.tmp 17) 39 rfl (w.heap.size + 3) 28 i1 (.slice none 0 0) 1 24 Try.underlying39 hj hy0 hy1 hy2 rfl (by decide) v k (done.map cv) (by simp [Act.eval]) (row_below HI.out.row (below_to ((Below.refl wr.heap.size wr).drew) (below1 _ _))) ⟨wr.heap.size, 0, none⟩ 1 1 [.slice none 0 0] (by simp [Act.eval]) rfl (cell_one (at_new _ _)) (by intro u hu; simp at hu; subst hu; rfl) (by unfold maxLen; omega) (by omega) (by simp; omega) ?_; intro v2 w2 ho2 hg2; obtain ⟨co2, cap2, rfl⟩ := row_shape ho2; have HK2 : Hid (KInv w its (some ⟨b, off, none⟩) cap (k + 1) (done ++ [([], none, 0)]) (.slice co2 (k + 1) cap2) (w2.setCell ⟨w.heap.size + 2, 0, none⟩ (.slice co2 (k + 1) cap2))) := HST.out wr.drew w2 _ none 0 (World.ownsRow_nil _ _ _ _) ((Below.refl wr.heap.size wr).drew) ho2 hg2; obtain ⟨y5, y6⟩ := one (kinv_out HI.out ((Below.refl wr.heap.size wr).drew) hg2); clear ho2 hg2))
        all_goals (
          go_wp2
          go_roundw
          case rel => exact ⟨k + 1, _, _, by omega, by go_num, HK2.out⟩
          case measure => (simp [intOf]; omega))
      | some a =>
        have HSRC : Hid (∀ j u, (ints x1)[j]? = some u → wr.drew.cell? (a.add j) = some u) := fun j u hu => rd_src hrx.1 j u hu
        clear hrx
        go_wp2_with fail
        go_region_law (first
          | (refine step_append_own rfl (.const (Value.slice none 0 0)) (.tmp 15) 28 rfl (w.heap.size + 3) 3 i0 (.int .i64 0) 1 8 Try.underlying28 hi hz0 hz1 hz2 rfl (by decide) (.slice none 0 0) 0 [] (by simp [Act.eval]) (World.ownsRow_nil _ _ _ _) a x1.length x3 (ints x1) (by simp [Act.eval, Act.put]) (by simp) HSRC.out (ints_one x1) (by unfold maxLen; omega) (by omega) hsz ?_; intro v1 w1 ho1 hg1; simp only [Nat.zero_add, List.nil_append] at ho1; obtain ⟨ao, c, rfl⟩ := row_shape ho1; have HB1 : Hid (w1.ownsRow (w.heap.size + 3) 3 1 (.slice ao x1.length c) x1.length (ints x1) ∧ Below wr.heap.size wr w1) := ⟨ho1, ⟨hg1.os, hg1.tape, hg1.output, hg1.size, fun b hb => hg1.block b hb (by simp [Value.ownBlock])⟩⟩; obtain ⟨c5, c6⟩ := one (below_block HB1.out.2 HI.out.out (at_lt HI.out.out)); obtain ⟨c7, c8⟩ := one (at_old (below_block HB1.out.2 HI.out.out (at_lt HI.out.out)) (.cells #[.slice ao x1.length c] 28)); clear ho1 hg1)
          | (refine step_append_own rfl (.tmp 14) (.tmp 17) 39 rfl (w.heap.size + 3) 28 i1 (.slice none 0 0) 1 24 Try.underlying39 hj hy0 hy1 hy2 rfl (by decide) v k (done.map cv) (by simp [Act.eval]) (row_below HI.out.row (below_to HB1.out.2 (below1 _ _))) ⟨w1.heap.size, 0, none⟩ 1 1 [.slice ao x1.length c] (by simp [Act.eval]) rfl (cell_one (at_new _ _)) (by intro u hu; simp at hu; subst hu; rfl) (by unfold maxLen; omega) (by omega) (by have := HB1.out.2.size; simp; omega) ?_; intro v2 w2 ho2 hg2; obtain ⟨co2, cap2, rfl⟩ := row_shape ho2; have HK2 : Hid (KInv w its (some ⟨b, off, none⟩) cap (k + 1) (done ++ [(x1, ao, c)]) (.slice co2 (k + 1) cap2) (w2.setCell ⟨w.heap.size + 2, 0, none⟩ (.slice co2 (k + 1) cap2))) := HST.out w1 w2 _ ao c HB1.out.1 HB1.out.2 ho2 hg2; obtain ⟨y5, y6⟩ := one (kinv_out HI.out HB1.out.2 hg2); clear ho2 hg2 c5 c6 c7 c8))
        all_goals (
          go_wp2
          go_roundw
          case rel => exact ⟨k + 1, _, _, by omega, by go_num, HK2.out⟩
          case measure => (simp [intOf]; omega))
    · have hge : (its.length : Int) ≤ (k : Int) := by omega
      have HK : Hid (k = its.length) := (by omega : k = its.length)
      have h0 := HI.out.row
      obtain ⟨co', cap', rfl⟩ := row_shape h0
      clear h0
      go_wp2
      refine bodyPost_ret (v := tval co' k cap') (by simp [results, Try.results15, go_sem, *]) rfl ?_
      have h0 := HI.out
      have hk' := HK.out
      subst hk'
      refine ⟨co', cap', done, rfl, ?_, ?_, h0.below.setCell (by simp) _⟩
      · rw [h0.same, List.take_of_length_le (by simp)]
      · have hq := h0.res
        exact (rdT_own (row_setT h0.row hq ne41') (fun x hx => ⟨_, row_setT (h0.own x hx) hq ne413'⟩)).2

end Go.Proofs.Ytmdlbclaipajlab.Tl
