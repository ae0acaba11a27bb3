/- A screen's list in memory, cell by cell; what 'copy' and 'clear' make of it. -/
import Derived.Test.YtpichplhidiokacGreatDoorGBase
import Derived.Laws.CopyOwn
namespace Go.Proofs.YtpichplhidiokacGreatDoor
open Go.RowKit

theorem info_parts {P : Program} {e : TypeId} {z : Value} {sz by_ : Nat} (h : (P.info? e).map (fun i => (i.zero, i.size, i.bytes)) = some (some z, sz, by_)) : ∃ i, P.info? e = some i ∧ i.zero = some z ∧ i.size = sz ∧ i.bytes = by_ := by
  cases hq : P.info? e with
  | none => simp [hq] at h
  | some i => simp only [hq, Option.map_some, Option.some.injEq, Prod.mk.injEq] at h; exact ⟨i, rfl, h.1, h.2.1, h.2.2⟩

/-- The cells lie in block b, from its first one on. -/
def Scr (w : World) (b n : Nat) (f : Nat → Cel) : Prop :=
  ∃ cur : Array Value, w.heap[b]? = some (.cells cur 67 (0, 0)) ∧ n * 4 ≤ cur.size ∧ ∀ i, i < n → ∀ j, j < 4 → cur[i * 4 + j]? = cel4 (f i) j

theorem Scr.lt {w : World} {b n : Nat} {f : Nat → Cel} (h : Scr w b n f) : b < w.heap.size := by
  obtain ⟨cur, hc, _⟩ := h
  exact (Array.getElem?_eq_some_iff.1 hc).1

theorem Scr.move {w w' : World} {b n : Nat} {f : Nat → Cel} (h : Scr w b n f) (he : w'.heap[b]? = w.heap[b]?) : Scr w' b n f := by
  obtain ⟨cur, hc, r⟩ := h
  exact ⟨cur, by rw [he]; exact hc, r⟩
theorem Scr.alloc {w : World} {b n : Nat} {f : Nat → Cel} (h : Scr w b n f) (o : Obj) : Scr (w.alloc o) b n f := h.move (Below.heap_alloc w o b h.lt)
theorem Scr.drew {w : World} {b n : Nat} {f : Nat → Cel} (h : Scr w b n f) : Scr w.drew b n f := h
theorem Scr.grown {w w' : World} {b n : Nat} {f : Nat → Cel} {row : Option Nat} (h : Scr w b n f) (hg : w.grownBy w' row) (hne : some b ≠ row) : Scr w' b n f := h.move (hg.block b h.lt hne)
theorem Scr.below {w w' : World} {b n B : Nat} {f : Nat → Cel} (h : Scr w b n f) (hb : Below B w w') (hB : b < B) : Scr w' b n f := h.move (hb.block b hB)
theorem Scr.set {w : World} {b n : Nat} {f : Nat → Cel} (h : Scr w b n f) {p : Addr} (hp : p.block ≠ b) (u : Value) : Scr (w.setCell p u) b n f := h.move (Below.heap_setCell _ _ _ _ (fun e => hp e.symm))

theorem Scr.cells {w : World} {b n : Nat} {f : Nat → Cel} (h : Scr w b n f) (i : Nat) (hi : i < n) :
    w.cell? ⟨b, i * 4, none⟩ = some (.int .i64 (f i).ch) ∧ w.cell? ⟨b, i * 4 + 1, none⟩ = some (.int .i64 (f i).ink) ∧ w.cell? ⟨b, i * 4 + 2, none⟩ = some (.int .i64 (f i).pic) ∧ w.cell? ⟨b, i * 4 + 3, none⟩ = some (.bool (f i).bold) := by
  obtain ⟨cur, hc, hs, hr⟩ := h
  have key : ∀ j, j < 4 → w.cell? ⟨b, i * 4 + j, none⟩ = cel4 (f i) j := fun j hj => by
    rw [← hr i hi j hj]
    simp [World.cell?, hc]
  exact ⟨by have := key 0 (by omega); simpa [cel4] using this, by have := key 1 (by omega); simpa [cel4] using this, by have := key 2 (by omega); simpa [cel4] using this, by have := key 3 (by omega); simpa [cel4] using this⟩

theorem Scr.free {w : World} {b n : Nat} {f : Nat → Cel} (h : Scr w b n f) (j : Nat) : w.frozen? ⟨b, j, none⟩ = false := by
  obtain ⟨cur, hc, _⟩ := h
  simp [World.frozen?, hc]

theorem Scr.congr {w : World} {b n : Nat} {f f' : Nat → Cel} (h : Scr w b n f) (he : ∀ i, i < n → f i = f' i) : Scr w b n f' := by
  obtain ⟨cur, hc, hs, hr⟩ := h
  exact ⟨cur, hc, hs, fun i hi j hj => by rw [hr i hi j hj, he i hi]⟩

/-! The cells of several, one behind the other. -/
def flatC (h : Nat → Cel) (m : Nat) : List Value := (List.range m).flatMap fun i => (ccells (h i)).toList

theorem flatC_succ (h : Nat → Cel) (m : Nat) : flatC h (m + 1) = flatC h m ++ (ccells (h m)).toList := by
  unfold flatC
  rw [List.range_succ, List.flatMap_append]
  simp
theorem flatC_length (h : Nat → Cel) (m : Nat) : (flatC h m).length = m * 4 := by
  induction m with
  | zero => rfl
  | succ m ih => rw [flatC_succ, List.length_append, ih]; simp; omega
theorem flatC_get (h : Nat → Cel) (m i j : Nat) (hi : i < m) (hj : j < 4) : (flatC h m)[i * 4 + j]? = cel4 (h i) j := by
  induction m with
  | zero => omega
  | succ m ih =>
    rw [flatC_succ]
    by_cases e : i < m
    · rw [List.getElem?_append_left (by rw [flatC_length]; omega)]
      exact ih e
    · obtain rfl : i = m := by omega
      rw [List.getElem?_append_right (by rw [flatC_length]; omega), flatC_length]
      have : i * 4 + j - i * 4 = j := by omega
      rw [this]
      simp [cel4]
theorem flatC_one (h : Nat → Cel) (m : Nat) : ∀ v ∈ flatC h m, v.oneCell' = true := by
  intro v hv
  unfold flatC at hv
  rw [List.mem_flatMap] at hv
  obtain ⟨i, _, hv⟩ := hv
  simp at hv
  rcases hv with rfl | rfl | rfl | rfl <;> rfl

def layF (f : Nat → Cel) (d m : Nat) (h : Nat → Cel) : Nat → Cel := fun i => if d ≤ i ∧ i < d + m then h (i - d) else f i

/-- The list behind other cells were laid over it. -/
theorem Scr.lay {w : World} {b n : Nat} {f : Nat → Cel} {cur : Array Value} (hc : w.heap[b]? = some (.cells cur 67 (0, 0))) (hs : n * 4 ≤ cur.size) (hr : ∀ i, i < n → ∀ j, j < 4 → cur[i * 4 + j]? = cel4 (f i) j)
    (d m : Nat) (h : Nat → Cel) (hd : d + m ≤ n) : Scr (w.setRow b (cur.toList.take (d * 4) ++ (flatC h m ++ cur.toList.drop (d * 4 + (flatC h m).length))).toArray) b n (layF f d m h) := by
  refine ⟨_, setRow_heap w b _ _ _ _ hc, ?_, ?_⟩
  · simp [flatC_length]; omega
  · intro i hi j hj
    have hlen : (cur.toList.take (d * 4)).length = d * 4 := by simp; omega
    simp only [List.getElem?_toArray]
    unfold layF
    by_cases h1 : i < d
    · rw [List.getElem?_append_left (by rw [hlen]; omega), List.getElem?_take_of_lt (by omega), if_neg (by omega)]
      simpa using hr i hi j hj
    · rw [List.getElem?_append_right (by rw [hlen]; omega), hlen]
      by_cases h2 : i < d + m
      · rw [List.getElem?_append_left (by rw [flatC_length]; omega), if_pos (by omega)]
        have : i * 4 + j - d * 4 = (i - d) * 4 + j := by omega
        rw [this]
        exact flatC_get h m _ j (by omega) hj
      · rw [List.getElem?_append_right (by rw [flatC_length]; omega), flatC_length, List.getElem?_drop, if_neg (by omega)]
        have : d * 4 + m * 4 + (i * 4 + j - d * 4 - m * 4) = i * 4 + j := by omega
        rw [this]
        simpa using hr i hi j hj

theorem grown_setRow (w : World) (b : Nat) (cs : Array Value) : w.grownBy (w.setRow b cs) (some b) :=
  ⟨rfl, rfl, rfl, by simp, fun k _ hk => setRow_other w b k cs (fun e => hk (by rw [e]))⟩
theorem grown_refl (w : World) (row : Option Nat) : w.grownBy w row := ⟨rfl, rfl, rfl, Nat.le_refl _, fun _ _ _ => rfl⟩
theorem grown_trans {a b c : World} {row : Option Nat} (h : a.grownBy b row) (k : b.grownBy c row) : a.grownBy c row :=
  ⟨k.os.trans h.os, k.tape.trans h.tape, k.output.trans h.output, Nat.le_trans h.size k.size, fun i hi hne => (k.block i (Nat.lt_of_lt_of_le hi h.size) hne).trans (h.block i hi hne)⟩
theorem grown_alloc {a w : World} {row : Option Nat} (h : a.grownBy w row) (o : Obj) : a.grownBy (w.alloc o) row := grown_trans h (World.grownBy_alloc w o row)
theorem grown_drew {a w : World} {row : Option Nat} (h : a.grownBy w row) : a.grownBy w.drew row := ⟨h.os, h.tape, h.output, h.size, h.block⟩
theorem grown_set {a w : World} {row : Option Nat} (h : a.grownBy w row) {p : Addr} (hp : a.heap.size ≤ p.block ∨ some p.block = row) (u : Value) : a.grownBy (w.setCell p u) row :=
  ⟨h.os, h.tape, h.output, by have := h.size; simpa [World.setCell] using this, fun k hk hne => (Below.heap_setCell _ _ _ _ (fun e => by rcases hp with hp | hp; · omega
                                                                                                                                         · exact hne (by rw [e]; exact hp))).trans (h.block k hk hne)⟩
theorem Below.toGrown {w w' : World} (h : Below w.heap.size w w') (row : Option Nat) : w.grownBy w' row :=
  ⟨h.os, h.tape, h.output, h.size, fun k hk _ => h.block k hk⟩
theorem grown_block {w w' : World} {row : Option Nat} (hg : w.grownBy w' row) {b : Nat} {o : Obj} (h : w.heap[b]? = some o) (hne : some b ≠ row) : w'.heap[b]? = some o := by
  rw [hg.block b (Array.getElem?_eq_some_iff.1 h).1 hne]; exact h
/-- What is there below B stays, where the row lies behind B. -/
theorem grown_below {w w' : World} {b B : Nat} (hg : w.grownBy w' (some b)) (hB : B ≤ w.heap.size) (hb : B ≤ b) : Below B w w' :=
  ⟨hg.os, hg.tape, hg.output, hg.size, fun k hk => hg.block k (by omega) (by simp; omega)⟩

theorem info49 : (Tryz.prog.info? 67).map (fun i => (i.zero, i.size, i.bytes)) = some (some (.agg #[.int .i64 0, .int .i64 0, .int .i64 0, .bool false]), 4, 32) := by kernel_rfl

/-- 'copy' of cells of m elements that lie wherever into the list. -/
theorem run_copy4 (w : World) (ty : TypeId) (b n : Nat) (f : Nat → Cel) (hS : Scr w b n f) (d dLen dCap : Nat) (dp sp : Option Addr) (sLen sCap m : Nat) (h : Nat → Cel) (hm : m = Nat.min sLen dLen) (hd : d + m ≤ n)
    (hpos : 0 < m → dp = some ⟨b, d * 4, none⟩ ∧ ∃ ad, sp = some ad ∧ ∀ i, i < m → ∀ j, j < 4 → w.cell? (ad.add (i * 4 + j)) = cel4 (h i) j) :
    ∃ w', (Builtin.copy_ #[35, 35] ty #[.slice dp dLen dCap, .slice sp sLen sCap]).run Tryz.prog w = .ok (goInt m) w' ∧ Scr w' b n (layF f d m h) ∧ w.grownBy w' (some b) := by
  obtain ⟨i0, hi, _, hz1, _⟩ := info_parts info49
  by_cases h0 : 0 < m
  · obtain ⟨rfl, ad, rfl, hsrc⟩ := hpos h0
    obtain ⟨cur, hc, hs, hr⟩ := hS
    have hl := run_loadCells_list (P := Tryz.prog) w ad (flatC h m) (fun j v hv => by
      have hj : j < m * 4 := by have := (List.getElem?_eq_some_iff.1 hv).1; rwa [flatC_length] at this
      have e : j = (j / 4) * 4 + j % 4 := by omega
      rw [e] at hv ⊢
      rw [flatC_get h m _ _ (by omega) (by omega)] at hv
      rw [hsrc _ (by omega) _ (by omega)]
      exact hv)
    have hst := run_storeCells_at Tryz.prog b (d * 4) 67 (flatC h m) 0 cur w hc (by rw [flatC_length]; omega) (flatC_one h m)
    rw [flatC_length] at hl
    refine ⟨_, ?_, Scr.lay hc hs hr d m h hd, grown_setRow _ _ _⟩
    simp only [Nat.add_zero] at hst
    simp [Builtin.copy_, run_underlying Tryz.underlying35, Builtin.lenOf, Builtin.firstCells, sizeOf, typeInfo, hi, hz1, ← hm, hl, hst, List.append_assoc]
  · obtain rfl : m = 0 := by omega
    refine ⟨w, ?_, hS.congr (fun i _ => by unfold layF; rw [if_neg (by omega)]), grown_refl _ _⟩
    have hl : ∀ (x : Addr), (loadCells x 0).run Tryz.prog w = .ok #[] w := fun x => by simpa using run_loadCells_list (P := Tryz.prog) w x [] (by simp)
    cases dp <;> cases sp <;> simp [Builtin.copy_, run_underlying Tryz.underlying35, Builtin.lenOf, Builtin.firstCells, sizeOf, typeInfo, hi, ← hm, storeCells, hl]

theorem zeros4 (m : Nat) : (Builtin.zeroCells #[.int .i64 0, .int .i64 0, .int .i64 0, .bool false] m).toList = flatC (fun _ => noCel) m := by
  refine List.ext_getElem? fun k => ?_
  by_cases hk : k < m * 4
  · have e : k = (k / 4) * 4 + k % 4 := by omega
    have h2 := flatC_get (fun _ => noCel) m (k / 4) (k % 4) (by omega) (by omega)
    rw [← e] at h2
    rw [h2]
    have h4 : k % 4 = 0 ∨ k % 4 = 1 ∨ k % 4 = 2 ∨ k % 4 = 3 := by omega
    simp only [Builtin.zeroCells, Array.toList_map, Array.toList_range, List.getElem?_map]
    rw [List.getElem?_range (by simpa using hk)]
    rcases h4 with h | h | h | h <;> simp [h, cel4, noCel]
  · rw [List.getElem?_eq_none (by rw [Array.length_toList, size_zeroCells]; simp; omega), List.getElem?_eq_none (by rw [flatC_length]; omega)]

/-- 'clear' of m elements of the list. -/
theorem run_clear4 (w : World) (ty : TypeId) (b n : Nat) (f : Nat → Cel) (hS : Scr w b n f) (d m c : Nat) (dp : Option Addr) (hd : d + m ≤ n) (hpos : 0 < m → dp = some ⟨b, d * 4, none⟩) :
    ∃ w', (Builtin.clear_ #[35] ty #[.slice dp m c]).run Tryz.prog w = .ok (.tuple #[]) w' ∧ Scr w' b n (clrF f d (d + m)) ∧ w.grownBy w' (some b) := by
  obtain ⟨i0, hi, hz0, hz1, _⟩ := info_parts info49
  by_cases h0 : 0 < m
  · obtain rfl := hpos h0
    obtain ⟨cur, hc, hs, hr⟩ := hS
    have hst := run_storeCells_at Tryz.prog b (d * 4) 67 (flatC (fun _ => noCel) m) 0 cur w hc (by rw [flatC_length]; omega) (flatC_one _ m)
    simp only [Nat.add_zero] at hst
    have e : layF f d m (fun _ => noCel) = clrF f d (d + m) := rfl
    refine ⟨_, ?_, e ▸ Scr.lay hc hs hr d m (fun _ => noCel) hd, grown_setRow _ _ _⟩
    obtain ⟨k, rfl⟩ : ∃ k, m = k + 1 := ⟨m - 1, by omega⟩
    have hv : (zeroValue 67).run Tryz.prog w = .ok (.agg #[.int .i64 0, .int .i64 0, .int .i64 0, .bool false]) w := by simp [zeroValue, typeInfo, hi, hz0]
    simp [Builtin.clear_, run_underlying Tryz.underlying35, hv, Value.cells, zeros4, hst, List.append_assoc]
  · obtain rfl : m = 0 := by omega
    refine ⟨w, ?_, hS.congr (fun i _ => by unfold clrF; rw [if_neg (by omega)]), grown_refl _ _⟩
    cases dp <;> simp [Builtin.clear_, run_underlying Tryz.underlying35]

theorem wpList_copy4 {w : World} {ops : Array Oper} {rest : List Oper} {o : Oper} {a : Act} {Q : Exit → Act → World → Prop} (hgd : o.guard = none) (dx sx : Operand)
    (ho : o.op = .call { callee := .builtin .copy, args := #[dx, sx], argTypes := #[35, 35] }) (dp sp : Option Addr) (dLen dCap sLen sCap : Nat) (hdv : a.eval dx = .slice dp dLen dCap) (hsv : a.eval sx = .slice sp sLen sCap)
    (b n : Nat) (f : Nat → Cel) (hS : Scr w b n f) (d m : Nat) (h : Nat → Cel) (hm : m = Nat.min sLen dLen) (hd : d + m ≤ n)
    (hpos : 0 < m → dp = some ⟨b, d * 4, none⟩ ∧ ∃ ad, sp = some ad ∧ ∀ i, i < m → ∀ j, j < 4 → w.cell? (ad.add (i * 4 + j)) = cel4 (h i) j)
    (hk : ∀ w', Hid (Scr w' b n (layF f d m h)) → Hid (w.grownBy w' (some b)) → wpList Tryz.prog ops Q rest (a.put o.dst (goInt m)) w') : wpList Tryz.prog ops Q (o :: rest) a w := by
  refine wpList_plain hgd fun K hK => ?_
  obtain ⟨w', hrun, h1, h2⟩ := run_copy4 w o.type b n f hS d dLen dCap dp sp sLen sCap m h hm hd hpos
  unfold Oper.wp
  simp [execOp, ho, resolve, invoke, builtin, hdv, hsv, hrun, Result.andThen]
  exact hK _ _ (hk w' h1 h2)

theorem wpList_clear4 {w : World} {ops : Array Oper} {rest : List Oper} {o : Oper} {a : Act} {Q : Exit → Act → World → Prop} (hgd : o.guard = none) (dx : Operand)
    (ho : o.op = .call { callee := .builtin .clear, args := #[dx], argTypes := #[35] }) (dp : Option Addr) (m c : Nat) (hdv : a.eval dx = .slice dp m c)
    (b n : Nat) (f : Nat → Cel) (hS : Scr w b n f) (d : Nat) (hd : d + m ≤ n) (hpos : 0 < m → dp = some ⟨b, d * 4, none⟩)
    (hk : ∀ w', Hid (Scr w' b n (clrF f d (d + m))) → Hid (w.grownBy w' (some b)) → wpList Tryz.prog ops Q rest (a.put o.dst (.tuple #[])) w') : wpList Tryz.prog ops Q (o :: rest) a w := by
  refine wpList_plain hgd fun K hK => ?_
  obtain ⟨w', hrun, h1, h2⟩ := run_clear4 w o.type b n f hS d m c dp hd hpos
  unfold Oper.wp
  simp [execOp, ho, resolve, invoke, builtin, hdv, hrun, Result.andThen]
  exact hK _ _ (hk w' h1 h2)

@[reducible] def gzero : Obj := .cells #[.int .i64 0, .int .i64 0, .slice none 0 0, .int .i64 0, .int .i64 0, .int .i64 0, .bool false, .int .i64 0, .int .i64 0] 37

theorem Scr.at {w : World} {b n : Nat} {f : Nat → Cel} (h : Scr w b n f) (i j off : Nat) (hi : i < n) (hj : j < 4) (ho : off = i * 4 + j) : w.cell? ⟨b, off, none⟩ = cel4 (f i) j := by
  obtain ⟨cur, hc, hs, hr⟩ := h
  rw [ho, ← hr i hi j hj]
  simp [World.cell?, hc]

theorem add_at (b o j : Nat) : (⟨b, o, none⟩ : Addr).add j = ⟨b, o + j, none⟩ := by unfold Addr.add; split <;> simp_all

end Go.Proofs.YtpichplhidiokacGreatDoor
