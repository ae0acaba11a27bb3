/- A pen in memory: its box, the bytes that it has written, its screen's list; what a call of one of its own leaves as it was. -/
import Derived.Test.YtpichplhidiokacGreatDoorDMach
import Derived.Test.YtpichplhidiokacGreatDoorGNew
import Derived.Lib.AppendStr
namespace Go.Proofs.YtpichplhidiokacGreatDoor
open Go.RowKit

def bytesV (l : List UInt8) : List Value := l.map fun b => Value.int .u8 b.toNat
theorem bytesV_append (l m : List UInt8) : bytesV (l ++ m) = bytesV l ++ bytesV m := List.map_append
theorem bytesV_str (s : ByteArray) : Lib.strCells s = bytesV s.data.toList := rfl

def blkD (ao : Option Addr) : Option Nat := ao.map (·.block)
theorem ownBlock_D (ao : Option Addr) (n c : Nat) : Value.ownBlock (.slice ao n c) = blkD ao := by cases ao <;> rfl

/-- A pen's box: its ten cells. -/
@[reducible] def pcells (n : Nat) (oo : Option Addr) (oc : Nat) (g : Gr) (b cap : Nat) : Array Value :=
  #[.slice oo n oc, .int .i64 g.wide, .int .i64 g.high, .slice (some ⟨b, 0, none⟩) g.n cap, .int .i64 g.row, .int .i64 g.col, .int .i64 g.ink, .bool g.bold, .int .i64 g.top, .int .i64 g.bottom]
@[reducible] def pbox (n : Nat) (oo : Option Addr) (oc : Nat) (g : Gr) (b cap : Nat) : Obj := .cells (pcells n oo oc g b cap) 169

/-- The pen's box lies at pb, its screen's list at b, its bytes at 'oo'. -/
structure PenIn (w : World) (pb b cap : Nat) (oo : Option Addr) (oc : Nat) (p : Pen) : Prop where
  box : w.heap[pb]? = some (pbox p.out.length oo oc p.g b cap)
  own : w.ownsRow 0 5 1 (.slice oo p.out.length oc) p.out.length (bytesV p.out)
  scr : Scr w b p.g.n p.g.f

theorem PenIn.lt {w : World} {pb b cap : Nat} {oo : Option Addr} {oc : Nat} {p : Pen} (h : PenIn w pb b cap oo oc p) : pb < w.heap.size := (Array.getElem?_eq_some_iff.1 h.box).1
theorem PenIn.blt {w : World} {pb b cap : Nat} {oo : Option Addr} {oc : Nat} {p : Pen} (h : PenIn w pb b cap oo oc p) : b < w.heap.size := h.scr.lt
theorem PenIn.olt {w : World} {pb b cap : Nat} {oo : Option Addr} {oc : Nat} {p : Pen} (h : PenIn w pb b cap oo oc p) {k : Nat} (hk : blkD oo = some k) : k < w.heap.size :=
  (h.own.lt k (by rw [ownBlock_D]; exact hk)).2

theorem ne_tag {w : World} {a b : Nat} {c d : Array Value} {t u : TypeId} {x y : Nat × Nat} (ha : w.heap[a]? = some (.cells c t x)) (hb : w.heap[b]? = some (.cells d u y)) (h : t ≠ u) : a ≠ b := by
  rintro rfl
  rw [ha] at hb
  simp only [Option.some.injEq, Obj.cells.injEq] at hb
  exact h hb.2.1

theorem tagPC : (169 : TypeId) ≠ 67 := by decide
theorem tagBC : (5 : TypeId) ≠ 67 := by decide
theorem tagBP : (5 : TypeId) ≠ 169 := by decide

theorem PenIn.n1 {w : World} {pb b cap : Nat} {oo : Option Addr} {oc : Nat} {p : Pen} (h : PenIn w pb b cap oo oc p) : pb ≠ b := by
  obtain ⟨cur, hc, _⟩ := h.scr
  exact ne_tag h.box hc tagPC
theorem own_tag {w : World} {oo : Option Addr} {n oc base : Nat} {xs : List Value} (h : w.ownsRow base 5 1 (.slice oo n oc) n xs) {k : Nat} (hk : blkD oo = some k) : ∃ cur, w.heap[k]? = some (.cells cur 5 (0, 0)) := by
  rcases h.2 with ⟨hv, _⟩ | ⟨g, c, cur, hv, _, hg, _⟩
  · simp only [Value.slice.injEq] at hv
    rw [hv.1] at hk
    simp [blkD] at hk
  · simp only [Value.slice.injEq] at hv
    rw [hv.1] at hk
    simp only [blkD, Option.map_some, Option.some.injEq] at hk
    subst hk
    exact ⟨cur, hg⟩
theorem PenIn.n2 {w : World} {pb b cap : Nat} {oo : Option Addr} {oc : Nat} {p : Pen} (h : PenIn w pb b cap oo oc p) : blkD oo ≠ some pb := fun e => by
  obtain ⟨cur, hc⟩ := own_tag h.own e
  exact ne_tag hc h.box tagBP rfl
theorem PenIn.n3 {w : World} {pb b cap : Nat} {oo : Option Addr} {oc : Nat} {p : Pen} (h : PenIn w pb b cap oo oc p) : blkD oo ≠ some b := fun e => by
  obtain ⟨cur, hc⟩ := own_tag h.own e
  obtain ⟨cur2, hc2, _⟩ := h.scr
  exact ne_tag hc hc2 tagBC rfl

/-- What a call of the pen's own leaves: all but the pen's box, its screen's list, its bytes; and where the bytes lie now. -/
structure Kept (w w' : World) (pb b : Nat) (oo oo' : Option Addr) : Prop where
  os : w'.os = w.os
  tape : w'.tape = w.tape
  output : w'.output = w.output
  size : w.heap.size ≤ w'.heap.size
  block : ∀ k, k < w.heap.size → k ≠ pb → k ≠ b → blkD oo ≠ some k → w'.heap[k]? = w.heap[k]?
  fresh : blkD oo' = blkD oo ∨ ∃ k, blkD oo' = some k ∧ w.heap.size ≤ k

theorem Kept.refl (w : World) (pb b : Nat) (oo : Option Addr) : Kept w w pb b oo oo := ⟨rfl, rfl, rfl, Nat.le_refl _, fun _ _ _ _ _ => rfl, .inl rfl⟩
theorem Kept.trans {w1 w2 w3 : World} {pb b : Nat} {o1 o2 o3 : Option Addr} (h : Kept w1 w2 pb b o1 o2) (k : Kept w2 w3 pb b o2 o3) : Kept w1 w3 pb b o1 o3 := by
  refine ⟨k.os.trans h.os, k.tape.trans h.tape, k.output.trans h.output, Nat.le_trans h.size k.size, fun i hi h1 h2 h3 => ?_, ?_⟩
  · refine (k.block i (Nat.lt_of_lt_of_le hi h.size) h1 h2 ?_).trans (h.block i hi h1 h2 h3)
    rcases h.fresh with e | ⟨j, e, hj⟩
    · rw [e]; exact h3
    · rw [e]; simp; omega
  · rcases k.fresh with e | ⟨j, e, hj⟩
    · rw [e]; exact h.fresh
    · exact .inr ⟨j, e, Nat.le_trans h.size hj⟩
theorem Kept.below {w w' : World} (pb b : Nat) (oo : Option Addr) (h : Below w.heap.size w w') : Kept w w' pb b oo oo := ⟨h.os, h.tape, h.output, h.size, fun k hk _ _ _ => h.block k hk, .inl rfl⟩
/-- The other way: what was there ahead of the pen is as it was. -/
theorem Kept.toBelow {w w' : World} {pb b B : Nat} {oo oo' : Option Addr} (h : Kept w w' pb b oo oo') (h1 : B ≤ pb) (h2 : B ≤ b) (h3 : ∀ k, blkD oo = some k → B ≤ k) (hB : B ≤ w.heap.size) : Below B w w' :=
  ⟨h.os, h.tape, h.output, h.size, fun k hk => h.block k (by omega) (by omega) (by omega) (fun e => by have := h3 k e; omega)⟩

theorem PenIn.later {w w' : World} {pb b cap : Nat} {oo : Option Addr} {oc : Nat} {p : Pen} (h : PenIn w pb b cap oo oc p) (hb : Below w.heap.size w w') : PenIn w' pb b cap oo oc p :=
  ⟨below_block hb h.box h.lt, h.own.kept (Below.toGrown hb none) (by cases hv : Value.ownBlock (.slice oo p.out.length oc) <;> simp), h.scr.below hb h.blt⟩

/-- The ending of a call of the pen's. -/
def PenTo (w : World) (pb b cap : Nat) (oo : Option Addr) (q : Pen) (w' : World) : Prop := ∃ oo' oc', PenIn w' pb b cap oo' oc' q ∧ Kept w w' pb b oo oo'

theorem PenIn.stay {w w' : World} {pb b cap : Nat} {oo : Option Addr} {oc : Nat} {p : Pen} (h : PenIn w pb b cap oo oc p) (hb : Below w.heap.size w w') : PenTo w pb b cap oo p w' := ⟨oo, oc, h.later hb, Kept.below pb b oo hb⟩
theorem PenTo.trans {w w1 w2 : World} {pb b cap : Nat} {oo o1 : Option Addr} {q : Pen} (h : Kept w w1 pb b oo o1) (k : PenTo w1 pb b cap o1 q w2) : PenTo w pb b cap oo q w2 := by
  obtain ⟨o2, c2, a, c⟩ := k
  exact ⟨o2, c2, a, h.trans c⟩

/-! The bytes grow. -/
theorem info5 : (Tryz.prog.info? 5).map (fun i => (i.zero, i.size, i.bytes)) = some (some (.int .u8 0), 1, 1) := by kernel_rfl

theorem ok_inj {α : Type} {a b : α} {w1 w2 : World} (h : (Result.ok a w1 : Result α) = .ok b w2) : a = b ∧ w1 = w2 := by
  simpa using h

/-- 'append' of a text's bytes onto bytes of one's own: what comes, and where it lies. -/
theorem run_append_str (w : World) (ty : TypeId) (oo : Option Addr) (n oc : Nat) (xs : List Value) (hown : w.ownsRow 0 5 1 (.slice oo n oc) n xs) (s : ByteArray) (hb : n + s.size ≤ 1048576) :
    ∃ oo' oc' w', (Builtin.append_ #[167, 9] ty #[.slice oo n oc, .string s]).run Tryz.prog w = .ok (.slice oo' (n + s.size) oc') w' ∧ w'.ownsRow 0 5 1 (.slice oo' (n + s.size) oc') (n + s.size) (xs ++ Lib.strCells s) ∧
      w.grownBy w' (blkD oo) ∧ (blkD oo' = blkD oo ∨ ∃ k, blkD oo' = some k ∧ w.heap.size ≤ k) := by
  obtain ⟨i, hi, hz0, hz1, hz2⟩ := info_parts info5
  have hm : n + s.size ≤ maxLen := by unfold maxLen; omega
  rcases hown.2 with ⟨hv, h0⟩ | ⟨g, cap, cur, hv, _, hg, hnc, _, hcs, htake⟩
  · simp only [Value.slice.injEq] at hv
    obtain ⟨rfl, rfl, rfl⟩ := hv
    have hx : xs = [] := List.length_eq_zero_iff.1 (by rw [hown.1])
    subst hx
    obtain ⟨v', w', hr, h2, h3, _⟩ := Lib.run_append_own_string (P := Tryz.prog) w w.heap.size 167 9 ty 5 i Tryz.underlying167 Tryz.underlying9 hi hz0 hz1 hz2 (.slice none 0 0) 0 [] (World.ownsRow_nil _ _ _ _) s hm (by omega) (Nat.le_refl _)
    rcases h2.2 with ⟨rfl, hn⟩ | ⟨g, cap, cur, rfl, hbg, hg, rest⟩
    · rw [hn] at h2 ⊢
      exact ⟨none, 0, w', hr, ⟨h2.1, .inl ⟨rfl, rfl⟩⟩, h3, .inl rfl⟩
    · exact ⟨some ⟨g, 0, none⟩, cap, w', hr, ⟨h2.1, .inr ⟨g, cap, cur, rfl, Nat.zero_le _, hg, rest⟩⟩, h3, .inr ⟨g, rfl, hbg⟩⟩
  · simp only [Value.slice.injEq] at hv
    obtain ⟨rfl, _, rfl⟩ := hv
    obtain ⟨v', w', hr, h2, h3, _⟩ := Lib.run_append_own_string (P := Tryz.prog) w 0 167 9 ty 5 i Tryz.underlying167 Tryz.underlying9 hi hz0 hz1 hz2 (.slice (some ⟨g, 0, none⟩) n oc) n xs hown s hm (by omega) (Nat.zero_le _)
    by_cases hroom : n + s.size ≤ oc
    · have hr2 := Lib.run_append_room_string (P := Tryz.prog) w 167 9 ty 5 i Tryz.underlying167 Tryz.underlying9 hi hz1 g n oc cur hg s hroom (by omega)
      rw [hr] at hr2
      obtain ⟨rfl, _⟩ := ok_inj hr2
      exact ⟨_, _, w', hr, h2, h3, .inl rfl⟩
    · have holds : ∀ j u, xs[j]? = some u → w.cell? ((⟨g, 0, none⟩ : Addr).add j) = some u := hown.cells (g := g) rfl
      have hr2 := Lib.run_append_grow_string (P := Tryz.prog) w 167 9 ty 5 i (.int .u8 0) Tryz.underlying167 Tryz.underlying9 hi hz0 ⟨g, 0, none⟩ n oc xs (by rw [hz1]; simpa using hown.1) holds s (by omega) (by omega) (by rw [hz2]; exact growslice_fits (by omega) (by omega))
      rw [hr] at hr2
      obtain ⟨rfl, _⟩ := ok_inj hr2
      exact ⟨_, _, w', hr, h2, h3, .inr ⟨_, rfl, Nat.le_refl _⟩⟩

/-- At the operation, for the walk. -/
theorem wpList_append_str {w : World} {ops : Array Oper} {rest : List Oper} {o : Oper} {a : Act} {Q : Exit → Act → World → Prop} (hgd : o.guard = none) (sl x : Operand)
    (ho : o.op = .call { callee := .builtin .append, args := #[sl, x], argTypes := #[167, 9] })
    (oo : Option Addr) (n oc : Nat) (xs : List Value) (hs : a.eval sl = .slice oo n oc) (hown : w.ownsRow 0 5 1 (.slice oo n oc) n xs) (s : ByteArray) (hx : a.eval x = .string s) (hb : n + s.size ≤ 1048576)
    (h : ∀ oo' oc' w', Hid (w'.ownsRow 0 5 1 (.slice oo' (n + s.size) oc') (n + s.size) (xs ++ Lib.strCells s) ∧ w.grownBy w' (blkD oo) ∧ (blkD oo' = blkD oo ∨ ∃ k, blkD oo' = some k ∧ w.heap.size ≤ k)) → wpList Tryz.prog ops Q rest (a.put o.dst (.slice oo' (n + s.size) oc')) w') : wpList Tryz.prog ops Q (o :: rest) a w := by
  refine wpList_plain hgd fun K hK => ?_
  obtain ⟨oo', oc', w', hr, h2⟩ := run_append_str w o.type oo n oc xs hown s hb
  unfold Oper.wp execOp
  simp only [ho, resolve, invoke, builtin, Sem.run_bind, Sem.run_pure, Result.andThen_ok, List.map_toArray, List.map_cons, List.map_nil, hs, hx, hr]
  exact hK _ _ (h oo' oc' w' h2)

/-- A block of ten cells: what the walk reads off it. -/
theorem ten {w : World} {b : Nat} {c0 c1 c2 c3 c4 c5 c6 c7 c8 c9 : Value} {t : TypeId} (h : w.heap[b]? = some (.cells #[c0, c1, c2, c3, c4, c5, c6, c7, c8, c9] t (0, 0))) :
    (w.cell? ⟨b, 0, none⟩ = some c0 ∧ w.cell? ⟨b, 1, none⟩ = some c1 ∧ w.cell? ⟨b, 2, none⟩ = some c2 ∧ w.cell? ⟨b, 3, none⟩ = some c3 ∧ w.cell? ⟨b, 4, none⟩ = some c4 ∧ w.cell? ⟨b, 5, none⟩ = some c5 ∧ w.cell? ⟨b, 6, none⟩ = some c6 ∧ w.cell? ⟨b, 7, none⟩ = some c7 ∧ w.cell? ⟨b, 8, none⟩ = some c8 ∧ w.cell? ⟨b, 9, none⟩ = some c9) ∧
    (∀ j, w.frozen? ⟨b, j, none⟩ = false) :=
  ⟨⟨cell_of_row w b 0 _ t _ h, cell_of_row w b 1 _ t _ h, cell_of_row w b 2 _ t _ h, cell_of_row w b 3 _ t _ h, cell_of_row w b 4 _ t _ h, cell_of_row w b 5 _ t _ h, cell_of_row w b 6 _ t _ h, cell_of_row w b 7 _ t _ h, cell_of_row w b 8 _ t _ h, cell_of_row w b 9 _ t _ h⟩, fun j => frozen_of_row w b j _ t h⟩

/-- A store into a block. -/
theorem set_cells {w : World} {b j : Nat} {c : Array Value} {t : TypeId} (h : w.heap[b]? = some (.cells c t (0, 0))) (u : Value) : (w.setCell ⟨b, j, none⟩ u).heap[b]? = some (.cells (c.setIfInBounds j u) t (0, 0)) :=
  heap_setCell_same w b j _ t u h

end Go.Proofs.YtpichplhidiokacGreatDoor
