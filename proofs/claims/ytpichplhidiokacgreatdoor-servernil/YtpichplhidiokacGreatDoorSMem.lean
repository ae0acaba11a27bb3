/- A server in memory: its block, its clients' blocks, its lists. -/
import Derived.Test.YtpichplhidiokacGreatDoorSOk
import Derived.Test.YtpichplhidiokacGreatDoorPBase
import Derived.Test.YtpichplhidiokacGreatDoorTSps
import Derived.Test.YtpichplhidiokacGreatDoorDFun
import Derived.Test.YtpichplhidiokacGreatDoorFFeeds
namespace Go.Proofs.YtpichplhidiokacGreatDoor.Sv
open Go.RowKit
open Go.Proofs.YtpichplhidiokacGreatDoor.Tl (CIt colsOf RdT TyT cv)
open Go.Proofs.YtpichplhidiokacGreatDoor.Pt (Vw vlist gall)

/-- Where a server's parts lie. -/
structure Lay where
  sb : Nat
  l : Pt.Lay
  pa : Nat → Option Addr
  pc : Nat → Nat
  cb : Nat → Nat
  ca : Nat → Option Addr
  cc : Nat → Nat

@[reducible] def pcells (s : Ps.PS) (ao : Option Addr) (cap : Nat) : List Value := [.int .i64 s.place, .slice ao s.ps.length cap, .string s.pl, .bool s.lg]
@[reducible] def pval (s : Ps.PS) (ao : Option Addr) (cap : Nat) : Value := .agg (pcells s ao cap).toArray
def pall (S : Srv) (L : Lay) : List Value := pcells (S.ps 0) (L.pa 0) (L.pc 0) ++ pcells (S.ps 1) (L.pa 1) (L.pc 1) ++ pcells (S.ps 2) (L.pa 2) (L.pc 2) ++ pcells (S.ps 3) (L.pa 3) (L.pc 3) ++ pcells (S.ps 4) (L.pa 4) (L.pc 4) ++ pcells (S.ps 5) (L.pa 5) (L.pc 5)
/-- The address of a client; none: it is not here. -/
def cad (S : Srv) (L : Lay) (i : Nat) : Option Addr := if (S.cl i).isSome then some ⟨L.cb i, 0, none⟩ else none
def slist (S : Srv) (L : Lay) : List Value := vlist S.v L.l ++ pall S L ++ [.pointer (cad S L 0), .pointer (cad S L 1), .pointer (cad S L 2), .int .i64 S.acts]
def scells (S : Srv) (L : Lay) : Array Value := (slist S L).toArray
@[reducible] def sbox (S : Srv) (L : Lay) : Obj := .cells (scells S L) 84

@[reducible] def clcells (c : Cl) (ao : Option Addr) (cap : Nat) : Array Value := #[.string (bs c.q), .bool c.lost, .int .i64 c.g.wide, .int .i64 c.g.high, .slice ao c.g.n cap, .int .i64 c.g.row, .int .i64 c.g.col, .int .i64 c.g.ink, .bool c.g.bold, .int .i64 c.g.top, .int .i64 c.g.bottom]
@[reducible] def clbox (c : Cl) (ao : Option Addr) (cap : Nat) : Obj := .cells (clcells c ao cap) 80

theorem tsrv_cell : (84 : TypeId) ≠ 67 := by decide
theorem tsrv_list : (84 : TypeId) ≠ 48 := by decide
theorem tsrv_int : (84 : TypeId) ≠ 3 := by decide
theorem tcl_cell : (80 : TypeId) ≠ 67 := by decide
theorem tcl_list : (80 : TypeId) ≠ 48 := by decide
theorem tcl_int : (80 : TypeId) ≠ 3 := by decide
theorem tsrv_cl : (84 : TypeId) ≠ 80 := by decide

/-- A screen's list: none of no cells, or in a block of cells. -/
def Gl (w : World) (ao : Option Addr) (cap : Nat) (g : Gr) : Prop := (g.n = 0 ∧ ao = none ∧ cap = 0) ∨ ∃ b, ao = some ⟨b, 0, none⟩ ∧ Scr w b g.n g.f ∧ g.n ≤ cap
/-- A parser's numbers. -/
def Pl (w : World) (ao : Option Addr) (cap : Nat) (l : List Int) : Prop := Ps.Own 0 w ao cap l

/-- A server in memory. -/
structure SrvIn (w : World) (S : Srv) (L : Lay) : Prop where
  ok : WkS S
  box : w.heap[L.sb]? = some (sbox S L)
  cols : S.v.cols = colsOf L.l.its
  rd : RdT w L.l.co L.l.its
  ty : TyT w L.l.co L.l.its
  gs : ∀ p, p < 6 → Gl w (L.l.ga p) (L.l.gc p) (S.v.gs p)
  ps : ∀ p, p < 6 → Pl w (L.pa p) (L.pc p) (S.ps p).ps
  cl : ∀ i, i < 3 → ∀ c, S.cl i = some c → w.heap[L.cb i]? = some (clbox c (L.ca i) (L.cc i)) ∧ Gl w (L.ca i) (L.cc i) c.g
  apart : ∀ i j, i < 3 → j < 3 → i ≠ j → (S.cl i).isSome = true → (S.cl j).isSome = true → L.cb i ≠ L.cb j

/-- The blocks that a server writes. -/
def Mut (S : Srv) (L : Lay) (b : Nat) : Prop := b = L.sb ∨ ∃ i, i < 3 ∧ (S.cl i).isSome = true ∧ b = L.cb i

/-- All blocks but these are as they were. -/
structure Kp (M : Nat → Prop) (w w' : World) : Prop where
  os : w'.os = w.os
  tape : w'.tape = w.tape
  output : w'.output = w.output
  size : w.heap.size ≤ w'.heap.size
  block : ∀ b, b < w.heap.size → ¬ M b → w'.heap[b]? = w.heap[b]?

theorem Kp.refl (M : Nat → Prop) (w : World) : Kp M w w := ⟨rfl, rfl, rfl, Nat.le_refl _, fun _ _ _ => rfl⟩
theorem Kp.of_below (M : Nat → Prop) {w w' : World} (h : Below w.heap.size w w') : Kp M w w' := ⟨h.os, h.tape, h.output, h.size, fun b hb _ => h.block b hb⟩
theorem Kp.of_grown {M : Nat → Prop} {w w' : World} {b : Nat} (hb : M b) (h : w.grownBy w' (some b)) : Kp M w w' :=
  ⟨h.os, h.tape, h.output, h.size, fun k hk hm => h.block k hk (fun e => hm (by simp only [Option.some.injEq] at e; rw [e]; exact hb))⟩
theorem Kp.set {M : Nat → Prop} (w : World) {p : Addr} (hp : M p.block) (u : Value) : Kp M w (w.setCell p u) :=
  ⟨rfl, rfl, rfl, by simp, fun b _ hm => Below.heap_setCell _ _ _ _ (fun e => hm (by rw [e]; exact hp))⟩
/-- One behind the other: what the second one writes is what the first one does, or new. -/
theorem Kp.trans {M N : Nat → Prop} {a b c : World} (h : Kp M a b) (k : Kp N b c) (hN : ∀ i, N i → M i ∨ a.heap.size ≤ i) : Kp M a c :=
  ⟨k.os.trans h.os, k.tape.trans h.tape, k.output.trans h.output, Nat.le_trans h.size k.size, fun i hi hm =>
    (k.block i (Nat.lt_of_lt_of_le hi h.size) (fun e => (hN i e).elim hm (fun e => by omega))).trans (h.block i hi hm)⟩
theorem Kp.drew {M : Nat → Prop} {a b : World} (h : Kp M a b) : Kp M a b.drew := ⟨h.os, h.tape, h.output, h.size, h.block⟩
theorem Kp.drewN {M : Nat → Prop} {a b : World} (h : Kp M a b) (n : Nat) : Kp M a (b.drewN n) := ⟨h.os, h.tape, h.output, h.size, h.block⟩
theorem Kp.at {M : Nat → Prop} {w w' : World} (h : Kp M w w') {b : Nat} {o : Obj} (hb : w.heap[b]? = some o) (hm : ¬ M b) : w'.heap[b]? = some o := by
  rw [h.block b (Array.getElem?_eq_some_iff.1 hb).1 hm]; exact hb

/-! A block of another type is none that a server writes. -/
theorem SrvIn.other {w : World} {S : Srv} {L : Lay} (h : SrvIn w S L) {b : Nat} {c : Array Value} {t : TypeId} {fr : Nat × Nat} (hb : w.heap[b]? = some (.cells c t fr)) (h1 : 84 ≠ t) (h2 : 80 ≠ t) : ¬ Mut S L b := by
  rintro (e | ⟨i, hi, hs, e⟩)
  · rw [e, h.box] at hb
    simp only [Option.some.injEq, Obj.cells.injEq] at hb
    exact h1 hb.2.1
  · obtain ⟨x, hx⟩ := Option.isSome_iff_exists.1 hs
    rw [e, (h.cl i hi x hx).1] at hb
    simp only [Option.some.injEq, Obj.cells.injEq] at hb
    exact h2 hb.2.1
theorem SrvIn.mut_lt {w : World} {S : Srv} {L : Lay} (h : SrvIn w S L) {b : Nat} (hb : Mut S L b) : b < w.heap.size := by
  rcases hb with e | ⟨i, hi, hs, e⟩
  · rw [e]; exact (Array.getElem?_eq_some_iff.1 h.box).1
  · obtain ⟨x, hx⟩ := Option.isSome_iff_exists.1 hs
    rw [e]; exact (Array.getElem?_eq_some_iff.1 (h.cl i hi x hx).1).1
theorem SrvIn.sb_cb {w : World} {S : Srv} {L : Lay} (h : SrvIn w S L) {i : Nat} (hi : i < 3) {c : Cl} (hc : S.cl i = some c) : L.sb ≠ L.cb i := by
  intro e
  have h1 := h.box
  rw [e, (h.cl i hi c hc).1] at h1
  simp only [Option.some.injEq, Obj.cells.injEq] at h1
  exact tsrv_cl h1.2.1.symm

/-! Lists outlive what is written elsewhere. -/
theorem Gl.keep {w w' : World} {ao : Option Addr} {cap : Nat} {g : Gr} (h : Gl w ao cap g) (hk : ∀ (b : Nat) (c : Array Value), w.heap[b]? = some (.cells c 67 (0, 0)) → w'.heap[b]? = w.heap[b]?) : Gl w' ao cap g := by
  rcases h with h | ⟨b, ha, hs, hc⟩
  · exact .inl h
  · refine .inr ⟨b, ha, ?_, hc⟩
    obtain ⟨cur, h1, _⟩ := id hs
    exact hs.move (hk b cur h1)
theorem Gl.below {w w' : World} {ao : Option Addr} {cap : Nat} {g : Gr} (h : Gl w ao cap g) (hb : Below w.heap.size w w') : Gl w' ao cap g := h.keep fun b _ hc => hb.block b (Array.getElem?_eq_some_iff.1 hc).1
theorem Gl.rd {w : World} {ao : Option Addr} {cap : Nat} {g : Gr} (h : Gl w ao cap g) : RdS w ao g.n g.f := by
  rcases h with h | ⟨b, ha, hs, _⟩
  · exact .inl h.1
  · rw [ha]; exact hs.rd
theorem Gl.none {w : World} {ao : Option Addr} {cap : Nat} {g : Gr} (h : Gl w ao cap g) : ao = none → g.n = 0 ∧ cap = 0 := by
  intro e
  rcases h with h | ⟨b, ha, _⟩
  · exact ⟨h.1, h.2.2⟩
  · rw [e] at ha; cases ha
theorem Gl.cap {w : World} {ao : Option Addr} {cap : Nat} {g : Gr} (h : Gl w ao cap g) : g.n ≤ cap := by
  rcases h with h | ⟨b, _, _, hc⟩
  · rw [h.1]; exact Nat.zero_le _
  · exact hc
theorem Pl.keep {w w' : World} {ao : Option Addr} {cap : Nat} {l : List Int} (h : Pl w ao cap l) (hk : ∀ (b : Nat) (c : Array Value), w.heap[b]? = some (.cells c 3 (0, 0)) → w'.heap[b]? = w.heap[b]?) : Pl w' ao cap l := by
  refine ⟨h.1, ?_⟩
  rcases h.2 with h0 | ⟨g, c', cur, hv, hbb, hg, rest⟩
  · exact .inl h0
  · exact .inr ⟨g, c', cur, hv, hbb, by rw [hk g cur hg]; exact hg, rest⟩
theorem Pl.rd {w : World} {ao : Option Addr} {cap : Nat} {l : List Int} (h : Pl w ao cap l) : Ps.Rd w ao l := Ps.Own.rd h
theorem Pl.none {w : World} {ao : Option Addr} {cap : Nat} {l : List Int} (h : Pl w ao cap l) : ao = none → l.length = 0 ∧ cap = 0 := by
  intro e
  rcases h.2 with ⟨hv, h0⟩ | ⟨g, c', cur, hv, _⟩
  · simp only [Value.slice.injEq] at hv; exact ⟨h0, hv.2.2⟩
  · simp only [Value.slice.injEq] at hv; rw [e] at hv; cases hv.1
theorem RdT.keep {w w' : World} {co : Option Addr} {its : List CIt} (h : RdT w co its) (ht : TyT w co its) (hk : ∀ (b : Nat) (c : Array Value) (t : TypeId), t = 48 ∨ t = 3 → w.heap[b]? = some (.cells c t (0, 0)) → w'.heap[b]? = w.heap[b]?) : RdT w' co its := by
  refine ⟨fun x hx => ⟨?_, (h.each x hx).2⟩, ?_⟩
  · rcases (h.each x hx).1 with h0 | ⟨b, off, ha, hc⟩
    · exact .inl h0
    · obtain ⟨c, hb⟩ := ht.inner x hx _ ha
      refine .inr ⟨b, off, ha, fun j hj => ?_⟩
      rw [World.cell?_of_block (hk b c 3 (.inr rfl) hb)]
      exact hc j hj
  · rcases h.row with h0 | ⟨b, off, ha, hc⟩
    · exact .inl h0
    · obtain ⟨c, hb⟩ := ht.outer _ ha
      refine .inr ⟨b, off, ha, fun k hk2 => ?_⟩
      rw [World.cell?_of_block (hk b c _ (.inl rfl) hb)]
      exact hc k hk2
theorem TyT.keep {w w' : World} {co : Option Addr} {its : List CIt} (ht : TyT w co its) (hk : ∀ (b : Nat) (c : Array Value) (t : TypeId), t = 48 ∨ t = 3 → w.heap[b]? = some (.cells c t (0, 0)) → w'.heap[b]? = w.heap[b]?) : TyT w' co its :=
  ⟨fun a ha => by obtain ⟨c, hb⟩ := ht.outer a ha; exact ⟨c, by rw [hk _ c _ (.inl rfl) hb]; exact hb⟩, fun x hx a ha => by obtain ⟨c, hb⟩ := ht.inner x hx a ha; exact ⟨c, by rw [hk _ c _ (.inr rfl) hb]; exact hb⟩⟩

/-- The server as it was, in another world. -/
theorem SrvIn.keep {w w' : World} {S : Srv} {L : Lay} (h : SrvIn w S L) {M : Nat → Prop} (k : Kp M w w') (hM : ∀ b, M b → b < w.heap.size → (∃ (c : Array Value) (t : TypeId) (fr : Nat × Nat), w.heap[b]? = some (.cells c t fr) ∧ (t = 84 ∨ t = 80)) ∧ ¬ Mut S L b) : SrvIn w' S L := by
  have key : ∀ (b : Nat) (c : Array Value) (t : TypeId), t ≠ 84 → t ≠ 80 → w.heap[b]? = some (.cells c t (0, 0)) → w'.heap[b]? = w.heap[b]? := fun b c t h1 h2 hb => by
    refine k.block b (Array.getElem?_eq_some_iff.1 hb).1 (fun hm => ?_)
    obtain ⟨⟨c', t', fr, hc, ht⟩, _⟩ := hM b hm (Array.getElem?_eq_some_iff.1 hb).1
    rw [hb] at hc
    simp only [Option.some.injEq, Obj.cells.injEq] at hc
    rw [hc.2.1] at h1 h2
    exact ht.elim h1 h2
  have hm : ∀ b, Mut S L b → w'.heap[b]? = w.heap[b]? := fun b hb => k.block b (h.mut_lt hb) (fun e => (hM b e (h.mut_lt hb)).2 hb)
  have hT : ∀ (b : Nat) (c : Array Value) (t : TypeId), t = 48 ∨ t = 3 → w.heap[b]? = some (.cells c t (0, 0)) → w'.heap[b]? = w.heap[b]? := fun b c t ht hb => by
    rcases ht with e | e
    · exact key b c t (by rw [e]; decide) (by rw [e]; decide) hb
    · exact key b c t (by rw [e]; decide) (by rw [e]; decide) hb
  exact ⟨h.ok, by rw [hm _ (.inl rfl)]; exact h.box, h.cols, RdT.keep h.rd h.ty hT, TyT.keep h.ty hT, fun p hp => (h.gs p hp).keep fun b c hb => key b c _ (by decide) (by decide) hb,
    fun p hp => (h.ps p hp).keep fun b c hb => key b c 3 (by decide) (by decide) hb,
    fun i hi c hc => ⟨by rw [hm _ (.inr ⟨i, hi, by rw [hc]; rfl, rfl⟩)]; exact (h.cl i hi c hc).1, (h.cl i hi c hc).2.keep fun b c hb => key b c _ (by decide) (by decide) hb⟩, h.apart⟩
theorem SrvIn.below {w w' : World} {S : Srv} {L : Lay} (h : SrvIn w S L) (hb : Below w.heap.size w w') : SrvIn w' S L :=
  h.keep (M := fun _ => False) (Kp.of_below _ hb) (fun _ e => e.elim)
theorem SrvIn.alloc {w : World} {S : Srv} {L : Lay} (h : SrvIn w S L) (o : Obj) : SrvIn (w.alloc o) S L := h.below (below1 w o)
theorem SrvIn.drewN {w : World} {S : Srv} {L : Lay} (h : SrvIn w S L) (n : Nat) : SrvIn (w.drewN n) S L := h.below (below_drewN (Below.refl _ _) n)
theorem SrvIn.drew {w : World} {S : Srv} {L : Lay} (h : SrvIn w S L) : SrvIn w.drew S L := h.below ((Below.refl _ _).drew)

/-- The types of a server's blocks. -/
def Ours (t : TypeId) : Prop := t = 84 ∨ t = 80 ∨ t = 67 ∨ t = 48 ∨ t = 3
/-- The server as it was, where its blocks are. -/
theorem SrvIn.same {w w' : World} {S : Srv} {L : Lay} (h : SrvIn w S L) (hk : ∀ (b : Nat) (x : Array Value) (t : TypeId), Ours t → w.heap[b]? = some (.cells x t (0, 0)) → w'.heap[b]? = w.heap[b]?) : SrvIn w' S L := by
  have hT : ∀ (b : Nat) (x : Array Value) (t : TypeId), t = 48 ∨ t = 3 → w.heap[b]? = some (.cells x t (0, 0)) → w'.heap[b]? = w.heap[b]? := fun b x t ht hb => hk b x t (ht.elim (fun e => .inr (.inr (.inr (.inl e)))) (fun e => .inr (.inr (.inr (.inr e))))) hb
  exact ⟨h.ok, by rw [hk _ _ _ (.inl rfl) h.box]; exact h.box, h.cols, RdT.keep h.rd h.ty hT, TyT.keep h.ty hT, fun p hp => (h.gs p hp).keep fun b c hb => hk b c _ (.inr (.inr (.inl rfl))) hb,
    fun p hp => (h.ps p hp).keep fun b c hb => hk b c 3 (.inr (.inr (.inr (.inr rfl)))) hb,
    fun i hi c hc => ⟨by rw [hk _ _ _ (.inr (.inl rfl)) (h.cl i hi c hc).1]; exact (h.cl i hi c hc).1, (h.cl i hi c hc).2.keep fun b c hb => hk b c _ (.inr (.inr (.inl rfl))) hb⟩, h.apart⟩
/-- A store into a block of another type. -/
theorem SrvIn.set {w : World} {S : Srv} {L : Lay} (h : SrvIn w S L) {B : Nat} {c : Array Value} {t : TypeId} {fr : Nat × Nat} (hb : w.heap[B]? = some (.cells c t fr)) (ht : ¬ Ours t) (j : Nat) (u : Value) : SrvIn (w.setCell ⟨B, j, none⟩ u) S L :=
  h.same fun b x t' ht' hx => Below.heap_setCell _ _ _ _ (fun e => by
    simp only at e
    subst e
    rw [hb] at hx
    simp only [Option.some.injEq, Obj.cells.injEq] at hx
    exact ht (hx.2.1 ▸ ht'))

/-- Where the server goes. -/
structure SrvTo (w : World) (S : Srv) (L : Lay) (S' : Srv) (L' : Lay) (w' : World) : Prop where
  srv : SrvIn w' S' L'
  sb : L'.sb = L.sb
  kp : Kp (Mut S L) w w'
  cb : ∀ i, i < 3 → (S'.cl i).isSome = true → ((S.cl i).isSome = true ∧ L'.cb i = L.cb i) ∨ w.heap.size ≤ L'.cb i

theorem SrvTo.mut {w : World} {S : Srv} {L : Lay} {S' : Srv} {L' : Lay} {w' : World} (h : SrvTo w S L S' L' w') {b : Nat} (hb : Mut S' L' b) : Mut S L b ∨ w.heap.size ≤ b := by
  rcases hb with e | ⟨i, hi, hs, e⟩
  · exact .inl (.inl (by rw [e, h.sb]))
  · rcases h.cb i hi hs with ⟨h1, h2⟩ | h1
    · exact .inl (.inr ⟨i, hi, h1, by rw [e, h2]⟩)
    · exact .inr (by rw [e]; exact h1)
theorem SrvTo.refl {w : World} {S : Srv} {L : Lay} (h : SrvIn w S L) : SrvTo w S L S L w := ⟨h, rfl, Kp.refl _ _, fun _ _ hs => .inl ⟨hs, rfl⟩⟩
theorem SrvTo.trans {w w1 w2 : World} {S S1 S2 : Srv} {L L1 L2 : Lay} (h : SrvTo w S L S1 L1 w1) (k : SrvTo w1 S1 L1 S2 L2 w2) : SrvTo w S L S2 L2 w2 := by
  refine ⟨k.srv, k.sb.trans h.sb, h.kp.trans k.kp (fun i hi => h.mut hi), fun i hi hs => ?_⟩
  have hsz := h.kp.size
  rcases k.cb i hi hs with ⟨h1, h2⟩ | h1
  · rcases h.cb i hi h1 with ⟨h3, h4⟩ | h3
    · exact .inl ⟨h3, h2.trans h4⟩
    · exact .inr (by rw [h2]; exact h3)
  · exact .inr (by omega)
/-- Ahead of it, and behind it, nothing of the server was touched. -/
theorem SrvTo.from {w w1 w2 : World} {S S2 : Srv} {L L2 : Lay} (hb : Below w.heap.size w w1) (k : SrvTo w1 S L S2 L2 w2) : SrvTo w S L S2 L2 w2 :=
  ⟨k.srv, k.sb, (Kp.of_below _ hb).trans k.kp (fun _ hi => .inl hi), fun i hi hs => (k.cb i hi hs).elim .inl (fun e => .inr (by have := hb.size; omega))⟩
theorem SrvTo.later {w w1 w2 : World} {S S2 : Srv} {L L2 : Lay} (k : SrvTo w S L S2 L2 w1) (hb : Below w1.heap.size w1 w2) : SrvTo w S L S2 L2 w2 :=
  ⟨k.srv.below hb, k.sb, k.kp.trans (N := fun _ => False) (Kp.of_below _ hb) (fun _ e => e.elim), k.cb⟩

theorem SrvTo.set {w w1 : World} {S S2 : Srv} {L L2 : Lay} (k : SrvTo w S L S2 L2 w1) {B : Nat} {c : Array Value} {t : TypeId} {fr : Nat × Nat} (hb : w1.heap[B]? = some (.cells c t fr)) (ht : ¬ Ours t) (hB : w.heap.size ≤ B) (j : Nat) (u : Value) : SrvTo w S L S2 L2 (w1.setCell ⟨B, j, none⟩ u) :=
  ⟨k.srv.set hb ht j u, k.sb, k.kp.trans (N := fun b => b = B) (Kp.set (M := fun b => b = B) w1 (p := ⟨B, j, none⟩) rfl u) (fun i e => .inr (by rw [e]; exact hB)), k.cb⟩

/-! What is read off the server's block. -/
theorem slist_length (S : Srv) (L : Lay) : (slist S L).length = 86 := rfl
theorem scells_size (S : Srv) (L : Lay) : (scells S L).size = 86 := rfl
theorem pall_at (S : Srv) (L : Lay) (p j : Nat) (hp : p < 6) (hj : j < 4) : (pall S L)[p * 4 + j]? = (pcells (S.ps p) (L.pa p) (L.pc p))[j]? := by
  have h1 : p = 0 ∨ p = 1 ∨ p = 2 ∨ p = 3 ∨ p = 4 ∨ p = 5 := by omega
  have h2 : j = 0 ∨ j = 1 ∨ j = 2 ∨ j = 3 := by omega
  rcases h1 with rfl | rfl | rfl | rfl | rfl | rfl <;> rcases h2 with rfl | rfl | rfl | rfl <;> rfl
theorem scells_view (S : Srv) (L : Lay) (j : Nat) (hj : j < 58) : (scells S L)[j]? = (vlist S.v L.l)[j]? := by
  show (slist S L).toArray[j]? = _
  rw [List.getElem?_toArray, slist, List.append_assoc, List.getElem?_append_left (by rw [Pt.vlist_length]; exact hj)]
theorem scells_par (S : Srv) (L : Lay) (p j : Nat) (hp : p < 6) (hj : j < 4) : (scells S L)[58 + (p * 4 + j)]? = (pcells (S.ps p) (L.pa p) (L.pc p))[j]? := by
  show (slist S L).toArray[58 + (p * 4 + j)]? = _
  rw [List.getElem?_toArray, slist, List.append_assoc, List.getElem?_append_right (by rw [Pt.vlist_length]; omega), Pt.vlist_length, List.getElem?_append_left (by show _ < 24; omega)]
  have : 58 + (p * 4 + j) - 58 = p * 4 + j := by omega
  rw [this]
  exact pall_at S L p j hp hj
theorem scells_cl (S : Srv) (L : Lay) (i : Nat) (hi : i < 3) : (scells S L)[82 + i]? = some (.pointer (cad S L i)) := by
  have : i = 0 ∨ i = 1 ∨ i = 2 := by omega
  rcases this with rfl | rfl | rfl <;> rfl
theorem scells_acts (S : Srv) (L : Lay) : (scells S L)[85]? = some (.int .i64 S.acts) := rfl

theorem SrvIn.frozen {w : World} {S : Srv} {L : Lay} (h : SrvIn w S L) (j : Nat) : w.frozen? ⟨L.sb, j, none⟩ = false := frozen_of_row w L.sb j _ _ h.box
theorem SrvIn.cell {w : World} {S : Srv} {L : Lay} (h : SrvIn w S L) (j : Nat) : w.cell? ⟨L.sb, j, none⟩ = (scells S L)[j]? := cell_of_row w L.sb j _ _ _ h.box
theorem SrvIn.acts {w : World} {S : Srv} {L : Lay} (h : SrvIn w S L) : w.cell? ⟨L.sb, 85, none⟩ = some (.int .i64 S.acts) := (h.cell 85).trans (scells_acts S L)
theorem SrvIn.ptr {w : World} {S : Srv} {L : Lay} (h : SrvIn w S L) (i : Nat) (hi : i < 3) : w.cell? ⟨L.sb, 82 + i, none⟩ = some (.pointer (cad S L i)) := (h.cell _).trans (scells_cl S L i hi)
theorem SrvIn.tiles {w : World} {S : Srv} {L : Lay} (h : SrvIn w S L) : w.cell? ⟨L.sb, 0, none⟩ = some (.slice L.l.co L.l.its.length L.l.cap) := (h.cell 0).trans rfl
theorem SrvIn.sides {w : World} {S : Srv} {L : Lay} (h : SrvIn w S L) : w.cell? ⟨L.sb, 55, none⟩ = some (.int .i64 S.v.wide) ∧ w.cell? ⟨L.sb, 56, none⟩ = some (.int .i64 S.v.high) ∧ w.cell? ⟨L.sb, 57, none⟩ = some (.int .i64 S.v.focus) :=
  ⟨(h.cell 55).trans rfl, (h.cell 56).trans rfl, (h.cell 57).trans rfl⟩
theorem SrvIn.view {w : World} {S : Srv} {L : Lay} (h : SrvIn w S L) : w.rangeAt L.sb 0 (vlist S.v L.l) := fun j x hx => by
  have hj : j < 58 := (List.getElem?_eq_some_iff.1 hx).1
  rw [Nat.zero_add, h.cell j, scells_view S L j hj]
  exact hx
theorem SrvIn.grid {w : World} {S : Srv} {L : Lay} (h : SrvIn w S L) (p : Nat) (hp : p < 6) : w.rangeAt L.sb (1 + p * 9) (gcells (S.v.gs p) (L.l.ga p) (L.l.gc p)).toList := fun j x hx => by
  have hj : j < 9 := (List.getElem?_eq_some_iff.1 hx).1
  have e : 1 + p * 9 + j = (p * 9 + j) + 1 := by omega
  rw [h.cell, scells_view S L _ (by omega), e]
  show (gall S.v L.l ++ _)[p * 9 + j]? = _
  rw [List.getElem?_append_left (by rw [Pt.gall_length]; omega), Pt.gall_at S.v L.l p j hp hj]
  simpa using hx
theorem SrvIn.par {w : World} {S : Srv} {L : Lay} (h : SrvIn w S L) (p : Nat) (hp : p < 6) : w.rangeAt L.sb (58 + p * 4) (pcells (S.ps p) (L.pa p) (L.pc p)) := fun j x hx => by
  have hj : j < 4 := (List.getElem?_eq_some_iff.1 hx).1
  rw [h.cell, show 58 + p * 4 + j = 58 + (p * 4 + j) by omega, scells_par S L p j hp hj]
  exact hx
theorem SrvIn.there {w : World} {S : Srv} {L : Lay} (h : SrvIn w S L) (o n : Nat) (hn : o + n ≤ 86) : w.there L.sb o n := fun j hj => by
  have hlt : o + j < (scells S L).size := by rw [scells_size]; omega
  refine ⟨?_, h.frozen _⟩
  rw [h.cell, Array.getElem?_eq_getElem hlt]
  rfl

/-- What is read as a view. -/
theorem SrvIn.rdV {w : World} {S : Srv} {L : Lay} (h : SrvIn w S L) : Pt.RdV w S.v L.l := by
  have h6 := Tl.good_len h.ok.t
  have hl : L.l.its.length ≤ 6 := by rw [h.cols] at h6; simpa using h6
  have h3 : ∀ x ∈ L.l.its, x.1.length ≤ 3 := fun x hx => (h.ok.t.tall x.1 (by rw [h.cols]; exact List.mem_map.2 ⟨x, hx, rfl⟩)).2
  refine ⟨h.cols, h.rd, fun p hp => (h.gs p hp).rd, by omega, fun x hx => by have := h3 x hx; omega, fun p hp => ?_, ?_⟩
  · rcases h.ok.grid p hp with e | e
    · rw [e]; show 0 ≤ _; omega
    · obtain ⟨q1, q2, _⟩ := e.nums
      omega
  · have := Tl.nodup_le S.v.cols.flatten [0, 1, 2, 3, 4, 5] h.ok.t.once (fun p hp => by
      have := h.ok.t.pane p hp
      simp only [Tl.paneB, decide_eq_true_eq] at this
      have : p = 0 ∨ p = 1 ∨ p = 2 ∨ p = 3 ∨ p = 4 ∨ p = 5 := by omega
      simpa using this)
    simp only [List.length_cons, List.length_nil] at this
    omega

end Go.Proofs.YtpichplhidiokacGreatDoor.Sv
