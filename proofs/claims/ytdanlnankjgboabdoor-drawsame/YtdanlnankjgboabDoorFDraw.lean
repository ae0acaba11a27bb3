/- Bytes that draw: Fed from the ground they lead back to it, and what they tell, done on a screen, makes another one. -/
import Derived.Test.YtdanlnankjgboabDoorFSeq
import Derived.Test.YtdanlnankjgboabDoorFEv
import Derived.Test.YtdanlnankjgboabDoorGDraw
namespace Go.Proofs.YtdanlnankjgboabDoor

/-- The bytes make of the one screen the other. -/
def Sends (g : Gr) (l : List UInt8) (x : Gr) : Prop := ∃ es, Ps.Word l es ∧ Did g (es.map toE) x

theorem sends_nil (g : Gr) : Sends g [] g := ⟨[], Ps.word_nil, did_nil g⟩
theorem Sends.append {g x y : Gr} {l m : List UInt8} (h : Sends g l x) (k : Sends x m y) : Sends g (l ++ m) y := by
  obtain ⟨es, h1, h2⟩ := h
  obtain ⟨fs, k1, k2⟩ := k
  exact ⟨es ++ fs, h1.append k1, by rw [List.map_append]; exact h2.append k2⟩
theorem Sends.ok {g x : Gr} {l : List UInt8} (h : Sends g l x) (ok : OkG g) : OkG x ∧ x.wide = g.wide ∧ x.high = g.high ∧ x.n = g.n := by
  obtain ⟨es, _, h2⟩ := h
  exact did_ok h2 ok
/-- What is told of the bytes makes the screen. -/
theorem Sends.all {g x : Gr} {l : List UInt8} (h : Sends g l x) : Ps.feedS Ps.ground l = Ps.ground ∧ allG g ((Ps.feedE Ps.ground l).map toE) = (x, 0) := by
  obtain ⟨es, h1, h2⟩ := h
  exact ⟨h1.back, by rw [h1.told]; exact h2⟩

theorem sends_move {g : Gr} (ok : OkG g) (r c : Nat) (h1 : (r : Int) < g.high) (h2 : (c : Int) < g.wide) : Sends g (27 :: 91 :: (Ps.nums [r + 1, c + 1] ++ [72])) { g with row := r, col := c } := by
  have hw := ok.w2
  have hh := ok.h2
  refine ⟨_, Ps.word_csi [r + 1, c + 1] 72 (by simp) (fun n hn => ?_) (by simp) (by decide) (by decide), ?_⟩
  · simp only [List.mem_cons, List.not_mem_nil, or_false] at hn
    omega
  · have h := did_move ok r c (by omega) h1 (by omega) h2
    exact h
def inkNat (i : Nat) (o : Bool) : List Nat := 0 :: ((if o then [1] else []) ++ (if i = 0 then [] else [29 + i]))
theorem inkNat_cast (i : Nat) (o : Bool) : (inkNat i o).map (fun n : Nat => (n : Int)) = inkNums i o := by
  unfold inkNat inkNums
  by_cases hi : i = 0
  · subst hi
    cases o <;> rfl
  · have hi' : ¬ (i : Int) = 0 := by omega
    cases o <;> simp [hi]
theorem sends_ink (g : Gr) (i : Nat) (o : Bool) (h : i ≤ 8) : Sends g (27 :: 91 :: (Ps.nums (inkNat i o) ++ [109])) { g with ink := i, bold := o } := by
  refine ⟨_, Ps.word_csi (inkNat i o) 109 (by simp [inkNat]) (fun n hn => ?_) ?_ (by decide) (by decide), ?_⟩
  · unfold inkNat at hn
    simp only [List.mem_cons, List.mem_append] at hn
    rcases hn with e | e | e
    · omega
    · cases o <;> simp at e <;> omega
    · by_cases hi : i = 0 <;> simp [hi] at e <;> omega
  · unfold inkNat
    cases o <;> by_cases hi : i = 0 <;> simp [hi]
  · have := did_ink g i o (by omega) (by omega)
    rw [← inkNat_cast] at this
    exact this
theorem sends_print {g : Gr} (c : UInt8) (h1 : 32 ≤ c.toNat) (h2 : c.toNat ≤ 126) (hc : g.col ≠ g.wide) : Sends g [c] { g with f := putF g.f (g.row * g.wide + g.col).toNat ⟨(c.toNat : Int), g.ink, 0, g.bold⟩, col := g.col + 1 } :=
  ⟨_, Ps.word_plain c h1 h2, did_print (g := g) (c.toNat : Int) (by simp only [plainN, decide_eq_true_eq]; omega) hc⟩
theorem sends_pic {g : Gr} (ok : OkG g) (c : UInt8) (h1 : 97 ≤ c.toNat) (h2 : c.toNat ≤ 104) : Sends g [27, 80, c, 27, 92] { g with f := putF g.f (g.row * g.wide + hereC g).toNat ⟨0, 0, (c.toNat : Int) - 96, false⟩ } :=
  ⟨_, Ps.word_pic [c] (fun d hd => by simp only [List.mem_singleton] at hd; subst hd; omega) (by simp), did_pic ok c h1 h2⟩
theorem sends_reset (g : Gr) : Sends g [27, 99] (newG g.wide g.high) := ⟨_, Ps.word_reset, did_reset g⟩

end Go.Proofs.YtdanlnankjgboabDoor
