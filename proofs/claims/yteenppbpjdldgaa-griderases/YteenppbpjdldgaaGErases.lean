/- What 'GridErases' answers: true. -/
import Derived.Test.YteenppbpjdldgaaGKGood
namespace Go.Proofs.Yteenppbpjdldgaa
open Go.RowKit

def pickN (k n : Int) : Int := if k.tmod n < 0 then k.tmod n + n else k.tmod n
theorem pickN_bound (k n : Int) (hn : 1 ≤ n) : 0 ≤ pickN k n ∧ pickN k n < n := by
  have h1 := Int.tmod_lt_of_pos k (b := n) (by omega)
  have h2 := Int.lt_tmod_of_pos k (b := n) (by omega)
  unfold pickN
  split <;> omega

set_option maxHeartbeats 400000 in
theorem pick_any (k n : Int) (hn : 1 ≤ n) (hn2 : n ≤ 1000) (w : World) : Calls Try.prog 44 #[.int .i64 k, .int .i64 n] w fun e w' => e = .returned (.int .i64 (pickN k n)) ∧ w' = w := by
  have h1 := Int.tmod_lt_of_pos k (b := n) (by omega)
  have h2 := Int.lt_tmod_of_pos k (b := n) (by omega)
  have h0 : ¬ n = 0 := by omega
  have h00 : (n == 0) = false := by simp [h0]
  have H1 : Hid (k.tmod n < 0 → pickN k n = k.tmod n + n) := fun h => by unfold pickN; rw [if_pos h]
  have H2 : Hid (¬ k.tmod n < 0 → pickN k n = k.tmod n) := fun h => by unfold pickN; rw [if_neg h]
  obtain ⟨y, hy⟩ : ∃ y, y = pickN k n := ⟨_, rfl⟩
  rw [← hy] at H1 H2 ⊢
  clear hy
  by_cases hneg : k.tmod n < 0
  · go_enter Try.func44, Try.ntmps44
    go_wp2
    go_ret
    exact ⟨ret_int (H1.out hneg).symm, rfl⟩
  · go_enter Try.func44, Try.ntmps44
    go_wp2
    go_ret
    exact ⟨ret_int (H2.out hneg).symm, rfl⟩

@[reducible] def evJ (how : Int) : Evt := ⟨3, 74, [how], ⟨#[]⟩⟩

/-- The list that the law makes for the event: one number. -/
theorem rdL_one (w : World) (o : Obj) (how : Int) (t : TypeId) : RdL ((w.alloc o).alloc (.cells #[.int .i64 how] t)) (some ⟨w.heap.size + 1, 0, none⟩) [how] := by
  refine .inr ⟨w.heap.size + 1, 0, rfl, fun j hj => ?_⟩
  have : j = 0 := by simpa using hj
  subst this
  exact cell_of_row _ _ 0 _ t _ (at_new1 w o _)

set_option maxHeartbeats 1000000 in
theorem erases_no (g : Gr) (ao : Option Addr) (cap : Nat) (how0 how : Int) (w : World) (x : Gr) (q : Int) (h0 : q ≠ 0)
    (HPK : Hid (∀ w, Calls Try.prog 44 #[.int .i64 how0, .int .i64 3] w fun e w' => e = .returned (.int .i64 how) ∧ w' = w))
    (HD : Hid (∀ w' eo, Below w.heap.size w w' → RdL w' eo [how] → Calls Try.prog 27 #[gval g ao cap, eval (evJ how) eo 1] w' (AllEnd w' (x, q)))) :
    Calls Try.prog 14 #[gval g ao cap, .int .i64 how0] w fun e w' => e = .returned (.bool true) ∧ Below w.heap.size w w' := by
  have he : (q == 0) = false := by simp [h0]
  have he2 : (q != 0) = true := by simp [h0]
  go_enter Try.func14, Try.ntmps14
  go_wp2_with (first
    | (go_at_call 44; refine (HPK.out _).mono ?_; rintro e w1 ⟨rfl, rfl⟩)
    | (go_at_call 27; refine (HD.out _ _ (below2 _ _ _) (rdL_one _ _ _ _)).mono ?_; rintro e w2 ⟨ao2, cap2, rfl, hcp⟩; have HB : Hid (Below w.heap.size w w2) := (below2 _ _ _).trans (hcp.2.2.mono (by simp; omega)); clear hcp)
    | (go_at_call 42; refine (shows_any _).mono ?_; rintro e w3 ⟨rfl, hb3⟩; have HB3 : Hid (Below w.heap.size w w3) := (HB.out.alloc HB.out.size _).trans (hb3.mono (by have := HB.out.size; simp; omega)); clear hb3))
  go_ret
  exact ⟨rfl, HB3.out⟩

theorem erase_gone {f : Nat → Cel} {n P k : Nat} {how : Int} (hk : k < n) (h : how = 2 ∨ (how = 0 ∧ P ≤ k) ∨ (how = 1 ∧ k ≤ P)) : eraseF f 0 n P how k = noCel := by
  unfold eraseF
  rcases h with rfl | ⟨rfl, h⟩ | ⟨rfl, h⟩
  · rw [if_neg (by omega), if_neg (by omega), if_pos rfl]; unfold clrF; rw [if_pos (by omega)]
  · rw [if_pos rfl]; unfold clrF; rw [if_pos (by omega)]
  · rw [if_neg (by omega), if_pos rfl]; unfold clrF; rw [if_pos (by omega)]
theorem erase_kept {f : Nat → Cel} {n P k : Nat} {how : Int} (h : (how = 0 ∧ k < P) ∨ (how = 1 ∧ P < k)) : eraseF f 0 n P how k = f k := by
  unfold eraseF
  rcases h with ⟨rfl, h⟩ | ⟨rfl, h⟩
  · rw [if_pos rfl]; unfold clrF; rw [if_neg (by omega)]
  · rw [if_neg (by omega), if_pos rfl]; unfold clrF; rw [if_neg (by omega)]

set_option maxRecDepth 2000 in
set_option maxHeartbeats 4000000 in
theorem erases_yes (g : Gr) (ok : OkG g) (ao : Option Addr) (cap : Nat) (how0 how : Int) (w : World) (hr : RdS w ao g.n g.f) (fx : Nat → Cel) (P : Nat) (hP : (P : Int) = g.row * g.wide + hereC g) (hfx : fx = eraseF g.f 0 g.n P how) (h3 : how = 0 ∨ how = 1 ∨ how = 2)
    (HPK : Hid (∀ w, Calls Try.prog 44 #[.int .i64 how0, .int .i64 3] w fun e w' => e = .returned (.int .i64 how) ∧ w' = w))
    (HD : Hid (∀ w' eo, Below w.heap.size w w' → RdL w' eo [how] → Calls Try.prog 27 #[gval g ao cap, eval (evJ how) eo 1] w' (AllEnd w' (⟨g.wide, g.high, g.n, fx, g.row, g.col, g.ink, g.bold, g.top, g.bottom⟩, 0)))) :
    Calls Try.prog 14 #[gval g ao cap, .int .i64 how0] w fun e w' => e = .returned (.bool true) ∧ Below w.heap.size w w' := by
  obtain ⟨x, hx⟩ : ∃ x : Gr, x = ⟨g.wide, g.high, g.n, fx, g.row, g.col, g.ink, g.bold, g.top, g.bottom⟩ := ⟨_, rfl⟩
  rw [← hx] at HD
  have HX : Hid (x.row = g.row ∧ x.col = g.col ∧ x.n = g.n ∧ x.f = eraseF g.f 0 g.n P how) := by rw [hx]; exact ⟨rfl, rfl, rfl, hfx⟩
  have HR : Hid (RdS w ao g.n g.f) := hr
  obtain ⟨q1, q2, q3, q4, _⟩ := ok.nums
  have hw0 := ok.w1
  have hw1 := ok.w2
  obtain ⟨p, hp⟩ : ∃ p, p = g.row * g.wide := ⟨_, rfl⟩
  have hwr : IntKind.i64.wrap (g.row * g.wide) = p := by rw [← hp, IntKind.wrap_i64]; omega
  have hp0 : 0 ≤ p := by omega
  have hp1 : p ≤ 240 := by omega
  have hn : g.n ≤ 240 := by omega
  have hc0 := ok.c1
  have hcc : (g.col ≤ g.wide - 1 ∧ p + g.col = (P : Int)) ∨ (g.wide - 1 < g.col ∧ p + (g.wide - 1) = (P : Int)) := by
    rw [hP, ← hp]; unfold hereC; omega
  have hc1 : g.col ≤ 24 := by have := ok.c2; omega
  clear hx hfx hr q1 q2 q3 q4 hp ok hP
  rcases hcc with ⟨hmin, hhere⟩ | ⟨hmin, hhere⟩
  all_goals (
    go_enter Try.func14, Try.ntmps14
    go_wp2_with (first
      | (go_at_call 44; refine (HPK.out _).mono ?_; rintro e w1 ⟨rfl, rfl⟩)
      | (go_at_call 27; refine (HD.out _ _ (below2 _ _ _) (rdL_one _ _ _ _)).mono ?_; rintro e w2 ⟨ax, cx, rfl, hcp⟩; have HT : Hid (Two w g x ao ax cap cx w2.heap.size (w2.alloc (gbox x ax cx))) := two_of2 HR.out rfl hcp; obtain ⟨⟨x0, x1, x2, x3, x4, x5, x6, x7, x8⟩, z⟩ := nine (below_block hcp.2.2 (at_old (at_new w _) _) (by simp; omega)); have hsz : w.heap.size < w2.heap.size := (by have := hcp.2.2.size; simp at this; omega); clear hcp)
      | (go_at_call 42; refine (shows_any _).mono ?_; rintro e w3 ⟨rfl, hb3⟩; have HT3 : Hid (Two w g x ao ax cap cx w2.heap.size w3) := HT.out.later hb3; obtain ⟨⟨y0, y1, y2, y3, y4, y5, y6, y7, y8⟩, z3⟩ := nine HT3.out.one; obtain ⟨⟨s0, s1, s2, s3, s4, s5, s6, s7, s8⟩, z4⟩ := nine HT3.out.two; rw [HX.out.2.2.1] at s2; clear hb3))
    clear x0 x1 x2 x3 x4 x5 x6 x7 x8 z y0 y1 y2 y3 y4 y5 y6 y7 y8 z3 s0 s1 s2 s3 s4 s5 s6 s7 s8 z4 HT HD HR hsz
    go_loopw [42] (fun i wr => ∃ k : Nat, k ≤ g.n ∧ i = .int .i64 k ∧ Two w g x ao ax cap cx w2.heap.size wr) (fun i _ => g.n - (intOf i).toNat)
    case atStart => exact ⟨0, Nat.zero_le _, rfl, HT3.out⟩
    case round =>
      obtain ⟨k, hk, rfl, ht⟩ := hrel
      have HT4 : Hid (Two w g x ao ax cap cx w2.heap.size wr) := ht
      obtain ⟨⟨x0, x1, x2, x3, x4, x5, x6, x7, x8⟩, z⟩ := nine ht.one
      obtain ⟨⟨y0, y1, y2, y3, y4, y5, y6, y7, y8⟩, z3⟩ := nine ht.two
      rw [HX.out.2.2.1] at y2
      by_cases hlt : k < g.n
      · have hra := ht.rg
        have hrb := ht.rx
        rw [HX.out.2.2.1] at hrb
        obtain ⟨ba, fa, rfl, hca⟩ := hra.resolve_left (by omega)
        obtain ⟨bb, fb, rfl, hcb⟩ := hrb.resolve_left (by omega)
        obtain ⟨t0, t1, t2, t3⟩ := hca k hlt
        obtain ⟨s0, s1, s2, s3⟩ := hcb k hlt
        rw [HX.out.2.2.2] at s0 s1 s2 s3
        have hlt' : (k : Int) < (g.n : Int) := by omega
        have hk0 : (0 : Int) ≤ (k : Int) := by omega
        clear hca hcb hra hrb ht hhere hmin hwr
        have NX : Hid (Two w g x (some ⟨ba, fa, none⟩) (some ⟨bb, fb, none⟩) cap cx w2.heap.size wr) := HT4
        by_cases hg : how = 2 ∨ (how = 0 ∧ P ≤ k) ∨ (how = 1 ∧ k ≤ P)
        · rw [erase_gone hlt hg] at s0 s1 s2 s3
          simp only [noCel] at s0 s1 s2 s3
          rcases hg with rfl | ⟨rfl, hg⟩ | ⟨rfl, hg⟩
          all_goals (
            go_wp2_with fail
            go_quiet (fail)
            go_wp2
            go_roundw
            case rel => exact ⟨k + 1, by omega, by go_num, HT4.out.later (below_drewN (Below.refl _ _) _)⟩
            case measure => simp [intOf]; omega)
        · have hg' : (how = 0 ∧ k < P) ∨ (how = 1 ∧ P < k) := by omega
          rw [erase_kept hg'] at s0 s1 s2 s3
          obtain ⟨y, hy⟩ : ∃ y, y = g.f k := ⟨_, rfl⟩
          rw [← hy] at t0 t1 t2 t3 s0 s1 s2 s3
          clear hy hg
          rcases hg' with ⟨rfl, hg⟩ | ⟨rfl, hg⟩
          · have hd : decide (P ≤ k) = false := by simp; omega
            go_wp2_with fail
            go_quiet (fail)
            go_wp2
            go_roundw
            case rel => exact ⟨k + 1, by omega, by go_num, HT4.out.later (below_drewN (Below.refl _ _) _)⟩
            case measure => simp [intOf]; omega
          · have hd : decide (k ≤ P) = false := by simp; omega
            go_wp2_with fail
            go_quiet (fail)
            go_wp2
            go_roundw
            case rel => exact ⟨k + 1, by omega, by go_num, HT4.out.later (below_drewN (Below.refl _ _) _)⟩
            case measure => simp [intOf]; omega
      · obtain ⟨e1, e2, _⟩ := HX.out
        rw [e1] at y3
        rw [e2] at y4
        clear ht
        go_wp2
        go_ret
        exact ⟨rfl, HT4.out.below⟩)

end Go.Proofs.Yteenppbpjdldgaa
