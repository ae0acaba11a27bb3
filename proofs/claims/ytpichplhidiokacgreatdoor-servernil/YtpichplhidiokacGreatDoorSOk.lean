/- A good server stays good, whatever is done to it; nothing of the program is in it. -/
import Derived.Test.YtpichplhidiokacGreatDoorSMach
import Derived.Test.YtpichplhidiokacGreatDoorFFeeds
import Derived.Test.YtpichplhidiokacGreatDoorFEvs
import Derived.Test.YtpichplhidiokacGreatDoorGRess
import Derived.Test.YtpichplhidiokacGreatDoorDPures
namespace Go.Proofs.YtpichplhidiokacGreatDoor.Sv
open Go.Proofs.YtpichplhidiokacGreatDoor.Tl (Rc noRc whereT findT hasT goodT splitT killT OkT paneB insL)
open Go.Proofs.YtpichplhidiokacGreatDoor.Pt (Vw screenV)

/-! What bytes tell is such as a screen does. -/
theorem stp_check (s : Ps.PS) (b : Int) : (Ps.stp s b).2.kind = 0 ∨ checkE (toE (Ps.stp s b).2) = 0 := by
  unfold Ps.stp Ps.escF Ps.cmdF Ps.endF Ps.gndF
  repeat' split
  all_goals first
    | (left; rfl)
    | (right; rfl)
    | (right; rename_i h; simp [checkE, toE, plainN, h])
theorem feed_check (l : List UInt8) : ∀ s, ∀ e ∈ (Ps.feedE s l).map toE, checkE e = 0 := by
  induction l with
  | nil => intro s e he; simp [Ps.feedE] at he
  | cons c r ih =>
    intro s e he
    simp only [Ps.feedE, List.map_append, List.mem_append] at he
    rcases he with h | h
    · unfold Ps.one at h
      split at h
      · simp at h
      · rename_i hk
        simp only [List.map_cons, List.map_nil, List.mem_singleton] at h
        rw [h]
        exact (stp_check s (Ps.bint c)).resolve_left hk
    · exact ih _ e h
theorem all_zero : ∀ (es : List Evt), (∀ e ∈ es, checkE e = 0) → ∀ g, Did g es (allG g es).1
  | [], _, _ => rfl
  | e :: l, h, g => by
    have h0 := h e (by simp)
    have ih := all_zero l (fun x hx => h x (by simp [hx])) (doneG g e)
    unfold Did at ih ⊢
    unfold allG
    rw [if_pos h0]
    exact ih
theorem told_did (g : Gr) (s : Ps.PS) (l : List UInt8) : Did g ((Ps.feedE s l).map toE) (allG g ((Ps.feedE s l).map toE)).1 := all_zero _ (feed_check l s) g
/-- In two parts. -/
theorem told_append (g : Gr) (s : Ps.PS) (a b : List UInt8) : (allG g ((Ps.feedE s (a ++ b)).map toE)).1 = (allG (allG g ((Ps.feedE s a).map toE)).1 ((Ps.feedE (Ps.feedS s a) b).map toE)).1 := by
  rw [Ps.feedE_append, List.map_append]
  have h := (told_did g s a).append (told_did (allG g ((Ps.feedE s a).map toE)).1 (Ps.feedS s a) b)
  unfold Did at h
  rw [h]

/-! Panes. -/
theorem insL_perm {α : Type} (l : List α) (i : Nat) (x : α) : (insL l i x).Perm (x :: l) := by
  unfold insL
  have := List.perm_middle (a := x) (l₁ := l.take i) (l₂ := l.drop i)
  rwa [List.take_append_drop] at this
theorem set_split {α : Type} (l : List α) (i : Nat) (h : i < l.length) (x : α) : l.set i x = l.take i ++ x :: l.drop (i + 1) := by
  rw [List.set_eq_take_append_cons_drop, if_pos h]
theorem at_split {α : Type} (l : List α) (i : Nat) (h : i < l.length) : l = l.take i ++ l[i] :: l.drop (i + 1) := by
  conv => lhs; rw [← List.take_append_drop i l, List.drop_eq_getElem_cons h]

theorem split_right (cols : List (List Int)) (i : Nat) (n : Int) : (insL cols i [n]).flatten.Perm (n :: cols.flatten) := by
  have h : (insL cols i [n]).flatten = (cols.take i).flatten ++ n :: (cols.drop i).flatten := by
    unfold insL
    rw [List.flatten_append, List.flatten_cons]
    rfl
  rw [h]
  refine List.perm_middle.trans (List.Perm.cons _ ?_)
  rw [← List.flatten_append, List.take_append_drop]
theorem split_below (cols : List (List Int)) (i : Nat) (h : i < cols.length) (j : Nat) (n : Int) : (cols.set i (insL cols[i] j n)).flatten.Perm (n :: cols.flatten) := by
  rw [set_split cols i h]
  have e : cols.flatten = (cols.take i).flatten ++ (cols[i] ++ (cols.drop (i + 1)).flatten) := by
    conv => lhs; rw [at_split cols i h]
    rw [List.flatten_append, List.flatten_cons]
  rw [e, List.flatten_append, List.flatten_cons]
  refine (List.Perm.append_left _ ((insL_perm cols[i] j n).append_right _)).trans ?_
  rw [List.cons_append]
  exact List.perm_middle
theorem erase_perm {α : Type} (l : List α) (i : Nat) (h : i < l.length) : (l[i] :: l.eraseIdx i).Perm l := by
  rw [List.eraseIdx_eq_take_drop_succ]
  refine List.perm_middle.symm.trans ?_
  rw [← at_split l i h]
theorem kill_col (cols : List (List Int)) (i : Nat) (h : i < cols.length) (p : Int) (hp : cols[i] = [p]) : (p :: (cols.eraseIdx i).flatten).Perm cols.flatten := by
  rw [List.eraseIdx_eq_take_drop_succ]
  have e : cols.flatten = (cols.take i).flatten ++ (p :: (cols.drop (i + 1)).flatten) := by
    conv => lhs; rw [at_split cols i h]
    rw [List.flatten_append, List.flatten_cons, hp]
    rfl
  rw [e, List.flatten_append]
  exact List.perm_middle.symm
theorem kill_one (cols : List (List Int)) (i : Nat) (h : i < cols.length) (j : Nat) (hj : j < cols[i].length) (p : Int) (hp : cols[i][j] = p) : (p :: (cols.set i (cols[i].eraseIdx j)).flatten).Perm cols.flatten := by
  rw [set_split cols i h]
  have e : cols.flatten = (cols.take i).flatten ++ (cols[i] ++ (cols.drop (i + 1)).flatten) := by
    conv => lhs; rw [at_split cols i h]
    rw [List.flatten_append, List.flatten_cons]
  rw [e, List.flatten_append, List.flatten_cons]
  refine List.perm_middle.symm.trans (List.Perm.append_left _ ?_)
  rw [← List.cons_append]
  refine List.Perm.append_right _ ?_
  have := erase_perm cols[i] j hj
  rwa [hp] at this

theorem has_of_perm {t cols : List (List Int)} {n : Int} (h : t.flatten.Perm (n :: cols.flatten)) (q : Int) : hasT t q = true ↔ q = n ∨ hasT cols q = true := by
  rw [Tl.hasT_iff, Tl.hasT_iff, h.mem_iff, List.mem_cons]

/-- Behind a split. -/
theorem split_ok {cols : List (List Int)} (ok : OkT cols) {p n : Int} {right : Bool} (h : (splitT cols p n right).2 = 0) :
    OkT (splitT cols p n right).1 ∧ hasT cols n = false ∧ ∀ q, hasT (splitT cols p n right).1 q = true ↔ q = n ∨ hasT cols q = true := by
  unfold splitT at h ⊢
  have hg := (Tl.goodT_iff cols).2 ok
  by_cases hpn : paneB n = false
  · rw [if_pos (.inr hpn)] at h
    simp at h
  · rw [if_neg (by rw [hg]; simp [hpn])] at h ⊢
    have hpn' : paneB n = true := by simpa using hpn
    cases hf : findT p cols with
    | none => rw [hf] at h; simp at h
    | some x =>
      obtain ⟨i, j⟩ := x
      simp only [hf] at h ⊢
      obtain ⟨hi, hj, hp⟩ := Tl.findT_get hf
      by_cases hn : hasT cols n = true
      · rw [if_pos hn] at h; simp at h
      · have hn' : hasT cols n = false := by simpa using hn
        have hnm : n ∉ cols.flatten := fun e => hn (Tl.hasT_iff.2 e)
        rw [if_neg hn] at h ⊢
        cases right with
        | true =>
          rw [if_pos rfl]
          have hpm := split_right cols (i + 1) n
          refine ⟨⟨?_, ?_, ?_, ?_⟩, hn', has_of_perm hpm⟩
          · simp [insL]; omega
          · intro c hc
            have := (insL_perm cols (i + 1) [n]).mem_iff.1 hc
            rcases List.mem_cons.1 this with e | e
            · subst e; simp
            · exact ok.tall c e
          · intro q hq
            rcases List.mem_cons.1 (hpm.mem_iff.1 hq) with e | e
            · rw [e]; exact hpn'
            · exact ok.pane q e
          · exact hpm.nodup_iff.2 (List.nodup_cons.2 ⟨hnm, ok.once⟩)
        | false =>
          rw [if_neg (by simp)] at h ⊢
          have ed : cols.getD i [] = cols[i] := by simp [List.getD, hi]
          rw [ed] at h ⊢
          by_cases h3 : cols[i].length = 3
          · rw [if_pos h3] at h; simp at h
          · rw [if_neg h3]
            have hpm := split_below cols i hi (j + 1) n
            have ht := ok.tall cols[i] (List.getElem_mem hi)
            refine ⟨⟨?_, ?_, ?_, ?_⟩, hn', has_of_perm hpm⟩
            · simp; exact ok.some
            · intro c hc
              rcases List.mem_or_eq_of_mem_set hc with e | e
              · exact ok.tall c e
              · have := (insL_perm cols[i] (j + 1) n).length_eq
                rw [e, this]
                simp
                omega
            · intro q hq
              rcases List.mem_cons.1 (hpm.mem_iff.1 hq) with e | e
              · rw [e]; exact hpn'
              · exact ok.pane q e
            · exact hpm.nodup_iff.2 (List.nodup_cons.2 ⟨hnm, ok.once⟩)

/-- Behind a kill. -/
theorem kill_ok {cols : List (List Int)} (ok : OkT cols) {p : Int} (h : (killT cols p).2 = 0) :
    OkT (killT cols p).1 ∧ hasT cols p = true ∧ hasT (killT cols p).1 p = false ∧ ∀ q, q ≠ p → hasT (killT cols p).1 q = hasT cols q := by
  have key : ∀ t : List (List Int), (p :: t.flatten).Perm cols.flatten → (0 < t.length) → (∀ c ∈ t, 1 ≤ c.length ∧ c.length ≤ 3) → OkT t ∧ hasT cols p = true ∧ hasT t p = false ∧ ∀ q, q ≠ p → hasT t q = hasT cols q := by
    intro t hpm h0 htall
    have hnd := hpm.nodup_iff.2 ok.once
    rw [List.nodup_cons] at hnd
    refine ⟨⟨h0, htall, fun q hq => ok.pane q (hpm.mem_iff.1 (by simp [hq])), hnd.2⟩, Tl.hasT_iff.2 (hpm.mem_iff.1 (by simp)), ?_, fun q hq => ?_⟩
    · cases e : hasT t p
      · rfl
      · exact absurd (Tl.hasT_iff.1 e) hnd.1
    · have : hasT t q = true ↔ hasT cols q = true := by
        rw [Tl.hasT_iff, Tl.hasT_iff, ← hpm.mem_iff, List.mem_cons]
        exact ⟨fun e => .inr e, fun e => e.resolve_left hq⟩
      cases e1 : hasT t q <;> cases e2 : hasT cols q <;> simp_all
  unfold killT at h ⊢
  have hg := (Tl.goodT_iff cols).2 ok
  rw [if_neg (by rw [hg]; simp)] at h ⊢
  cases hf : findT p cols with
  | none => rw [hf] at h; simp at h
  | some x =>
    obtain ⟨i, j⟩ := x
    simp only [hf] at h ⊢
    obtain ⟨hi, hj, hp⟩ := Tl.findT_get hf
    have ed : cols.getD i [] = cols[i] := by simp [List.getD, hi]
    rw [ed] at h ⊢
    have ht := ok.tall cols[i] (List.getElem_mem hi)
    by_cases h1 : cols[i].length = 1
    · rw [if_pos h1] at h ⊢
      by_cases h2 : cols.length = 1
      · rw [if_pos h2] at h; simp at h
      · rw [if_neg h2]
        have hc : cols[i] = [p] := by
          obtain ⟨a, ha⟩ := List.length_eq_one_iff.1 h1
          have hj0 : j = 0 := by omega
          subst hj0
          simp only [ha, List.getElem_cons_zero] at hp
          rw [ha, hp]
        refine key _ (kill_col cols i hi p hc) ?_ (fun c hcm => ok.tall c (List.mem_of_mem_eraseIdx hcm))
        rw [List.length_eraseIdx, if_pos hi]
        have := ok.some
        omega
    · rw [if_neg h1]
      refine key _ (kill_one cols i hi j hj p hp) (by simp; exact ok.some) (fun c hcm => ?_)
      rcases List.mem_or_eq_of_mem_set hcm with e | e
      · exact ok.tall c e
      · rw [e, List.length_eraseIdx, if_pos hj]
        omega

theorem first_has {cols : List (List Int)} (ok : OkT cols) : hasT cols (firstT cols) = true := by
  have h0 := ok.some
  have ht := ok.tall cols[0] (List.getElem_mem h0)
  have e : firstT cols = cols[0][0] := by
    unfold firstT
    simp [List.getD, h0, show 0 < cols[0].length by omega]
  rw [e]
  exact Tl.hasT_iff.2 (List.mem_flatten.2 ⟨cols[0], List.getElem_mem h0, List.getElem_mem _⟩)

theorem unused_has {cols : List (List Int)} (h : unusedT cols ≠ 6) : unusedT cols < 6 ∧ hasT cols (unusedT cols) = false := by
  unfold unusedT at h ⊢
  cases e : (List.range 6).find? fun n : Nat => !hasT cols n with
  | none => rw [e] at h; simp at h
  | some n =>
    have h1 := List.find?_some e
    have h2 := List.mem_of_find?_eq_some e
    simp only [Option.getD_some]
    exact ⟨List.mem_range.1 h2, by simpa using h1⟩

/-! A good server. -/
structure OkC (c : Cl) : Prop where
  g : OkG c.g
  short : c.q.length ≤ 4000

structure OkV (v : Vw) : Prop where
  t : OkT v.cols
  focus : hasT v.cols v.focus = true
  w1 : 1 ≤ v.wide
  w2 : v.wide ≤ 24
  h1 : 1 ≤ v.high
  h2 : v.high ≤ 10
  here : ∀ p : Nat, p < 6 → hasT v.cols p = true → OkG (v.gs p) ∧ (v.gs p).wide = max (v.place p).wide 1 ∧ (v.gs p).high = max (v.place p).high 1
  gone : ∀ p : Nat, p < 6 → hasT v.cols p = false → v.gs p = noG

structure OkS (S : Srv) : Prop where
  v : OkV S.v
  par : ∀ p : Nat, p < 6 → Ps.GoodS (S.ps p)
  gone : ∀ p : Nat, p < 6 → hasT S.v.cols p = false → S.ps p = Ps.ground
  cl : ∀ i : Nat, i < 3 → ∀ c, S.cl i = some c → OkC c
  acts : S.acts ≤ 300

/-- What holds in the midst of an act, too. -/
structure WkS (S : Srv) : Prop where
  t : OkT S.v.cols
  w1 : 1 ≤ S.v.wide
  w2 : S.v.wide ≤ 24
  h1 : 1 ≤ S.v.high
  h2 : S.v.high ≤ 10
  grid : ∀ p : Nat, p < 6 → S.v.gs p = noG ∨ OkG (S.v.gs p)
  par : ∀ p : Nat, p < 6 → Ps.GoodS (S.ps p)
  cl : ∀ i : Nat, i < 3 → ∀ c, S.cl i = some c → OkC c

theorem has_pane {cols : List (List Int)} (ok : OkT cols) {p : Int} (h : hasT cols p = true) : 0 ≤ p ∧ p < 6 := by
  have := ok.pane p (Tl.hasT_iff.1 h)
  simpa [paneB] using this

/-- The sides of a place, 1 at least. -/
theorem place_sides {v : Vw} (w1 : 1 ≤ v.wide) (w2 : v.wide ≤ 24) (h1 : 1 ≤ v.high) (h2 : v.high ≤ 10) (p : Int) : 1 ≤ max (v.place p).wide 1 ∧ max (v.place p).wide 1 ≤ 24 ∧ 1 ≤ max (v.place p).high 1 ∧ max (v.place p).high 1 ≤ 10 := by
  obtain ⟨⟨a1, a2, a3, a4, a5, a6⟩, _⟩ := Tl.where_in v.cols v.wide v.high p (by omega) (by omega) (by omega) (by omega) _ rfl
  unfold Vw.place
  omega

theorem new_wh {wide high : Int} (h : sidesS wide high = true) : (newG wide high).wide = wide ∧ (newG wide high).high = high := by
  simp only [sidesS, decide_eq_true_eq] at h
  refine ⟨?_, ?_⟩
  · show max 1 (min wide 24) = wide; omega
  · show max 1 (min high 10) = high; omega

/-- What is fitted is good, and of such sides. -/
theorem fitted_ok {g : Gr} (h : g = noG ∨ OkG g) {wide high : Int} (hs : sidesS wide high = true) : OkG (fittedG g wide high) ∧ (fittedG g wide high).wide = wide ∧ (fittedG g wide high).high = high := by
  obtain ⟨e1, e2⟩ := new_wh hs
  unfold fittedG
  by_cases h0 : g.wide = 0
  · rw [if_pos h0]
    exact ⟨ok_new _ _, e1, e2⟩
  · rw [if_neg h0]
    have ok : OkG g := h.resolve_left (fun e => h0 (by rw [e]; rfl))
    by_cases hw : g.wide = wide ∧ g.high = high
    · rw [if_pos hw]
      exact ⟨ok, hw.1, hw.2⟩
    · rw [if_neg hw, if_pos ((goodG_iff g).2 ok)]
      exact ⟨ok_res ok wide high, e1, e2⟩

theorem fit_place (v : Vw) (p : Int) : (fitV v).place p = v.place p := rfl

theorem fit_ok {v : Vw} (ok : OkT v.cols) (hf : hasT v.cols v.focus = true) (w1 : 1 ≤ v.wide) (w2 : v.wide ≤ 24) (h1 : 1 ≤ v.high) (h2 : v.high ≤ 10)
    (here : ∀ p : Nat, p < 6 → hasT v.cols p = true → v.gs p = noG ∨ OkG (v.gs p)) (gone : ∀ p : Nat, p < 6 → hasT v.cols p = false → v.gs p = noG) : OkV (fitV v) := by
  refine ⟨ok, hf, w1, w2, h1, h2, fun p hp hh => ?_, fun p hp hh => ?_⟩
  · have hh' : hasT v.cols p = true := hh
    have hs := place_sides w1 w2 h1 h2 p
    have := fitted_ok (here p hp hh') (wide := max (v.place p).wide 1) (high := max (v.place p).high 1) (by simp only [sidesS, decide_eq_true_eq]; omega)
    show OkG (if hasT v.cols p = true then fit1 v p else v.gs p) ∧ (if hasT v.cols p = true then fit1 v p else v.gs p).wide = _ ∧ (if hasT v.cols p = true then fit1 v p else v.gs p).high = _
    rw [if_pos hh']
    exact this
  · have hh' : hasT v.cols p = false := hh
    show (if hasT v.cols p = true then fit1 v p else v.gs p) = noG
    rw [if_neg (by rw [hh']; simp)]
    exact gone p hp hh'

theorem ok_newS : OkS newS := by
  refine ⟨?_, fun _ _ => Ps.good_ground, fun _ _ _ => rfl, fun _ _ c h => by simp [newS] at h, by simp [newS]⟩
  refine fit_ok ⟨by decide, by simp, by simp [paneB], by simp⟩ (by decide) (by decide) (by decide) (by decide) (by decide) (fun _ _ _ => .inl rfl) (fun _ _ _ => rfl)

theorem OkV.grid {v : Vw} (h : OkV v) (p : Nat) (hp : p < 6) : v.gs p = noG ∨ OkG (v.gs p) := by
  cases e : hasT v.cols p
  · exact .inl (h.gone p hp e)
  · exact .inr (h.here p hp e).1

theorem OkS.wk {S : Srv} (h : OkS S) : WkS S := ⟨h.v.t, h.v.w1, h.v.w2, h.v.h1, h.v.h2, h.v.grid, h.par, h.cl⟩
theorem wk_cl {S : Srv} (h : WkS S) (i : Nat) (x : Option Cl) (hx : ∀ c, x = some c → OkC c) : WkS { S with cl := upd S.cl i x } := by
  refine ⟨h.t, h.w1, h.w2, h.h1, h.h2, h.grid, h.par, fun j hj c hc => ?_⟩
  by_cases e : j = i
  · have hc' : upd S.cl i x j = some c := hc
    rw [e, upd_at] at hc'
    exact hx c hc'
  · have hc' : upd S.cl i x j = some c := hc
    rw [upd_ne _ _ e] at hc'
    exact h.cl j hj c hc'

theorem ok_count {S : Srv} (h : OkS S) (ha : S.acts ≠ 300) : OkS (countS S) := ⟨h.v, h.par, h.gone, h.cl, by have := h.acts; show S.acts + 1 ≤ 300; omega⟩

theorem ok_split {S : Srv} (h : OkS S) (p : Int) (right : Bool) : OkS (splitS S p right).1 := by
  unfold splitS
  by_cases h6 : unusedT S.v.cols = 6
  · rw [if_pos h6]; exact h
  · rw [if_neg h6]
    by_cases he : (splitT S.v.cols p (unusedT S.v.cols) right).2 = 0
    · rw [if_pos he]
      obtain ⟨k1, k2, k3⟩ := split_ok h.v.t he
      obtain ⟨u1, u2⟩ := unused_has h6
      have hno : ∀ q : Nat, hasT (splitT S.v.cols p (unusedT S.v.cols) right).1 q = false → hasT S.v.cols q = false := fun q hq => by
        cases e : hasT S.v.cols q
        · rfl
        · rw [(k3 q).2 (.inr e)] at hq; simp at hq
      refine ⟨fit_ok k1 ((k3 _).2 (.inl rfl)) h.v.w1 h.v.w2 h.v.h1 h.v.h2 (fun q hq _ => h.v.grid q hq) (fun q hq hh => h.v.gone q hq (hno q hh)), h.par, fun q hq hh => h.gone q hq (hno q hh), h.cl, h.acts⟩
    · rw [if_neg he]; exact h

theorem ok_kill {S : Srv} (h : OkS S) (p : Int) : OkS (killS S p).1 := by
  unfold killS
  by_cases he : (killT S.v.cols p).2 = 0
  · rw [if_pos he]
    obtain ⟨k1, k2, k3, k4⟩ := kill_ok h.v.t he
    obtain ⟨p1, p2⟩ := has_pane h.v.t k2
    have hpc : ((p.toNat : Nat) : Int) = p := Int.toNat_of_nonneg p1
    have hgs : ∀ q : Nat, q < 6 → upd S.v.gs p.toNat noG q = noG ∨ OkG (upd S.v.gs p.toNat noG q) := fun q hq => by
      by_cases e : q = p.toNat
      · left; rw [e, upd_at]
      · rw [upd_ne _ _ e]; exact h.v.grid q hq
    have hne : ∀ q : Nat, q ≠ p.toNat → (q : Int) ≠ p := fun q hq e => hq (by omega)
    refine ⟨fit_ok k1 ?_ h.v.w1 h.v.w2 h.v.h1 h.v.h2 (fun q hq _ => hgs q hq) (fun q hq hh => ?_), fun q hq => ?_, fun q hq hh => ?_, h.cl, h.acts⟩
    · by_cases e : S.v.focus = p
      · simp only [if_pos e]; exact first_has k1
      · simp only [if_neg e]; rw [k4 _ e]; exact h.v.focus
    · by_cases e : q = p.toNat
      · show upd S.v.gs p.toNat noG q = noG
        rw [e, upd_at]
      · show upd S.v.gs p.toNat noG q = noG
        rw [upd_ne _ _ e]
        have hh' : hasT (killT S.v.cols p).1 q = false := hh
        rw [k4 _ (hne q e)] at hh'
        exact h.v.gone q hq hh'
    · by_cases e : q = p.toNat
      · show Ps.GoodS (upd S.ps p.toNat Ps.ground q)
        rw [e, upd_at]; exact Ps.good_ground
      · show Ps.GoodS (upd S.ps p.toNat Ps.ground q)
        rw [upd_ne _ _ e]; exact h.par q hq
    · by_cases e : q = p.toNat
      · show upd S.ps p.toNat Ps.ground q = Ps.ground
        rw [e, upd_at]
      · show upd S.ps p.toNat Ps.ground q = Ps.ground
        rw [upd_ne _ _ e]
        have hh' : hasT (killT S.v.cols p).1 q = false := hh
        rw [k4 _ (hne q e)] at hh'
        exact h.gone q hq hh'
  · rw [if_neg he]; exact h

theorem ok_tell {S : Srv} (h : OkS S) (p : Nat) (hp : p < 6) (hh : hasT S.v.cols p = true) (l : List UInt8) : OkS (tellS S p l) := by
  obtain ⟨g1, g2, g3⟩ := h.v.here p hp hh
  obtain ⟨k1, k2, k3, k4⟩ := did_ok (told_did (S.v.gs p) (S.ps p) l) g1
  refine ⟨⟨h.v.t, h.v.focus, h.v.w1, h.v.w2, h.v.h1, h.v.h2, fun q hq hq2 => ?_, fun q hq hq2 => ?_⟩, fun q hq => ?_, fun q hq hq2 => ?_, h.cl, h.acts⟩
  · by_cases e : q = p
    · subst e
      show OkG (upd S.v.gs q _ q) ∧ (upd S.v.gs q _ q).wide = _ ∧ (upd S.v.gs q _ q).high = _
      rw [upd_at]
      exact ⟨k1, k2.trans g2, k3.trans g3⟩
    · show OkG (upd S.v.gs p _ q) ∧ (upd S.v.gs p _ q).wide = _ ∧ (upd S.v.gs p _ q).high = _
      rw [upd_ne _ _ e]
      exact h.v.here q hq hq2
  · have e : q ≠ p := fun e => by
      have hq3 : hasT S.v.cols q = false := hq2
      rw [e, hh] at hq3; simp at hq3
    show upd S.v.gs p _ q = noG
    rw [upd_ne _ _ e]
    exact h.v.gone q hq hq2
  · by_cases e : q = p
    · subst e
      show Ps.GoodS (upd S.ps q _ q)
      rw [upd_at]; exact Ps.good_feed _ (h.par q hq) l
    · show Ps.GoodS (upd S.ps p _ q)
      rw [upd_ne _ _ e]; exact h.par q hq
  · have e : q ≠ p := fun e => by
      have hq3 : hasT S.v.cols q = false := hq2
      rw [e, hh] at hq3; simp at hq3
    show upd S.ps p _ q = Ps.ground
    rw [upd_ne _ _ e]
    exact h.gone q hq hq2

theorem ok_output {S : Srv} (h : OkS S) (p : Int) (l : List UInt8) : OkS (outputS S p l).1 := by
  unfold outputS
  by_cases hh : hasT S.v.cols p = true
  · rw [if_pos hh]
    obtain ⟨p1, p2⟩ := has_pane h.v.t hh
    have hpc : ((p.toNat : Nat) : Int) = p := Int.toNat_of_nonneg p1
    exact ok_tell h p.toNat (by omega) (by rw [hpc]; exact hh) l
  · rw [if_neg hh]; exact h

theorem ok_focus {S : Srv} (h : OkS S) (p : Int) : OkS (focusS S p).1 := by
  unfold focusS
  by_cases hh : hasT S.v.cols p = true
  · rw [if_pos hh]
    exact ⟨⟨h.v.t, hh, h.v.w1, h.v.w2, h.v.h1, h.v.h2, h.v.here, h.v.gone⟩, h.par, h.gone, h.cl, h.acts⟩
  · rw [if_neg hh]; exact h

theorem ok_resize {S : Srv} (h : OkS S) (wide high : Int) : OkS (resizeS S wide high).1 := by
  unfold resizeS
  by_cases hs : sidesS wide high = true
  · rw [if_pos hs]
    simp only [sidesS, decide_eq_true_eq] at hs
    exact ⟨fit_ok h.v.t h.v.focus hs.1 hs.2.1 hs.2.2.1 hs.2.2.2 (fun q hq _ => h.v.grid q hq) h.v.gone, h.par, h.gone, h.cl, h.acts⟩
  · rw [if_neg hs]; exact h

theorem ok_cl {S : Srv} (h : OkS S) (i : Nat) (x : Option Cl) (hx : ∀ c, x = some c → OkC c) : OkS { S with cl := upd S.cl i x } := by
  refine ⟨h.v, h.par, h.gone, fun j hj c hc => ?_, h.acts⟩
  by_cases e : j = i
  · have hc' : upd S.cl i x j = some c := hc
    rw [e, upd_at] at hc'
    exact hx c hc'
  · have hc' : upd S.cl i x j = some c := hc
    rw [upd_ne _ _ e] at hc'
    exact h.cl j hj c hc'

theorem ok_attach {S : Srv} (h : OkS S) (i wide high : Int) : OkS (attachS S i wide high).1 := by
  unfold attachS
  split
  · split
    · exact h
    · split
      · exact ok_cl h _ _ (fun c e => by cases e; exact ⟨ok_new _ _, by simp⟩)
      · exact h
  · exact h
theorem ok_detach {S : Srv} (h : OkS S) (i : Int) : OkS (detachS S i).1 := by
  unfold detachS
  split
  · exact ok_cl h _ _ (fun c e => by cases e)
  · exact h
theorem here_ok {S : Srv} (h : OkS S) {i : Int} {c : Cl} (hc : hereS S i = some c) : 0 ≤ i ∧ i < 3 ∧ S.cl i.toNat = some c ∧ OkC c := by
  unfold hereS at hc
  split at hc
  · rename_i hi
    simp only [isCl, decide_eq_true_eq] at hi
    exact ⟨hi.1, hi.2, hc, h.cl _ (by omega) c hc⟩
  · cases hc
theorem ok_drain {S : Srv} (h : OkS S) (i n : Int) : OkS (drainS S i n).1 := by
  unfold drainS
  cases hc : hereS S i with
  | none => exact h
  | some c =>
    obtain ⟨_, _, _, k⟩ := here_ok h hc
    refine ok_cl h _ _ (fun d e => ?_)
    cases e
    refine ⟨k.g, ?_⟩
    have := k.short
    simp only [List.length_drop]
    omega

/-- What a client is to see can be shown. -/
theorem screen_ok {v : Vw} (h : OkV v) (wide high : Int) : OkG (screenV v wide high) ∧ (screenV v wide high).col < (screenV v wide high).wide ∧ (screenV v wide high).wide = (newG wide high).wide ∧ (screenV v wide high).high = (newG wide high).high := by
  have k := ok_new wide high
  have kw := k.w1
  have kh := k.h1
  refine ⟨⟨k.w1, k.w2, k.h1, k.h2, k.size, fun i hi => ?_, ?_, ?_, ?_, ?_, k.i1, k.i2, k.t1, k.t2, k.t3⟩, ?_, rfl, rfl⟩
  · show goodC (Pt.cellsV v (newG wide high).wide (newG wide high).high i) = true
    unfold Pt.cellsV
    split
    · unfold Pt.footT
      split
      · refine goodC_ch _ _ _ ?_ (by decide) (by decide)
        simp only [plainN, decide_eq_true_eq]
        omega
      · exact goodC_ch _ _ _ (by decide) (by decide) (by decide)
    · unfold Pt.cellT
      split
      · split
        · rename_i p hp
          have hp6 : p < 6 := List.mem_range.1 (List.mem_of_find?_eq_some hp)
          have hin := List.find?_some hp
          unfold atG
          split
          · rename_i hh
            rcases h.grid p hp6 with e | e
            · rw [e] at hh
              simp [noG] at hh
              omega
            · have := Int.mul_nonneg hh.2.2.1 (show 0 ≤ (v.gs p).wide by have := e.w1; omega)
              exact e.cells _ (by omega)
          · exact goodC_no
        · split
          · exact goodC_ch _ _ _ (by decide) (by decide) (by decide)
          · exact goodC_ch _ _ _ (by decide) (by decide) (by decide)
      · exact goodC_ch _ _ _ (by decide) (by decide) (by decide)
  · show 0 ≤ max 0 (min _ _); omega
  · show max 0 (min _ ((newG wide high).high - 1)) < (newG wide high).high; omega
  · show 0 ≤ max 0 (min _ _); omega
  · show max 0 (min _ ((newG wide high).wide - 1)) ≤ (newG wide high).wide; omega
  · show max 0 (min _ ((newG wide high).wide - 1)) < (newG wide high).wide; omega

/-- What the bytes for a client do. -/
theorem more_draws {v : Vw} (h : OkV v) {c : Cl} (k : OkG c.g) : Draws c.g (screenV v c.g.wide c.g.high) (moreC v c) := by
  obtain ⟨s1, s2, s3, s4⟩ := screen_ok h c.g.wide c.g.high
  obtain ⟨n1, n2, _⟩ := new_sides k
  unfold moreC
  split
  · exact anew_draws s1 s2 (by rw [s3, n1]) (by rw [s4, n2])
  · exact turn_draws k s1 s2 (by rw [s3, n1]) (by rw [s4, n2])

theorem ok_show {v : Vw} (h : OkV v) {c : Cl} (k : OkC c) : OkC (showC v c) := by
  have d := more_draws h k.g
  unfold showC
  split
  · exact k
  · split
    · exact ⟨k.g, k.short⟩
    · refine ⟨d.ok, ?_⟩
      simp only [List.length_append]
      omega
theorem ok_tick {S : Srv} (h : OkS S) : OkS (tickS S) := by
  refine ⟨h.v, h.par, h.gone, fun i hi c hc => ?_, h.acts⟩
  have hc' : (S.cl i).map (showC S.v) = some c := hc
  cases e : S.cl i with
  | none => rw [e] at hc'; cases hc'
  | some d =>
    rw [e] at hc'
    cases hc'
    exact ok_show h.v (h.cl i hi d e)

theorem ok_change {S : Srv} (h : OkS S) (a : Ac) : OkS (changeS S a).1 := by
  unfold changeS
  split
  · exact ok_kill h _
  split
  · exact ok_output h _ _
  split
  · exact ok_focus h _
  split
  · exact ok_resize h _ _
  split
  · exact ok_attach h _ _ _
  split
  · exact ok_detach h _
  split
  · exact ok_tick h
  · exact h
theorem ok_act {S : Srv} (h : OkS S) (a : Ac) : OkS (actS S a).1 := by
  unfold actS
  split
  · exact ok_split h _ _
  split
  · exact ok_drain h _ _
  · exact ok_change h a
theorem ok_do {S : Srv} (h : OkS S) (a : Ac) : OkS (doS S a).1 := by
  unfold doS
  split
  · exact h
  · rename_i ha
    exact ok_act (ok_count h ha) a

end Go.Proofs.YtpichplhidiokacGreatDoor.Sv
