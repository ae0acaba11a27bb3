/- Whether panes are laid out. -/
import Derived.Test.YtpichplhidiokacGreatDoorTFind
namespace Go.Proofs.YtpichplhidiokacGreatDoor.Tl
open Go.RowKit

def OkL (l : List Int) : Prop := (∀ p ∈ l, paneB p = true) ∧ l.Nodup

theorem flat_split {cols : List (List Int)} {k j : Nat} (hk : k < cols.length) (hj : j < cols[k].length) : ∃ rest, cols.flatten = ((cols.take k).flatten ++ cols[k].take j) ++ cols[k][j] :: rest := by
  refine ⟨cols[k].drop (j + 1) ++ (cols.drop (k + 1)).flatten, ?_⟩
  have h0 : cols = cols.take k ++ cols[k] :: cols.drop (k + 1) := by rw [← List.drop_eq_getElem_cons hk, List.take_append_drop]
  have h1 : cols.flatten = (cols.take k).flatten ++ (cols[k] ++ (cols.drop (k + 1)).flatten) := by
    have e := congrArg List.flatten h0
    rw [List.flatten_append, List.flatten_cons] at e
    exact e
  have h2 : cols[k] = cols[k].take j ++ cols[k][j] :: cols[k].drop (j + 1) := by rw [← List.drop_eq_getElem_cons hj, List.take_append_drop]
  have h3 : cols[k] ++ (cols.drop (k + 1)).flatten = cols[k].take j ++ cols[k][j] :: (cols[k].drop (j + 1) ++ (cols.drop (k + 1)).flatten) := by
    have e := congrArg (· ++ (cols.drop (k + 1)).flatten) h2
    simp only [List.append_assoc, List.cons_append] at e
    exact e
  rw [h1, h3, List.append_assoc]

theorem okL_snoc {l : List Int} {p : Int} (h : OkL l) (hp : paneB p = true) (hn : p ∉ l) : OkL (l ++ [p]) := by
  refine ⟨fun q hq => ?_, ?_⟩
  · rcases List.mem_append.1 hq with hq | hq
    · exact h.1 q hq
    · simp at hq; rw [hq]; exact hp
  · rw [List.nodup_append]
    exact ⟨h.2, by simp, fun a ha b hb => by simp at hb; subst hb; exact fun e => hn (e ▸ ha)⟩

theorem bad_pane {cols : List (List Int)} {k j : Nat} (hk : k < cols.length) (hj : j < cols[k].length) (h : paneB cols[k][j] = false) : ¬ OkT cols := fun ok => by
  have := ok.pane cols[k][j] (List.mem_flatten.2 ⟨cols[k], List.getElem_mem hk, List.getElem_mem hj⟩)
  rw [h] at this
  cases this
theorem bad_twice {cols : List (List Int)} {k j : Nat} (hk : k < cols.length) (hj : j < cols[k].length) (h : cols[k][j] ∈ (cols.take k).flatten ++ cols[k].take j) : ¬ OkT cols := fun ok => by
  obtain ⟨rest, e⟩ := flat_split hk hj
  have := ok.once
  rw [e, List.nodup_append] at this
  exact this.2.2 _ h _ (by simp) rfl
theorem bad_tall {cols : List (List Int)} {k : Nat} (hk : k < cols.length) (h : cols[k].length < 1 ∨ 3 < cols[k].length) : ¬ OkT cols := fun ok => by
  have := ok.tall _ (List.getElem_mem hk)
  omega

/-- What was seen, as it is kept. -/
@[reducible] def seenA (l : List Int) : Array Value := #[.bool (l.contains 0), .bool (l.contains 1), .bool (l.contains 2), .bool (l.contains 3), .bool (l.contains 4), .bool (l.contains 5)]

theorem seen_get (l : List Int) (m : Nat) (hm : m < 6) : (seenA l)[m]? = some (.bool (l.contains (m : Int))) := by
  have : m = 0 ∨ m = 1 ∨ m = 2 ∨ m = 3 ∨ m = 4 ∨ m = 5 := by omega
  rcases this with rfl | rfl | rfl | rfl | rfl | rfl <;> rfl
theorem seen_set (l : List Int) (m : Nat) (hm : m < 6) : (seenA l).setIfInBounds m (.bool true) = seenA (l ++ [(m : Int)]) := by
  have : m = 0 ∨ m = 1 ∨ m = 2 ∨ m = 3 ∨ m = 4 ∨ m = 5 := by omega
  rcases this with rfl | rfl | rfl | rfl | rfl | rfl <;> simp [seenA, List.contains_eq_mem]

/-- What holds in the midst: the lists are read, the boxes hold what they hold. -/
structure GInv (w : World) (its : List CIt) (co : Option Addr) (cap : Nat) (l : List Int) (wr : World) : Prop where
  rd : RdT wr co its
  box : wr.heap[w.heap.size]? = some (tbox co its.length cap)
  seen : wr.heap[w.heap.size + 1]? = some (.cells (seenA l) 110)
  below : Below w.heap.size w wr
  old : RdT w co its

theorem rdL_set {w w0 : World} {ao : Option Addr} {l : List Int} {B : Nat} (h0 : RdL w0 ao l) (hB : w0.heap.size ≤ B) (h : RdL w ao l) (j : Nat) (u : Value) : RdL (w.setCell ⟨B, j, none⟩ u) ao l := by
  rcases h0 with h1 | ⟨b, off, rfl, hc⟩
  · exact .inl h1
  · rcases h with h1 | ⟨b', off', e, hc'⟩
    · exact .inl h1
    · simp only [Option.some.injEq, Addr.mk.injEq, and_true] at e
      obtain ⟨rfl, rfl⟩ := e
      refine .inr ⟨b, off, rfl, fun i hi => ?_⟩
      have hlt := World.block_lt_of_cell? _ _ (hc i hi)
      simp only at hlt
      rw [World.cell?_setCell_other _ _ _ _ (by intro e; simp only [Addr.mk.injEq] at e; omega)]
      exact hc' i hi

theorem rdT_set {w w0 : World} {co : Option Addr} {its : List CIt} {B : Nat} (h0 : RdT w0 co its) (hB : w0.heap.size ≤ B) (h : RdT w co its) (j : Nat) (u : Value) : RdT (w.setCell ⟨B, j, none⟩ u) co its := by
  refine ⟨fun x hx => ⟨rdL_set (h0.each x hx).1 hB (h.each x hx).1 j u, (h.each x hx).2⟩, ?_⟩
  rcases h0.row with h1 | ⟨b, off, rfl, hc⟩
  · exact .inl h1
  · rcases h.row with h1 | ⟨b', off', e, hc'⟩
    · exact .inl h1
    · simp only [Option.some.injEq, Addr.mk.injEq, and_true] at e
      obtain ⟨rfl, rfl⟩ := e
      refine .inr ⟨b, off, rfl, fun i hi => ?_⟩
      have hlt := World.block_lt_of_cell? _ _ (hc i hi)
      simp only at hlt
      rw [World.cell?_setCell_other _ _ _ _ (by intro e; simp only [Addr.mk.injEq] at e; omega)]
      exact hc' i hi

theorem GInv.put {w : World} {its : List CIt} {co : Option Addr} {cap : Nat} {l : List Int} {wr : World} (h : GInv w its co cap l wr) (m : Nat) (hm : m < 6) : GInv w its co cap (l ++ [(m : Int)]) (wr.setCell ⟨w.heap.size + 1, m, none⟩ (.bool true)) := by
  refine ⟨rdT_set h.old (by omega) h.rd _ _, ?_, ?_, h.below.setCell (by simp) _, h.old⟩
  · rw [Below.heap_setCell _ _ _ _ (by simp)]; exact h.box
  · have := heap_setCell_same wr (w.heap.size + 1) m _ _ (.bool true) h.seen
    rw [this, seen_set l m hm]

set_option maxRecDepth 100000 in
set_option maxHeartbeats 1000000 in
theorem good_any (its : List CIt) (co : Option Addr) (cap : Nat) (w : World) (hr : RdT w co its) (hm : its.length ≤ 5864062014805) (hm2 : ∀ x ∈ its, x.1.length ≤ 17592186044416) (g : Bool) (hg : g = goodT (colsOf its)) :
    Calls Tryz.prog 33 #[tval co its.length cap] w fun e w' => e = .returned (.bool g) ∧ Below w.heap.size w w' := by
  have HR : Hid (RdT w co its) := hr
  have HM : Hid (∀ x ∈ its, x.1.length ≤ 17592186044416) := hm2
  have HG : Hid (g = goodT (colsOf its)) := hg
  have HP : Hid (∀ p w, Calls Tryz.prog 60 #[.int .i64 p] w fun e w' => e = .returned (.bool (paneB p)) ∧ w' = w) := isPane_any
  clear hr hm2 hg
  obtain ⟨bq, zq⟩ := one (at_old (at_new w (tbox co its.length cap)) (.cells (seenA []) 110))
  go_enter Tryz.func33, Tryz.ntmps33
  go_wp2
  go_loopw [11] (fun i wr => ∃ k : Nat, k ≤ its.length ∧ i = .int .i64 k ∧ GInv w its co cap ((colsOf its).take k).flatten wr ∧ OkL ((colsOf its).take k).flatten ∧ ∀ j (hj : j < its.length), j < k → 1 ≤ its[j].1.length ∧ its[j].1.length ≤ 3) (fun i _ => its.length - (intOf i).toNat)
  case atStart => exact ⟨0, Nat.zero_le _, rfl, ⟨HR.out.below (below2 _ _ _), at_old (at_new _ _) _, at_new1 _ _ _, below2 _ _ _, HR.out⟩, ⟨by simp, by simp⟩, fun j _ h => by omega⟩
  case round =>
    obtain ⟨k, hk, rfl, hi, hok, htl⟩ := hrel
    obtain ⟨b1, z1⟩ := one hi.box
    have HI : Hid (GInv w its co cap ((colsOf its).take k).flatten wr) := hi
    have HO : Hid (OkL ((colsOf its).take k).flatten ∧ ∀ j (hj : j < its.length), j < k → 1 ≤ its[j].1.length ∧ its[j].1.length ≤ 3) := ⟨hok, htl⟩
    clear hi hok htl
    by_cases hlt : k < its.length
    · obtain ⟨b, off, rfl, hc⟩ := HI.out.rd.row.resolve_left (by intro h; subst h; simp at hlt)
      have h0 := hc k hlt
      obtain ⟨⟨x1, x2, x3⟩, hx⟩ : ∃ x, x = its[k] := ⟨_, rfl⟩
      rw [← hx] at h0
      have h1 : wr.cell? ⟨b, off + k, none⟩ = some (.slice x2 x1.length x3) := h0
      have hmem : (x1, x2, x3) ∈ its := by rw [hx]; exact List.getElem_mem hlt
      have hxl := HM.out _ hmem
      have HRL : Hid (RdL w x2 x1) := (HR.out.each _ hmem).1
      have HX : Hid ((x1, x2, x3) = its[k]) := hx
      have hkc : k < (colsOf its).length := by simpa using hlt
      have HXC : Hid ((colsOf its)[k] = x1) := by show _ = _; simp [← hx]
      simp only at hxl
      clear hc hx hmem h0
      by_cases hs : x1.length < 1
      · have HG2 : Hid (g = false) := by
          show g = _
          rw [HG.out]
          exact goodT_not (bad_tall hkc (by rw [HXC.out]; omega))
        have hs' : (x1.length : Int) < 1 := by omega
        go_wp2
        go_ret
        exact ⟨ret_bool HG2.out.symm, HI.out.below⟩
      · by_cases hs2 : 3 < x1.length
        · have HG2 : Hid (g = false) := by
            show g = _
            rw [HG.out]
            exact goodT_not (bad_tall hkc (by rw [HXC.out]; omega))
          have hs' : (1 : Int) ≤ (x1.length : Int) := by omega
          have hs2' : (3 : Int) < (x1.length : Int) := by omega
          go_wp2
          go_ret
          exact ⟨ret_bool HG2.out.symm, HI.out.below⟩
        · have hs' : (1 : Int) ≤ (x1.length : Int) := by omega
          have hs2' : (x1.length : Int) ≤ 3 := by omega
          go_wp2
          go_loopw [25] (fun i wr => ∃ j : Nat, j ≤ x1.length ∧ i = .int .i64 j ∧ GInv w its (some ⟨b, off, none⟩) cap (((colsOf its).take k).flatten ++ x1.take j) wr ∧ OkL (((colsOf its).take k).flatten ++ x1.take j)) (fun i _ => x1.length - (intOf i).toNat)
          case atStart => exact ⟨0, Nat.zero_le _, rfl, by simpa using HI.out, by simpa using HO.out.1⟩
          case round =>
            obtain ⟨j, hj, rfl, hi, hok⟩ := hrel
            obtain ⟨b2, z2⟩ := one hi.box
            have HJ : Hid (GInv w its (some ⟨b, off, none⟩) cap (((colsOf its).take k).flatten ++ x1.take j) wr) := hi
            have HO2 : Hid (OkL (((colsOf its).take k).flatten ++ x1.take j)) := hok
            clear hi hok HI
            by_cases hjl : j < x1.length
            · have hjc : j < (colsOf its)[k].length := by rw [HXC.out]; exact hjl
              obtain ⟨bl, ol, hao, hcl⟩ := ((HJ.out.rd.each (x1, x2, x3) (by rw [HX.out]; exact List.getElem_mem hlt)).1).resolve_left (by intro h; simp only at h; subst h; simp at hjl)
              have h3 := hcl j hjl
              obtain ⟨p, hp⟩ : ∃ p, p = x1.getD j 0 := ⟨_, rfl⟩
              rw [← hp] at h3
              have HPX : Hid (x1[j] = p) := by show _ = _; rw [hp]; simp [hjl]
              have HPC : Hid ((colsOf its)[k][j] = p) := by
                show _ = _
                rw [← HPX.out]
                simp only [HXC.out]
              simp only at hao hcl
              subst hao
              have hjl' : (j : Int) < (x1.length : Int) := by omega
              clear hcl hp
              by_cases hpn : paneB p = true
              · obtain ⟨m, rfl⟩ : ∃ m : Nat, p = m := ⟨p.toNat, by simp [paneB] at hpn; omega⟩
                have hm6 : m < 6 := by simp [paneB] at hpn; omega
                have hs6 : wr.cell? ⟨w.heap.size + 1, m, none⟩ = some (.bool ((((colsOf its).take k).flatten ++ x1.take j).contains (m : Int))) := by
                  simp only [World.cell?, HJ.out.seen]
                  exact seen_get _ m hm6
                have hf6 : wr.frozen? ⟨w.heap.size + 1, m, none⟩ = false := frozen_of_row wr _ m _ _ HJ.out.seen
                cases hq : (((colsOf its).take k).flatten ++ x1.take j).contains (m : Int) with
                | true =>
                  have HG2 : Hid (g = false) := by
                    show g = _
                    rw [HG.out]
                    refine goodT_not (bad_twice hkc hjc ?_)
                    rw [HPC.out, HXC.out]
                    simpa using hq
                  rw [hq] at hs6
                  go_wp2_with (go_at_call 60; refine (HP.out _ _).mono ?_; rintro e w1 ⟨rfl, rfl⟩)
                  go_ret
                  exact ⟨ret_bool HG2.out.symm, HJ.out.below⟩
                | false =>
                  have HN : Hid (((((colsOf its).take k).flatten ++ x1.take j)).contains (m : Int) = false) := hq
                  rw [hq] at hs6
                  go_wp2_with (go_at_call 60; refine (HP.out _ _).mono ?_; rintro e w1 ⟨rfl, rfl⟩)
                  go_roundw
                  case rel =>
                    have e1 : x1.take (j + 1) = x1.take j ++ [(m : Int)] := by
                      rw [List.take_succ_eq_append_getElem hjl]
                      rw [show x1[j] = (m : Int) from HPX.out]
                    refine ⟨j + 1, by omega, by go_num, ?_, ?_⟩
                    · rw [e1, ← List.append_assoc]
                      exact HJ.out.put m hm6
                    · rw [e1, ← List.append_assoc]
                      exact okL_snoc HO2.out hpn (by simpa using HN.out)
                  case measure => simp [intOf]; omega
              · have hpn' : paneB p = false := by simpa using hpn
                have HG2 : Hid (g = false) := by
                  show g = _
                  rw [HG.out]
                  exact goodT_not (bad_pane hkc hjc (by rw [HPC.out]; exact hpn'))
                go_wp2_with (go_at_call 60; refine (HP.out _ _).mono ?_; rintro e w1 ⟨rfl, rfl⟩)
                go_ret
                exact ⟨ret_bool HG2.out.symm, HJ.out.below⟩
            · have hjl' : (x1.length : Int) ≤ (j : Int) := by omega
              go_wp2
              go_roundw
              case rel =>
                have e1 : ((colsOf its).take (k + 1)).flatten = ((colsOf its).take k).flatten ++ x1.take j := by
                  have e2 : x1.take j = x1 := List.take_of_length_le (by omega)
                  rw [List.take_succ_eq_append_getElem hkc, List.flatten_append, HXC.out, e2]
                  simp
                refine ⟨k + 1, by omega, by go_num, ?_, ?_, ?_⟩
                · rw [e1]; exact HJ.out
                · rw [e1]; exact HO2.out
                · intro i hi hik
                  by_cases e : i = k
                  · subst e
                    rw [← HX.out]
                    simp only
                    omega
                  · exact HO.out.2 i hi (by omega)
              case measure => simp [intOf]; omega
    · have HK : Hid (k = its.length) := (by omega : k = its.length)
      have HG2 : Hid (g = decide (0 < its.length)) := by
        show g = _
        obtain ⟨ho, htl⟩ := HO.out
        rw [HK.out, List.take_of_length_le (by simp)] at ho
        rw [HG.out, Bool.eq_iff_iff, goodT_iff, decide_eq_true_eq]
        refine ⟨fun h => by simpa using h.some, fun h => ⟨by simpa using h, fun c hc => ?_, ho.1, ho.2⟩⟩
        obtain ⟨i, hi, rfl⟩ := List.getElem_of_mem hc
        simp only [List.getElem_map]
        exact htl i (by simpa using hi) (by rw [HK.out]; simpa using hi)
      go_wp2
      go_ret
      refine ⟨ret_bool ?_, HI.out.below⟩
      rw [HG2.out, Bool.eq_iff_iff]

end Go.Proofs.YtpichplhidiokacGreatDoor.Tl
