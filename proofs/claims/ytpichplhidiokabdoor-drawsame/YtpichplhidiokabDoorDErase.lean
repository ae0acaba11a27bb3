/- The pen erases what is to be empty in a row. -/
import Derived.Test.YtpichplhidiokabDoorDPrint
import Derived.Test.YtpichplhidiokabDoorDKept
import Derived.Test.YtpichplhidiokabDoorDPures
namespace Go.Proofs.YtpichplhidiokabDoor
open Go.RowKit
set_option maxRecDepth 100000

theorem RdS.shift {w : World} {b off n : Nat} {f : Nat → Cel} (h : RdS w (some ⟨b, off, none⟩) n f) (a m o : Nat) (hm : a + m ≤ n) (ho : o = off + a * 4) : RdS w (some ⟨b, o, none⟩) m (shF f a) := by
  subst ho
  rcases h with h | ⟨b', o', e, hc⟩
  · exact .inl (by omega)
  · simp only [Option.some.injEq, Addr.mk.injEq, and_true] at e
    obtain ⟨rfl, rfl⟩ := e
    refine .inr ⟨b, off + a * 4, rfl, fun i hi => ?_⟩
    have := hc (a + i) (by omega)
    have e : off + (a + i) * 4 = off + a * 4 + i * 4 := by omega
    rw [e] at this
    exact this
theorem RdS.first {w : World} {ao : Option Addr} {n : Nat} {f : Nat → Cel} (h : RdS w ao n f) (m : Nat) (hm : m ≤ n) : RdS w ao m f := by
  rcases h with h | ⟨b, o, e, hc⟩
  · exact .inl (by omega)
  · exact .inr ⟨b, o, e, fun i hi => hc i (by omega)⟩

theorem RdS.congr {w : World} {ao : Option Addr} {n : Nat} {f g : Nat → Cel} (h : RdS w ao n f) (e : ∀ i, i < n → f i = g i) : RdS w ao n g := by
  rcases h with h | ⟨b, o, ea, hc⟩
  · exact .inl h
  · exact .inr ⟨b, o, ea, fun i hi => by rw [← e i hi]; exact hc i hi⟩
theorem redrew {w w1 : World} {B : Nat} (h : Below B w w1) : Below B w w1.drew := ⟨h.os, h.tape, h.output, h.size, h.block⟩

theorem write_from {w w1 : World} {pb b cap : Nat} {oo : Option Addr} {q : Pen} (h : PenTo w pb b cap oo q w1) (S : ByteArray) (hS : q.out.length + S.size ≤ 1048576) (l : List UInt8) (hl : S.data.toList = l) :
    Calls Tryd.prog 27 #[.pointer (some ⟨pb, 0, none⟩), .string S] w1 fun e w' => e = .returned (.tuple #[]) ∧ PenTo w pb b cap oo ⟨q.out ++ l, q.g⟩ w' := by
  obtain ⟨o1, c1, a1, k1⟩ := h
  subst hl
  exact (write_any pb b cap o1 c1 q S w1 a1 hS).mono fun e w' hk => ⟨hk.1, PenTo.trans k1 hk.2⟩
theorem move_from {w w1 : World} {pb b cap : Nat} {oo : Option Addr} {q : Pen} (h : PenTo w pb b cap oo q w1) (ok : OkG q.g) (r c : Int) (h1 : 0 ≤ r) (h2 : r < q.g.high) (h3 : 0 ≤ c) (h4 : c < q.g.wide) (hl : q.out.length ≤ 1000000) :
    Calls Tryd.prog 22 #[.pointer (some ⟨pb, 0, none⟩), .int .i64 r, .int .i64 c] w1 fun e w' => e = .returned (.tuple #[]) ∧ PenTo w pb b cap oo (moveP q r c) w' := by
  obtain ⟨o1, c1, a1, k1⟩ := h
  exact (move_any pb b cap o1 c1 q ok r c h1 h2 h3 h4 hl w1 a1).mono fun e w' hk => ⟨hk.1, PenTo.trans k1 hk.2⟩

/-- The cells of the pen's row are cleared. -/
theorem PenTo.clear {w w1 : World} {pb b cap : Nat} {oo : Option Addr} {l : List UInt8} {y : Gr} (h : PenTo w pb b cap oo ⟨l, y⟩ w1) {w2 : World} {a z : Nat} (h1 : Scr w2 b y.n (clrF y.f a z)) (h2 : w1.grownBy w2 (some b)) : PenTo w pb b cap oo ⟨l, clearG y a z⟩ w2 := by
  obtain ⟨o', c', hp, hk⟩ := h
  refine ⟨o', c', ⟨grown_block h2 hp.box (fun e => hp.n1 (Option.some.inj e)), hp.own.kept h2 ?_, h1⟩, ⟨h2.os.trans hk.os, h2.tape.trans hk.tape, h2.output.trans hk.output, Nat.le_trans hk.size h2.size, fun k hk0 k1 k2 k3 => (h2.block k (Nat.lt_of_lt_of_le hk0 hk.size) (fun e => k2 (Option.some.inj e))).trans (hk.block k hk0 k1 k2 k3), hk.fresh⟩⟩
  rw [ownBlock_D]
  exact .inr hp.n3

set_option maxHeartbeats 4000000 in
theorem erase_pen (pb b cap : Nat) (oo : Option Addr) (oc : Nat) (p : Pen) (ok : OkG p.g) (hcap : p.g.n ≤ cap) (r : Nat) (hr : (r : Int) < p.g.high) (want : Nat → Cel) (aw : Option Addr) (cw : Nat) (W : Nat) (hW : W = p.g.wide.toNat) (hcw : W ≤ cw) (hl : p.out.length ≤ 100000) (w : World) (h : PenIn w pb b cap oo oc p) (hw : RdS w aw W want) :
    Calls Tryd.prog 24 #[.pointer (some ⟨pb, 0, none⟩), .int .i64 r, .slice aw W cw] w fun e w' => e = .returned (.tuple #[]) ∧ PenTo w pb b cap oo (eraseP p r want) w' := by
  have w1 := ok.w1
  have w2 := ok.w2
  have hh := ok.h2
  have hW24 : W ≤ 24 := by omega
  obtain ⟨bw, ow, rfl, hcc⟩ := hw.resolve_left (by omega)
  have HRW : Hid (∀ w1, Below w.heap.size w w1 → RdS w1 (some ⟨bw, ow, none⟩) W want) := fun w1 hb => hw.below hb
  clear hcc
  obtain ⟨P, hP⟩ : ∃ P, P = r * W := ⟨_, rfl⟩
  have HC : Hid (∀ w, Calls Tryd.prog 21 #[gval p.g (some ⟨b, 0, none⟩) cap, .int .i64 r] w fun e w' => e = .returned (.slice (some ⟨b, P * 4, none⟩) W (cap - P)) ∧ w' = w.alloc (gbox p.g (some ⟨b, 0, none⟩) cap)) := fun w => by
    have := cells_any p.g ok b 0 cap r hr hcap w
    rw [Nat.zero_add, ← hW, ← hP] at this
    exact this
  have hPn : P + W ≤ p.g.n := by
    have h1 := size_nat ok
    have h2 : (r + 1) * W ≤ p.g.high.toNat * W := Nat.mul_le_mul_right _ (by omega)
    rw [Nat.succ_mul] at h2
    rw [h1, ← hW]
    omega
  have HRH : Hid (∀ w1, Below w.heap.size w w1 → RdS w1 (some ⟨b, P * 4, none⟩) W (shF p.g.f P)) := fun w1 hb => (h.later hb).scr.rd.shift P W _ (by omega) (by omega)
  obtain ⟨FL, hFL⟩ : ∃ FL, FL = surD (shF p.g.f P) want W W := ⟨_, rfl⟩
  have HSU : Hid (∀ w1, Below w.heap.size w w1 → Calls Tryd.prog 29 #[.slice (some ⟨b, P * 4, none⟩) W (cap - P), .slice (some ⟨bw, ow, none⟩) W cw] w1 fun e w' => e = .returned (.tuple #[.int .i64 FL.1, .int .i64 FL.2]) ∧ Below w1.heap.size w1 w') := fun w1 hb => by
    rw [hFL]
    exact surplus_any (shF p.g.f P) want W (by omega) _ _ _ _ w1 (HRH.out w1 hb) (HRW.out w1 hb)
  have HER : Hid (eraseP p r want = eraseAtP p r want P W FL.1 FL.2) := by
    show eraseP p r want = _
    unfold eraseP
    rw [← hW, ← hP, ← hFL]
  have hsp := sur_spec (shF p.g.f P) want W W
  rw [← hFL] at hsp
  have HBX : Hid (∀ w1, Below w.heap.size w w1 → w1.heap[pb]? = some (pbox p.out.length oo oc p.g b cap)) := fun w1 hb => below_block hb h.box h.lt
  obtain ⟨⟨c0, c1, c2, c3, c4, c5, c6, c7, c8, c9⟩, cf⟩ := ten h.box
  obtain ⟨F, L'⟩ := FL
  simp only at hsp HSU HER
  rcases hsp with ⟨a1, a2, _⟩ | ⟨A, L, a1, a2, a3, a4, _⟩
  · subst a1 a2
    have HE : Hid (∀ w1, Below w.heap.size w w1 → PenTo w pb b cap oo (eraseP p r want) w1) := fun w1 hb => by
      rw [HER.out]
      unfold eraseAtP
      rw [if_pos (by omega)]
      exact h.stay hb
    clear h HER HRH HRW hw ok hFL hP hW
    go_enter Tryd.func24, Tryd.ntmps24
    go_wp2_with (first
      | (go_at_call 21; refine (HC.out _).mono ?_; rintro e v1 ⟨rfl, rfl⟩)
      | (go_at_call 29; refine (HSU.out _ (below1 _ _)).mono ?_; rintro e v2 ⟨rfl, hb2⟩; have HE2 : Hid (PenTo w pb b cap oo (eraseP p r want) v2) := HE.out v2 (below_up hb2); clear hb2))
    exact bodyPost_ret (v := .tuple #[]) (by simp [results, Tryd.results24, go_sem]) rfl ⟨rfl, HE2.out⟩
  · subst a1 a2
    obtain ⟨K1, hK1⟩ : ∃ K, K = keptD (shF p.g.f (P + A)) (shF want A) (W - A) := ⟨_, rfl⟩
    obtain ⟨K2, hK2⟩ : ∃ K, K = keptD (shF p.g.f P) want (L + 1) := ⟨_, rfl⟩
    have HKK : Hid (K1 = keptD (shF p.g.f (P + A)) (shF want A) (W - A) ∧ K2 = keptD (shF p.g.f P) want (L + 1)) := ⟨hK1, hK2⟩
    have HPW : Hid (P = r * W ∧ W = p.g.wide.toNat) := ⟨hP, hW⟩
    clear hFL hw hP hW
    go_enter Tryd.func24, Tryd.ntmps24
    go_wp2_with (first
      | (go_at_call 21; refine (HC.out _).mono ?_; rintro e v1 ⟨rfl, rfl⟩)
      | (go_at_call 29; refine (HSU.out _ (below1 _ _)).mono ?_; rintro e v2 ⟨rfl, hb2⟩; have HB2 : Hid (Below w.heap.size w v2) := below_up hb2; clear hb2 c0 c1 c2 c3 c4 c5 c6 c7 c8 c9 cf))
    have HK1 : Hid (∀ w1, Below w.heap.size w w1 → Calls Tryd.prog 30 #[.slice (some ⟨b, P * 4 + A * 4, none⟩) (W - A) (cap - P - A), .slice (some ⟨bw, ow + A * 4, none⟩) (W - A) (cw - A)] w1 fun e w' => e = .returned (.int .i64 K1) ∧ Below w1.heap.size w1 w') := fun w1 hb => by
      rw [hK1]
      exact kept_any (shF p.g.f (P + A)) (shF want A) (W - A) (by omega) _ _ _ _ w1 ((HRH.out w1 hb).shift A (W - A) _ (by omega) rfl |>.congr (fun i _ => by unfold shF; rw [Nat.add_assoc])) ((HRW.out w1 hb).shift A (W - A) _ (by omega) rfl)
    have HK2 : Hid (∀ w1, Below w.heap.size w w1 → Calls Tryd.prog 30 #[.slice (some ⟨b, P * 4, none⟩) (L + 1) (cap - P), .slice (some ⟨bw, ow, none⟩) (L + 1) cw] w1 fun e w' => e = .returned (.int .i64 K2) ∧ Below w1.heap.size w1 w') := fun w1 hb => by
      rw [hK2]
      exact kept_any (shF p.g.f P) want (L + 1) (by omega) _ _ _ _ w1 ((HRH.out w1 hb).first (L + 1) (by omega)) ((HRW.out w1 hb).first (L + 1) (by omega))
    have l1 : (A : Int) ≤ (W : Int) := by omega
    have l2 : (0 : Int) ≤ (A : Int) := by omega
    have l3 : (L : Int) + 1 ≤ (W : Int) := by omega
    have l4 : W ≤ cap - P := by omega
    have l5 : (W : Int) ≤ ((cap - P : Nat) : Int) := by omega
    have l6 : (W : Int) ≤ (cw : Int) := by omega
    have l7 : ¬ cap - P = A := by omega
    have l8 : ¬ cw = A := by omega
    have l9 : IntKind.i64.wrap ((L : Int) + 1) = (L : Int) + 1 := by rw [IntKind.wrap_i64]; omega
    have l10 : (L : Int) + 1 ≤ ((cap - P : Nat) : Int) := by omega
    have l11 : (L : Int) + 1 ≤ (cw : Int) := by omega
    have l12 : (0 : Int) ≤ (L : Int) + 1 := by omega
    clear hK1 hK2 HRH HRW
    go_region_held3 (fun _ => True) (first | go_keep | trivial)
      (first
      | (have _t := HB3; go_at_call 30; go_must (go_fit (HK2.out v3 HB3.out)); rintro e v4 ⟨rfl, hb4⟩; have HB4 : Hid (Below w.heap.size w v4) := HB3.out.trans (hb4.mono HB3.out.size); clear hb4)
      | (go_at_call 30; go_must (go_fit (HK1.out v2.drew (redrew HB2.out))); rintro e v3 ⟨rfl, hb3⟩; have HB3 : Hid (Below w.heap.size w v3) := HB2.out.trans ((undrew hb3).mono HB2.out.size); clear hb3))
    have HMA : Hid (∀ j : Nat, j < W → ∀ w1, Below w.heap.size w w1 → Calls Tryd.prog 22 #[.pointer (some ⟨pb, 0, none⟩), .int .i64 r, .int .i64 j] w1 fun e w' => e = .returned (.tuple #[]) ∧ PenTo w pb b cap oo (moveP p r j) w') := fun j hj w1 hb => by
      have := HPW.out.2
      exact move_from (h.stay hb) ok r j (by omega) hr (by omega) (by omega) (by omega)
    have HLN : Hid (∀ j : Nat, j < W → (moveP p r j).out.length ≤ 100008) := fun j hj => by
      have := HPW.out.2
      have := (len_moveD ok r j (by omega) hr (by omega) (by omega)).1
      show (p.out ++ moveD p.g r j).length ≤ 100008
      rw [List.length_append]
      omega
    clear ok h HC HSU HK1 HK2 HBX HB2 HB3
    by_cases hk : K1 ≤ K2
    · have HE : Hid (eraseP p r want = ⟨(moveP p r A).out ++ [27, 91, 75], clearG (moveP p r A).g (P + A) (P + A + (W - A))⟩) := by
        show eraseP p r want = _
        rw [HER.out]
        unfold eraseAtP
        have e1 : ((A : Nat) : Int).toNat = A := by omega
        have e2 : ((L : Int) + 1).toNat = L + 1 := by omega
        rw [if_neg (by omega), e1, e2, ← HKK.out.1, ← HKK.out.2, if_pos hk, show P + A + (W - A) = P + W by omega]
      clear HER HKK
      go_wp2_with (first
        | (go_at_call 22; refine (HMA.out A (by omega) _ HB4.out).mono ?_; rintro e v5 ⟨rfl, hk5⟩; have HP5 : Hid (PenTo w pb b cap oo (moveP p r A) v5) := hk5; clear hk5)
        | (go_at_call 27; refine (write_from HP5.out ⟨#[27, 91, 75]⟩ (by have := HLN.out A (by omega); show (moveP p r A).out.length + 3 ≤ 1048576; omega) [27, 91, 75] rfl).mono ?_; rintro e v6 ⟨rfl, hk6⟩; have HP6 : Hid (PenTo w pb b cap oo ⟨(moveP p r A).out ++ [27, 91, 75], (moveP p r A).g⟩ v6) := hk6; obtain ⟨o6, c6, hp6, _⟩ := hk6; obtain ⟨v7, r7, h7, g7⟩ := run_clear4 v6 0 b p.g.n p.g.f hp6.scr (P + A) (W - A) (cap - P - A) (some ⟨b, P * 4 + A * 4, none⟩) (by omega) (fun _ => by rw [Nat.add_mul]); have HS7 : Hid (Scr v7 b p.g.n (clrF p.g.f (P + A) (P + A + (W - A)))) := h7; have HG7 : Hid (v6.grownBy v7 (some b)) := g7; clear hp6 h7 g7))
      go_end0
      refine ⟨rfl, ?_⟩
      rw [HE.out]
      exact HP6.out.clear HS7.out HG7.out
    · have HE : Hid (eraseP p r want = ⟨(moveP p r L).out ++ [27, 91, 49, 75], clearG (moveP p r L).g P (P + (L + 1))⟩) := by
        show eraseP p r want = _
        rw [HER.out]
        unfold eraseAtP
        have e1 : ((A : Nat) : Int).toNat = A := by omega
        have e2 : ((L : Int) + 1).toNat = L + 1 := by omega
        rw [if_neg (by omega), e1, e2, ← HKK.out.1, ← HKK.out.2, if_neg hk]
      clear HER HKK
      go_wp2_with (first
        | (go_at_call 22; refine (HMA.out L (by omega) _ HB4.out).mono ?_; rintro e v5 ⟨rfl, hk5⟩; have HP5 : Hid (PenTo w pb b cap oo (moveP p r L) v5) := hk5; clear hk5)
        | (go_at_call 27; refine (write_from HP5.out ⟨#[27, 91, 49, 75]⟩ (by have := HLN.out L (by omega); show (moveP p r L).out.length + 4 ≤ 1048576; omega) [27, 91, 49, 75] rfl).mono ?_; rintro e v6 ⟨rfl, hk6⟩; have HP6 : Hid (PenTo w pb b cap oo ⟨(moveP p r L).out ++ [27, 91, 49, 75], (moveP p r L).g⟩ v6) := hk6; obtain ⟨o6, c6, hp6, _⟩ := hk6; obtain ⟨v7, r7, h7, g7⟩ := run_clear4 v6 0 b p.g.n p.g.f hp6.scr P (L + 1) (cap - P) (some ⟨b, P * 4, none⟩) (by omega) (fun _ => rfl); have HS7 : Hid (Scr v7 b p.g.n (clrF p.g.f P (P + (L + 1)))) := h7; have HG7 : Hid (v6.grownBy v7 (some b)) := g7; clear hp6 h7 g7))
      go_end0
      refine ⟨rfl, ?_⟩
      rw [HE.out]
      exact HP6.out.clear HS7.out HG7.out

end Go.Proofs.YtpichplhidiokabDoor
