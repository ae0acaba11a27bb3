/- What 'commanded' does to a screen: the letters that push rows, that turn the ink, and that say what scrolls. -/
import Derived.Test.YtpichplhidiokabGreatDoorGCsiA
import Derived.Test.YtpichplhidiokabGreatDoorGPush
namespace Go.Proofs.YtpichplhidiokabGreatDoor
open Go.RowKit

/-- A callee has ended whose answer is handed on. -/
theorem hand_on {w : World} {b : Nat} {x : Gr} {o1 o2 : Obj} {w2 : World} (hlt : b < w.heap.size) (hs : Scr w2 b x.n x.f) (hg : ((w.alloc o1).alloc o2).grownBy w2 (some b)) : w2.heap[w.heap.size + 1]? = some o2 ∧ Hid (Scr w2 b x.n x.f ∧ w.grownBy w2 (some b)) :=
  ⟨grown_block hg (at_new1 w _ _) (by simp; omega), hs, grown_trans (grown_alloc (grown_alloc (grown_refl _ _) _) _) hg⟩

set_option maxHeartbeats 2000000 in
theorem csiL (g : Gr) (h : OkG g) (b cap : Nat) (w : World) (hS : Scr w b g.n g.f) (lo : Option Addr) (ln lc : Nat) (p q : Int) (HN : Hid (Nums w lo ln lc p q)) (hp0 : 0 ≤ p) (hc : g.n ≤ cap) (hp9 : p ≤ 999) (m : Int) (hm : m = max p 1) (x : Gr) (hx : x = pushG g m downF) :
    Calls Tryz.prog 52 #[gval g (some ⟨b, 0, none⟩) cap, .int .i64 76, .slice lo ln lc] w (GEnd w b cap x) := by
  have hlt := hS.lt
  have HS : Hid (Scr w b g.n g.f) := hS
  have HC : Hid (∀ w', Below w.heap.size w w' → Scr w' b g.n g.f → Calls Tryz.prog 68 #[gval g (some ⟨b, 0, none⟩) cap, .int .i64 m, .func (.func 69) #[] #[]] w' (GEnd w' b cap x)) := by
    intro w' _ hS
    rw [hx]
    unfold pushG
    split
    · next ho => exact pushed_out g h b cap w' hS m _ ho
    · next ho => exact pushed_down g h b cap w' hS hc m (by omega) (by omega) (by omega) (by omega) _ rfl
  clear hS h hc hx
  by_cases hp : p < 1
  · obtain rfl : p = 0 := by omega
    obtain rfl : m = 1 := by omega
    clear hm
    go_enter Tryz.func52, Tryz.ntmps52
    go_wp2_with (first
      | (go_at_call_of 66 (Value.int IntKind.i64 0); refine (HN.out _ (below2 _ _ _)).1.mono ?_; rintro e w1 ⟨rfl, rfl⟩)
      | (go_at_call_of 66 (Value.int IntKind.i64 1); refine (HN.out _ (below2 _ _ _)).2.mono ?_; rintro e w1 ⟨rfl, rfl⟩)
      | (go_at_call 68; refine (HC.out _ (below2 _ _ _) ((HS.out.alloc _).alloc _)).mono ?_; rintro e w2 ⟨rfl, hs2, hg2⟩; obtain ⟨t2, HF⟩ := hand_on hlt hs2 hg2; obtain ⟨⟨x0, x1, x2, x3, x4, x5, x6, x7, x8⟩, z⟩ := nine t2; clear hs2 hg2 t2))
    refine bodyPost_ret (v := gval x (some ⟨b, 0, none⟩) cap) (by simp [results, Tryz.results52, go_sem, *]) rfl ?_
    exact ⟨rfl, fin9 HF.out (by omega) hlt _ _ _ _ _ _ _ _ _⟩
  · obtain rfl : m = p := by omega
    clear hm
    go_enter Tryz.func52, Tryz.ntmps52
    go_wp2_with (first
      | (go_at_call_of 66 (Value.int IntKind.i64 0); refine (HN.out _ (below2 _ _ _)).1.mono ?_; rintro e w1 ⟨rfl, rfl⟩)
      | (go_at_call_of 66 (Value.int IntKind.i64 1); refine (HN.out _ (below2 _ _ _)).2.mono ?_; rintro e w1 ⟨rfl, rfl⟩)
      | (go_at_call 68; refine (HC.out _ (below2 _ _ _) ((HS.out.alloc _).alloc _)).mono ?_; rintro e w2 ⟨rfl, hs2, hg2⟩; obtain ⟨t2, HF⟩ := hand_on hlt hs2 hg2; obtain ⟨⟨x0, x1, x2, x3, x4, x5, x6, x7, x8⟩, z⟩ := nine t2; clear hs2 hg2 t2))
    refine bodyPost_ret (v := gval x (some ⟨b, 0, none⟩) cap) (by simp [results, Tryz.results52, go_sem, *]) rfl ?_
    exact ⟨rfl, fin9 HF.out (by omega) hlt _ _ _ _ _ _ _ _ _⟩

set_option maxHeartbeats 2000000 in
theorem csiM (g : Gr) (h : OkG g) (b cap : Nat) (w : World) (hS : Scr w b g.n g.f) (lo : Option Addr) (ln lc : Nat) (p q : Int) (HN : Hid (Nums w lo ln lc p q)) (hp0 : 0 ≤ p) (hc : g.n ≤ cap) (hp9 : p ≤ 999) (m : Int) (hm : m = max p 1) (x : Gr) (hx : x = pushG g m upF) :
    Calls Tryz.prog 52 #[gval g (some ⟨b, 0, none⟩) cap, .int .i64 77, .slice lo ln lc] w (GEnd w b cap x) := by
  have hlt := hS.lt
  have HS : Hid (Scr w b g.n g.f) := hS
  have HC : Hid (∀ w', Below w.heap.size w w' → Scr w' b g.n g.f → Calls Tryz.prog 68 #[gval g (some ⟨b, 0, none⟩) cap, .int .i64 m, .func (.func 70) #[] #[]] w' (GEnd w' b cap x)) := by
    intro w' _ hS
    rw [hx]
    unfold pushG
    split
    · next ho => exact pushed_out g h b cap w' hS m _ ho
    · next ho => exact pushed_up g h b cap w' hS hc m (by omega) (by omega) (by omega) (by omega) _ rfl
  clear hS h hc hx
  by_cases hp : p < 1
  · obtain rfl : p = 0 := by omega
    obtain rfl : m = 1 := by omega
    clear hm
    go_enter Tryz.func52, Tryz.ntmps52
    go_wp2_with (first
      | (go_at_call_of 66 (Value.int IntKind.i64 0); refine (HN.out _ (below2 _ _ _)).1.mono ?_; rintro e w1 ⟨rfl, rfl⟩)
      | (go_at_call_of 66 (Value.int IntKind.i64 1); refine (HN.out _ (below2 _ _ _)).2.mono ?_; rintro e w1 ⟨rfl, rfl⟩)
      | (go_at_call 68; refine (HC.out _ (below2 _ _ _) ((HS.out.alloc _).alloc _)).mono ?_; rintro e w2 ⟨rfl, hs2, hg2⟩; obtain ⟨t2, HF⟩ := hand_on hlt hs2 hg2; obtain ⟨⟨x0, x1, x2, x3, x4, x5, x6, x7, x8⟩, z⟩ := nine t2; clear hs2 hg2 t2))
    refine bodyPost_ret (v := gval x (some ⟨b, 0, none⟩) cap) (by simp [results, Tryz.results52, go_sem, *]) rfl ?_
    exact ⟨rfl, fin9 HF.out (by omega) hlt _ _ _ _ _ _ _ _ _⟩
  · obtain rfl : m = p := by omega
    clear hm
    go_enter Tryz.func52, Tryz.ntmps52
    go_wp2_with (first
      | (go_at_call_of 66 (Value.int IntKind.i64 0); refine (HN.out _ (below2 _ _ _)).1.mono ?_; rintro e w1 ⟨rfl, rfl⟩)
      | (go_at_call_of 66 (Value.int IntKind.i64 1); refine (HN.out _ (below2 _ _ _)).2.mono ?_; rintro e w1 ⟨rfl, rfl⟩)
      | (go_at_call 68; refine (HC.out _ (below2 _ _ _) ((HS.out.alloc _).alloc _)).mono ?_; rintro e w2 ⟨rfl, hs2, hg2⟩; obtain ⟨t2, HF⟩ := hand_on hlt hs2 hg2; obtain ⟨⟨x0, x1, x2, x3, x4, x5, x6, x7, x8⟩, z⟩ := nine t2; clear hs2 hg2 t2))
    refine bodyPost_ret (v := gval x (some ⟨b, 0, none⟩) cap) (by simp [results, Tryz.results52, go_sem, *]) rfl ?_
    exact ⟨rfl, fin9 HF.out (by omega) hlt _ _ _ _ _ _ _ _ _⟩

theorem plain_gend {w : World} {g x : Gr} {b cap : Nat} {e : Ending} {w' : World} (hS : Scr w b g.n g.f) (hn : x.n = g.n) (hf : x.f = g.f) (h : GPlain w x (some ⟨b, 0, none⟩) cap e w') : GEnd w b cap x e w' :=
  ⟨h.1, by rw [hn, hf]; exact hS.below h.2 hS.lt, Below.toGrown h.2 _⟩

set_option maxHeartbeats 2000000 in
theorem csi_m (g : Gr) (h : OkG g) (b cap : Nat) (w : World) (hS : Scr w b g.n g.f) (lo : Option Addr) (ln lc : Nat) (p q : Int) (HN : Hid (Nums w lo ln lc p q)) (hp0 : 0 ≤ p) (m : Int) (hm : m = max p 1) (l : List Int) (hl : l.length ≤ 140737488355328) (hln : ln = l.length) (hr : RdL w lo l) (x : Gr) (hx : x = inkG g l) :
    Calls Tryz.prog 52 #[gval g (some ⟨b, 0, none⟩) cap, .int .i64 109, .slice lo ln lc] w (GEnd w b cap x) := by
  have hlt := hS.lt
  have HS : Hid (Scr w b g.n g.f) := hS
  have HC : Hid (∀ w', Below w.heap.size w w' → Scr w' b g.n g.f → Calls Tryz.prog 71 #[gval g (some ⟨b, 0, none⟩) cap, .slice lo ln lc] w' (GEnd w' b cap x)) := by
    intro w' hb hS
    rw [hln]
    obtain ⟨_, _, _, e3, e4⟩ := ok_ink h l
    exact (inked_any g (some ⟨b, 0, none⟩) cap l lo lc w' (hr.below hb) hl x hx).mono fun e w'' k => plain_gend hS (by rw [hx]; exact e3) (by rw [hx]; exact e4) k
  clear hS h hx hr hl hln
  by_cases hp : p < 1
  · obtain rfl : p = 0 := by omega
    obtain rfl : m = 1 := by omega
    clear hm
    go_enter Tryz.func52, Tryz.ntmps52
    go_wp2_with (first
      | (go_at_call_of 66 (Value.int IntKind.i64 0); refine (HN.out _ (below2 _ _ _)).1.mono ?_; rintro e w1 ⟨rfl, rfl⟩)
      | (go_at_call_of 66 (Value.int IntKind.i64 1); refine (HN.out _ (below2 _ _ _)).2.mono ?_; rintro e w1 ⟨rfl, rfl⟩)
      | (go_at_call 71; refine (HC.out _ (below2 _ _ _) ((HS.out.alloc _).alloc _)).mono ?_; rintro e w2 ⟨rfl, hs2, hg2⟩; obtain ⟨t2, HF⟩ := hand_on hlt hs2 hg2; obtain ⟨⟨x0, x1, x2, x3, x4, x5, x6, x7, x8⟩, z⟩ := nine t2; clear hs2 hg2 t2))
    refine bodyPost_ret (v := gval x (some ⟨b, 0, none⟩) cap) (by simp [results, Tryz.results52, go_sem, *]) rfl ?_
    exact ⟨rfl, fin9 HF.out (by omega) hlt _ _ _ _ _ _ _ _ _⟩
  · obtain rfl : m = p := by omega
    clear hm
    go_enter Tryz.func52, Tryz.ntmps52
    go_wp2_with (first
      | (go_at_call_of 66 (Value.int IntKind.i64 0); refine (HN.out _ (below2 _ _ _)).1.mono ?_; rintro e w1 ⟨rfl, rfl⟩)
      | (go_at_call_of 66 (Value.int IntKind.i64 1); refine (HN.out _ (below2 _ _ _)).2.mono ?_; rintro e w1 ⟨rfl, rfl⟩)
      | (go_at_call 71; refine (HC.out _ (below2 _ _ _) ((HS.out.alloc _).alloc _)).mono ?_; rintro e w2 ⟨rfl, hs2, hg2⟩; obtain ⟨t2, HF⟩ := hand_on hlt hs2 hg2; obtain ⟨⟨x0, x1, x2, x3, x4, x5, x6, x7, x8⟩, z⟩ := nine t2; clear hs2 hg2 t2))
    refine bodyPost_ret (v := gval x (some ⟨b, 0, none⟩) cap) (by simp [results, Tryz.results52, go_sem, *]) rfl ?_
    exact ⟨rfl, fin9 HF.out (by omega) hlt _ _ _ _ _ _ _ _ _⟩

set_option maxHeartbeats 2000000 in
theorem csi_r (g : Gr) (b cap : Nat) (w : World) (hS : Scr w b g.n g.f) (lo : Option Addr) (ln lc : Nat) (p q : Int) (HN : Hid (Nums w lo ln lc p q)) (hp0 : 0 ≤ p) (hp9 : p ≤ 999) (hq0 : 0 ≤ q) (hq9 : q ≤ 999) (m : Int) (hm : m = max p 1) (x : Gr) (hx : x = scrollG g m q) :
    Calls Tryz.prog 52 #[gval g (some ⟨b, 0, none⟩) cap, .int .i64 114, .slice lo ln lc] w (GEnd w b cap x) := by
  have hlt := hS.lt
  have HS : Hid (Scr w b g.n g.f) := hS
  have HC : Hid (∀ w', Below w.heap.size w w' → Scr w' b g.n g.f → Calls Tryz.prog 72 #[gval g (some ⟨b, 0, none⟩) cap, .int .i64 m, .int .i64 q] w' (GEnd w' b cap x)) := by
    intro w' _ hS
    have e3 : x.n = g.n ∧ x.f = g.f := by rw [hx]; unfold scrollG; split <;> exact ⟨rfl, rfl⟩
    exact (scrolling_any g (some ⟨b, 0, none⟩) cap m q w' (by omega) (by omega) hq0 hq9 x hx).mono fun e w'' k => plain_gend hS e3.1 e3.2 k
  clear hS hx
  by_cases hp : p < 1
  · obtain rfl : p = 0 := by omega
    obtain rfl : m = 1 := by omega
    clear hm
    go_enter Tryz.func52, Tryz.ntmps52
    go_wp2_with (first
      | (go_at_call_of 66 (Value.int IntKind.i64 0); refine (HN.out _ (below2 _ _ _)).1.mono ?_; rintro e w1 ⟨rfl, rfl⟩)
      | (go_at_call_of 66 (Value.int IntKind.i64 1); refine (HN.out _ (below2 _ _ _)).2.mono ?_; rintro e w1 ⟨rfl, rfl⟩)
      | (go_at_call 72; refine (HC.out _ (below2 _ _ _) ((HS.out.alloc _).alloc _)).mono ?_; rintro e w2 ⟨rfl, hs2, hg2⟩; obtain ⟨t2, HF⟩ := hand_on hlt hs2 hg2; obtain ⟨⟨x0, x1, x2, x3, x4, x5, x6, x7, x8⟩, z⟩ := nine t2; clear hs2 hg2 t2))
    refine bodyPost_ret (v := gval x (some ⟨b, 0, none⟩) cap) (by simp [results, Tryz.results52, go_sem, *]) rfl ?_
    exact ⟨rfl, fin9 HF.out (by omega) hlt _ _ _ _ _ _ _ _ _⟩
  · obtain rfl : m = p := by omega
    clear hm
    go_enter Tryz.func52, Tryz.ntmps52
    go_wp2_with (first
      | (go_at_call_of 66 (Value.int IntKind.i64 0); refine (HN.out _ (below2 _ _ _)).1.mono ?_; rintro e w1 ⟨rfl, rfl⟩)
      | (go_at_call_of 66 (Value.int IntKind.i64 1); refine (HN.out _ (below2 _ _ _)).2.mono ?_; rintro e w1 ⟨rfl, rfl⟩)
      | (go_at_call 72; refine (HC.out _ (below2 _ _ _) ((HS.out.alloc _).alloc _)).mono ?_; rintro e w2 ⟨rfl, hs2, hg2⟩; obtain ⟨t2, HF⟩ := hand_on hlt hs2 hg2; obtain ⟨⟨x0, x1, x2, x3, x4, x5, x6, x7, x8⟩, z⟩ := nine t2; clear hs2 hg2 t2))
    refine bodyPost_ret (v := gval x (some ⟨b, 0, none⟩) cap) (by simp [results, Tryz.results52, go_sem, *]) rfl ?_
    exact ⟨rfl, fin9 HF.out (by omega) hlt _ _ _ _ _ _ _ _ _⟩

end Go.Proofs.YtpichplhidiokabGreatDoor
