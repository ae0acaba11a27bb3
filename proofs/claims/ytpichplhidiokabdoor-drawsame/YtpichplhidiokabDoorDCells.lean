/- A row's cells, cut out of a screen's list. -/
import Derived.Test.YtpichplhidiokabDoorDFun
namespace Go.Proofs.YtpichplhidiokabDoor
open Go.RowKit
set_option maxRecDepth 100000

theorem cells_any (g : Gr) (ok : OkG g) (b off cap : Nat) (r : Nat) (hr : (r : Int) < g.high) (hc : g.n ≤ cap) (w : World) :
    Calls Tryd.prog 21 #[gval g (some ⟨b, off, none⟩) cap, .int .i64 r] w fun e w' => e = .returned (.slice (some ⟨b, off + r * g.wide.toNat * 4, none⟩) g.wide.toNat (cap - r * g.wide.toNat)) ∧ w' = w.alloc (gbox g (some ⟨b, off, none⟩) cap) := by
  obtain ⟨q1, q2, _⟩ := ok.nums
  have w1 := ok.w1
  have w2 := ok.w2
  have hh := ok.h2
  have hm := mul_bound (r := (r : Int)) (w := g.wide) (h := g.high) (by omega) hr (by omega)
  have hr1 : ((r : Int) + 1) * g.wide = (r : Int) * g.wide + g.wide := by rw [Int.add_mul]; omega
  have hrn : ((r : Int) * g.wide).toNat = r * g.wide.toNat := by
    obtain ⟨n, hn⟩ := Int.eq_ofNat_of_zero_le (a := g.wide) (by omega)
    rw [hn, ← Int.natCast_mul]
    rfl
  obtain ⟨p, hp⟩ : ∃ p, p = (r : Int) * g.wide := ⟨_, rfl⟩
  obtain ⟨q, hq⟩ : ∃ q, q = ((r : Int) + 1) * g.wide := ⟨_, rfl⟩
  have h1 : 0 ≤ p := by omega
  have h2 : q = p + g.wide := by omega
  have h3 : q ≤ g.n := by omega
  have hp' : (r : Int) * g.wide = p := hp.symm
  have hq' : ((r : Int) + 1) * g.wide = q := hq.symm
  have HR : Hid (r * g.wide.toNat = p.toNat) := by show r * g.wide.toNat = p.toNat; rw [hp, hrn]
  have h4 : (q.toNat - p.toNat : Nat) = g.wide.toNat := by omega
  have h5 : p < q := by omega
  have HW : Hid (q.toNat - p.toNat = g.wide.toNat) := h4
  clear hp hq hr1 hrn hm h4 h2
  go_enter Tryd.func21, Tryd.ntmps21
  go_wp2
  go_ret
  refine ⟨?_, rfl⟩
  rw [HR.out, ← HW.out]
  rfl

end Go.Proofs.YtpichplhidiokabDoor
