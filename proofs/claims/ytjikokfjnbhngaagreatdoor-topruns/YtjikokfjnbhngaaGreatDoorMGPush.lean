/- Several texts in one, each as it was: GPush, GAtC. -/
import Derived.Test.YtjikokfjnbhngaaGreatDoorMGAll2
import Derived.Test.YtjikokfjnbhngaaGreatDoorMGMove
import Derived.Test.YtjikokfjnbhngaaGreatDoorMGMach

/- What 'pushed' does to a screen, with each of the two moves. -/
namespace Go.Proofs.YtjikokfjnbhngaaGreatDoor
open Go.RowKit
theorem rows_push (g:Gr) (h:OkG g) (b cap:Nat) (w:World) (hc:g.n≤cap) (hr:g.row < g.bottom):
  Calls Tryz.prog 120 #[gval g (some ⟨b,0,none⟩) cap,.int .i64 g.row,.int .i64 g.bottom] w fun e w'=>e=.returned (.slice (some ⟨b,(g.row*g.wide).toNat*4,none⟩) ((g.bottom*g.wide).toNat - (g.row*g.wide).toNat) (cap - (g.row*g.wide).toNat))∧w'=w.alloc (gbox g (some ⟨b,0,none⟩) cap):=by
 obtain⟨q1,q2,q3,q4,q5,q6,q7⟩:=h.nums
 have:=h.w1
 have hb:=mul_bound h.r1 hr (w:=g.wide) (by omega)
 exact rows_any g b cap g.row g.bottom w (by omega) (by omega) (by omega) (by omega) hc
theorem push_nums (g:Gr) (h:OkG g) (k:Int) (hk:0≤k) (hk2:k≤g.bottom - g.row):0≤g.row*g.wide∧0≤k*g.wide∧g.row*g.wide+k*g.wide≤g.bottom*g.wide∧g.bottom*g.wide≤g.n∧k*g.wide≤240:=by
 obtain⟨q1,q2,q3,q4,q5,q6,q7⟩:=h.nums
 have hw:=h.w1
 have h1:0≤k*g.wide:=Int.mul_nonneg hk (by omega)
 have h2:(g.row+k)*g.wide≤g.bottom*g.wide:=mul_mono (by omega) (by omega)
 rw [Int.add_mul] at h2
 omega
theorem up_push (g:Gr) (h:OkG g) (b cap:Nat) (w:World) (hS:Scr w b g.n g.f) (hc:g.n≤cap) (k:Int) (hk:0≤k) (hk2:k≤g.bottom - g.row):
  Calls Tryz.prog 126 #[.slice (some ⟨b,(g.row*g.wide).toNat*4,none⟩) ((g.bottom*g.wide).toNat - (g.row*g.wide).toNat) (cap - (g.row*g.wide).toNat),.int .i64 (k*g.wide)] w fun e w'=>e=.returned (.tuple #[])∧Scr w' b g.n (upF g.f (g.row*g.wide).toNat (g.bottom*g.wide).toNat (k*g.wide).toNat)∧w.grownBy w' (some b):=by
 obtain⟨p1,p2,p3,p4,p5⟩:=push_nums g h k hk hk2
 have e:(g.bottom*g.wide).toNat=(g.row*g.wide).toNat+((g.bottom*g.wide).toNat - (g.row*g.wide).toNat):=by omega
 have:=goUp_at b g.n g.f (g.row*g.wide).toNat ((g.bottom*g.wide).toNat - (g.row*g.wide).toNat) (cap - (g.row*g.wide).toNat) (k*g.wide) w hS (by omega) (by omega) (by omega) (by omega)
 rw [←e] at this
 exact this
theorem down_push (g:Gr) (h:OkG g) (b cap:Nat) (w:World) (hS:Scr w b g.n g.f) (hc:g.n≤cap) (k:Int) (hk:0≤k) (hk2:k≤g.bottom - g.row):
  Calls Tryz.prog 125 #[.slice (some ⟨b,(g.row*g.wide).toNat*4,none⟩) ((g.bottom*g.wide).toNat - (g.row*g.wide).toNat) (cap - (g.row*g.wide).toNat),.int .i64 (k*g.wide)] w fun e w'=>e=.returned (.tuple #[])∧Scr w' b g.n (downF g.f (g.row*g.wide).toNat (g.bottom*g.wide).toNat (k*g.wide).toNat)∧w.grownBy w' (some b):=by
 obtain⟨p1,p2,p3,p4,p5⟩:=push_nums g h k hk hk2
 have e:(g.bottom*g.wide).toNat=(g.row*g.wide).toNat+((g.bottom*g.wide).toNat - (g.row*g.wide).toNat):=by omega
 have:=goDown_at b g.n g.f (g.row*g.wide).toNat ((g.bottom*g.wide).toNat - (g.row*g.wide).toNat) (cap - (g.row*g.wide).toNat) (k*g.wide) w hS (by omega) (by omega) (by omega) (by omega)
 rw [←e] at this
 exact this
set_option maxHeartbeats 1000000 in
theorem pushed_out (g:Gr) (h:OkG g) (b cap:Nat) (w:World) (hS:Scr w b g.n g.f) (n:Int) (fv:Value) (hout:g.row < g.top∨g.bottom≤g.row):
  Calls Tryz.prog 124 #[gval g (some ⟨b,0,none⟩) cap,.int .i64 n,fv] w (GEnd w b cap g):=by
 have HS:Hid (Scr w b g.n g.f):=hS
 have hc:g.row < g.top∨(g.top≤g.row∧g.bottom≤g.row):=by have:=h.t2;omega
 clear hS h hout
 rcases hc with h1 | ⟨h1,h2⟩
 ·go_enter Tryz.func124,Tryz.ntmps124
  go_wp2
  refine bodyPost_ret (v:=gval g (some ⟨b,0,none⟩) cap) (by simp [results,Tryz.results124,go_sem]) rfl ?_
  exact⟨rfl,(HS.out.alloc _).alloc _,grown_alloc (grown_alloc (grown_refl _ _) _) _⟩
 ·go_enter Tryz.func124,Tryz.ntmps124
  go_wp2
  refine bodyPost_ret (v:=gval g (some ⟨b,0,none⟩) cap) (by simp [results,Tryz.results124,go_sem]) rfl ?_
  exact⟨rfl,(HS.out.alloc _).alloc _,grown_alloc (grown_alloc (grown_refl _ _) _) _⟩
set_option maxRecDepth 2000 in
set_option maxHeartbeats 2000000 in
theorem pushed_down (g:Gr) (h:OkG g) (b cap:Nat) (w:World) (hS:Scr w b g.n g.f) (hc:g.n≤cap) (n:Int) (hn:1≤n) (hn2:n≤999) (h1:g.top≤g.row) (h2:g.row < g.bottom) (fx:Nat→Cel)
  (hfx:fx=downF g.f (g.row*g.wide).toNat (g.bottom*g.wide).toNat (min n (g.bottom - g.row)*g.wide).toNat):
  Calls Tryz.prog 124 #[gval g (some ⟨b,0,none⟩) cap,.int .i64 n,.func (.func 125) #[] #[]] w (GEnd w b cap ⟨g.wide,g.high,g.n,fx,g.row,0,g.ink,g.bold,g.top,g.bottom⟩):=by
 have hlt:=hS.lt
 have HS:Hid (Scr w b g.n g.f):=hS
 have hb1:g.bottom≤10:=by have:=h.t3;have:=h.h2;omega
 have hr0:=h.r1
 obtain⟨k,hk⟩:∃ k,k=min n (g.bottom - g.row):=⟨_,rfl⟩
 obtain⟨p1,p2,p3,p4,p5⟩:=push_nums g h k (by omega) (by omega)
 have hwr0:IntKind.i64.wrap (g.bottom - g.row)=g.bottom - g.row:=by rw [IntKind.wrap_i64];omega
 have hwr:IntKind.i64.wrap ((if IntKind.i64.wrap (g.bottom - g.row) < n then IntKind.i64.wrap (g.bottom - g.row) else n)*g.wide)=k*g.wide:=by
  have e:(if IntKind.i64.wrap (g.bottom - g.row) < n then IntKind.i64.wrap (g.bottom - g.row) else n)=k:=by rw [hwr0,hk];split <;>omega
  rw [e,IntKind.wrap_i64];omega
 have HRW:Hid (∀ w,Calls Tryz.prog 120 #[gval g (some ⟨b,0,none⟩) cap,.int .i64 g.row,.int .i64 g.bottom] w fun e w'=>e=.returned (.slice (some ⟨b,(g.row*g.wide).toNat*4,none⟩) ((g.bottom*g.wide).toNat - (g.row*g.wide).toNat) (cap - (g.row*g.wide).toNat))∧w'=w.alloc (gbox g (some ⟨b,0,none⟩) cap)):=fun w=>rows_push g h b cap w hc h2
 have HMV:Hid (∀ w v,v=k*g.wide→Scr w b g.n g.f→Calls Tryz.prog 125 #[.slice (some ⟨b,(g.row*g.wide).toNat*4,none⟩) ((g.bottom*g.wide).toNat - (g.row*g.wide).toNat) (cap - (g.row*g.wide).toNat),.int .i64 v] w fun e w'=>e=.returned (.tuple #[])∧Scr w' b g.n fx∧w.grownBy w' (some b)):=by
  intro w v hv hS
  rw [hv,hfx, ←hk]
  exact down_push g h b cap w hS hc k (by omega) (by omega)
 have HV0:Hid (IntKind.i64.wrap ((if IntKind.i64.wrap (g.bottom - g.row) < n then IntKind.i64.wrap (g.bottom - g.row) else n)*g.wide)=k*g.wide):=hwr
 have HV1:Hid (k=n→IntKind.i64.wrap (n*g.wide)=k*g.wide):=fun e=>by rw [←e,IntKind.wrap_i64];omega
 have HV2:Hid (k=g.bottom - g.row→IntKind.i64.wrap ((g.bottom - g.row)*g.wide)=k*g.wide):=fun e=>by rw [←e,IntKind.wrap_i64];omega
 have HV3:Hid (k=g.bottom - g.row→IntKind.i64.wrap (IntKind.i64.wrap (g.bottom - g.row)*g.wide)=k*g.wide):=fun e=>by rw [hwr0, ←e,IntKind.wrap_i64];omega
 have hcs:(¬ IntKind.i64.wrap (g.bottom - g.row) < n∧k=n)∨(IntKind.i64.wrap (g.bottom - g.row) < n∧k=g.bottom - g.row):=by rw [hwr0];omega
 clear hS hfx hk p1 p2 p3 p4 p5 hwr hwr0 h
 obtain⟨P,hP⟩:∃ P,P=(g.row*g.wide).toNat:=⟨_,rfl⟩
 obtain⟨Q,hQ⟩:∃ Q,Q=(g.bottom*g.wide).toNat - (g.row*g.wide).toNat:=⟨_,rfl⟩
 rw [←hQ, ←hP] at HRW HMV
 clear hP hQ
 have HF:Hid (∀ (o1 o2 o3:Obj) (w2:World),Scr w2 b g.n fx→(((w.alloc o1).alloc o2).alloc o3).drew.grownBy w2 (some b)→Scr w2 b g.n fx∧w.grownBy w2 (some b)∧w2.heap[w.heap.size]?=some o1∧w2.heap[w.heap.size+1]?=some o2):=by
  intro o1 o2 o3 w2 h1 h2
  refine⟨h1,grown_trans (grown_drew (grown_alloc (grown_alloc (grown_alloc (grown_refl _ _) _) _) _)) h2,?_,?_⟩
  ·exact grown_block h2 (at_old (at_old (at_new w _) _) _) (by simp;omega)
  ·exact grown_block h2 (at_old (at_new1 w _ _) _) (by simp;omega)
 rcases hcs with ⟨hq,hk⟩ | ⟨hq,hk⟩
 ·have HK:Hid _:=hk
  clear hk
  go_enter Tryz.func124,Tryz.ntmps124
  go_wp2_with fail
  go_region_held3 (fun w'=>w'.cell? ⟨w.heap.size,0,none⟩=some (.int .i64 g.wide)∧w'.cell? ⟨w.heap.size,1,none⟩=some (.int .i64 g.high)∧w'.cell? ⟨w.heap.size,2,none⟩=some (.slice (some ⟨b,0,none⟩) g.n cap)∧w'.cell? ⟨w.heap.size,3,none⟩=some (.int .i64 g.row)∧w'.cell? ⟨w.heap.size,4,none⟩=some (.int .i64 g.col)∧w'.cell? ⟨w.heap.size,5,none⟩=some (.int .i64 g.ink)∧w'.cell? ⟨w.heap.size,6,none⟩=some (.bool g.bold)∧w'.cell? ⟨w.heap.size,7,none⟩=some (.int .i64 g.top)∧w'.cell? ⟨w.heap.size,8,none⟩=some (.int .i64 g.bottom)) (first | go_keep | (simp [*,World.cell?_alloc_past]))
   (first
   | (go_at_call 120;refine(HRW.out _).mono ?_;rintro e w1 ⟨rfl,rfl⟩)
   | (go_at_call 125;refine(HMV.out _ _ (by first | exact HV0.out | exact HV1.out HK.out | exact HV2.out HK.out | exact HV3.out HK.out) (Scr.drew (HS.out.alloc _ |>.alloc _ |>.alloc _))).mono ?_;rintro e w2 ⟨rfl,hS2,hg2⟩;obtain⟨k1,k2,k3,k4⟩:=HF.out _ _ _ w2 hS2 hg2;clear hS2 hg2;have K1:Hid (Scr w2 b g.n fx∧w.grownBy w2 (some b)):=⟨k1,k2⟩;clear k1 k2;obtain⟨⟨x0,x1,x2,x3,x4,x5,x6,x7,x8⟩,y⟩:=nine k3;obtain⟨⟨u0,u1,u2,u3,u4,u5,u6,u7,u8⟩,v⟩:=nine k4;clear k3 k4))
  go_wp2
  all_goals (
   refine bodyPost_ret (v:=gval ⟨g.wide,g.high,g.n,fx,g.row,0,g.ink,g.bold,g.top,g.bottom⟩ (some ⟨b,0,none⟩) cap) (by simp [results,Tryz.results124,go_sem, *]) rfl ?_
   refine⟨rfl,fin9 (w:=w) ⟨K1.out.1.set (by simp;omega) _,grown_set K1.out.2 (.inl (Nat.le_refl _)) _⟩ (by omega) hlt _ _ _ _ _ _ _ _ _⟩)
 ·have HK:Hid _:=hk
  clear hk
  go_enter Tryz.func124,Tryz.ntmps124
  go_wp2_with fail
  go_region_held3 (fun w'=>w'.cell? ⟨w.heap.size,0,none⟩=some (.int .i64 g.wide)∧w'.cell? ⟨w.heap.size,1,none⟩=some (.int .i64 g.high)∧w'.cell? ⟨w.heap.size,2,none⟩=some (.slice (some ⟨b,0,none⟩) g.n cap)∧w'.cell? ⟨w.heap.size,3,none⟩=some (.int .i64 g.row)∧w'.cell? ⟨w.heap.size,4,none⟩=some (.int .i64 g.col)∧w'.cell? ⟨w.heap.size,5,none⟩=some (.int .i64 g.ink)∧w'.cell? ⟨w.heap.size,6,none⟩=some (.bool g.bold)∧w'.cell? ⟨w.heap.size,7,none⟩=some (.int .i64 g.top)∧w'.cell? ⟨w.heap.size,8,none⟩=some (.int .i64 g.bottom)) (first | go_keep | (simp [*,World.cell?_alloc_past]))
   (first
   | (go_at_call 120;refine(HRW.out _).mono ?_;rintro e w1 ⟨rfl,rfl⟩)
   | (go_at_call 125;refine(HMV.out _ _ (by first | exact HV0.out | exact HV1.out HK.out | exact HV2.out HK.out | exact HV3.out HK.out) (Scr.drew (HS.out.alloc _ |>.alloc _ |>.alloc _))).mono ?_;rintro e w2 ⟨rfl,hS2,hg2⟩;obtain⟨k1,k2,k3,k4⟩:=HF.out _ _ _ w2 hS2 hg2;clear hS2 hg2;have K1:Hid (Scr w2 b g.n fx∧w.grownBy w2 (some b)):=⟨k1,k2⟩;clear k1 k2;obtain⟨⟨x0,x1,x2,x3,x4,x5,x6,x7,x8⟩,y⟩:=nine k3;obtain⟨⟨u0,u1,u2,u3,u4,u5,u6,u7,u8⟩,v⟩:=nine k4;clear k3 k4))
  go_wp2
  all_goals (
   refine bodyPost_ret (v:=gval ⟨g.wide,g.high,g.n,fx,g.row,0,g.ink,g.bold,g.top,g.bottom⟩ (some ⟨b,0,none⟩) cap) (by simp [results,Tryz.results124,go_sem, *]) rfl ?_
   refine⟨rfl,fin9 (w:=w) ⟨K1.out.1.set (by simp;omega) _,grown_set K1.out.2 (.inl (Nat.le_refl _)) _⟩ (by omega) hlt _ _ _ _ _ _ _ _ _⟩)
set_option maxRecDepth 2000 in
set_option maxHeartbeats 2000000 in
theorem pushed_up (g:Gr) (h:OkG g) (b cap:Nat) (w:World) (hS:Scr w b g.n g.f) (hc:g.n≤cap) (n:Int) (hn:1≤n) (hn2:n≤999) (h1:g.top≤g.row) (h2:g.row < g.bottom) (fx:Nat→Cel)
  (hfx:fx=upF g.f (g.row*g.wide).toNat (g.bottom*g.wide).toNat (min n (g.bottom - g.row)*g.wide).toNat):
  Calls Tryz.prog 124 #[gval g (some ⟨b,0,none⟩) cap,.int .i64 n,.func (.func 126) #[] #[]] w (GEnd w b cap ⟨g.wide,g.high,g.n,fx,g.row,0,g.ink,g.bold,g.top,g.bottom⟩):=by
 have hlt:=hS.lt
 have HS:Hid (Scr w b g.n g.f):=hS
 have hb1:g.bottom≤10:=by have:=h.t3;have:=h.h2;omega
 have hr0:=h.r1
 obtain⟨k,hk⟩:∃ k,k=min n (g.bottom - g.row):=⟨_,rfl⟩
 obtain⟨p1,p2,p3,p4,p5⟩:=push_nums g h k (by omega) (by omega)
 have hwr0:IntKind.i64.wrap (g.bottom - g.row)=g.bottom - g.row:=by rw [IntKind.wrap_i64];omega
 have hwr:IntKind.i64.wrap ((if IntKind.i64.wrap (g.bottom - g.row) < n then IntKind.i64.wrap (g.bottom - g.row) else n)*g.wide)=k*g.wide:=by
  have e:(if IntKind.i64.wrap (g.bottom - g.row) < n then IntKind.i64.wrap (g.bottom - g.row) else n)=k:=by rw [hwr0,hk];split <;>omega
  rw [e,IntKind.wrap_i64];omega
 have HRW:Hid (∀ w,Calls Tryz.prog 120 #[gval g (some ⟨b,0,none⟩) cap,.int .i64 g.row,.int .i64 g.bottom] w fun e w'=>e=.returned (.slice (some ⟨b,(g.row*g.wide).toNat*4,none⟩) ((g.bottom*g.wide).toNat - (g.row*g.wide).toNat) (cap - (g.row*g.wide).toNat))∧w'=w.alloc (gbox g (some ⟨b,0,none⟩) cap)):=fun w=>rows_push g h b cap w hc h2
 have HMV:Hid (∀ w v,v=k*g.wide→Scr w b g.n g.f→Calls Tryz.prog 126 #[.slice (some ⟨b,(g.row*g.wide).toNat*4,none⟩) ((g.bottom*g.wide).toNat - (g.row*g.wide).toNat) (cap - (g.row*g.wide).toNat),.int .i64 v] w fun e w'=>e=.returned (.tuple #[])∧Scr w' b g.n fx∧w.grownBy w' (some b)):=by
  intro w v hv hS
  rw [hv,hfx, ←hk]
  exact up_push g h b cap w hS hc k (by omega) (by omega)
 have HV0:Hid (IntKind.i64.wrap ((if IntKind.i64.wrap (g.bottom - g.row) < n then IntKind.i64.wrap (g.bottom - g.row) else n)*g.wide)=k*g.wide):=hwr
 have HV1:Hid (k=n→IntKind.i64.wrap (n*g.wide)=k*g.wide):=fun e=>by rw [←e,IntKind.wrap_i64];omega
 have HV2:Hid (k=g.bottom - g.row→IntKind.i64.wrap ((g.bottom - g.row)*g.wide)=k*g.wide):=fun e=>by rw [←e,IntKind.wrap_i64];omega
 have HV3:Hid (k=g.bottom - g.row→IntKind.i64.wrap (IntKind.i64.wrap (g.bottom - g.row)*g.wide)=k*g.wide):=fun e=>by rw [hwr0, ←e,IntKind.wrap_i64];omega
 have hcs:(¬ IntKind.i64.wrap (g.bottom - g.row) < n∧k=n)∨(IntKind.i64.wrap (g.bottom - g.row) < n∧k=g.bottom - g.row):=by rw [hwr0];omega
 clear hS hfx hk p1 p2 p3 p4 p5 hwr hwr0 h
 obtain⟨P,hP⟩:∃ P,P=(g.row*g.wide).toNat:=⟨_,rfl⟩
 obtain⟨Q,hQ⟩:∃ Q,Q=(g.bottom*g.wide).toNat - (g.row*g.wide).toNat:=⟨_,rfl⟩
 rw [←hQ, ←hP] at HRW HMV
 clear hP hQ
 have HF:Hid (∀ (o1 o2 o3:Obj) (w2:World),Scr w2 b g.n fx→(((w.alloc o1).alloc o2).alloc o3).drew.grownBy w2 (some b)→Scr w2 b g.n fx∧w.grownBy w2 (some b)∧w2.heap[w.heap.size]?=some o1∧w2.heap[w.heap.size+1]?=some o2):=by
  intro o1 o2 o3 w2 h1 h2
  refine⟨h1,grown_trans (grown_drew (grown_alloc (grown_alloc (grown_alloc (grown_refl _ _) _) _) _)) h2,?_,?_⟩
  ·exact grown_block h2 (at_old (at_old (at_new w _) _) _) (by simp;omega)
  ·exact grown_block h2 (at_old (at_new1 w _ _) _) (by simp;omega)
 rcases hcs with ⟨hq,hk⟩ | ⟨hq,hk⟩
 ·have HK:Hid _:=hk
  clear hk
  go_enter Tryz.func124,Tryz.ntmps124
  go_wp2_with fail
  go_region_held3 (fun w'=>w'.cell? ⟨w.heap.size,0,none⟩=some (.int .i64 g.wide)∧w'.cell? ⟨w.heap.size,1,none⟩=some (.int .i64 g.high)∧w'.cell? ⟨w.heap.size,2,none⟩=some (.slice (some ⟨b,0,none⟩) g.n cap)∧w'.cell? ⟨w.heap.size,3,none⟩=some (.int .i64 g.row)∧w'.cell? ⟨w.heap.size,4,none⟩=some (.int .i64 g.col)∧w'.cell? ⟨w.heap.size,5,none⟩=some (.int .i64 g.ink)∧w'.cell? ⟨w.heap.size,6,none⟩=some (.bool g.bold)∧w'.cell? ⟨w.heap.size,7,none⟩=some (.int .i64 g.top)∧w'.cell? ⟨w.heap.size,8,none⟩=some (.int .i64 g.bottom)) (first | go_keep | (simp [*,World.cell?_alloc_past]))
   (first
   | (go_at_call 120;refine(HRW.out _).mono ?_;rintro e w1 ⟨rfl,rfl⟩)
   | (go_at_call 126;refine(HMV.out _ _ (by first | exact HV0.out | exact HV1.out HK.out | exact HV2.out HK.out | exact HV3.out HK.out) (Scr.drew (HS.out.alloc _ |>.alloc _ |>.alloc _))).mono ?_;rintro e w2 ⟨rfl,hS2,hg2⟩;obtain⟨k1,k2,k3,k4⟩:=HF.out _ _ _ w2 hS2 hg2;clear hS2 hg2;have K1:Hid (Scr w2 b g.n fx∧w.grownBy w2 (some b)):=⟨k1,k2⟩;clear k1 k2;obtain⟨⟨x0,x1,x2,x3,x4,x5,x6,x7,x8⟩,y⟩:=nine k3;obtain⟨⟨u0,u1,u2,u3,u4,u5,u6,u7,u8⟩,v⟩:=nine k4;clear k3 k4))
  go_wp2
  all_goals (
   refine bodyPost_ret (v:=gval ⟨g.wide,g.high,g.n,fx,g.row,0,g.ink,g.bold,g.top,g.bottom⟩ (some ⟨b,0,none⟩) cap) (by simp [results,Tryz.results124,go_sem, *]) rfl ?_
   refine⟨rfl,fin9 (w:=w) ⟨K1.out.1.set (by simp;omega) _,grown_set K1.out.2 (.inl (Nat.le_refl _)) _⟩ (by omega) hlt _ _ _ _ _ _ _ _ _⟩)
 ·have HK:Hid _:=hk
  clear hk
  go_enter Tryz.func124,Tryz.ntmps124
  go_wp2_with fail
  go_region_held3 (fun w'=>w'.cell? ⟨w.heap.size,0,none⟩=some (.int .i64 g.wide)∧w'.cell? ⟨w.heap.size,1,none⟩=some (.int .i64 g.high)∧w'.cell? ⟨w.heap.size,2,none⟩=some (.slice (some ⟨b,0,none⟩) g.n cap)∧w'.cell? ⟨w.heap.size,3,none⟩=some (.int .i64 g.row)∧w'.cell? ⟨w.heap.size,4,none⟩=some (.int .i64 g.col)∧w'.cell? ⟨w.heap.size,5,none⟩=some (.int .i64 g.ink)∧w'.cell? ⟨w.heap.size,6,none⟩=some (.bool g.bold)∧w'.cell? ⟨w.heap.size,7,none⟩=some (.int .i64 g.top)∧w'.cell? ⟨w.heap.size,8,none⟩=some (.int .i64 g.bottom)) (first | go_keep | (simp [*,World.cell?_alloc_past]))
   (first
   | (go_at_call 120;refine(HRW.out _).mono ?_;rintro e w1 ⟨rfl,rfl⟩)
   | (go_at_call 126;refine(HMV.out _ _ (by first | exact HV0.out | exact HV1.out HK.out | exact HV2.out HK.out | exact HV3.out HK.out) (Scr.drew (HS.out.alloc _ |>.alloc _ |>.alloc _))).mono ?_;rintro e w2 ⟨rfl,hS2,hg2⟩;obtain⟨k1,k2,k3,k4⟩:=HF.out _ _ _ w2 hS2 hg2;clear hS2 hg2;have K1:Hid (Scr w2 b g.n fx∧w.grownBy w2 (some b)):=⟨k1,k2⟩;clear k1 k2;obtain⟨⟨x0,x1,x2,x3,x4,x5,x6,x7,x8⟩,y⟩:=nine k3;obtain⟨⟨u0,u1,u2,u3,u4,u5,u6,u7,u8⟩,v⟩:=nine k4;clear k3 k4))
  go_wp2
  all_goals (
   refine bodyPost_ret (v:=gval ⟨g.wide,g.high,g.n,fx,g.row,0,g.ink,g.bold,g.top,g.bottom⟩ (some ⟨b,0,none⟩) cap) (by simp [results,Tryz.results124,go_sem, *]) rfl ?_
   refine⟨rfl,fin9 (w:=w) ⟨K1.out.1.set (by simp;omega) _,grown_set K1.out.2 (.inl (Nat.le_refl _)) _⟩ (by omega) hlt _ _ _ _ _ _ _ _ _⟩)
end Go.Proofs.YtjikokfjnbhngaaGreatDoor

/- What 'At' answers. -/
namespace Go.Proofs.YtjikokfjnbhngaaGreatDoor
open Go.RowKit
theorem atG_no {g:Gr} {r c:Int} (h:¬ (g.wide≤24∧g.high≤10∧0≤r∧r < g.high∧0≤c∧c < g.wide∧r*g.wide+c < g.n)):atG g r c=noCel:=by unfold atG;rw [if_neg h]
set_option maxHeartbeats 1000000 in
theorem at_out (g:Gr) (ao:Option Addr) (cap:Nat) (r c:Int) (w:World) (hh:¬ (g.wide≤24∧g.high≤10∧0≤r∧r < g.high∧0≤c∧c < g.wide)):
  Calls Tryz.prog 54 #[gval g ao cap,.int .i64 r,.int .i64 c] w fun e w'=>e=.returned (cval noCel)∧Below w.heap.size w w':=by
 have HB:Hid (∀ o1 o2:Obj,Below w.heap.size w ((w.alloc o1).alloc o2)):=fun o1 o2=>((Below.refl _ _).alloc (Nat.le_refl _) _).alloc (by simp) _
 have HB3:Hid (∀ o1 o2 o3:Obj,Below w.heap.size w (((w.alloc o1).alloc o2).alloc o3)):=fun o1 o2 o3=>(((Below.refl _ _).alloc (Nat.le_refl _) _).alloc (by simp) _).alloc (by simp;omega) _
 by_cases h1:24 < g.wide
 ·clear hh
  go_enter Tryz.func54,Tryz.ntmps54
  go_wp2
  exact bodyPost_ret (v:=cval noCel) (by simp [results,Tryz.results54,go_sem,noCel]) rfl ⟨rfl,HB.out _ _⟩
 have h1':g.wide≤24:=by omega
 by_cases h2:10 < g.high
 ·clear hh
  go_enter Tryz.func54,Tryz.ntmps54
  go_wp2
  exact bodyPost_ret (v:=cval noCel) (by simp [results,Tryz.results54,go_sem,noCel]) rfl ⟨rfl,HB.out _ _⟩
 have h2':g.high≤10:=by omega
 have hf:decide (0≤r∧r < g.high∧0≤c∧c < g.wide)=false:=decide_eq_false (by omega)
 have HH:Hid (∀ w,Calls Tryz.prog 82 #[gval g ao cap,.int .i64 r,.int .i64 c] w fun e w'=>e=.returned (.bool false)∧w'=w.alloc (gbox g ao cap)):=fun w=>by rw [←hf];exact has_any g ao cap r c w
 clear hf h1 h2 hh
 go_enter Tryz.func54,Tryz.ntmps54
 go_wp2_with (go_at_call 82;refine(HH.out _).mono ?_;rintro e w1 ⟨rfl,rfl⟩)
 exact bodyPost_ret (v:=cval noCel) (by simp [results,Tryz.results54,go_sem,noCel]) rfl ⟨rfl,HB3.out _ _ _⟩
set_option maxHeartbeats 1000000 in
theorem at_in (g:Gr) (ao:Option Addr) (cap:Nat) (r c:Int) (w:World) (hr:RdS w ao g.n g.f) (h1:g.wide≤24) (h2:g.high≤10) (h3:0≤r∧r < g.high∧0≤c∧c < g.wide) (hm:(g.n:Int)≤9223372036854775807):
  Calls Tryz.prog 54 #[gval g ao cap,.int .i64 r,.int .i64 c] w fun e w'=>e=.returned (cval (atG g r c))∧Below w.heap.size w w':=by
 have hq:=mul_bound h3.1 h3.2.1 (w:=g.wide) (by omega)
 have hq2:g.high*g.wide≤10*g.wide:=mul_mono h2 (by omega)
 obtain⟨p,hp⟩:∃ p,p=r*g.wide:=⟨_,rfl⟩
 have HB3:Hid (∀ o1 o2 o3:Obj,Below w.heap.size w (((w.alloc o1).alloc o2).alloc o3)):=fun o1 o2 o3=>(((Below.refl _ _).alloc (Nat.le_refl _) _).alloc (by simp) _).alloc (by simp;omega) _
 have hf:decide (0≤r∧r < g.high∧0≤c∧c < g.wide)=true:=decide_eq_true h3
 have HH:Hid (∀ w,Calls Tryz.prog 82 #[gval g ao cap,.int .i64 r,.int .i64 c] w fun e w'=>e=.returned (.bool true)∧w'=w.alloc (gbox g ao cap)):=fun w=>by rw [←hf];exact has_any g ao cap r c w
 have hp0:0≤p:=by omega
 have hp1:p≤240:=by omega
 have hc0:=h3.2.2.1
 have hc1:c≤24:=by omega
 by_cases h4:p+c < g.n
 ·obtain⟨b,off,rfl,hc⟩:∃ b off,ao=some ⟨b,off,none⟩∧∀ i,i < g.n→w.cell? ⟨b,off+i*4,none⟩=some (.int .i64 (g.f i).ch)∧w.cell? ⟨b,off+i*4+1,none⟩=some (.int .i64 (g.f i).ink)∧w.cell? ⟨b,off+i*4+2,none⟩=some (.int .i64 (g.f i).pic)∧w.cell? ⟨b,off+i*4+3,none⟩=some (.bool (g.f i).bold):=by
   rcases hr with h0 | h0
   ·omega
   ·exact h0
  obtain⟨k,hk⟩:∃ k:Nat,p+c=k:=⟨(p+c).toNat,by omega⟩
  obtain⟨t0,t1,t2,t3⟩:=hc k (by omega)
  have hlt:=World.block_lt_of_cell? _ _ t0
  simp only at hlt
  have HX:Hid (atG g r c=g.f k):=by
   show atG g r c=g.f k
   unfold atG
   rw [if_pos ⟨h1,h2,h3.1,h3.2.1,h3.2.2.1,h3.2.2.2,by omega⟩]
   congr 1
   omega
  obtain⟨y,hy⟩:∃ y,y=g.f k:=⟨_,rfl⟩
  rw [←hy] at HX t0 t1 t2 t3
  have hkn:(k:Int) < (g.n:Int):=by omega
  rw [←hp] at hq
  clear hc hr hf hy h4
  have hwr:IntKind.i64.wrap (r*g.wide)=p:=by rw [←hp,IntKind.wrap_i64];omega
  have hwr2:IntKind.i64.wrap (p+c)=(k:Int):=by rw [hk,IntKind.wrap_i64];omega
  have up:∀ (j:Nat) (v:Value),w.cell? ⟨b,j,none⟩=some v→∀ o1 o2 o3:Obj,(((w.alloc o1).alloc o2).alloc o3).cell? ⟨b,j,none⟩=some v:=by
   intro j v h o1 o2 o3
   rw [World.cell?_alloc_past _ _ _ (by simp;omega),World.cell?_alloc_past _ _ _ (by simp;omega),World.cell?_alloc_past _ _ _ hlt]
   exact h
  have t0':=up _ _ t0
  have t1':=up _ _ t1
  have t2':=up _ _ t2
  have t3':=up _ _ t3
  clear hp hq hq2 h3 up t0 t1 t2 t3
  go_enter Tryz.func54,Tryz.ntmps54
  go_wp2_with (go_at_call 82;refine(HH.out _).mono ?_;rintro e w1 ⟨rfl,rfl⟩)
  exact bodyPost_ret (v:=cval y) (by simp [results,Tryz.results54,go_sem]) rfl ⟨by rw [HX.out],HB3.out _ _ _⟩
 ·have HX:Hid (atG g r c=noCel):=atG_no (by rw [←hp];omega)
  have hwr:IntKind.i64.wrap (r*g.wide)=p:=by rw [←hp,IntKind.wrap_i64];omega
  have hwr2:IntKind.i64.wrap (p+c)=p+c:=by rw [IntKind.wrap_i64];omega
  have h4':(g.n:Int)≤p+c:=by omega
  clear hp hq hq2 h3 hr hf h4
  go_enter Tryz.func54,Tryz.ntmps54
  go_wp2_with (go_at_call 82;refine(HH.out _).mono ?_;rintro e w1 ⟨rfl,rfl⟩)
  exact bodyPost_ret (v:=cval noCel) (by simp [results,Tryz.results54,go_sem,noCel]) rfl ⟨by rw [HX.out],HB3.out _ _ _⟩
theorem at_any (g:Gr) (ao:Option Addr) (cap:Nat) (r c:Int) (w:World) (hr:RdS w ao g.n g.f) (hm:(g.n:Int)≤9223372036854775807):
  Calls Tryz.prog 54 #[gval g ao cap,.int .i64 r,.int .i64 c] w fun e w'=>e=.returned (cval (atG g r c))∧Below w.heap.size w w':=by
 by_cases h:g.wide≤24∧g.high≤10∧0≤r∧r < g.high∧0≤c∧c < g.wide
 ·exact at_in g ao cap r c w hr h.1 h.2.1 h.2.2 hm
 ·rw [atG_no (fun k=>h ⟨k.1,k.2.1,k.2.2.1,k.2.2.2.1,k.2.2.2.2.1,k.2.2.2.2.2.1⟩)]
  exact at_out g ao cap r c w h
end Go.Proofs.YtjikokfjnbhngaaGreatDoor
