/- Several texts in one, each as it was: GCsiB, GCsiC, GDone2, GAllNil. -/
import Derived.Test.YtjikokfjnbhngaaGreatDoorMGMove
import Derived.Test.YtjikokfjnbhngaaGreatDoorMGAll2
import Derived.Test.YtjikokfjnbhngaaGreatDoorMGPush
import Derived.Test.YtjikokfjnbhngaaGreatDoorMGResize

/- What 'commanded' does to a screen: the letters that erase. -/
namespace Go.Proofs.YtjikokfjnbhngaaGreatDoor
open Go.RowKit
set_option maxRecDepth 2000 in
set_option maxHeartbeats 2000000 in
theorem csiJ (g:Gr) (h:OkG g) (b cap:Nat) (w:World) (hS:Scr w b g.n g.f) (hc:g.n≤cap) (lo:Option Addr) (ln lc:Nat) (p q:Int) (HN:Hid (Nums w lo ln lc p q)) (fx:Nat→Cel) (hfx:fx=eraseF g.f 0 g.n (g.row*g.wide+hereC g).toNat p):
  Calls Tryz.prog 104 #[gval g (some ⟨b,0,none⟩) cap,.int .i64 74,.slice lo ln lc] w (GEnd w b cap ⟨g.wide,g.high,g.n,fx,g.row,g.col,g.ink,g.bold,g.top,g.bottom⟩):=by
 have hlt:=hS.lt
 have HS:Hid (Scr w b g.n g.f):=hS
 have hc0:=h.c1
 have hc1:=h.c2
 have hw0:=h.w1
 have hw1:=h.w2
 obtain⟨q1,q2,q3,q4,_⟩:=h.nums
 have hk1:0≤hereC g:=by unfold hereC;omega
 have hk2:hereC g < g.wide:=by unfold hereC;omega
 obtain⟨k,hk⟩:∃ k,k=hereC g:=⟨_,rfl⟩
 have HH:Hid (∀ w,Calls Tryz.prog 121 #[gval g (some ⟨b,0,none⟩) cap] w fun e w'=>e=.returned (.int .i64 k)∧w'=w.alloc (gbox g (some ⟨b,0,none⟩) cap)):=by
  intro w
  rw [hk]
  exact here_any g _ cap w ⟨by omega,by omega⟩
 rw [←hk] at hk1 hk2 hfx
 clear hk
 have HER:Hid (∀ w v,v=g.row*g.wide+k→Scr w b g.n g.f→Calls Tryz.prog 123 #[.slice (some ⟨b,0,none⟩) g.n cap,.int .i64 v,.int .i64 p] w fun e w'=>e=.returned (.tuple #[])∧Scr w' b g.n fx∧w.grownBy w' (some b)):=by
  intro w v hv hS
  obtain⟨i,hi⟩:∃ i:Nat,v=i:=⟨v.toNat,by omega⟩
  rw [hfx, ←hv,hi]
  exact erase_any b g.n g.f 0 g.n cap i p w hS (by omega) (by omega) hc (by omega)
 have HV0:Hid (IntKind.i64.wrap (IntKind.i64.wrap (g.row*g.wide)+k)=g.row*g.wide+k):=by
  have e1:IntKind.i64.wrap (g.row*g.wide)=g.row*g.wide:=by rw [IntKind.wrap_i64];omega
  show _=_
  rw [e1,IntKind.wrap_i64];omega
 have HF:Hid (∀ (o1 o2 o3:Obj) (w2:World),Scr w2 b g.n fx→(((w.alloc o1).alloc o2).alloc o3).drew.grownBy w2 (some b)→Scr w2 b g.n fx∧w.grownBy w2 (some b)∧w2.heap[w.heap.size]?=some o1∧w2.heap[w.heap.size+1]?=some o2):=by
  intro o1 o2 o3 w2 h1 h2
  refine⟨h1,grown_trans (grown_drew (grown_alloc (grown_alloc (grown_alloc (grown_refl _ _) _) _) _)) h2,?_,?_⟩
  ·exact grown_block h2 (at_old (at_old (at_new w _) _) _) (by simp;omega)
  ·exact grown_block h2 (at_old (at_new1 w _ _) _) (by simp;omega)
 clear hS hfx q1 q2 q3 q4 h hc
 by_cases hp:p < 1
 all_goals (
  go_enter Tryz.func104,Tryz.ntmps104
  go_wp2_with (first
   | (go_at_call_of 122 (Value.int IntKind.i64 0);refine(HN.out _ (below2 _ _ _)).1.mono ?_;rintro e w1 ⟨rfl,rfl⟩)
   | (go_at_call_of 122 (Value.int IntKind.i64 1);refine(HN.out _ (below2 _ _ _)).2.mono ?_;rintro e w1 ⟨rfl,rfl⟩)
   | fail)
  go_region_held3 (fun w'=>w'.cell? ⟨w.heap.size,0,none⟩=some (.int .i64 g.wide)∧w'.cell? ⟨w.heap.size,1,none⟩=some (.int .i64 g.high)∧w'.cell? ⟨w.heap.size,2,none⟩=some (.slice (some ⟨b,0,none⟩) g.n cap)∧w'.cell? ⟨w.heap.size,3,none⟩=some (.int .i64 g.row)∧w'.cell? ⟨w.heap.size,4,none⟩=some (.int .i64 g.col)∧w'.cell? ⟨w.heap.size,5,none⟩=some (.int .i64 g.ink)∧w'.cell? ⟨w.heap.size,6,none⟩=some (.bool g.bold)∧w'.cell? ⟨w.heap.size,7,none⟩=some (.int .i64 g.top)∧w'.cell? ⟨w.heap.size,8,none⟩=some (.int .i64 g.bottom)) (first | go_keep | (simp [*,World.cell?_alloc_past]))
   (first
   | (go_at_call 121;refine(HH.out _).mono ?_;rintro e w1 ⟨rfl,rfl⟩)
   | (go_at_call 123;refine(HER.out _ _ (by first | exact HV0.out | rfl) (Scr.drew (HS.out.alloc _ |>.alloc _ |>.alloc _))).mono ?_;rintro e w2 ⟨rfl,hS2,hg2⟩;obtain⟨k1,k2,k3,k4⟩:=HF.out _ _ _ w2 hS2 hg2;clear hS2 hg2;have K1:Hid (Scr w2 b g.n fx∧w.grownBy w2 (some b)):=⟨k1,k2⟩;clear k1 k2;obtain⟨⟨x0,x1,x2,x3,x4,x5,x6,x7,x8⟩,y⟩:=nine k3;obtain⟨⟨u0,u1,u2,u3,u4,u5,u6,u7,u8⟩,v⟩:=nine k4;clear k3 k4))
  go_wp2
  refine bodyPost_ret (v:=gval ⟨g.wide,g.high,g.n,fx,g.row,g.col,g.ink,g.bold,g.top,g.bottom⟩ (some ⟨b,0,none⟩) cap) (by simp [results,Tryz.results104,go_sem, *]) rfl ?_
  exact⟨rfl,fin9 (w:=w) K1.out (by omega) hlt _ _ _ _ _ _ _ _ _⟩)
set_option maxRecDepth 2000 in
set_option maxHeartbeats 2000000 in
theorem csiK (g:Gr) (h:OkG g) (b cap:Nat) (w:World) (hS:Scr w b g.n g.f) (hc:g.n≤cap) (lo:Option Addr) (ln lc:Nat) (p q:Int) (HN:Hid (Nums w lo ln lc p q)) (fx:Nat→Cel) (hfx:fx=eraseF g.f (g.row*g.wide).toNat g.wide.toNat (hereC g).toNat p):
  Calls Tryz.prog 104 #[gval g (some ⟨b,0,none⟩) cap,.int .i64 75,.slice lo ln lc] w (GEnd w b cap ⟨g.wide,g.high,g.n,fx,g.row,g.col,g.ink,g.bold,g.top,g.bottom⟩):=by
 have hlt:=hS.lt
 have HS:Hid (Scr w b g.n g.f):=hS
 have hc0:=h.c1
 have hc1:=h.c2
 have hw0:=h.w1
 have hw1:=h.w2
 obtain⟨q1,q2,q3,q4,_⟩:=h.nums
 have hk1:0≤hereC g:=by unfold hereC;omega
 have hk2:hereC g < g.wide:=by unfold hereC;omega
 obtain⟨k,hk⟩:∃ k,k=hereC g:=⟨_,rfl⟩
 have HH:Hid (∀ w,Calls Tryz.prog 121 #[gval g (some ⟨b,0,none⟩) cap] w fun e w'=>e=.returned (.int .i64 k)∧w'=w.alloc (gbox g (some ⟨b,0,none⟩) cap)):=by
  intro w
  rw [hk]
  exact here_any g _ cap w ⟨by omega,by omega⟩
 rw [←hk] at hk1 hk2 hfx
 clear hk
 obtain⟨P,hP⟩:∃ P,P=(g.row*g.wide).toNat:=⟨_,rfl⟩
 obtain⟨Wd,hWd⟩:∃ W,W=g.wide.toNat:=⟨_,rfl⟩
 have hwrap:IntKind.i64.wrap (g.row+1)=g.row+1:=by rw [IntKind.wrap_i64];have:=h.r1;have:=h.r2;have:=h.h2;omega
 have HRW:Hid (∀ w,Calls Tryz.prog 120 #[gval g (some ⟨b,0,none⟩) cap,.int .i64 g.row,.int .i64 (IntKind.i64.wrap (g.row+1))] w fun e w'=>e=.returned (.slice (some ⟨b,P*4,none⟩) Wd (cap - P))∧w'=w.alloc (gbox g (some ⟨b,0,none⟩) cap)):=by
  intro w
  rw [hP,hwrap,hWd]
  exact rows_here g h b cap w hc
 have HER:Hid (∀ w,Scr w b g.n g.f→Calls Tryz.prog 123 #[.slice (some ⟨b,P*4,none⟩) Wd (cap - P),.int .i64 k,.int .i64 p] w fun e w'=>e=.returned (.tuple #[])∧Scr w' b g.n fx∧w.grownBy w' (some b)):=by
  intro w hS
  obtain⟨i,hi⟩:∃ i:Nat,k=i:=⟨k.toNat,by omega⟩
  rw [hfx, ←hP, ←hWd,hi]
  exact erase_any b g.n g.f P Wd (cap - P) i p w hS (by omega) (by omega) (by omega) (by omega)
 have HF:Hid (∀ (o1 o2 o3 o4:Obj) (w2:World),Scr w2 b g.n fx→((((w.alloc o1).alloc o2).alloc o3).alloc o4).drew.grownBy w2 (some b)→Scr w2 b g.n fx∧w.grownBy w2 (some b)∧w2.heap[w.heap.size]?=some o1∧w2.heap[w.heap.size+1]?=some o2):=by
  intro o1 o2 o3 o4 w2 h1 h2
  refine⟨h1,grown_trans (grown_drew (grown_alloc (grown_alloc (grown_alloc (grown_alloc (grown_refl _ _) _) _) _) _)) h2,?_,?_⟩
  ·exact grown_block h2 (at_old (at_old (at_old (at_new w _) _) _) _) (by simp;omega)
  ·exact grown_block h2 (at_old (at_old (at_new1 w _ _) _) _) (by simp;omega)
 clear hS hfx q1 q2 q3 q4 h hc hP hWd hwrap
 by_cases hp:p < 1
 all_goals (
  go_enter Tryz.func104,Tryz.ntmps104
  go_wp2_with (first
   | (go_at_call_of 122 (Value.int IntKind.i64 0);refine(HN.out _ (below2 _ _ _)).1.mono ?_;rintro e w1 ⟨rfl,rfl⟩)
   | (go_at_call_of 122 (Value.int IntKind.i64 1);refine(HN.out _ (below2 _ _ _)).2.mono ?_;rintro e w1 ⟨rfl,rfl⟩)
   | fail)
  go_region_held3 (fun w'=>w'.cell? ⟨w.heap.size,0,none⟩=some (.int .i64 g.wide)∧w'.cell? ⟨w.heap.size,1,none⟩=some (.int .i64 g.high)∧w'.cell? ⟨w.heap.size,2,none⟩=some (.slice (some ⟨b,0,none⟩) g.n cap)∧w'.cell? ⟨w.heap.size,3,none⟩=some (.int .i64 g.row)∧w'.cell? ⟨w.heap.size,4,none⟩=some (.int .i64 g.col)∧w'.cell? ⟨w.heap.size,5,none⟩=some (.int .i64 g.ink)∧w'.cell? ⟨w.heap.size,6,none⟩=some (.bool g.bold)∧w'.cell? ⟨w.heap.size,7,none⟩=some (.int .i64 g.top)∧w'.cell? ⟨w.heap.size,8,none⟩=some (.int .i64 g.bottom)) (first | go_keep | (simp [*,World.cell?_alloc_past]))
   (first
   | (go_at_call 121;refine(HH.out _).mono ?_;rintro e w1 ⟨rfl,rfl⟩)
   | (go_at_call 120;refine(HRW.out _).mono ?_;rintro e w1 ⟨rfl,rfl⟩)
   | (go_at_call 123;refine(HER.out _ (Scr.drew (HS.out.alloc _ |>.alloc _ |>.alloc _ |>.alloc _))).mono ?_;rintro e w2 ⟨rfl,hS2,hg2⟩;obtain⟨k1,k2,k3,k4⟩:=HF.out _ _ _ _ w2 hS2 hg2;clear hS2 hg2;have K1:Hid (Scr w2 b g.n fx∧w.grownBy w2 (some b)):=⟨k1,k2⟩;clear k1 k2;obtain⟨⟨x0,x1,x2,x3,x4,x5,x6,x7,x8⟩,y⟩:=nine k3;obtain⟨⟨u0,u1,u2,u3,u4,u5,u6,u7,u8⟩,v⟩:=nine k4;clear k3 k4))
  go_wp2
  refine bodyPost_ret (v:=gval ⟨g.wide,g.high,g.n,fx,g.row,g.col,g.ink,g.bold,g.top,g.bottom⟩ (some ⟨b,0,none⟩) cap) (by simp [results,Tryz.results104,go_sem, *]) rfl ?_
  exact⟨rfl,fin9 (w:=w) K1.out (by omega) hlt _ _ _ _ _ _ _ _ _⟩)
end Go.Proofs.YtjikokfjnbhngaaGreatDoor

/- What 'commanded' does to a screen: the letters that push rows, that turn the ink, and that say what scrolls. -/
namespace Go.Proofs.YtjikokfjnbhngaaGreatDoor
open Go.RowKit
theorem hand_on {w:World} {b:Nat} {x:Gr} {o1 o2:Obj} {w2:World} (hlt:b < w.heap.size) (hs:Scr w2 b x.n x.f) (hg:((w.alloc o1).alloc o2).grownBy w2 (some b)):w2.heap[w.heap.size+1]?=some o2∧Hid (Scr w2 b x.n x.f∧w.grownBy w2 (some b)):=
 ⟨grown_block hg (at_new1 w _ _) (by simp;omega),hs,grown_trans (grown_alloc (grown_alloc (grown_refl _ _) _) _) hg⟩
set_option maxHeartbeats 2000000 in
theorem csiL (g:Gr) (h:OkG g) (b cap:Nat) (w:World) (hS:Scr w b g.n g.f) (lo:Option Addr) (ln lc:Nat) (p q:Int) (HN:Hid (Nums w lo ln lc p q)) (hp0:0≤p) (hc:g.n≤cap) (hp9:p≤999) (m:Int) (hm:m=max p 1) (x:Gr) (hx:x=pushG g m downF):
  Calls Tryz.prog 104 #[gval g (some ⟨b,0,none⟩) cap,.int .i64 76,.slice lo ln lc] w (GEnd w b cap x):=by
 have hlt:=hS.lt
 have HS:Hid (Scr w b g.n g.f):=hS
 have HC:Hid (∀ w',Below w.heap.size w w'→Scr w' b g.n g.f→Calls Tryz.prog 124 #[gval g (some ⟨b,0,none⟩) cap,.int .i64 m,.func (.func 125) #[] #[]] w' (GEnd w' b cap x)):=by
  intro w' _ hS
  rw [hx]
  unfold pushG
  split
  ·next ho=>exact pushed_out g h b cap w' hS m _ ho
  ·next ho=>exact pushed_down g h b cap w' hS hc m (by omega) (by omega) (by omega) (by omega) _ rfl
 clear hS h hc hx
 by_cases hp:p < 1
 ·obtain rfl:p=0:=by omega
  obtain rfl:m=1:=by omega
  clear hm
  go_enter Tryz.func104,Tryz.ntmps104
  go_wp2_with (first
   | (go_at_call_of 122 (Value.int IntKind.i64 0);refine(HN.out _ (below2 _ _ _)).1.mono ?_;rintro e w1 ⟨rfl,rfl⟩)
   | (go_at_call_of 122 (Value.int IntKind.i64 1);refine(HN.out _ (below2 _ _ _)).2.mono ?_;rintro e w1 ⟨rfl,rfl⟩)
   | (go_at_call 124;refine(HC.out _ (below2 _ _ _) ((HS.out.alloc _).alloc _)).mono ?_;rintro e w2 ⟨rfl,hs2,hg2⟩;obtain⟨t2,HF⟩:=hand_on hlt hs2 hg2;obtain⟨⟨x0,x1,x2,x3,x4,x5,x6,x7,x8⟩,z⟩:=nine t2;clear hs2 hg2 t2))
  refine bodyPost_ret (v:=gval x (some ⟨b,0,none⟩) cap) (by simp [results,Tryz.results104,go_sem, *]) rfl ?_
  exact⟨rfl,fin9 HF.out (by omega) hlt _ _ _ _ _ _ _ _ _⟩
 ·obtain rfl:m=p:=by omega
  clear hm
  go_enter Tryz.func104,Tryz.ntmps104
  go_wp2_with (first
   | (go_at_call_of 122 (Value.int IntKind.i64 0);refine(HN.out _ (below2 _ _ _)).1.mono ?_;rintro e w1 ⟨rfl,rfl⟩)
   | (go_at_call_of 122 (Value.int IntKind.i64 1);refine(HN.out _ (below2 _ _ _)).2.mono ?_;rintro e w1 ⟨rfl,rfl⟩)
   | (go_at_call 124;refine(HC.out _ (below2 _ _ _) ((HS.out.alloc _).alloc _)).mono ?_;rintro e w2 ⟨rfl,hs2,hg2⟩;obtain⟨t2,HF⟩:=hand_on hlt hs2 hg2;obtain⟨⟨x0,x1,x2,x3,x4,x5,x6,x7,x8⟩,z⟩:=nine t2;clear hs2 hg2 t2))
  refine bodyPost_ret (v:=gval x (some ⟨b,0,none⟩) cap) (by simp [results,Tryz.results104,go_sem, *]) rfl ?_
  exact⟨rfl,fin9 HF.out (by omega) hlt _ _ _ _ _ _ _ _ _⟩
set_option maxHeartbeats 2000000 in
theorem csiM (g:Gr) (h:OkG g) (b cap:Nat) (w:World) (hS:Scr w b g.n g.f) (lo:Option Addr) (ln lc:Nat) (p q:Int) (HN:Hid (Nums w lo ln lc p q)) (hp0:0≤p) (hc:g.n≤cap) (hp9:p≤999) (m:Int) (hm:m=max p 1) (x:Gr) (hx:x=pushG g m upF):
  Calls Tryz.prog 104 #[gval g (some ⟨b,0,none⟩) cap,.int .i64 77,.slice lo ln lc] w (GEnd w b cap x):=by
 have hlt:=hS.lt
 have HS:Hid (Scr w b g.n g.f):=hS
 have HC:Hid (∀ w',Below w.heap.size w w'→Scr w' b g.n g.f→Calls Tryz.prog 124 #[gval g (some ⟨b,0,none⟩) cap,.int .i64 m,.func (.func 126) #[] #[]] w' (GEnd w' b cap x)):=by
  intro w' _ hS
  rw [hx]
  unfold pushG
  split
  ·next ho=>exact pushed_out g h b cap w' hS m _ ho
  ·next ho=>exact pushed_up g h b cap w' hS hc m (by omega) (by omega) (by omega) (by omega) _ rfl
 clear hS h hc hx
 by_cases hp:p < 1
 ·obtain rfl:p=0:=by omega
  obtain rfl:m=1:=by omega
  clear hm
  go_enter Tryz.func104,Tryz.ntmps104
  go_wp2_with (first
   | (go_at_call_of 122 (Value.int IntKind.i64 0);refine(HN.out _ (below2 _ _ _)).1.mono ?_;rintro e w1 ⟨rfl,rfl⟩)
   | (go_at_call_of 122 (Value.int IntKind.i64 1);refine(HN.out _ (below2 _ _ _)).2.mono ?_;rintro e w1 ⟨rfl,rfl⟩)
   | (go_at_call 124;refine(HC.out _ (below2 _ _ _) ((HS.out.alloc _).alloc _)).mono ?_;rintro e w2 ⟨rfl,hs2,hg2⟩;obtain⟨t2,HF⟩:=hand_on hlt hs2 hg2;obtain⟨⟨x0,x1,x2,x3,x4,x5,x6,x7,x8⟩,z⟩:=nine t2;clear hs2 hg2 t2))
  refine bodyPost_ret (v:=gval x (some ⟨b,0,none⟩) cap) (by simp [results,Tryz.results104,go_sem, *]) rfl ?_
  exact⟨rfl,fin9 HF.out (by omega) hlt _ _ _ _ _ _ _ _ _⟩
 ·obtain rfl:m=p:=by omega
  clear hm
  go_enter Tryz.func104,Tryz.ntmps104
  go_wp2_with (first
   | (go_at_call_of 122 (Value.int IntKind.i64 0);refine(HN.out _ (below2 _ _ _)).1.mono ?_;rintro e w1 ⟨rfl,rfl⟩)
   | (go_at_call_of 122 (Value.int IntKind.i64 1);refine(HN.out _ (below2 _ _ _)).2.mono ?_;rintro e w1 ⟨rfl,rfl⟩)
   | (go_at_call 124;refine(HC.out _ (below2 _ _ _) ((HS.out.alloc _).alloc _)).mono ?_;rintro e w2 ⟨rfl,hs2,hg2⟩;obtain⟨t2,HF⟩:=hand_on hlt hs2 hg2;obtain⟨⟨x0,x1,x2,x3,x4,x5,x6,x7,x8⟩,z⟩:=nine t2;clear hs2 hg2 t2))
  refine bodyPost_ret (v:=gval x (some ⟨b,0,none⟩) cap) (by simp [results,Tryz.results104,go_sem, *]) rfl ?_
  exact⟨rfl,fin9 HF.out (by omega) hlt _ _ _ _ _ _ _ _ _⟩
theorem plain_gend {w:World} {g x:Gr} {b cap:Nat} {e:Ending} {w':World} (hS:Scr w b g.n g.f) (hn:x.n=g.n) (hf:x.f=g.f) (h:GPlain w x (some ⟨b,0,none⟩) cap e w'):GEnd w b cap x e w':=
 ⟨h.1,by rw [hn,hf];exact hS.below h.2 hS.lt,Below.toGrown h.2 _⟩
set_option maxHeartbeats 2000000 in
theorem csi_m (g:Gr) (h:OkG g) (b cap:Nat) (w:World) (hS:Scr w b g.n g.f) (lo:Option Addr) (ln lc:Nat) (p q:Int) (HN:Hid (Nums w lo ln lc p q)) (hp0:0≤p) (m:Int) (hm:m=max p 1) (l:List Int) (hl:l.length≤140737488355328) (hln:ln=l.length) (hr:RdL w lo l) (x:Gr) (hx:x=inkG g l):
  Calls Tryz.prog 104 #[gval g (some ⟨b,0,none⟩) cap,.int .i64 109,.slice lo ln lc] w (GEnd w b cap x):=by
 have hlt:=hS.lt
 have HS:Hid (Scr w b g.n g.f):=hS
 have HC:Hid (∀ w',Below w.heap.size w w'→Scr w' b g.n g.f→Calls Tryz.prog 127 #[gval g (some ⟨b,0,none⟩) cap,.slice lo ln lc] w' (GEnd w' b cap x)):=by
  intro w' hb hS
  rw [hln]
  obtain⟨_,_,_,e3,e4⟩:=ok_ink h l
  exact(inked_any g (some ⟨b,0,none⟩) cap l lo lc w' (hr.below hb) hl x hx).mono fun e w'' k=>plain_gend hS (by rw [hx];exact e3) (by rw [hx];exact e4) k
 clear hS h hx hr hl hln
 by_cases hp:p < 1
 ·obtain rfl:p=0:=by omega
  obtain rfl:m=1:=by omega
  clear hm
  go_enter Tryz.func104,Tryz.ntmps104
  go_wp2_with (first
   | (go_at_call_of 122 (Value.int IntKind.i64 0);refine(HN.out _ (below2 _ _ _)).1.mono ?_;rintro e w1 ⟨rfl,rfl⟩)
   | (go_at_call_of 122 (Value.int IntKind.i64 1);refine(HN.out _ (below2 _ _ _)).2.mono ?_;rintro e w1 ⟨rfl,rfl⟩)
   | (go_at_call 127;refine(HC.out _ (below2 _ _ _) ((HS.out.alloc _).alloc _)).mono ?_;rintro e w2 ⟨rfl,hs2,hg2⟩;obtain⟨t2,HF⟩:=hand_on hlt hs2 hg2;obtain⟨⟨x0,x1,x2,x3,x4,x5,x6,x7,x8⟩,z⟩:=nine t2;clear hs2 hg2 t2))
  refine bodyPost_ret (v:=gval x (some ⟨b,0,none⟩) cap) (by simp [results,Tryz.results104,go_sem, *]) rfl ?_
  exact⟨rfl,fin9 HF.out (by omega) hlt _ _ _ _ _ _ _ _ _⟩
 ·obtain rfl:m=p:=by omega
  clear hm
  go_enter Tryz.func104,Tryz.ntmps104
  go_wp2_with (first
   | (go_at_call_of 122 (Value.int IntKind.i64 0);refine(HN.out _ (below2 _ _ _)).1.mono ?_;rintro e w1 ⟨rfl,rfl⟩)
   | (go_at_call_of 122 (Value.int IntKind.i64 1);refine(HN.out _ (below2 _ _ _)).2.mono ?_;rintro e w1 ⟨rfl,rfl⟩)
   | (go_at_call 127;refine(HC.out _ (below2 _ _ _) ((HS.out.alloc _).alloc _)).mono ?_;rintro e w2 ⟨rfl,hs2,hg2⟩;obtain⟨t2,HF⟩:=hand_on hlt hs2 hg2;obtain⟨⟨x0,x1,x2,x3,x4,x5,x6,x7,x8⟩,z⟩:=nine t2;clear hs2 hg2 t2))
  refine bodyPost_ret (v:=gval x (some ⟨b,0,none⟩) cap) (by simp [results,Tryz.results104,go_sem, *]) rfl ?_
  exact⟨rfl,fin9 HF.out (by omega) hlt _ _ _ _ _ _ _ _ _⟩
set_option maxHeartbeats 2000000 in
theorem csi_r (g:Gr) (b cap:Nat) (w:World) (hS:Scr w b g.n g.f) (lo:Option Addr) (ln lc:Nat) (p q:Int) (HN:Hid (Nums w lo ln lc p q)) (hp0:0≤p) (hp9:p≤999) (hq0:0≤q) (hq9:q≤999) (m:Int) (hm:m=max p 1) (x:Gr) (hx:x=scrollG g m q):
  Calls Tryz.prog 104 #[gval g (some ⟨b,0,none⟩) cap,.int .i64 114,.slice lo ln lc] w (GEnd w b cap x):=by
 have hlt:=hS.lt
 have HS:Hid (Scr w b g.n g.f):=hS
 have HC:Hid (∀ w',Below w.heap.size w w'→Scr w' b g.n g.f→Calls Tryz.prog 128 #[gval g (some ⟨b,0,none⟩) cap,.int .i64 m,.int .i64 q] w' (GEnd w' b cap x)):=by
  intro w' _ hS
  have e3:x.n=g.n∧x.f=g.f:=by rw [hx];unfold scrollG;split <;>exact⟨rfl,rfl⟩
  exact(scrolling_any g (some ⟨b,0,none⟩) cap m q w' (by omega) (by omega) hq0 hq9 x hx).mono fun e w'' k=>plain_gend hS e3.1 e3.2 k
 clear hS hx
 by_cases hp:p < 1
 ·obtain rfl:p=0:=by omega
  obtain rfl:m=1:=by omega
  clear hm
  go_enter Tryz.func104,Tryz.ntmps104
  go_wp2_with (first
   | (go_at_call_of 122 (Value.int IntKind.i64 0);refine(HN.out _ (below2 _ _ _)).1.mono ?_;rintro e w1 ⟨rfl,rfl⟩)
   | (go_at_call_of 122 (Value.int IntKind.i64 1);refine(HN.out _ (below2 _ _ _)).2.mono ?_;rintro e w1 ⟨rfl,rfl⟩)
   | (go_at_call 128;refine(HC.out _ (below2 _ _ _) ((HS.out.alloc _).alloc _)).mono ?_;rintro e w2 ⟨rfl,hs2,hg2⟩;obtain⟨t2,HF⟩:=hand_on hlt hs2 hg2;obtain⟨⟨x0,x1,x2,x3,x4,x5,x6,x7,x8⟩,z⟩:=nine t2;clear hs2 hg2 t2))
  refine bodyPost_ret (v:=gval x (some ⟨b,0,none⟩) cap) (by simp [results,Tryz.results104,go_sem, *]) rfl ?_
  exact⟨rfl,fin9 HF.out (by omega) hlt _ _ _ _ _ _ _ _ _⟩
 ·obtain rfl:m=p:=by omega
  clear hm
  go_enter Tryz.func104,Tryz.ntmps104
  go_wp2_with (first
   | (go_at_call_of 122 (Value.int IntKind.i64 0);refine(HN.out _ (below2 _ _ _)).1.mono ?_;rintro e w1 ⟨rfl,rfl⟩)
   | (go_at_call_of 122 (Value.int IntKind.i64 1);refine(HN.out _ (below2 _ _ _)).2.mono ?_;rintro e w1 ⟨rfl,rfl⟩)
   | (go_at_call 128;refine(HC.out _ (below2 _ _ _) ((HS.out.alloc _).alloc _)).mono ?_;rintro e w2 ⟨rfl,hs2,hg2⟩;obtain⟨t2,HF⟩:=hand_on hlt hs2 hg2;obtain⟨⟨x0,x1,x2,x3,x4,x5,x6,x7,x8⟩,z⟩:=nine t2;clear hs2 hg2 t2))
  refine bodyPost_ret (v:=gval x (some ⟨b,0,none⟩) cap) (by simp [results,Tryz.results104,go_sem, *]) rfl ?_
  exact⟨rfl,fin9 HF.out (by omega) hlt _ _ _ _ _ _ _ _ _⟩
end Go.Proofs.YtjikokfjnbhngaaGreatDoor

/- What 'commanded' does to a screen, all letters; what 'done' does, all kinds of events. -/
namespace Go.Proofs.YtjikokfjnbhngaaGreatDoor
open Go.RowKit
theorem commanded_any (g:Gr) (h:OkG g) (b cap:Nat) (w:World) (hS:Scr w b g.n g.f) (hc:g.n≤cap) (l:List Int) (lo:Option Addr) (lc:Nat) (hr:RdL w lo l) (hl:l.length≤140737488355328) (c:Int) (x:Gr) (hx:x=csiG g c l):
  Calls Tryz.prog 104 #[gval g (some ⟨b,0,none⟩) cap,.int .i64 c,.slice lo l.length lc] w (GEnd w b cap x):=by
 have HN:Hid (Nums w lo l.length lc (numP l 0) (numP l 1)):=fun w' hb=>⟨number_any l lo lc 0 w' (hr.below hb) (by omega),number_any l lo lc 1 w' (hr.below hb) (by omega)⟩
 obtain⟨p0,p9⟩:=numP_bound l 0
 obtain⟨q0,q9⟩:=numP_bound l 1
 by_cases h1:c=65
 ·subst h1;exact csiA g h b cap w hS lo _ lc _ _ HN p0 p9 _ rfl x hx
 by_cases h2:c=66
 ·subst h2;exact csiB g h b cap w hS lo _ lc _ _ HN p0 p9 _ rfl x hx
 by_cases h3:c=67
 ·subst h3;exact csiC g h b cap w hS lo _ lc _ _ HN p0 p9 _ rfl x hx
 by_cases h4:c=68
 ·subst h4;exact csiD g h b cap w hS lo _ lc _ _ HN p0 p9 _ rfl x hx
 by_cases h5:c=72
 ·subst h5;exact csiH g h b cap w hS lo _ lc _ _ HN p0 p9 q0 q9 _ rfl x hx
 by_cases h6:c=74
 ·subst h6;rw [hx,csi74];exact csiJ g h b cap w hS hc lo _ lc _ _ HN _ rfl
 by_cases h7:c=75
 ·subst h7;rw [hx,csi75];exact csiK g h b cap w hS hc lo _ lc _ _ HN _ rfl
 by_cases h8:c=76
 ·subst h8;exact csiL g h b cap w hS lo _ lc _ _ HN p0 hc p9 _ rfl x hx
 by_cases h9:c=77
 ·subst h9;exact csiM g h b cap w hS lo _ lc _ _ HN p0 hc p9 _ rfl x hx
 by_cases h10:c=109
 ·subst h10;exact csi_m g h b cap w hS lo _ lc _ _ HN p0 _ rfl l hl rfl hr x hx
 by_cases h11:c=114
 ·subst h11;exact csi_r g b cap w hS lo _ lc _ _ HN p0 p9 q0 q9 _ rfl x hx
 rw [hx,csiNo g c l h1 h2 h3 h4 h5 h6 h7 h8 h9 h10 h11]
 exact csiNone g b cap w hS lo _ lc _ _ HN c h1 h2 h3 h4 h5 h6 h7 h8 h9 h10 h11
theorem below3 (w:World) (o1 o2 o3:Obj):Below w.heap.size w (((w.alloc o1).alloc o2).alloc o3):=((below1 _ _).alloc (by simp) _).alloc (by simp;omega) _
set_option maxHeartbeats 1000000 in
theorem done_csi (c:Int) (ps:List Int) (pl:ByteArray) (eo:Option Addr) (ec:Nat) (hl:ps.length≤140737488355328):DoneOk ⟨3,c,ps,pl⟩ eo ec:=by
 intro g h b cap w hS hcap hr x hx
 have hlt:=hS.lt
 have HS:Hid (Scr w b g.n g.f):=hS
 have HP:Hid (∀ w',Below w.heap.size w w'→Scr w' b g.n g.f→Calls Tryz.prog 104 #[gval g (some ⟨b,0,none⟩) cap,.int .i64 c,.slice eo ps.length ec] w' (GEnd w' b cap x)):=fun w' hb hS=>commanded_any g h b cap w' hS hcap ps eo ec (hr.below hb) hl c x hx
 have HN:Hid (x.n≤cap):=by
  have e2:x.n=g.n:=by rw [hx];exact(ok_csi h c ps).2.2.2
  show x.n≤cap
  omega
 clear hS h hcap hx hr
 go_enter Tryz.func79,Tryz.ntmps79
 go_wp2_with (go_at_call 104;refine(HP.out _ (below3 _ _ _ _) (((HS.out.alloc _).alloc _).alloc _)).mono ?_;rintro e w2 ⟨rfl,hs2,hg2⟩;have t2:=grown_block hg2 (at_new2 w _ _ _) (by simp;omega);have HF:Hid (Scr w2 b x.n x.f∧w.grownBy w2 (some b)):=⟨hs2,grown_trans (grown_alloc (grown_alloc (grown_alloc (grown_refl _ _) _) _) _) hg2⟩;obtain⟨⟨x0,x1,x2,x3,x4,x5,x6,x7,x8⟩,z⟩:=nine t2;clear hs2 hg2 t2)
 refine bodyPost_ret (v:=gval x (some ⟨b,0,none⟩) cap) (by simp [results,Tryz.results79,go_sem, *]) rfl ?_
 have hf:=fin9 HF.out (B:=w.heap.size+1+1) (by omega) hlt (.int .i64 x.wide) (.int .i64 x.high) (.slice (some ⟨b,0,none⟩) x.n cap) (.int .i64 x.row) (.int .i64 x.col) (.int .i64 x.ink) (.bool x.bold) (.int .i64 x.top) (.int .i64 x.bottom)
 exact⟨b,cap,rfl,hf.1,HN.out,hf.2,.inl rfl⟩
set_option maxHeartbeats 1000000 in
theorem done_pic (c:Int) (ps:List Int) (pl:ByteArray) (eo:Option Addr) (ec:Nat) (hl:pl.size≤140737488355328):DoneOk ⟨4,c,ps,pl⟩ eo ec:=by
 intro g h b cap w hS hcap hr x hx
 have hlt:=hS.lt
 have HS:Hid (Scr w b g.n g.f):=hS
 have HP:Hid (∀ w',Below w.heap.size w w'→Scr w' b g.n g.f→Calls Tryz.prog 105 #[gval g (some ⟨b,0,none⟩) cap,.string pl] w' (GEnd w' b cap x)):=fun w' _ hS=>by rw [hx];exact pictured_any g h b cap w' hS hcap pl hl _ rfl
 have HN:Hid (x.n≤cap):=by
  have e2:x.n=g.n:=by rw [hx];rfl
  show x.n≤cap
  omega
 clear hS h hcap hx hr
 go_enter Tryz.func79,Tryz.ntmps79
 go_wp2_with (go_at_call 105;refine(HP.out _ (below3 _ _ _ _) (((HS.out.alloc _).alloc _).alloc _)).mono ?_;rintro e w2 ⟨rfl,hs2,hg2⟩;have t2:=grown_block hg2 (at_new2 w _ _ _) (by simp;omega);have HF:Hid (Scr w2 b x.n x.f∧w.grownBy w2 (some b)):=⟨hs2,grown_trans (grown_alloc (grown_alloc (grown_alloc (grown_refl _ _) _) _) _) hg2⟩;obtain⟨⟨x0,x1,x2,x3,x4,x5,x6,x7,x8⟩,z⟩:=nine t2;clear hs2 hg2 t2)
 refine bodyPost_ret (v:=gval x (some ⟨b,0,none⟩) cap) (by simp [results,Tryz.results79,go_sem, *]) rfl ?_
 have hf:=fin9 HF.out (B:=w.heap.size+1+1) (by omega) hlt (.int .i64 x.wide) (.int .i64 x.high) (.slice (some ⟨b,0,none⟩) x.n cap) (.int .i64 x.row) (.int .i64 x.col) (.int .i64 x.ink) (.bool x.bold) (.int .i64 x.top) (.int .i64 x.bottom)
 exact⟨b,cap,rfl,hf.1,HN.out,hf.2,.inl rfl⟩
set_option maxHeartbeats 1000000 in
theorem done_new (c:Int) (ps:List Int) (pl:ByteArray) (eo:Option Addr) (ec:Nat):DoneOk ⟨5,c,ps,pl⟩ eo ec:=by
 intro g h b cap w hS hcap hr x hx
 have hlt:=hS.lt
 have HP:Hid (∀ w',Calls Tryz.prog 36 #[.int .i64 g.wide,.int .i64 g.high] w' fun e w''=>∃ b,e=.returned (gval x (some ⟨b,0,none⟩) x.n)∧Scr w'' b x.n x.f∧w'.heap.size≤b∧Below w'.heap.size w' w''):=fun w'=>new_any g.wide g.high w' x hx
 clear hS h hcap hx hr
 go_enter Tryz.func79,Tryz.ntmps79
 go_wp2_with (go_at_call 36;refine(HP.out _).mono ?_;rintro e w2 ⟨b',rfl,hs2,hb2,hg2⟩;have t2:=below_block hg2 (at_new2 w _ _ _) (by simp);have HF:Hid (Scr w2 b' x.n x.f∧Below w.heap.size w w2∧w.heap.size+3≤b'):=⟨hs2,(below3 _ _ _ _).trans (hg2.mono (by simp;omega)),by simp at hb2;omega⟩;obtain⟨⟨x0,x1,x2,x3,x4,x5,x6,x7,x8⟩,z⟩:=nine t2;clear hs2 hg2 t2 hb2)
 refine bodyPost_ret (v:=gval x (some ⟨b',0,none⟩) x.n) (by simp [results,Tryz.results79,go_sem, *]) rfl ?_
 obtain⟨f1,f2,f3⟩:=HF.out
 have hf:=scr_set9 f1 (B:=w.heap.size+1+1) (by omega) (.int .i64 x.wide) (.int .i64 x.high) (.slice (some ⟨b',0,none⟩) x.n x.n) (.int .i64 x.row) (.int .i64 x.col) (.int .i64 x.ink) (.bool x.bold) (.int .i64 x.top) (.int .i64 x.bottom)
 exact⟨b',x.n,rfl,hf,Nat.le_refl _,Below.toGrown (below_set9 f2 (by omega) _ _ _ _ _ _ _ _ _) _,.inr (by omega)⟩
theorem done_any (e:Evt) (eo:Option Addr) (ec:Nat) (hl:e.ps.length≤140737488355328) (hp:e.pl.size≤140737488355328) (hc:checkE e=0):DoneOk e eo ec:=by
 obtain⟨kind,c,ps,pl⟩:=e
 unfold checkE at hc
 simp only at hc hl hp
 by_cases h1:kind=1
 ·subst h1
  refine done_print c ps pl eo ec ?_
  rw [if_pos rfl] at hc
  cases hq:plainN c
  ·rw [hq] at hc;simp at hc
  ·rfl
 ·rw [if_neg h1] at hc
  by_cases h2:2≤kind∧kind≤5
  ·have hk:kind=2∨kind=3∨kind=4∨kind=5:=by omega
   rcases hk with rfl | rfl | rfl | rfl
   ·exact done_ctl c ps pl eo ec
   ·exact done_csi c ps pl eo ec hl
   ·exact done_pic c ps pl eo ec hp
   ·exact done_new c ps pl eo ec
  ·rw [if_neg h2] at hc
   cases hc
end Go.Proofs.YtjikokfjnbhngaaGreatDoor

/- What 'All' does with no events; what it does, whole. -/
namespace Go.Proofs.YtjikokfjnbhngaaGreatDoor
open Go.RowKit
set_option maxHeartbeats 1000000 in
theorem all_nil (g:Gr) (ao:Option Addr) (cap:Nat) (lo:Option Addr) (lc:Nat) (w:World) (hr:RdS w ao g.n g.f) (hn:ao=none→g.n=0∧cap=0) (hm:g.n≤4398046511104):
  Calls Tryz.prog 44 #[gval g ao cap,.slice lo 0 lc] w (AllEnd w (g,0)):=by
 have HR:Hid (RdS w ao g.n g.f):=hr
 have HCL:Hid (∀ w,RdS w ao g.n g.f→Calls Tryz.prog 48 #[.slice ao g.n cap] w fun e w'=>∃ ao' cap',e=.returned (.slice ao' g.n cap')∧Copied w g.n g.f ao' cap' w'):=fun w hr=>clone_any ao cap g.n g.f w hr hn (by omega)
 have HB2:Hid (∀ o1 o2:Obj,Below w.heap.size w ((w.alloc o1).alloc o2)):=fun o1 o2=>(below1 _ _).alloc (by simp) _
 clear hr hn hm
 go_enter Tryz.func44,Tryz.ntmps44
 go_upto_region 1 with fail
 go_cut [] from 9 to 12 (fun wx=>∃ ao' cap',Start w g ao' cap' wx)
 case first=>
  go_wp2_with (go_at_call 48;refine(HCL.out _ (HR.out.below (HB2.out _ _))).mono ?_;rintro e w1 ⟨ao',cap',rfl,hcp⟩;have HCP:Hid (Copied _ g.n g.f ao' cap' w1):=hcp;obtain⟨⟨x0,x1,x2,x3,x4,x5,x6,x7,x8⟩,z⟩:=nine (below_block hcp.2.2 (at_old (at_new w _) _) (by simp;omega));clear hcp)
  go_meet
  exact⟨ao',cap',start_of HCP.out⟩
 case rest=>
  obtain⟨ao',cap',hst⟩:=hcut
  obtain⟨⟨x0,x1,x2,x3,x4,x5,x6,x7,x8⟩,z⟩:=nine hst.box
  obtain⟨⟨y0,y1,y2,y3,y4,y5,y6,y7,y8⟩,z2⟩:=nine hst.res
  have HST:Hid (Start w g ao' cap' wc):=hst
  clear hst HCL HR
  go_wp2
  go_loopw [24] (fun i wr=>i=.int .i64 0∧wr=wc) (fun _ _=>0)
  case atStart=>exact⟨rfl,rfl⟩
  case round=>
   obtain⟨rfl,rfl⟩:=hrel
   go_wp2
   refine bodyPost_ret (v:=.tuple #[gval g ao' cap',.int .i64 0]) (by simp [results,Tryz.results44,go_sem, *]) rfl ?_
   exact⟨ao',cap',rfl,HST.out.copied (Below.refl _ _) _ _ _ _ _ _ _ _ _⟩
theorem alls_any (g:Gr) (ao:Option Addr) (cap:Nat) (lo:Option Addr) (evs:List EvIt) (lc:Nat) (w:World) (hr:RdS w ao g.n g.f) (hn:ao=none→g.n=0∧cap=0) (hm:g.n≤4398046511104) (hev:RdE w lo evs) (hl:evs.length≤140737488355328)
  (hb:∀ x∈evs,x.1.ps.length≤140737488355328∧x.1.pl.size≤140737488355328) (r:Gr×Int) (hrr:r=allR g (evs.map (·.1))):
  Calls Tryz.prog 44 #[gval g ao cap,.slice lo evs.length lc] w (AllEnd w r):=by
 cases evs with
 | nil=>
  have:r=(g,0):=by rw [hrr];rfl
  rw [this]
  exact all_nil g ao cap lo lc w hr hn hm
 | cons e l=>
  refine all_some g ao cap lo (e::l) lc w hr hn hm hev hl (by simp) ?_ r ?_
  ·intro x hx hc
   have:=hb x hx
   exact done_any x.1 x.2.1 x.2.2 (by omega) (by omega) hc
  ·rw [hrr];unfold allR;rw [if_neg (by simp)]
end Go.Proofs.YtjikokfjnbhngaaGreatDoor
