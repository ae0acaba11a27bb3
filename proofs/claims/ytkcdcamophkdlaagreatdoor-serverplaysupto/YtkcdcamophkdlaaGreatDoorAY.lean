import Derived.Test.YtkcdcamophkdlaaGreatDoorAK
set_option maxHeartbeats 2000000
set_option maxRecDepth 2000
open Go.Proofs.Tryz
namespace Go.Proofs.YtkcdcamophkdlaaGreatDoor
open Go.RowKit
variable (g:Gr)
theorem Ug (h:OkG g) (b cap:Nat) (w:World) (a:g.n<=cap) (d:g.row < g.bottom):
  kC 82 #[ay g (some ⟨b,0,none⟩) cap,.int .i64 g.row,.int .i64 g.bottom] w fun e f=>e=.returned (.slice (some ⟨b,(g.row*g.wide).toNat*4,none⟩) ((g.bottom*g.wide).toNat - (g.row*g.wide).toNat) (cap - (g.row*g.wide).toNat))∧f=w.alloc (aB g (some ⟨b,0,none⟩) cap):=by
 obtain⟨_,_,_,_,_,_,_⟩:=h.nums;have:=h.w1;have:=p8 h.r1 d (w:=g.wide) (by omega);exact JM g b cap g.row g.bottom w (by omega) (by omega) (by omega) (by omega) a
theorem JD (h:OkG g) (k:Int) (b:0<=k) (d:k<=g.bottom - g.row):0<=g.row*g.wide∧0<=k*g.wide∧g.row*g.wide+k*g.wide<=g.bottom*g.wide∧g.bottom*g.wide<=g.n∧k*g.wide<=240:=by
 obtain⟨_,_,_,_,_,_,_⟩:=h.nums;have:=h.w1;have:0<=k*g.wide:=Int.mul_nonneg b (by omega);have a:(g.row+k)*g.wide<=g.bottom*g.wide:=rR (by omega) (by omega);rw [Int.add_mul] at a;omega
theorem ahu (h:OkG g) (b cap:Nat) (w:World) (i:av w b g.n g.f) (l:g.n<=cap) (k:Int) (j:0<=k) (a:k<=g.bottom - g.row):
  kC 150 #[.slice (some ⟨b,(g.row*g.wide).toNat*4,none⟩) ((g.bottom*g.wide).toNat - (g.row*g.wide).toNat) (cap - (g.row*g.wide).toNat),.int .i64 (k*g.wide)] w fun e d=>e=.returned (.tuple #[])∧av d b g.n (kK g.f (g.row*g.wide).toNat (g.bottom*g.wide).toNat (k*g.wide).toNat)∧w.grownBy d (some b):=by
 obtain⟨_,_,_,_,_⟩:=JD g h k j a;have e:(g.bottom*g.wide).toNat=(g.row*g.wide).toNat+((g.bottom*g.wide).toNat - (g.row*g.wide).toNat):=by omega
 have:=Q8 b g.n g.f (g.row*g.wide).toNat ((g.bottom*g.wide).toNat - (g.row*g.wide).toNat) (cap - (g.row*g.wide).toNat) (k*g.wide) w i (by omega) (by omega) (by omega) (by omega);rw [<-e] at this;exact this
theorem Zj (h:OkG g) (b cap:Nat) (w:World) (i:av w b g.n g.f) (l:g.n<=cap) (k:Int) (j:0<=k) (a:k<=g.bottom - g.row):
  kC 149 #[.slice (some ⟨b,(g.row*g.wide).toNat*4,none⟩) ((g.bottom*g.wide).toNat - (g.row*g.wide).toNat) (cap - (g.row*g.wide).toNat),.int .i64 (k*g.wide)] w fun e d=>e=.returned (.tuple #[])∧av d b g.n (mO g.f (g.row*g.wide).toNat (g.bottom*g.wide).toNat (k*g.wide).toNat)∧w.grownBy d (some b):=by
 obtain⟨_,_,_,_,_⟩:=JD g h k j a;have e:(g.bottom*g.wide).toNat=(g.row*g.wide).toNat+((g.bottom*g.wide).toNat - (g.row*g.wide).toNat):=by omega
 have:=aad b g.n g.f (g.row*g.wide).toNat ((g.bottom*g.wide).toNat - (g.row*g.wide).toNat) (cap - (g.row*g.wide).toNat) (k*g.wide) w i (by omega) (by omega) (by omega) (by omega);rw [<-e] at this;exact this
theorem TP (h:OkG g) (b cap:Nat) (w:World) (e:av w b g.n g.f) (n:Int) (i:Value) (a:g.row < g.top∨g.bottom<=g.row):
  kC 148 #[ay g (some ⟨b,0,none⟩) cap,.int .i64 n,i] w (dU w b cap g):=by
 have d:=gH e;have k:g.row < g.top∨(g.top<=g.row∧g.bottom<=g.row):=by have:=h.t2;omega
 clear e h a;rcases k with j | ⟨j,l⟩
 ·go_enter func148,ntmps148;go_wp2;refine bodyPost_ret (v:=ay g (some ⟨b,0,none⟩) cap) (by simp [results,results148,go_sem]) rfl ?_;exact⟨rfl,(d.out.alloc _).alloc _,bB (bB (eP _ _) _) _⟩
 ·go_enter func148,ntmps148;go_wp2;refine bodyPost_ret (v:=ay g (some ⟨b,0,none⟩) cap) (by simp [results,results148,go_sem]) rfl ?_;exact⟨rfl,(d.out.alloc _).alloc _,bB (bB (eP _ _) _) _⟩
theorem adJ (h:OkG g) (b cap:Nat) (w:World) (t:av w b g.n g.f) (R:g.n<=cap) (n:Int) (hn:1<=n) (W:n<=999) (M:g.top<=g.row) (s:g.row < g.bottom) (l:Nat->aH) (u:l=mO g.f (g.row*g.wide).toNat (g.bottom*g.wide).toNat (min n (g.bottom - g.row)*g.wide).toNat):
  kC 148 #[ay g (some ⟨b,0,none⟩) cap,.int .i64 n,.func (.func 149) #[] #[]] w (dU w b cap ⟨g.wide,g.high,g.n,l,g.row,0,g.aA,g.bold,g.top,g.bottom⟩):=by
 have x:=t.lt;have L:=gH t;have:g.bottom<=10:=by have:=h.t3;have:=h.h2;omega
 have:=h.r1;obtain⟨k,m⟩:∃ k,k=min n (g.bottom - g.row):=⟨_,rfl⟩;obtain⟨Z,p2,p3,p4,p5⟩:=JD g h k (by omega) (by omega);have E:IntKind.i64.wrap (g.bottom - g.row)=g.bottom - g.row:=by rw [IntKind.wrap_i64];omega
 have z:IntKind.i64.wrap ((if IntKind.i64.wrap (g.bottom - g.row) < n then IntKind.i64.wrap (g.bottom - g.row) else n)*g.wide)=k*g.wide:=by
  have e:(if IntKind.i64.wrap (g.bottom - g.row) < n then IntKind.i64.wrap (g.bottom - g.row) else n)=k:=(by rw [E,m];split <;>omega);rw [e,IntKind.wrap_i64];omega
 have p:Hid (∀ w,kC 82 #[ay g (some ⟨b,0,none⟩) cap,.int .i64 g.row,.int .i64 g.bottom] w fun e a=>e=.returned (.slice (some ⟨b,(g.row*g.wide).toNat*4,none⟩) ((g.bottom*g.wide).toNat - (g.row*g.wide).toNat) (cap - (g.row*g.wide).toNat))∧a=w.alloc (aB g (some ⟨b,0,none⟩) cap)):=fun w=>Ug g h b cap w R s;have I:Hid (∀ w v,v=k*g.wide->av w b g.n g.f->kC 149 #[.slice (some ⟨b,(g.row*g.wide).toNat*4,none⟩) ((g.bottom*g.wide).toNat - (g.row*g.wide).toNat) (cap - (g.row*g.wide).toNat),.int .i64 v] w fun e a=>e=.returned (.tuple #[])∧av a b g.n l∧w.grownBy a (some b)):=by
  intro w v Y t;rw [Y,u, <-m];exact Zj g h b cap w t R k (by omega) (by omega)
 have V:=gH z;have S:Hid (k=n->IntKind.i64.wrap (n*g.wide)=k*g.wide):=fun e=>by rw [<-e,IntKind.wrap_i64];omega
 have U:Hid (k=g.bottom - g.row->IntKind.i64.wrap ((g.bottom - g.row)*g.wide)=k*g.wide):=fun e=>by rw [<-e,IntKind.wrap_i64];omega
 have J:Hid (k=g.bottom - g.row->IntKind.i64.wrap (IntKind.i64.wrap (g.bottom - g.row)*g.wide)=k*g.wide):=fun e=>by rw [E, <-e,IntKind.wrap_i64];omega
 have F:(¬ IntKind.i64.wrap (g.bottom - g.row) < n∧k=n)∨(IntKind.i64.wrap (g.bottom - g.row) < n∧k=g.bottom - g.row):=by rw [E];omega
 clear t u m Z p2 p3 p4 p5 z E h;obtain⟨P,N⟩:∃ P,P=(g.row*g.wide).toNat:=⟨_,rfl⟩;obtain⟨Q,O⟩:∃ Q,Q=(g.bottom*g.wide).toNat - (g.row*g.wide).toNat:=⟨_,rfl⟩;rw [<-O, <-N] at p I;clear N O;have K:Hid (∀ (G H T:Obj) (d:World),av d b g.n l->(((w.alloc G).alloc H).alloc T).drew.grownBy d (some b)->av d b g.n l∧w.grownBy d (some b)∧d.heap[w.heap.size]?=some G∧d.heap[w.heap.size+1]?=some H):=by
  intro G H T d M s;refine⟨M,jD (om (bB (bB (bB (eP _ _) _) _) _)) s,?_,?_⟩
  ·exact bH s (aF (aF (at_new w _) _) _) (by simp;omega)
  ·exact bH s (aF (bK w _ _) _) (by simp;omega)
 rcases F with ⟨X,m⟩ | ⟨X,m⟩
 ·have o:Hid _:=m;clear m;go_enter func148,ntmps148;go_wp2_with fail;go_region_held3 (fun a=>a.cell? ⟨w.heap.size,0,none⟩=some (.int .i64 g.wide)∧a.cell? ⟨w.heap.size,1,none⟩=some (.int .i64 g.high)∧a.cell? ⟨w.heap.size,2,none⟩=some (.slice (some ⟨b,0,none⟩) g.n cap)∧a.cell? ⟨w.heap.size,3,none⟩=some (.int .i64 g.row)∧a.cell? ⟨w.heap.size,4,none⟩=some (.int .i64 g.col)∧a.cell? ⟨w.heap.size,5,none⟩=some (.int .i64 g.aA)∧a.cell? ⟨w.heap.size,6,none⟩=some (.bool g.bold)∧a.cell? ⟨w.heap.size,7,none⟩=some (.int .i64 g.top)∧a.cell? ⟨w.heap.size,8,none⟩=some (.int .i64 g.bottom)) (first | go_keep | (simp [*,World.cell?_alloc_past]))
   (first
   | (go_at_call 82;refine(p.out _).mono ?_;rintro e w1 ⟨rfl,rfl⟩)
   | (go_at_call 149;refine(I.out _ _ (by first | exact V.out | exact S.out o.out | exact U.out o.out | exact J.out o.out) (av.drew (L.out.alloc _ |>.alloc _ |>.alloc _))).mono ?_;rintro e d ⟨rfl,i,j⟩;obtain⟨A,B,C,D⟩:=K.out _ _ _ d i j;clear i j;have q:Hid (av d b g.n l∧w.grownBy d (some b)):=⟨A,B⟩;clear A B;obtain⟨⟨x0,x1,x2,x3,x4,x5,x6,x7,x8⟩,y⟩:=nine C;obtain⟨⟨u0,u1,u2,u3,u4,u5,u6,u7,u8⟩,v⟩:=nine D;clear C D))
  go_wp2
  all_goals (
   refine bodyPost_ret (v:=ay ⟨g.wide,g.high,g.n,l,g.row,0,g.aA,g.bold,g.top,g.bottom⟩ (some ⟨b,0,none⟩) cap) (by simp [results,results148,go_sem, *]) rfl ?_
   refine⟨rfl,jC (w:=w) ⟨q.out.1.set (by simp;omega) _,oq q.out.2 (.inl (Nat.le_refl _)) _⟩ (by omega) x _ _ _ _ _ _ _ _ _⟩)
 ·have o:Hid _:=m;clear m;go_enter func148,ntmps148;go_wp2_with fail;go_region_held3 (fun a=>a.cell? ⟨w.heap.size,0,none⟩=some (.int .i64 g.wide)∧a.cell? ⟨w.heap.size,1,none⟩=some (.int .i64 g.high)∧a.cell? ⟨w.heap.size,2,none⟩=some (.slice (some ⟨b,0,none⟩) g.n cap)∧a.cell? ⟨w.heap.size,3,none⟩=some (.int .i64 g.row)∧a.cell? ⟨w.heap.size,4,none⟩=some (.int .i64 g.col)∧a.cell? ⟨w.heap.size,5,none⟩=some (.int .i64 g.aA)∧a.cell? ⟨w.heap.size,6,none⟩=some (.bool g.bold)∧a.cell? ⟨w.heap.size,7,none⟩=some (.int .i64 g.top)∧a.cell? ⟨w.heap.size,8,none⟩=some (.int .i64 g.bottom)) (first | go_keep | (simp [*,World.cell?_alloc_past]))
   (first
   | (go_at_call 82;refine(p.out _).mono ?_;rintro e w1 ⟨rfl,rfl⟩)
   | (go_at_call 149;refine(I.out _ _ (by first | exact V.out | exact S.out o.out | exact U.out o.out | exact J.out o.out) (av.drew (L.out.alloc _ |>.alloc _ |>.alloc _))).mono ?_;rintro e d ⟨rfl,i,j⟩;obtain⟨A,B,C,D⟩:=K.out _ _ _ d i j;clear i j;have q:Hid (av d b g.n l∧w.grownBy d (some b)):=⟨A,B⟩;clear A B;obtain⟨⟨x0,x1,x2,x3,x4,x5,x6,x7,x8⟩,y⟩:=nine C;obtain⟨⟨u0,u1,u2,u3,u4,u5,u6,u7,u8⟩,v⟩:=nine D;clear C D))
  go_wp2
  all_goals (
   refine bodyPost_ret (v:=ay ⟨g.wide,g.high,g.n,l,g.row,0,g.aA,g.bold,g.top,g.bottom⟩ (some ⟨b,0,none⟩) cap) (by simp [results,results148,go_sem, *]) rfl ?_
   refine⟨rfl,jC (w:=w) ⟨q.out.1.set (by simp;omega) _,oq q.out.2 (.inl (Nat.le_refl _)) _⟩ (by omega) x _ _ _ _ _ _ _ _ _⟩)
theorem adK (h:OkG g) (b cap:Nat) (w:World) (t:av w b g.n g.f) (R:g.n<=cap) (n:Int) (hn:1<=n) (W:n<=999) (M:g.top<=g.row) (s:g.row < g.bottom) (l:Nat->aH) (u:l=kK g.f (g.row*g.wide).toNat (g.bottom*g.wide).toNat (min n (g.bottom - g.row)*g.wide).toNat):
  kC 148 #[ay g (some ⟨b,0,none⟩) cap,.int .i64 n,.func (.func 150) #[] #[]] w (dU w b cap ⟨g.wide,g.high,g.n,l,g.row,0,g.aA,g.bold,g.top,g.bottom⟩):=by
 have x:=t.lt;have L:=gH t;have:g.bottom<=10:=by have:=h.t3;have:=h.h2;omega
 have:=h.r1;obtain⟨k,m⟩:∃ k,k=min n (g.bottom - g.row):=⟨_,rfl⟩;obtain⟨Z,p2,p3,p4,p5⟩:=JD g h k (by omega) (by omega);have E:IntKind.i64.wrap (g.bottom - g.row)=g.bottom - g.row:=by rw [IntKind.wrap_i64];omega
 have z:IntKind.i64.wrap ((if IntKind.i64.wrap (g.bottom - g.row) < n then IntKind.i64.wrap (g.bottom - g.row) else n)*g.wide)=k*g.wide:=by
  have e:(if IntKind.i64.wrap (g.bottom - g.row) < n then IntKind.i64.wrap (g.bottom - g.row) else n)=k:=(by rw [E,m];split <;>omega);rw [e,IntKind.wrap_i64];omega
 have p:Hid (∀ w,kC 82 #[ay g (some ⟨b,0,none⟩) cap,.int .i64 g.row,.int .i64 g.bottom] w fun e a=>e=.returned (.slice (some ⟨b,(g.row*g.wide).toNat*4,none⟩) ((g.bottom*g.wide).toNat - (g.row*g.wide).toNat) (cap - (g.row*g.wide).toNat))∧a=w.alloc (aB g (some ⟨b,0,none⟩) cap)):=fun w=>Ug g h b cap w R s;have I:Hid (∀ w v,v=k*g.wide->av w b g.n g.f->kC 150 #[.slice (some ⟨b,(g.row*g.wide).toNat*4,none⟩) ((g.bottom*g.wide).toNat - (g.row*g.wide).toNat) (cap - (g.row*g.wide).toNat),.int .i64 v] w fun e a=>e=.returned (.tuple #[])∧av a b g.n l∧w.grownBy a (some b)):=by
  intro w v Y t;rw [Y,u, <-m];exact ahu g h b cap w t R k (by omega) (by omega)
 have V:=gH z;have S:Hid (k=n->IntKind.i64.wrap (n*g.wide)=k*g.wide):=fun e=>by rw [<-e,IntKind.wrap_i64];omega
 have U:Hid (k=g.bottom - g.row->IntKind.i64.wrap ((g.bottom - g.row)*g.wide)=k*g.wide):=fun e=>by rw [<-e,IntKind.wrap_i64];omega
 have J:Hid (k=g.bottom - g.row->IntKind.i64.wrap (IntKind.i64.wrap (g.bottom - g.row)*g.wide)=k*g.wide):=fun e=>by rw [E, <-e,IntKind.wrap_i64];omega
 have F:(¬ IntKind.i64.wrap (g.bottom - g.row) < n∧k=n)∨(IntKind.i64.wrap (g.bottom - g.row) < n∧k=g.bottom - g.row):=by rw [E];omega
 clear t u m Z p2 p3 p4 p5 z E h;obtain⟨P,N⟩:∃ P,P=(g.row*g.wide).toNat:=⟨_,rfl⟩;obtain⟨Q,O⟩:∃ Q,Q=(g.bottom*g.wide).toNat - (g.row*g.wide).toNat:=⟨_,rfl⟩;rw [<-O, <-N] at p I;clear N O;have K:Hid (∀ (G H T:Obj) (d:World),av d b g.n l->(((w.alloc G).alloc H).alloc T).drew.grownBy d (some b)->av d b g.n l∧w.grownBy d (some b)∧d.heap[w.heap.size]?=some G∧d.heap[w.heap.size+1]?=some H):=by
  intro G H T d M s;refine⟨M,jD (om (bB (bB (bB (eP _ _) _) _) _)) s,?_,?_⟩
  ·exact bH s (aF (aF (at_new w _) _) _) (by simp;omega)
  ·exact bH s (aF (bK w _ _) _) (by simp;omega)
 rcases F with ⟨X,m⟩ | ⟨X,m⟩
 ·have o:Hid _:=m;clear m;go_enter func148,ntmps148;go_wp2_with fail;go_region_held3 (fun a=>a.cell? ⟨w.heap.size,0,none⟩=some (.int .i64 g.wide)∧a.cell? ⟨w.heap.size,1,none⟩=some (.int .i64 g.high)∧a.cell? ⟨w.heap.size,2,none⟩=some (.slice (some ⟨b,0,none⟩) g.n cap)∧a.cell? ⟨w.heap.size,3,none⟩=some (.int .i64 g.row)∧a.cell? ⟨w.heap.size,4,none⟩=some (.int .i64 g.col)∧a.cell? ⟨w.heap.size,5,none⟩=some (.int .i64 g.aA)∧a.cell? ⟨w.heap.size,6,none⟩=some (.bool g.bold)∧a.cell? ⟨w.heap.size,7,none⟩=some (.int .i64 g.top)∧a.cell? ⟨w.heap.size,8,none⟩=some (.int .i64 g.bottom)) (first | go_keep | (simp [*,World.cell?_alloc_past]))
   (first
   | (go_at_call 82;refine(p.out _).mono ?_;rintro e w1 ⟨rfl,rfl⟩)
   | (go_at_call 150;refine(I.out _ _ (by first | exact V.out | exact S.out o.out | exact U.out o.out | exact J.out o.out) (av.drew (L.out.alloc _ |>.alloc _ |>.alloc _))).mono ?_;rintro e d ⟨rfl,i,j⟩;obtain⟨A,B,C,D⟩:=K.out _ _ _ d i j;clear i j;have q:Hid (av d b g.n l∧w.grownBy d (some b)):=⟨A,B⟩;clear A B;obtain⟨⟨x0,x1,x2,x3,x4,x5,x6,x7,x8⟩,y⟩:=nine C;obtain⟨⟨u0,u1,u2,u3,u4,u5,u6,u7,u8⟩,v⟩:=nine D;clear C D))
  go_wp2
  all_goals (
   refine bodyPost_ret (v:=ay ⟨g.wide,g.high,g.n,l,g.row,0,g.aA,g.bold,g.top,g.bottom⟩ (some ⟨b,0,none⟩) cap) (by simp [results,results148,go_sem, *]) rfl ?_
   refine⟨rfl,jC (w:=w) ⟨q.out.1.set (by simp;omega) _,oq q.out.2 (.inl (Nat.le_refl _)) _⟩ (by omega) x _ _ _ _ _ _ _ _ _⟩)
 ·have o:Hid _:=m;clear m;go_enter func148,ntmps148;go_wp2_with fail;go_region_held3 (fun a=>a.cell? ⟨w.heap.size,0,none⟩=some (.int .i64 g.wide)∧a.cell? ⟨w.heap.size,1,none⟩=some (.int .i64 g.high)∧a.cell? ⟨w.heap.size,2,none⟩=some (.slice (some ⟨b,0,none⟩) g.n cap)∧a.cell? ⟨w.heap.size,3,none⟩=some (.int .i64 g.row)∧a.cell? ⟨w.heap.size,4,none⟩=some (.int .i64 g.col)∧a.cell? ⟨w.heap.size,5,none⟩=some (.int .i64 g.aA)∧a.cell? ⟨w.heap.size,6,none⟩=some (.bool g.bold)∧a.cell? ⟨w.heap.size,7,none⟩=some (.int .i64 g.top)∧a.cell? ⟨w.heap.size,8,none⟩=some (.int .i64 g.bottom)) (first | go_keep | (simp [*,World.cell?_alloc_past]))
   (first
   | (go_at_call 82;refine(p.out _).mono ?_;rintro e w1 ⟨rfl,rfl⟩)
   | (go_at_call 150;refine(I.out _ _ (by first | exact V.out | exact S.out o.out | exact U.out o.out | exact J.out o.out) (av.drew (L.out.alloc _ |>.alloc _ |>.alloc _))).mono ?_;rintro e d ⟨rfl,i,j⟩;obtain⟨A,B,C,D⟩:=K.out _ _ _ d i j;clear i j;have q:Hid (av d b g.n l∧w.grownBy d (some b)):=⟨A,B⟩;clear A B;obtain⟨⟨x0,x1,x2,x3,x4,x5,x6,x7,x8⟩,y⟩:=nine C;obtain⟨⟨u0,u1,u2,u3,u4,u5,u6,u7,u8⟩,v⟩:=nine D;clear C D))
  go_wp2
  all_goals (
   refine bodyPost_ret (v:=ay ⟨g.wide,g.high,g.n,l,g.row,0,g.aA,g.bold,g.top,g.bottom⟩ (some ⟨b,0,none⟩) cap) (by simp [results,results148,go_sem, *]) rfl ?_
   refine⟨rfl,jC (w:=w) ⟨q.out.1.set (by simp;omega) _,oq q.out.2 (.inl (Nat.le_refl _)) _⟩ (by omega) x _ _ _ _ _ _ _ _ _⟩)
variable (g:Gr) (ao:Option Addr) (cap:Nat) (r c:Int) (w:World)
theorem Iy {g:Gr} {r c:Int} (h:¬ (g.wide<=24∧g.high<=10∧0<=r∧r < g.high∧0<=c∧c < g.wide∧r*g.wide+c < g.n)):iy g r c=aX:=by unfold iy;rw [if_neg h]
theorem WZ (f:¬ (g.wide<=24∧g.high<=10∧0<=r∧r < g.high∧0<=c∧c < g.wide)):
  kA 137 #[ay g ao cap,.int .i64 r,.int .i64 c] w (cval aX):=by
 have h:Hid (∀ a b:Obj,Below w.heap.size w ((w.alloc a).alloc b)):=fun a b=>((Below.refl _ _).alloc (Nat.le_refl _) _).alloc (by simp) _;have d:Hid (∀ a b j:Obj,Below w.heap.size w (((w.alloc a).alloc b).alloc j)):=fun a b j=>(((Below.refl _ _).alloc (Nat.le_refl _) _).alloc (by simp) _).alloc (by simp;omega) _;by_cases l:24 < g.wide
 ·clear f;go_enter func137,ntmps137;go_wp2;exact bodyPost_ret (v:=cval aX) (by simp [results,results137,go_sem,aX]) rfl ⟨rfl,h.out _ _⟩
 have:g.wide<=24:=by omega
 by_cases m:10 < g.high
 ·clear f;go_enter func137,ntmps137;go_wp2;exact bodyPost_ret (v:=cval aX) (by simp [results,results137,go_sem,aX]) rfl ⟨rfl,h.out _ _⟩
 have:g.high<=10:=by omega
 have i:decide (0<=r∧r < g.high∧0<=c∧c < g.wide)=false:=decide_eq_false (by omega);have k:Hid (∀ w,kC 153 #[ay g ao cap,.int .i64 r,.int .i64 c] w fun e n=>e=.returned (.bool false)∧n=w.alloc (aB g ao cap)):=fun w=>by rw [<-i];exact vT g ao cap r c w
 clear i l m f;go_enter func137,ntmps137;go_wp2_with (go_at_call 153;refine(k.out _).mono ?_;rintro e _ ⟨rfl,rfl⟩);exact bodyPost_ret (v:=cval aX) (by simp [results,results137,go_sem,aX]) rfl ⟨rfl,d.out _ _ _⟩
theorem WX (E:aL w ao g.n g.f) (P:g.wide<=24) (L:g.high<=10) (d:0<=r∧r < g.high∧0<=c∧c < g.wide) (T:(g.n:Int)<=9223372036854775807):
  kA 137 #[ay g ao cap,.int .i64 r,.int .i64 c] w (cval (iy g r c)):=by
 have D:=p8 d.1 d.2.1 (w:=g.wide) (by omega);have q:g.high*g.wide<=10*g.wide:=rR L (by omega);obtain⟨p,l⟩:∃ p,p=r*g.wide:=⟨_,rfl⟩;have m:Hid (∀ t u x:Obj,Below w.heap.size w (((w.alloc t).alloc u).alloc x)):=fun t u x=>(((Below.refl _ _).alloc (Nat.le_refl _) _).alloc (by simp) _).alloc (by simp;omega) _;have C:decide (0<=r∧r < g.high∧0<=c∧c < g.wide)=true:=decide_eq_true d;have J:Hid (∀ w,kC 153 #[ay g ao cap,.int .i64 r,.int .i64 c] w fun e R=>e=.returned (.bool true)∧R=w.alloc (aB g ao cap)):=fun w=>by rw [<-C];exact vT g ao cap r c w
 have:0<=p:=by omega
 have:p<=240:=by omega
 have:=d.2.2.1;have:c<=24:=by omega
 by_cases M:p+c < g.n
 ·obtain⟨b,a,rfl,N⟩:∃ b a,ao=some ⟨b,a,none⟩∧∀ i,i < g.n->w.cell? ⟨b,a+i*4,none⟩=some (.int .i64 (g.f i).ch)∧w.cell? ⟨b,a+i*4+1,none⟩=some (.int .i64 (g.f i).aA)∧w.cell? ⟨b,a+i*4+2,none⟩=some (.int .i64 (g.f i).aJ)∧w.cell? ⟨b,a+i*4+3,none⟩=some (.bool (g.f i).bold):=by
   rcases E with K | K
   ·omega
   ·exact K
  obtain⟨k,Q⟩:∃ k:Nat,p+c=k:=⟨(p+c).toNat,by omega⟩;obtain⟨B,G,H,I⟩:=N k (by omega);have o:=World.block_lt_of_cell? _ _ B;simp only at o;have A:Hid (iy g r c=g.f k):=by
   show iy g r c=g.f k;unfold iy;rw [if_pos ⟨P,L,d.1,d.2.1,d.2.2.1,d.2.2.2,by omega⟩];congr 1;omega
  obtain⟨y,O⟩:∃ y,y=g.f k:=⟨_,rfl⟩;rw [<-O] at A B G H I;have:(k:Int) < (g.n:Int):=(by omega);rw [<-l] at D;clear N E C O M;have F:IntKind.i64.wrap (r*g.wide)=p:=(by rw [<-l,IntKind.wrap_i64];omega);have s:IntKind.i64.wrap (p+c)=(k:Int):=(by rw [Q,IntKind.wrap_i64];omega);have z:∀ (j:Nat) (v:Value),w.cell? ⟨b,j,none⟩=some v->∀ t u x:Obj,(((w.alloc t).alloc u).alloc x).cell? ⟨b,j,none⟩=some v:=by
   intro j v h t u x;rw [World.cell?_alloc_past _ _ _ (by simp;omega),World.cell?_alloc_past _ _ _ (by simp;omega),World.cell?_alloc_past _ _ _ o];exact h
  have:=z _ _ B;have:=z _ _ G;have:=z _ _ H;have:=z _ _ I;clear l D q d z B G H I;go_enter func137,ntmps137;go_wp2_with (go_at_call 153;refine(J.out _).mono ?_;rintro e S ⟨rfl,rfl⟩);exact bodyPost_ret (v:=cval y) (by simp [results,results137,go_sem]) rfl ⟨by rw [A.out],m.out _ _ _⟩
 ·have A:Hid (iy g r c=aX):=Iy (by rw [<-l];omega);have F:IntKind.i64.wrap (r*g.wide)=p:=(by rw [<-l,IntKind.wrap_i64];omega);have s:IntKind.i64.wrap (p+c)=p+c:=(by rw [IntKind.wrap_i64];omega);have:(g.n:Int)<=p+c:=(by omega);clear l D q d E C M;go_enter func137,ntmps137;go_wp2_with (go_at_call 153;refine(J.out _).mono ?_;rintro e S ⟨rfl,rfl⟩);exact bodyPost_ret (v:=cval aX) (by simp [results,results137,go_sem,aX]) rfl ⟨by rw [A.out],m.out _ _ _⟩
theorem WW (b:aL w ao g.n g.f) (a:(g.n:Int)<=9223372036854775807):
  kA 137 #[ay g ao cap,.int .i64 r,.int .i64 c] w (cval (iy g r c)):=by
 by_cases h:g.wide<=24∧g.high<=10∧0<=r∧r < g.high∧0<=c∧c < g.wide
 ·exact WX g ao cap r c w b h.1 h.2.1 h.2.2 a
 ·rw [Iy (fun k=>h ⟨k.1,k.2.1,k.2.2.1,k.2.2.2.1,k.2.2.2.2.1,k.2.2.2.2.2.1⟩)];exact WZ g ao cap r c w h
end Go.Proofs.YtkcdcamophkdlaaGreatDoor
