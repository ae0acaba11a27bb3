import Derived.Test.YtkcdcamophkdlaaGreatDoorAF
import Derived.Deep.CutRange
set_option maxHeartbeats 1000000
set_option maxRecDepth 1000
open Go.Proofs.Tryz
namespace Go.Proofs.YtkcdcamophkdlaaGreatDoor
open Go.RowKit
variable (b n:Nat) (f:Nat->aH) (a q m c k i:Nat) (w:World)
theorem JM (g:Gr) (b cap:Nat) (r s:Int) (w:World) (o:0<=r*g.wide) (d:r*g.wide < s*g.wide) (t:s*g.wide<=g.n) (l:g.n<=240) (j:g.n<=cap):
  kC 82 #[ay g (some ⟨b,0,none⟩) cap,.int .i64 r,.int .i64 s] w fun e h=>e=.returned (.slice (some ⟨b,(r*g.wide).toNat*4,none⟩) ((s*g.wide).toNat - (r*g.wide).toNat) (cap - (r*g.wide).toNat))∧h=w.alloc (aB g (some ⟨b,0,none⟩) cap):=by
 obtain⟨p,_⟩:∃ p,p=r*g.wide:=⟨_,rfl⟩;obtain⟨q,_⟩:∃ q,q=s*g.wide:=⟨_,rfl⟩;go_enter func82,ntmps82;go_wp2;go_ret;exact⟨rfl,rfl⟩
theorem aht:gT (rP f a q fun i=>f (a+k+i)) (a+q) (a+q+k) i=kK f a (a+(q+k)) k i:=by
 unfold gT rP kK;by_cases d:a<=i
 ·by_cases e:i < a+q
  ·rw [if_neg (by omega),if_pos (by omega),if_pos (by omega),if_pos (by omega)];show f (a+k+(i - a))=f (i+k);congr 1;omega
  ·by_cases h:i < a+(q+k)
   ·rw [if_pos (by omega),if_pos (by omega),if_neg (by omega)]
   ·rw [if_neg (by omega),if_neg (by omega),if_neg (by omega)]
 ·rw [if_neg (by omega),if_neg (by omega),if_neg (by omega)]
theorem Zi:gT (rP f (a+k) q fun i=>f (a+i)) a (a+k) i=mO f a (a+(q+k)) k i:=by
 unfold gT rP mO;by_cases d:a<=i
 ·by_cases e:i < a+k
  ·rw [if_pos (by omega),if_pos (by omega),if_neg (by omega)]
  ·by_cases h:i < a+(q+k)
   ·rw [if_neg (by omega),if_pos (by omega),if_pos (by omega),if_pos (by omega)];show f (a+(i - (a+k)))=f (i - k);congr 1;omega
   ·rw [if_neg (by omega),if_neg (by omega),if_neg (by omega)]
 ·rw [if_neg (by omega),if_neg (by omega),if_neg (by omega)]
theorem UK {w:World} {b n:Nat} {f:Nat->aH} (h:av w b n f) (s m d:Nat) (p:s+m<=n) (o:d=s*4) (i:Nat) (l:i < m) (j:Nat) (e:j < 4):w.cell? ((⟨b,d,none⟩:Addr).add (i*4+j))=pO (f (s+i)) j:=by
 rw [mJ];exact h.at (s+i) j _ (by omega) e (by omega)
theorem aae (t:av w b n f) (C:a+(q+k)<=n) (B:q+k<=c):
  kC 150 #[.slice (some ⟨b,a*4,none⟩) (q+k) c,.int .i64 k] w fun e A=>e=.returned (.tuple #[])∧av A b n (kK f a (a+(q+k)) k)∧w.grownBy A (some b):=by
 have d:Hid (∀ (j l:World),w.grownBy j (some b)->j.grownBy l (some b)->av l b n (gT (rP f a q fun i=>f (a+k+i)) (a+q) (a+q+k))->av l b n (kK f a (a+(q+k)) k)∧w.grownBy l (some b)):=by
  intro j l r o p;exact⟨p.congr fun i _=>aht f a q k i,jD r o⟩
 by_cases v:c=k
 ·subst v;obtain rfl:q=0:=(by omega);obtain⟨j,y,s,r⟩:=Gm w 3 b n f t a c c (some ⟨b,a*4,none⟩) (some ⟨b,a*4,none⟩) 0 0 0 (fun i=>f (a+c+i)) (by simp) (by omega) (fun h=>absurd h (by omega));obtain⟨l,z,p,o⟩:=wB j 0 b n _ s (a+0) c c (some ⟨b,a*4,none⟩) (by omega) (fun _=>rfl);have u:=gH (d.out j l r o p);clear s r p o d t;go_enter func150,ntmps150;go_wp2;go_end0;exact⟨rfl,u.out⟩
 ·obtain⟨j,y,s,r⟩:=Gm w 3 b n f t a (q+k) c (some ⟨b,a*4,none⟩) (some ⟨b,a*4+k*4,none⟩) q (c - k) q (fun i=>f (a+k+i)) (by simp) (by omega) (fun _=>⟨rfl,_,rfl,UK t (a+k) q _ (by omega) (by omega)⟩);by_cases x:c=q
  ·subst x;obtain rfl:k=0:=(by omega);obtain⟨l,z,p,o⟩:=wB j 0 b n _ s (a+c) 0 0 (some ⟨b,a*4,none⟩) (by omega) (fun h=>absurd h (by omega));have u:=gH (d.out j l r o p);clear s r p o d t;simp only [Nat.add_zero,Nat.zero_mul,Nat.sub_zero] at y;go_enter func150,ntmps150;go_wp2;go_end0;exact⟨rfl,u.out⟩
  ·obtain⟨l,z,p,o⟩:=wB j 0 b n _ s (a+q) k (c - q) (some ⟨b,a*4+q*4,none⟩) (by omega) (fun _=>by rw [show a*4+q*4=(a+q)*4 by omega]);have u:=gH (d.out j l r o p);clear s r p o d t;go_enter func150,ntmps150;go_wp2;go_end0;exact⟨rfl,u.out⟩
theorem aac (t:av w b n f) (B:a+(q+k)<=n) (A:q+k<=c):
  kC 149 #[.slice (some ⟨b,a*4,none⟩) (q+k) c,.int .i64 k] w fun e x=>e=.returned (.tuple #[])∧av x b n (mO f a (a+(q+k)) k)∧w.grownBy x (some b):=by
 have d:Hid (∀ (j l:World),w.grownBy j (some b)->j.grownBy l (some b)->av l b n (gT (rP f (a+k) q fun i=>f (a+i)) a (a+k))->av l b n (mO f a (a+(q+k)) k)∧w.grownBy l (some b)):=by
  intro j l o p r;exact⟨r.congr fun i _=>Zi f a q k i,jD o p⟩
 by_cases v:c=k
 ·subst v;obtain rfl:q=0:=(by omega);obtain⟨j,y,s,o⟩:=Gm w 3 b n f t (a+c) 0 0 (some ⟨b,a*4,none⟩) (some ⟨b,a*4,none⟩) c c 0 (fun i=>f (a+i)) (by simp) (by omega) (fun h=>absurd h (by omega));obtain⟨l,z,r,p⟩:=wB j 0 b n _ s a c c (some ⟨b,a*4,none⟩) (by omega) (fun _=>rfl);have u:=gH (d.out j l o p r);clear s o r p d t;go_enter func149,ntmps149;go_wp2;go_end0;exact⟨rfl,u.out⟩
 ·obtain⟨j,y,s,o⟩:=Gm w 3 b n f t (a+k) q (c - k) (some ⟨b,a*4+k*4,none⟩) (some ⟨b,a*4,none⟩) (q+k) c q (fun i=>f (a+i)) (by simp) (by omega) (fun _=>⟨by rw [show a*4+k*4=(a+k)*4 by omega],_,rfl,UK t a q _ (by omega) (by omega)⟩);obtain⟨l,z,r,p⟩:=wB j 0 b n _ s a k c (some ⟨b,a*4,none⟩) (by omega) (fun _=>rfl);have u:=gH (d.out j l o p r);clear s o r p d t;go_enter func149,ntmps149;go_wp2;go_end0;exact⟨rfl,u.out⟩
theorem Q8 (k:Int) (w:World) (h:av w b n f) (r:a+m<=n) (l:m<=c) (o:0<=k) (p:k<=m):
  kC 150 #[.slice (some ⟨b,a*4,none⟩) m c,.int .i64 k] w fun e d=>e=.returned (.tuple #[])∧av d b n (kK f a (a+m) k.toNat)∧w.grownBy d (some b):=by
 obtain⟨j,rfl⟩:∃ j:Nat,k=j:=⟨k.toNat,(Int.toNat_of_nonneg o).symm⟩;obtain⟨q,rfl⟩:∃ q,m=q+j:=⟨m - j,by omega⟩;exact aae b n f a q c j w h r l
theorem aad (k:Int) (w:World) (h:av w b n f) (r:a+m<=n) (l:m<=c) (o:0<=k) (p:k<=m):
  kC 149 #[.slice (some ⟨b,a*4,none⟩) m c,.int .i64 k] w fun e d=>e=.returned (.tuple #[])∧av d b n (mO f a (a+m) k.toNat)∧w.grownBy d (some b):=by
 obtain⟨j,rfl⟩:∃ j:Nat,k=j:=⟨k.toNat,(Int.toNat_of_nonneg o).symm⟩;obtain⟨q,rfl⟩:∃ q,m=q+j:=⟨m - j,by omega⟩;exact aac b n f a q c j w h r l
theorem QJ (p:Nat) (d:Int) (w:World) (l:av w b n f) (y:a+m<=n) (A:p < m) (x:m<=c) (z:n<=240):
  kC 147 #[.slice (some ⟨b,a*4,none⟩) m c,.int .i64 p,.int .i64 d] w fun e v=>e=.returned (.tuple #[])∧av v b n (lY f a m p d)∧w.grownBy v (some b):=by
 have:¬ c=p:=by omega
 by_cases s:d=0
 ·subst s;obtain⟨o,u,h,j⟩:=wB w 0 b n f l (a+p) (m - p) (c - p) (some ⟨b,a*4+p*4,none⟩) (by omega) (fun _=>by rw [show a*4+p*4=(a+p)*4 by omega]);have e:a+p+(m - p)=a+m:=(by omega);rw [e] at h;have r:Hid (av o b n (gT f (a+p) (a+m))∧w.grownBy o (some b)):=⟨h,j⟩;clear h j l e;go_enter func147,ntmps147;go_wp2;go_end0;exact⟨rfl,r.out⟩
 by_cases h:d=1
 ·subst h;obtain⟨o,u,h,j⟩:=wB w 0 b n f l a (p+1) c (some ⟨b,a*4,none⟩) (by omega) (fun _=>rfl);have r:Hid (av o b n (gT f a (a+(p+1)))∧w.grownBy o (some b)):=⟨h,j⟩;clear h j l;go_enter func147,ntmps147;go_wp2;go_end0;exact⟨rfl,r.out⟩
 by_cases t:d=2
 ·subst t;obtain⟨o,u,h,j⟩:=wB w 0 b n f l a m c (some ⟨b,a*4,none⟩) (by omega) (fun _=>rfl);have r:Hid (av o b n (gT f a (a+m))∧w.grownBy o (some b)):=⟨h,j⟩;clear h j l;go_enter func147,ntmps147;go_wp2;go_end0;exact⟨rfl,r.out⟩
 have r:Hid (av w b n (lY f a m p d)):=by
  show av w b n (lY f a m p d);unfold lY;rw [if_neg s,if_neg h,if_neg t];exact l
 have:(d==0)=false:=by simp [s]
 have:(d==1)=false:=by simp [h]
 have:(d==2)=false:=by simp [t]
 clear l;go_enter func147,ntmps147;go_wp2;go_end0;exact⟨rfl,r.out,eP _ _⟩
variable (g:Gr)
def dU (w:World) (b cap:Nat) (x:Gr) (e:Ending) (w':World):Prop:=e=.returned (ay x (some ⟨b,0,none⟩) cap)∧av w' b x.n x.f∧w.grownBy w' (some b)
theorem afr (h:OkG g) (b cap:Nat) (w:World) (d:g.n<=cap):
  kC 82 #[ay g (some ⟨b,0,none⟩) cap,.int .i64 g.top,.int .i64 g.bottom] w fun e j=>e=.returned (.slice (some ⟨b,(g.top*g.wide).toNat*4,none⟩) ((g.bottom*g.wide).toNat - (g.top*g.wide).toNat) (cap - (g.top*g.wide).toNat))∧j=w.alloc (aB g (some ⟨b,0,none⟩) cap):=by
 obtain⟨_,_,_,_,_,_,_⟩:=h.nums;have:=h.w1;exact JM g b cap g.top g.bottom w (by omega) (by omega) (by omega) (by omega) d
theorem ahv (h:OkG g) (b cap:Nat) (w:World) (l:av w b g.n g.f) (o:g.n<=cap) (d:g.row=g.bottom - 1):
  kC 150 #[.slice (some ⟨b,(g.top*g.wide).toNat*4,none⟩) ((g.bottom*g.wide).toNat - (g.top*g.wide).toNat) (cap - (g.top*g.wide).toNat),.int .i64 g.wide] w fun e j=>e=.returned (.tuple #[])∧av j b g.n (iB g).f∧w.grownBy j (some b):=by
 obtain⟨_,_,_,_,_,_,_⟩:=h.nums;have:=h.w1;have e:(iB g).f=kK g.f (g.top*g.wide).toNat ((g.top*g.wide).toNat+((g.bottom*g.wide).toNat - (g.top*g.wide).toNat)) g.wide.toNat:=by
  unfold iB;rw [if_pos d,show (g.top*g.wide).toNat+((g.bottom*g.wide).toNat - (g.top*g.wide).toNat)=(g.bottom*g.wide).toNat by omega]
 rw [e];exact Q8 b g.n g.f (g.top*g.wide).toNat ((g.bottom*g.wide).toNat - (g.top*g.wide).toNat) (cap - (g.top*g.wide).toNat) g.wide w l (by omega) (by omega) (by omega) (by omega)
theorem jC {w e:World} {b B n:Nat} {f:Nat->aH} (h:av e b n f∧w.grownBy e (some b)) (l:w.heap.size<=B) (o:b < w.heap.size) (u0 u1 u2 u3 u4 u5 u6 u7 u8:Value):
  av (((((((((e.setCell ⟨B,0,none⟩ u0).setCell ⟨B,1,none⟩ u1).setCell ⟨B,2,none⟩ u2).setCell ⟨B,3,none⟩ u3).setCell ⟨B,4,none⟩ u4).setCell ⟨B,5,none⟩ u5).setCell ⟨B,6,none⟩ u6).setCell ⟨B,7,none⟩ u7).setCell ⟨B,8,none⟩ u8) b n f∧
  w.grownBy (((((((((e.setCell ⟨B,0,none⟩ u0).setCell ⟨B,1,none⟩ u1).setCell ⟨B,2,none⟩ u2).setCell ⟨B,3,none⟩ u3).setCell ⟨B,4,none⟩ u4).setCell ⟨B,5,none⟩ u5).setCell ⟨B,6,none⟩ u6).setCell ⟨B,7,none⟩ u7).setCell ⟨B,8,none⟩ u8) (some b):=by
 have d:∀ (e:World) (j:Nat) (u:Value),(av e b n f∧w.grownBy e (some b))->(av (e.setCell ⟨B,j,none⟩ u) b n f∧w.grownBy (e.setCell ⟨B,j,none⟩ u) (some b)):=
  fun e j u h=>⟨h.1.set (by simp;omega) _,oq h.2 (.inl l) _⟩
 exact d _ _ _ (d _ _ _ (d _ _ _ (d _ _ _ (d _ _ _ (d _ _ _ (d _ _ _ (d _ _ _ (d _ _ _ h))))))))
theorem afe (h:OkG g) (b cap:Nat) (w:World) (C:av w b g.n g.f) (N:g.n<=cap) (o:g.row=g.bottom - 1) (x:Gr) (G:x=iB g):kC 144 #[ay g (some ⟨b,0,none⟩) cap] w (dU w b cap x):=by
 have F:=C.lt;have V:=gH C;have K:=gH h;have J:=gH N;have D:1<=g.bottom:=by have:=h.t1;have:=h.t2;omega
 have E:g.bottom<=10:=by have:=h.t3;have:=h.h2;omega
 have L:Hid (x.f=(iB g).f):=by rw [G];rfl
 have U:Hid (x={g with f:=x.f}):=by
  show x=_;rw [G];unfold iB;rw [if_pos o]
 clear N C h G;obtain⟨r,l,n,f,Y,t,A,j,u,d⟩:=g;simp only at o D E;subst o;have T:Hid (∀ (H I S:Obj) (p:World),av p b n (iB ⟨r,l,n,f,d - 1,t,A,j,u,d⟩).f->(((w.alloc H).alloc I).alloc S).drew.grownBy p (some b)->av p b n x.f∧w.grownBy p (some b)∧p.heap[w.heap.size]?=some H∧p.heap[w.heap.size+1]?=some I):=by
  intro H I S p W B;refine⟨by rw [L.out];exact W,jD (om (bB (bB (bB (eP _ _) _) _) _)) B,?_,?_⟩
  ·exact bH B (aF (aF (at_new w _) _) _) (by simp;omega)
  ·exact bH B (aF (bK w _ _) _) (by simp;omega)
 clear L;go_enter func144,ntmps144;go_wp2_with fail;go_region_held3 (fun s=>s.cell? ⟨w.heap.size,0,none⟩=some (.int .i64 r)∧s.cell? ⟨w.heap.size,1,none⟩=some (.int .i64 l)∧s.cell? ⟨w.heap.size,2,none⟩=some (.slice (some ⟨b,0,none⟩) n cap)∧s.cell? ⟨w.heap.size,3,none⟩=some (.int .i64 (d - 1))∧s.cell? ⟨w.heap.size,4,none⟩=some (.int .i64 t)∧s.cell? ⟨w.heap.size,5,none⟩=some (.int .i64 A)∧s.cell? ⟨w.heap.size,6,none⟩=some (.bool j)∧s.cell? ⟨w.heap.size,7,none⟩=some (.int .i64 u)∧s.cell? ⟨w.heap.size,8,none⟩=some (.int .i64 d)) (first | go_keep | (simp [*,World.cell?_alloc_past]))
  (first
  | (go_at_call 82;refine(afr _ K.out b cap _ J.out).mono ?_;rintro e _ ⟨rfl,rfl⟩)
  | (go_at_call 150;refine(ahv _ K.out b cap _ (av.drew (V.out.alloc _ |>.alloc _ |>.alloc _)) J.out rfl).mono ?_;rintro e p ⟨rfl,y,z⟩;obtain⟨O,P,Q,R⟩:=T.out _ _ _ p y z;clear y z;have M:Hid (av p b n x.f∧w.grownBy p (some b)):=⟨O,P⟩;clear O P;obtain⟨⟨_,_,_,_,_,_,_,_,_⟩,_⟩:=nine Q;obtain⟨⟨_,_,_,_,_,_,_,_,_⟩,v⟩:=nine R;clear Q R))
 go_wp2;refine bodyPost_ret (v:=ay ⟨r,l,n,x.f,d - 1,t,A,j,u,d⟩ (some ⟨b,0,none⟩) cap) (by simp [results,results144,go_sem, *]) rfl ?_;have X:=U.out;rw [X] at M ⊢;exact⟨rfl,jC M.out (by omega) F _ _ _ _ _ _ _ _ _⟩
theorem afd (h:OkG g) (b cap:Nat) (w:World) (A:av w b g.n g.f) (j:¬ g.row=g.bottom - 1) (x:Gr) (J:x=iB g):kC 144 #[ay g (some ⟨b,0,none⟩) cap] w (dU w b cap x):=by
 have L:=A.lt;have I:=gH A;have B:1<=g.bottom:=by have:=h.t1;have:=h.t2;omega
 have C:g.bottom<=10:=by have:=h.t3;have:=h.h2;omega
 have E:=h.r1;have F:g.row<=10:=by have:=h.r2;have:=h.h2;omega
 have D:=h.h1;have M:=h.h2;have H:Hid (x={g with row:=min (g.row+1) (g.high - 1)}):=by
  show x=_;rw [J];unfold iB;rw [if_neg j]
 clear A h J;obtain⟨o,e,n,f,p,r,y,l,s,d⟩:=g;simp only at j B C E F D M;have G:(p==d - 1)=false:=by simp [j]
 clear j;have u:∀ k:Int,k=min (p+1) (e - 1)->Hid (x=⟨o,e,n,f,k,r,y,l,s,d⟩):=by
  intro k K;have:=H.out;simp only [<-K] at this;exact this
 have t:=gH u;clear u H;go_enter func144,ntmps144;go_wp2
 ·have z:=(t.out (e - 1) (by omega)).out;refine bodyPost_ret (v:=ay ⟨o,e,n,f,e - 1,r,y,l,s,d⟩ (some ⟨b,0,none⟩) cap) (by simp [results,results144,go_sem]) rfl ?_;rw [z];exact⟨rfl,(I.out.alloc _).alloc _,bB (bB (eP _ _) _) _⟩
 ·have z:=(t.out (p+1) (by omega)).out;refine bodyPost_ret (v:=ay ⟨o,e,n,f,p+1,r,y,l,s,d⟩ (some ⟨b,0,none⟩) cap) (by simp [results,results144,go_sem]) rfl ?_;rw [z];exact⟨rfl,(I.out.alloc _).alloc _,bB (bB (eP _ _) _) _⟩
theorem Ub (h:OkG g) (b cap:Nat) (w:World) (e:av w b g.n g.f) (l:g.n<=cap) (x:Gr) (j:x=iB g):kC 144 #[ay g (some ⟨b,0,none⟩) cap] w (dU w b cap x):=by
 by_cases d:g.row=g.bottom - 1
 ·exact afe g h b cap w e l d x j
 ·exact afd g h b cap w e d x j
structure Lh (w:World) (b cap:Nat) (x:Gr) (wx:World):Prop where
 box:wx.heap[w.heap.size]?=some (aB x (some ⟨b,0,none⟩) cap)
 res:wx.heap[w.heap.size+1]?=some aV
 bM:av wx b x.n x.f
 grown:w.grownBy wx (some b)
theorem Uf (g:Gr) (h:OkG g) (b cap:Nat) (w:World) (j:g.n<=cap):
  kC 82 #[ay g (some ⟨b,0,none⟩) cap,.int .i64 g.row,.int .i64 (g.row+1)] w fun e l=>e=.returned (.slice (some ⟨b,(g.row*g.wide).toNat*4,none⟩) g.wide.toNat (cap - (g.row*g.wide).toNat))∧l=w.alloc (aB g (some ⟨b,0,none⟩) cap):=by
 obtain⟨_,_,_,_,_,_,_⟩:=h.nums;have:=h.w1;have e:(g.row+1)*g.wide=g.row*g.wide+g.wide:=by rw [Int.add_mul];omega
 have k:=JM g b cap g.row (g.row+1) w (by omega) (by omega) (by omega) (by omega) j;rw [e] at k;have d:(g.row*g.wide+g.wide).toNat - (g.row*g.wide).toNat=g.wide.toNat:=by omega
 rw [d] at k;exact k
theorem adG (g:Gr) (h:OkG g) (b cap:Nat) (w:World) (D:av w b g.n g.f) (hc:g.n<=cap) (c:Int) (x:Gr) (hx:x=Dt g c):kC 128 #[ay g (some ⟨b,0,none⟩) cap,.int .i64 c] w (dU w b cap x):=by
 obtain⟨y,K⟩:∃ y,y=lX g:=⟨_,rfl⟩;obtain⟨R,S,k3,k4,k5⟩:=Od h;rw [<-K] at R S k3 k4 k5;have HX:Hid (x=xW y c):=by show x=xW y c;rw [hx,K];rfl
 have Y:=gH D;have Z:Hid (OkG y∧y.col < y.wide∧y.n<=cap):=⟨R,S,by omega⟩;have H:=D.lt;have V:Hid (g.col≠g.wide->Lh w b cap y ((w.alloc (aB g (some ⟨b,0,none⟩) cap)).alloc aV)):=by
  intro Q;have e:y=g:=(by rw [K];unfold lX;rw [if_neg Q]);rw [e];exact⟨aF (at_new w _) _,bK w _ _,(D.alloc _).alloc _,bB (bB (eP _ _) _) _⟩
 have X:Hid (g.col=g.wide->∀ w,av w b g.n g.f->kC 144 #[ay {g with col:=0} (some ⟨b,0,none⟩) cap] w (dU w b cap y)):=by
  intro A w D;have e:y=iB {g with col:=0}:=(by rw [K];unfold lX;rw [if_pos A]);have h0:OkG {g with col:=0}:=⟨h.w1,h.w2,h.h1,h.h2,h.size,h.cells,h.r1,h.r2,by simp,by have:=h.w1;simp only;omega,h.i1,h.i2,h.t1,h.t2,h.t3⟩;exact Ub {g with col:=0} h0 b cap w D hc y e
 clear D h hx K R S k3 k4 k5;go_enter func128,ntmps128;go_upto_if 9 with fail;go_cut [] from 5 to 12 (fun wx=>Lh w b cap y wx)
 case first=>
  by_cases A:g.col=g.wide
  ·have hd:(g.col==g.wide)=true:=(by simp [A]);have M:=gH A;clear A;go_wp2_with (go_at_call 144;refine(X.out M.out _ ((Y.out.alloc _).alloc _)).mono ?_;rintro e w2 ⟨rfl,J,s⟩;have F:=bH s (aF (at_new w _) _) (by simp;omega);have L:=bH s (bK w _ _) (by simp;omega);have U:Hid (av w2 b y.n y.f∧World.grownBy _ w2 (some b)):=⟨J,s⟩;have HT:Hid _:=F;have O:Hid _:=L;obtain⟨⟨x0,x1,x2,x3,x4,x5,x6,x7,x8⟩,z⟩:=nine F;clear J s F L);go_meet;have E:=jC (w:=w) (B:=w.heap.size) ⟨U.out.1,jD (bB (bB (eP _ _) _) _) U.out.2⟩ (Nat.le_refl _) H (.int .i64 y.wide) (.int .i64 y.high) (.slice (some ⟨b,0,none⟩) y.n cap) (.int .i64 y.row) (.int .i64 y.col) (.int .i64 y.aA) (.bool y.bold) (.int .i64 y.top) (.int .i64 y.bottom);exact⟨Gs HT.out _ _ _ _ _ _ _ _ _,zC O.out (by omega) _ _ _ _ _ _ _ _ _,E.1,E.2⟩
  ·have hd:(g.col==g.wide)=false:=(by simp [A]);have M:=gH A;clear A;go_wp2;go_meet;exact V.out M.out
 case rest=>
  obtain⟨r,_,t⟩:=Z.out;have HO:=gH r;have fG:=gH t;have:=r.w1;have:=r.c1;have:=r.r1;have:y.row<=10:=(by have:=r.r2;have:=r.h2;omega);have:=r.w2;have T:=gH hcut;obtain⟨⟨x0,x1,x2,x3,x4,x5,x6,x7,x8⟩,z⟩:=nine hcut.box;obtain⟨⟨u0,u1,u2,u3,_,_,_,_,_⟩,v⟩:=nine hcut.res;have:w.heap.size < wc.heap.size:=(by have:=hcut.grown.size;have:=(gQ hcut.box).1;omega);have:b < wc.heap.size:=hcut.bM.lt;have:w.heap.size+1 < wc.heap.size:=(gQ hcut.res).1;obtain⟨P,hP⟩:∃ P,P=(y.row*y.wide).toNat:=⟨_,rfl⟩;obtain⟨I,hI⟩:∃ I,I=P+y.col.toNat:=⟨_,rfl⟩;have C:I < y.n:=(by obtain⟨_,_,q3,_,_⟩:=r.nums;omega);obtain⟨t0,F,L,t3⟩:=hcut.bM.cells I C;have l:I*4=P*4+y.col.toNat*4:=(by omega);rw [l] at t0 F L t3;have:∀ j,wc.frozen? ⟨b,j,none⟩=false:=hcut.bM.free;obtain⟨W,hW⟩:∃ W,W=y.wide.toNat:=⟨_,rfl⟩;have o:IntKind.i64.wrap (y.row+1)=y.row+1:=(by rw [IntKind.wrap_i64];omega);have N:Hid (∀ w,kC 82 #[ay y (some ⟨b,0,none⟩) cap,.int .i64 y.row,.int .i64 (IntKind.i64.wrap (y.row+1))] w fun e d=>e=.returned (.slice (some ⟨b,P*4,none⟩) W (cap - P))∧d=w.alloc (aB y (some ⟨b,0,none⟩) cap)):=by
   intro w;rw [hP,o,hW];exact Uf y HO.out b cap w fG.out
  have:y.col < (W:Int):=(by omega);have HI:Hid (I=(y.row*y.wide+y.col).toNat∧I < y.n∧I*4=P*4+y.col.toNat*4):=⟨by obtain⟨_,_,q3,_⟩:=r.nums;omega,C,l⟩;clear hcut r t X V Y Z hc hP hI C l o hW;obtain⟨_,G⟩:∃ k,k=y.f I:=⟨_,rfl⟩;rw [<-G] at t0 F L t3;clear G;have:∀ (d:World) (j:Nat) (u:Value) (k:Nat),(d.setCell ⟨b,j,none⟩ u).cell? ⟨w.heap.size,k,none⟩=d.cell? ⟨w.heap.size,k,none⟩:=fun d j u k=>World.cell?_setCell_other _ _ _ _ (by intro e;simp only [Addr.mk.injEq] at e;omega);have:∀ (d:World) (j:Nat) (u:Value) (k:Nat),(d.setCell ⟨b,j,none⟩ u).cell? ⟨w.heap.size+1,k,none⟩=d.cell? ⟨w.heap.size+1,k,none⟩:=fun d j u k=>World.cell?_setCell_other _ _ _ _ (by intro e;simp only [Addr.mk.injEq] at e;omega);go_wp2_with fail;go_region_held3 (fun d=>(d.cell? ⟨w.heap.size,0,none⟩=some (.int .i64 y.wide)∧d.cell? ⟨w.heap.size,1,none⟩=some (.int .i64 y.high)∧d.cell? ⟨w.heap.size,2,none⟩=some (.slice (some ⟨b,0,none⟩) y.n cap)∧d.cell? ⟨w.heap.size,3,none⟩=some (.int .i64 y.row)∧d.cell? ⟨w.heap.size,4,none⟩=some (.int .i64 y.col)∧d.cell? ⟨w.heap.size,5,none⟩=some (.int .i64 y.aA)∧d.cell? ⟨w.heap.size,6,none⟩=some (.bool y.bold)∧d.cell? ⟨w.heap.size,7,none⟩=some (.int .i64 y.top)∧d.cell? ⟨w.heap.size,8,none⟩=some (.int .i64 y.bottom))) (first | go_keep | (simp [*,World.cell?_alloc_past]))
   ((go_at_call 82;go_fit (N.out _);rintro e w1 ⟨rfl,rfl⟩))
  go_wp2;refine bodyPost_ret (v:=ay (xW y c) (some ⟨b,0,none⟩) cap) (by simp [results,results128,go_sem,xW, *]) rfl ?_;rw [HX.out];obtain⟨e1,e2,_⟩:=HI.out;have hp:=T.out.bM.put I (P*4+y.col.toNat*4) (P*4+y.col.toNat*4+1) (P*4+y.col.toNat*4+2) (P*4+y.col.toNat*4+3) ⟨c,y.aA,0,y.bold⟩ e2 (by omega) (by omega) (by omega) (by omega);have hg:=MH (o0:=P*4+y.col.toNat*4) (o1:=P*4+y.col.toNat*4+1) (o2:=P*4+y.col.toNat*4+2) (o3:=P*4+y.col.toNat*4+3) (u0:=.int .i64 c) (u1:=.int .i64 y.aA) (u2:=.int .i64 0) (u3:=.bool y.bold) T.out.grown;have E:=jC (w:=w) (B:=w.heap.size+1) ⟨hp.set (p:=⟨w.heap.size,4,none⟩) (by simp;omega) (.int .i64 (y.col+1)),oq hg (p:=⟨w.heap.size,4,none⟩) (.inl (Nat.le_refl _)) (.int .i64 (y.col+1))⟩ (by omega) H (.int .i64 y.wide) (.int .i64 y.high) (.slice (some ⟨b,0,none⟩) y.n cap) (.int .i64 y.row) (.int .i64 (y.col+1)) (.int .i64 y.aA) (.bool y.bold) (.int .i64 y.top) (.int .i64 y.bottom);rw [e1] at E;exact⟨rfl,(E.1.alloc _).drew,om (bB E.2 _)⟩
variable (g:Gr) (ao:Option Addr) (cap:Nat) (w:World)
theorem Fz (h:-100<=g.wide∧g.wide<=100):kC 145 #[ay g ao cap] w fun e d=>e=.returned (.int .i64 (aZ g))∧d=w.alloc (aB g ao cap):=by
 go_enter func145,ntmps145;go_wp2
 all_goals (go_ret;exact⟨uR (by unfold aZ;omega),rfl⟩)
theorem vT (r c:Int) (w:World):kC 153 #[ay g ao cap,.int .i64 r,.int .i64 c] w fun e d=>e=.returned (.bool (decide (0<=r∧r < g.high∧0<=c∧c < g.wide)))∧d=w.alloc (aB g ao cap):=by
 go_enter func153,ntmps153;go_wp2
 all_goals (go_ret;refine⟨bD ?_,rfl⟩;rw [Bool.eq_iff_iff];simp only [decide_eq_true_eq,Bool.and_eq_true,Bool.false_eq_true,false_iff];omega)
end Go.Proofs.YtkcdcamophkdlaaGreatDoor
