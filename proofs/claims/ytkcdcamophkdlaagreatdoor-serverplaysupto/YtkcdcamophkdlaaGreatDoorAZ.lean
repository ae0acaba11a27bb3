import Derived.Test.YtkcdcamophkdlaaGreatDoorAL
import Derived.Test.YtkcdcamophkdlaaGreatDoorAY
set_option maxHeartbeats 2000000
set_option maxRecDepth 2000
open Go.Proofs.Tryz
namespace Go.Proofs.YtkcdcamophkdlaaGreatDoor
open Go.RowKit
theorem YH (g:Gr) (h:OkG g) (b cap:Nat) (w:World) (m:av w b g.n g.f) (D:g.n<=cap) (lo:Option Addr) (I lc:Nat) (p q:Int) (C:Hid (qU w lo I lc p q)) (j:Nat->aH) (l:j=lY g.f 0 g.n (g.row*g.wide+aZ g).toNat p):
  kC 130 #[ay g (some ⟨b,0,none⟩) cap,.int .i64 74,.slice lo I lc] w (dU w b cap ⟨g.wide,g.high,g.n,j,g.row,g.col,g.aA,g.bold,g.top,g.bottom⟩):=by
 have z:=m.lt;have N:=gH m;have:=h.c1;have:=h.c2;have:=h.w1;have:=h.w2;obtain⟨T,U,V,W,_⟩:=h.nums;have u:0<=aZ g:=by unfold aZ;omega
 have y:aZ g < g.wide:=by unfold aZ;omega
 obtain⟨k,t⟩:∃ k,k=aZ g:=⟨_,rfl⟩;have M:Hid (∀ w,kC 145 #[ay g (some ⟨b,0,none⟩) cap] w fun e a=>e=.returned (.int .i64 k)∧a=w.alloc (aB g (some ⟨b,0,none⟩) cap)):=by
  intro w;rw [t];exact Fz g _ cap w ⟨by omega,by omega⟩
 rw [<-t] at u y l;clear t;have X:Hid (∀ w v,v=g.row*g.wide+k->av w b g.n g.f->kC 147 #[.slice (some ⟨b,0,none⟩) g.n cap,.int .i64 v,.int .i64 p] w fun e a=>e=.returned (.tuple #[])∧av a b g.n j∧w.grownBy a (some b)):=by
  intro w v S m;obtain⟨i,R⟩:∃ i:Nat,v=i:=⟨v.toNat,by omega⟩;rw [l, <-S,R];exact QJ b g.n g.f 0 g.n cap i p w m (by omega) (by omega) D (by omega)
 have Y:Hid (IntKind.i64.wrap (IntKind.i64.wrap (g.row*g.wide)+k)=g.row*g.wide+k):=by
  have P:IntKind.i64.wrap (g.row*g.wide)=g.row*g.wide:=(by rw [IntKind.wrap_i64];omega);show _=_;rw [P,IntKind.wrap_i64];omega
 have L:Hid (∀ (A B J:Obj) (d:World),av d b g.n j->(((w.alloc A).alloc B).alloc J).drew.grownBy d (some b)->av d b g.n j∧w.grownBy d (some b)∧d.heap[w.heap.size]?=some A∧d.heap[w.heap.size+1]?=some B):=by
  intro A B J d Q s;refine⟨Q,jD (om (bB (bB (bB (eP _ _) _) _) _)) s,?_,?_⟩
  ·exact bH s (aF (aF (at_new w _) _) _) (by simp;omega)
  ·exact bH s (aF (bK w _ _) _) (by simp;omega)
 clear m l T U V W h D;by_cases Z:p < 1
 all_goals (
  go_enter func130,ntmps130
  go_wp2_with (first
   | (go_at_call_of 146 (Value.int IntKind.i64 0);refine(C.out _ (aO _ _ _)).1.mono ?_;rintro e K ⟨rfl,rfl⟩)
   | (go_at_call_of 146 (Value.int IntKind.i64 1);refine(C.out _ (aO _ _ _)).2.mono ?_;rintro e K ⟨rfl,rfl⟩)
   | fail)
  go_region_held3 (fun a=>a.cell? ⟨w.heap.size,0,none⟩=some (.int .i64 g.wide)∧a.cell? ⟨w.heap.size,1,none⟩=some (.int .i64 g.high)∧a.cell? ⟨w.heap.size,2,none⟩=some (.slice (some ⟨b,0,none⟩) g.n cap)∧a.cell? ⟨w.heap.size,3,none⟩=some (.int .i64 g.row)∧a.cell? ⟨w.heap.size,4,none⟩=some (.int .i64 g.col)∧a.cell? ⟨w.heap.size,5,none⟩=some (.int .i64 g.aA)∧a.cell? ⟨w.heap.size,6,none⟩=some (.bool g.bold)∧a.cell? ⟨w.heap.size,7,none⟩=some (.int .i64 g.top)∧a.cell? ⟨w.heap.size,8,none⟩=some (.int .i64 g.bottom)) (first | go_keep | (simp [*,World.cell?_alloc_past]))
   (first
   | (go_at_call 145;refine(M.out _).mono ?_;rintro e K ⟨rfl,rfl⟩)
   | (go_at_call 147;refine(X.out _ _ (by first | exact Y.out | rfl) (av.drew (N.out.alloc _ |>.alloc _ |>.alloc _))).mono ?_;rintro e d ⟨rfl,o,r⟩;obtain⟨E,F,G,H⟩:=L.out _ _ _ d o r;clear o r;have O:Hid (av d b g.n j∧w.grownBy d (some b)):=⟨E,F⟩;clear E F;obtain⟨⟨_,_,_,_,_,_,_,_,_⟩,_⟩:=nine G;obtain⟨⟨_,_,_,_,_,_,_,_,_⟩,v⟩:=nine H;clear G H))
  go_wp2
  refine bodyPost_ret (v:=ay ⟨g.wide,g.high,g.n,j,g.row,g.col,g.aA,g.bold,g.top,g.bottom⟩ (some ⟨b,0,none⟩) cap) (by simp [results,results130,go_sem, *]) rfl ?_
  exact⟨rfl,jC (w:=w) O.out (by omega) z _ _ _ _ _ _ _ _ _⟩)
theorem YI (g:Gr) (h:OkG g) (b cap:Nat) (w:World) (r:av w b g.n g.f) (J:g.n<=cap) (lo:Option Addr) (O lc:Nat) (p q:Int) (I:Hid (qU w lo O lc p q)) (l:Nat->aH) (o:l=lY g.f (g.row*g.wide).toNat g.wide.toNat (aZ g).toNat p):
  kC 130 #[ay g (some ⟨b,0,none⟩) cap,.int .i64 75,.slice lo O lc] w (dU w b cap ⟨g.wide,g.high,g.n,l,g.row,g.col,g.aA,g.bold,g.top,g.bottom⟩):=by
 have E:=r.lt;have U:=gH r;have:=h.c1;have:=h.c2;have:=h.w1;have:=h.w2;obtain⟨Z,q2,q3,q4,_⟩:=h.nums;have C:0<=aZ g:=by unfold aZ;omega
 have D:aZ g < g.wide:=by unfold aZ;omega
 obtain⟨k,B⟩:∃ k,k=aZ g:=⟨_,rfl⟩;have T:Hid (∀ w,kC 145 #[ay g (some ⟨b,0,none⟩) cap] w fun e a=>e=.returned (.int .i64 k)∧a=w.alloc (aB g (some ⟨b,0,none⟩) cap)):=by
  intro w;rw [B];exact Fz g _ cap w ⟨by omega,by omega⟩
 rw [<-B] at C D o;clear B;obtain⟨P,A⟩:∃ P,P=(g.row*g.wide).toNat:=⟨_,rfl⟩;obtain⟨y,m⟩:∃ W,W=g.wide.toNat:=⟨_,rfl⟩;have d:IntKind.i64.wrap (g.row+1)=g.row+1:=by rw [IntKind.wrap_i64];have:=h.r1;have:=h.r2;have:=h.h2;omega
 have u:Hid (∀ w,kC 82 #[ay g (some ⟨b,0,none⟩) cap,.int .i64 g.row,.int .i64 (IntKind.i64.wrap (g.row+1))] w fun e a=>e=.returned (.slice (some ⟨b,P*4,none⟩) y (cap - P))∧a=w.alloc (aB g (some ⟨b,0,none⟩) cap)):=by
  intro w;rw [A,d,m];exact Uf g h b cap w J
 have qp:Hid (∀ w,av w b g.n g.f->kC 147 #[.slice (some ⟨b,P*4,none⟩) y (cap - P),.int .i64 k,.int .i64 p] w fun e a=>e=.returned (.tuple #[])∧av a b g.n l∧w.grownBy a (some b)):=by
  intro w r;obtain⟨i,Y⟩:∃ i:Nat,k=i:=⟨k.toNat,by omega⟩;rw [o, <-A, <-m,Y];exact QJ b g.n g.f P y (cap - P) i p w r (by omega) (by omega) (by omega) (by omega)
 have S:Hid (∀ (F G Q R:Obj) (j:World),av j b g.n l->((((w.alloc F).alloc G).alloc Q).alloc R).drew.grownBy j (some b)->av j b g.n l∧w.grownBy j (some b)∧j.heap[w.heap.size]?=some F∧j.heap[w.heap.size+1]?=some G):=by
  intro F G Q R j X z;refine⟨X,jD (om (bB (bB (bB (bB (eP _ _) _) _) _) _)) z,?_,?_⟩
  ·exact bH z (aF (aF (aF (at_new w _) _) _) _) (by simp;omega)
  ·exact bH z (aF (aF (bK w _ _) _) _) (by simp;omega)
 clear r o Z q2 q3 q4 h J A m d;by_cases hp:p < 1
 all_goals (
  go_enter func130,ntmps130
  go_wp2_with (first
   | (go_at_call_of 146 (Value.int IntKind.i64 0);refine(I.out _ (aO _ _ _)).1.mono ?_;rintro e H ⟨rfl,rfl⟩)
   | (go_at_call_of 146 (Value.int IntKind.i64 1);refine(I.out _ (aO _ _ _)).2.mono ?_;rintro e H ⟨rfl,rfl⟩)
   | fail)
  go_region_held3 (fun a=>a.cell? ⟨w.heap.size,0,none⟩=some (.int .i64 g.wide)∧a.cell? ⟨w.heap.size,1,none⟩=some (.int .i64 g.high)∧a.cell? ⟨w.heap.size,2,none⟩=some (.slice (some ⟨b,0,none⟩) g.n cap)∧a.cell? ⟨w.heap.size,3,none⟩=some (.int .i64 g.row)∧a.cell? ⟨w.heap.size,4,none⟩=some (.int .i64 g.col)∧a.cell? ⟨w.heap.size,5,none⟩=some (.int .i64 g.aA)∧a.cell? ⟨w.heap.size,6,none⟩=some (.bool g.bold)∧a.cell? ⟨w.heap.size,7,none⟩=some (.int .i64 g.top)∧a.cell? ⟨w.heap.size,8,none⟩=some (.int .i64 g.bottom)) (first | go_keep | (simp [*,World.cell?_alloc_past]))
   (first
   | (go_at_call 145;refine(T.out _).mono ?_;rintro e H ⟨rfl,rfl⟩)
   | (go_at_call 82;refine(u.out _).mono ?_;rintro e H ⟨rfl,rfl⟩)
   | (go_at_call 147;refine(qp.out _ (av.drew (U.out.alloc _ |>.alloc _ |>.alloc _ |>.alloc _))).mono ?_;rintro e j ⟨rfl,s,t⟩;obtain⟨K,L,M,N⟩:=S.out _ _ _ _ j s t;clear s t;have V:Hid (av j b g.n l∧w.grownBy j (some b)):=⟨K,L⟩;clear K L;obtain⟨⟨_,_,_,_,_,_,_,_,_⟩,_⟩:=nine M;obtain⟨⟨_,_,_,_,_,_,_,_,_⟩,v⟩:=nine N;clear M N))
  go_wp2
  refine bodyPost_ret (v:=ay ⟨g.wide,g.high,g.n,l,g.row,g.col,g.aA,g.bold,g.top,g.bottom⟩ (some ⟨b,0,none⟩) cap) (by simp [results,results130,go_sem, *]) rfl ?_
  exact⟨rfl,jC (w:=w) V.out (by omega) E _ _ _ _ _ _ _ _ _⟩)
variable (g:Gr) {w:World} {b:Nat} {x:Gr}
theorem y9 {o1 o2:Obj} {a:World} (e:b < w.heap.size) (h:av a b x.n x.f) (d:((w.alloc o1).alloc o2).grownBy a (some b)):a.heap[w.heap.size+1]?=some o2∧Hid (av a b x.n x.f∧w.grownBy a (some b)):=
 ⟨bH d (bK w _ _) (by simp;omega),h,jD (bB (bB (eP _ _) _) _) d⟩
theorem YJ (h:OkG g) (b cap:Nat) (w:World) (k:av w b g.n g.f) (lo:Option Addr) (C lc:Nat) (p q:Int) (o:Hid (qU w lo C lc p q)) (D:0<=p) (y:g.n<=cap) (O:p<=999) (m:Int) (A:m=max p 1) (x:Gr) (B:x=mY g m mO):
  kC 130 #[ay g (some ⟨b,0,none⟩) cap,.int .i64 76,.slice lo C lc] w (dU w b cap x):=by
 have i:=k.lt;have u:=gH k;have t:Hid (∀ j,Below w.heap.size w j->av j b g.n g.f->kC 148 #[ay g (some ⟨b,0,none⟩) cap,.int .i64 m,.func (.func 149) #[] #[]] j (dU j b cap x)):=by
  intro j _ k;rw [B];unfold mY;split
  ·next ho=>exact TP g h b cap j k m _ ho
  ·next ho=>exact adJ g h b cap j k y m (by omega) (by omega) (by omega) (by omega) _ rfl
 clear k h y B;by_cases P:p < 1
 ·obtain rfl:p=0:=(by omega);obtain rfl:m=1:=(by omega);clear A;go_enter func130,ntmps130
  go_wp2_with (first
   | (go_at_call_of 146 (Value.int IntKind.i64 0);refine(o.out _ (aO _ _ _)).1.mono ?_;rintro e s ⟨rfl,rfl⟩)
   | (go_at_call_of 146 (Value.int IntKind.i64 1);refine(o.out _ (aO _ _ _)).2.mono ?_;rintro e s ⟨rfl,rfl⟩)
   | (go_at_call 148;refine(t.out _ (aO _ _ _) ((u.out.alloc _).alloc _)).mono ?_;rintro e E ⟨rfl,d,a⟩;obtain⟨l,r⟩:=y9 i d a;obtain⟨⟨F,G,H,I,J,K,L,M,N⟩,z⟩:=nine l;clear d a l))
  refine bodyPost_ret (v:=ay x (some ⟨b,0,none⟩) cap) (by simp [results,results130,go_sem, *]) rfl ?_;exact⟨rfl,jC r.out (by omega) i _ _ _ _ _ _ _ _ _⟩
 ·obtain rfl:m=p:=(by omega);clear A;go_enter func130,ntmps130
  go_wp2_with (first
   | (go_at_call_of 146 (Value.int IntKind.i64 0);refine(o.out _ (aO _ _ _)).1.mono ?_;rintro e s ⟨rfl,rfl⟩)
   | (go_at_call_of 146 (Value.int IntKind.i64 1);refine(o.out _ (aO _ _ _)).2.mono ?_;rintro e s ⟨rfl,rfl⟩)
   | (go_at_call 148;refine(t.out _ (aO _ _ _) ((u.out.alloc _).alloc _)).mono ?_;rintro e E ⟨rfl,d,a⟩;obtain⟨l,r⟩:=y9 i d a;obtain⟨⟨F,G,H,I,J,K,L,M,N⟩,z⟩:=nine l;clear d a l))
  refine bodyPost_ret (v:=ay x (some ⟨b,0,none⟩) cap) (by simp [results,results130,go_sem, *]) rfl ?_;exact⟨rfl,jC r.out (by omega) i _ _ _ _ _ _ _ _ _⟩
theorem YK (h:OkG g) (b cap:Nat) (w:World) (k:av w b g.n g.f) (lo:Option Addr) (C lc:Nat) (p q:Int) (o:Hid (qU w lo C lc p q)) (D:0<=p) (y:g.n<=cap) (O:p<=999) (m:Int) (A:m=max p 1) (x:Gr) (B:x=mY g m kK):
  kC 130 #[ay g (some ⟨b,0,none⟩) cap,.int .i64 77,.slice lo C lc] w (dU w b cap x):=by
 have i:=k.lt;have u:=gH k;have t:Hid (∀ j,Below w.heap.size w j->av j b g.n g.f->kC 148 #[ay g (some ⟨b,0,none⟩) cap,.int .i64 m,.func (.func 150) #[] #[]] j (dU j b cap x)):=by
  intro j _ k;rw [B];unfold mY;split
  ·next ho=>exact TP g h b cap j k m _ ho
  ·next ho=>exact adK g h b cap j k y m (by omega) (by omega) (by omega) (by omega) _ rfl
 clear k h y B;by_cases P:p < 1
 ·obtain rfl:p=0:=(by omega);obtain rfl:m=1:=(by omega);clear A;go_enter func130,ntmps130
  go_wp2_with (first
   | (go_at_call_of 146 (Value.int IntKind.i64 0);refine(o.out _ (aO _ _ _)).1.mono ?_;rintro e s ⟨rfl,rfl⟩)
   | (go_at_call_of 146 (Value.int IntKind.i64 1);refine(o.out _ (aO _ _ _)).2.mono ?_;rintro e s ⟨rfl,rfl⟩)
   | (go_at_call 148;refine(t.out _ (aO _ _ _) ((u.out.alloc _).alloc _)).mono ?_;rintro e E ⟨rfl,d,a⟩;obtain⟨l,r⟩:=y9 i d a;obtain⟨⟨F,G,H,I,J,K,L,M,N⟩,z⟩:=nine l;clear d a l))
  refine bodyPost_ret (v:=ay x (some ⟨b,0,none⟩) cap) (by simp [results,results130,go_sem, *]) rfl ?_;exact⟨rfl,jC r.out (by omega) i _ _ _ _ _ _ _ _ _⟩
 ·obtain rfl:m=p:=(by omega);clear A;go_enter func130,ntmps130
  go_wp2_with (first
   | (go_at_call_of 146 (Value.int IntKind.i64 0);refine(o.out _ (aO _ _ _)).1.mono ?_;rintro e s ⟨rfl,rfl⟩)
   | (go_at_call_of 146 (Value.int IntKind.i64 1);refine(o.out _ (aO _ _ _)).2.mono ?_;rintro e s ⟨rfl,rfl⟩)
   | (go_at_call 148;refine(t.out _ (aO _ _ _) ((u.out.alloc _).alloc _)).mono ?_;rintro e E ⟨rfl,d,a⟩;obtain⟨l,r⟩:=y9 i d a;obtain⟨⟨F,G,H,I,J,K,L,M,N⟩,z⟩:=nine l;clear d a l))
  refine bodyPost_ret (v:=ay x (some ⟨b,0,none⟩) cap) (by simp [results,results130,go_sem, *]) rfl ?_;exact⟨rfl,jC r.out (by omega) i _ _ _ _ _ _ _ _ _⟩
theorem TL {g:Gr} {cap:Nat} {e:Ending} {w':World} (a:av w b g.n g.f) (i:x.n=g.n) (d:x.f=g.f) (h:Ko w x (some ⟨b,0,none⟩) cap e w'):dU w b cap x e w':=
 ⟨h.1,by rw [i,d];exact a.below h.2 a.lt,Below.nO h.2 _⟩
theorem YN (h:OkG g) (b cap:Nat) (w:World) (o:av w b g.n g.f) (lo:Option Addr) (y lc:Nat) (p q:Int) (t:Hid (qU w lo y lc p q)) (K:0<=p) (m:Int) (F:m=max p 1) (l:List Int) (E:l.length<=140737488355328) (r:y=l.length) (G:bV w lo l) (x:Gr) (u:x=fH g l):
  kC 130 #[ay g (some ⟨b,0,none⟩) cap,.int .i64 109,.slice lo y lc] w (dU w b cap x):=by
 have i:=o.lt;have D:=gH o;have C:Hid (∀ j,Below w.heap.size w j->av j b g.n g.f->kC 151 #[ay g (some ⟨b,0,none⟩) cap,.slice lo y lc] j (dU j b cap x)):=by
  intro j J o;rw [r];obtain⟨_,_,_,H,I⟩:=Oh h l;exact(abh g (some ⟨b,0,none⟩) cap l lo lc j (G.below J) E x u).mono fun e L k=>TL o (by rw [u];exact H) (by rw [u];exact I) k
 clear o h u G E r;by_cases W:p < 1
 ·obtain rfl:p=0:=(by omega);obtain rfl:m=1:=(by omega);clear F;go_enter func130,ntmps130
  go_wp2_with (first
   | (go_at_call_of 146 (Value.int IntKind.i64 0);refine(t.out _ (aO _ _ _)).1.mono ?_;rintro e B ⟨rfl,rfl⟩)
   | (go_at_call_of 146 (Value.int IntKind.i64 1);refine(t.out _ (aO _ _ _)).2.mono ?_;rintro e B ⟨rfl,rfl⟩)
   | (go_at_call 151;refine(C.out _ (aO _ _ _) ((D.out.alloc _).alloc _)).mono ?_;rintro e M ⟨rfl,d,a⟩;obtain⟨s,A⟩:=y9 i d a;obtain⟨⟨N,O,P,Q,R,S,T,U,V⟩,z⟩:=nine s;clear d a s))
  refine bodyPost_ret (v:=ay x (some ⟨b,0,none⟩) cap) (by simp [results,results130,go_sem, *]) rfl ?_;exact⟨rfl,jC A.out (by omega) i _ _ _ _ _ _ _ _ _⟩
 ·obtain rfl:m=p:=(by omega);clear F;go_enter func130,ntmps130
  go_wp2_with (first
   | (go_at_call_of 146 (Value.int IntKind.i64 0);refine(t.out _ (aO _ _ _)).1.mono ?_;rintro e B ⟨rfl,rfl⟩)
   | (go_at_call_of 146 (Value.int IntKind.i64 1);refine(t.out _ (aO _ _ _)).2.mono ?_;rintro e B ⟨rfl,rfl⟩)
   | (go_at_call 151;refine(C.out _ (aO _ _ _) ((D.out.alloc _).alloc _)).mono ?_;rintro e M ⟨rfl,d,a⟩;obtain⟨s,A⟩:=y9 i d a;obtain⟨⟨N,O,P,Q,R,S,T,U,V⟩,z⟩:=nine s;clear d a s))
  refine bodyPost_ret (v:=ay x (some ⟨b,0,none⟩) cap) (by simp [results,results130,go_sem, *]) rfl ?_;exact⟨rfl,jC A.out (by omega) i _ _ _ _ _ _ _ _ _⟩
theorem YO (b cap:Nat) (w:World) (j:av w b g.n g.f) (lo:Option Addr) (D lc:Nat) (p q:Int) (o:Hid (qU w lo D lc p q)) (F:0<=p) (R:p<=999) (s:0<=q) (E:q<=999) (m:Int) (C:m=max p 1) (x:Gr) (t:x=nM g m q):
  kC 130 #[ay g (some ⟨b,0,none⟩) cap,.int .i64 114,.slice lo D lc] w (dU w b cap x):=by
 have h:=j.lt;have A:=gH j;have y:Hid (∀ i,Below w.heap.size w i->av i b g.n g.f->kC 152 #[ay g (some ⟨b,0,none⟩) cap,.int .i64 m,.int .i64 q] i (dU i b cap x)):=by
  intro i _ j;have B:x.n=g.n∧x.f=g.f:=(by rw [t];unfold nM;split <;>exact⟨rfl,rfl⟩);exact(afU g (some ⟨b,0,none⟩) cap m q i (by omega) (by omega) s E x t).mono fun e G k=>TL j B.1 B.2 k
 clear j t;by_cases S:p < 1
 ·obtain rfl:p=0:=(by omega);obtain rfl:m=1:=(by omega);clear C;go_enter func130,ntmps130
  go_wp2_with (first
   | (go_at_call_of 146 (Value.int IntKind.i64 0);refine(o.out _ (aO _ _ _)).1.mono ?_;rintro e u ⟨rfl,rfl⟩)
   | (go_at_call_of 146 (Value.int IntKind.i64 1);refine(o.out _ (aO _ _ _)).2.mono ?_;rintro e u ⟨rfl,rfl⟩)
   | (go_at_call 152;refine(y.out _ (aO _ _ _) ((A.out.alloc _).alloc _)).mono ?_;rintro e H ⟨rfl,d,a⟩;obtain⟨l,r⟩:=y9 h d a;obtain⟨⟨I,J,K,L,M,N,O,P,Q⟩,z⟩:=nine l;clear d a l))
  refine bodyPost_ret (v:=ay x (some ⟨b,0,none⟩) cap) (by simp [results,results130,go_sem, *]) rfl ?_;exact⟨rfl,jC r.out (by omega) h _ _ _ _ _ _ _ _ _⟩
 ·obtain rfl:m=p:=(by omega);clear C;go_enter func130,ntmps130
  go_wp2_with (first
   | (go_at_call_of 146 (Value.int IntKind.i64 0);refine(o.out _ (aO _ _ _)).1.mono ?_;rintro e u ⟨rfl,rfl⟩)
   | (go_at_call_of 146 (Value.int IntKind.i64 1);refine(o.out _ (aO _ _ _)).2.mono ?_;rintro e u ⟨rfl,rfl⟩)
   | (go_at_call 152;refine(y.out _ (aO _ _ _) ((A.out.alloc _).alloc _)).mono ?_;rintro e H ⟨rfl,d,a⟩;obtain⟨l,r⟩:=y9 h d a;obtain⟨⟨I,J,K,L,M,N,O,P,Q⟩,z⟩:=nine l;clear d a l))
  refine bodyPost_ret (v:=ay x (some ⟨b,0,none⟩) cap) (by simp [results,results130,go_sem, *]) rfl ?_;exact⟨rfl,jC r.out (by omega) h _ _ _ _ _ _ _ _ _⟩
variable (c:Int) (ps:List Int) (pl:ByteArray) (eo:Option Addr) (ec:Nat)
theorem Yi (g:Gr) (h:OkG g) (b cap:Nat) (w:World) (d:av w b g.n g.f) (o:g.n<=cap) (l:List Int) (lo:Option Addr) (lc:Nat) (A:bV w lo l) (F:l.length<=140737488355328) (c:Int) (x:Gr) (e:x=jH g c l):
  kC 130 #[ay g (some ⟨b,0,none⟩) cap,.int .i64 c,.slice lo l.length lc] w (dU w b cap x):=by
 have a:Hid (qU w lo l.length lc (fE l 0) (fE l 1)):=fun E B=>⟨SF l lo lc 0 E (A.below B) (by omega),SF l lo lc 1 E (A.below B) (by omega)⟩;obtain⟨i,j⟩:=Jt l 0;obtain⟨C,D⟩:=Jt l 1;by_cases p:c=65
 ·subst p;exact YC g h b cap w d lo _ lc _ _ a i j _ rfl x e
 by_cases q:c=66
 ·subst q;exact YD g h b cap w d lo _ lc _ _ a i j _ rfl x e
 by_cases r:c=67
 ·subst r;exact YE g h b cap w d lo _ lc _ _ a i j _ rfl x e
 by_cases s:c=68
 ·subst s;exact YF g h b cap w d lo _ lc _ _ a i j _ rfl x e
 by_cases t:c=72
 ·subst t;exact YG g h b cap w d lo _ lc _ _ a i j C D _ rfl x e
 by_cases u:c=74
 ·subst u;rw [e,Mc];exact YH g h b cap w d o lo _ lc _ _ a _ rfl
 by_cases v:c=75
 ·subst v;rw [e,E8];exact YI g h b cap w d o lo _ lc _ _ a _ rfl
 by_cases y:c=76
 ·subst y;exact YJ g h b cap w d lo _ lc _ _ a i o j _ rfl x e
 by_cases z:c=77
 ·subst z;exact YK g h b cap w d lo _ lc _ _ a i o j _ rfl x e
 by_cases k:c=109
 ·subst k;exact YN g h b cap w d lo _ lc _ _ a i _ rfl l F rfl A x e
 by_cases m:c=114
 ·subst m;exact YO g b cap w d lo _ lc _ _ a i j C D _ rfl x e
 rw [e,Md g c l p q r s t u v y z k m];exact YM g b cap w d lo _ lc _ _ a c p q r s t u v y z k m
theorem ji (w:World) (o1 o2 o3:Obj):Below w.heap.size w (((w.alloc o1).alloc o2).alloc o3):=((aM _ _).alloc (by simp) _).alloc (by simp;omega) _
theorem Zd (z:ps.length<=140737488355328):uT ⟨3,c,ps,pl⟩ eo ec:=by
 intro g h b cap w i a o x l;have k:=i.lt;have u:=gH i;have t:Hid (∀ e,Below w.heap.size w e->av e b g.n g.f->kC 130 #[ay g (some ⟨b,0,none⟩) cap,.int .i64 c,.slice eo ps.length ec] e (dU e b cap x)):=fun e y i=>Yi g h b cap e i a ps eo ec (o.below y) z c x l;have s:Hid (x.n<=cap):=by
  have:x.n=g.n:=(by rw [l];exact(SI h c ps).2.2.2);show x.n<=cap;omega
 clear i h a l o;go_enter func105,ntmps105;go_wp2_with (go_at_call 130;refine(t.out _ (ji _ _ _ _) (((u.out.alloc _).alloc _).alloc _)).mono ?_;rintro _ q ⟨rfl,j,d⟩;have p:=bH d (kM w _ _ _) (by simp;omega);have r:Hid (av q b x.n x.f∧w.grownBy q (some b)):=⟨j,jD (bB (bB (bB (eP _ _) _) _) _) d⟩;obtain⟨⟨_,_,_,_,_,_,_,_,_⟩,_⟩:=nine p;clear j d p);refine bodyPost_ret (v:=ay x (some ⟨b,0,none⟩) cap) (by simp [results,results105,go_sem, *]) rfl ?_;have m:=jC r.out (B:=w.heap.size+1+1) (by omega) k (.int .i64 x.wide) (.int .i64 x.high) (.slice (some ⟨b,0,none⟩) x.n cap) (.int .i64 x.row) (.int .i64 x.col) (.int .i64 x.aA) (.bool x.bold) (.int .i64 x.top) (.int .i64 x.bottom);exact⟨b,cap,rfl,m.1,s.out,m.2,.inl rfl⟩
theorem Zg (u:pl.size<=140737488355328):uT ⟨4,c,ps,pl⟩ eo ec:=by
 intro g h b cap w i a y x l;have k:=i.lt;have t:=gH i;have s:Hid (∀ e,Below w.heap.size w e->av e b g.n g.f->kC 131 #[ay g (some ⟨b,0,none⟩) cap,.string pl] e (dU e b cap x)):=fun e _ i=>by rw [l];exact adC g h b cap e i a pl u _ rfl
 have r:Hid (x.n<=cap):=by
  have:x.n=g.n:=(by rw [l];rfl);show x.n<=cap;omega
 clear i h a l y;go_enter func105,ntmps105;go_wp2_with (go_at_call 131;refine(s.out _ (ji _ _ _ _) (((t.out.alloc _).alloc _).alloc _)).mono ?_;rintro _ p ⟨rfl,j,d⟩;have o:=bH d (kM w _ _ _) (by simp;omega);have q:Hid (av p b x.n x.f∧w.grownBy p (some b)):=⟨j,jD (bB (bB (bB (eP _ _) _) _) _) d⟩;obtain⟨⟨_,_,_,_,_,_,_,_,_⟩,_⟩:=nine o;clear j d o);refine bodyPost_ret (v:=ay x (some ⟨b,0,none⟩) cap) (by simp [results,results105,go_sem, *]) rfl ?_;have m:=jC q.out (B:=w.heap.size+1+1) (by omega) k (.int .i64 x.wide) (.int .i64 x.high) (.slice (some ⟨b,0,none⟩) x.n cap) (.int .i64 x.row) (.int .i64 x.col) (.int .i64 x.aA) (.bool x.bold) (.int .i64 x.top) (.int .i64 x.bottom);exact⟨b,cap,rfl,m.1,r.out,m.2,.inl rfl⟩
theorem Zf:uT ⟨5,c,ps,pl⟩ eo ec:=by
 intro g h b cap w o k A x p;have:=o.lt;have t:Hid (∀ d,kC 62 #[.int .i64 g.wide,.int .i64 g.high] d fun e m=>∃ b,e=.returned (ay x (some ⟨b,0,none⟩) x.n)∧av m b x.n x.f∧d.heap.size<=b∧Below d.heap.size d m):=fun d=>zo g.wide g.high d x p;clear o h k p A;go_enter func105,ntmps105;go_wp2_with (go_at_call 62;refine(t.out _).mono ?_;rintro e r ⟨i,rfl,l,j,a⟩;have q:=aG a (kM w _ _ _) (by simp);have s:Hid (av r i x.n x.f∧Below w.heap.size w r∧w.heap.size+3<=i):=⟨l,(ji _ _ _ _).trans (a.mono (by simp;omega)),by simp at j;omega⟩;obtain⟨⟨_,_,_,_,_,_,_,_,_⟩,_⟩:=nine q;clear l a q j);refine bodyPost_ret (v:=ay x (some ⟨i,0,none⟩) x.n) (by simp [results,results105,go_sem, *]) rfl ?_;obtain⟨u,y,_⟩:=s.out;have z:=iC u (B:=w.heap.size+1+1) (by omega) (.int .i64 x.wide) (.int .i64 x.high) (.slice (some ⟨i,0,none⟩) x.n x.n) (.int .i64 x.row) (.int .i64 x.col) (.int .i64 x.aA) (.bool x.bold) (.int .i64 x.top) (.int .i64 x.bottom);exact⟨i,x.n,rfl,z,Nat.le_refl _,Below.nO (iZ y (by omega) _ _ _ _ _ _ _ _ _) _,.inr (by omega)⟩
theorem Zc (e:gM) (eo:Option Addr) (ec:Nat) (h:e.ps.length<=140737488355328) (i:e.pl.size<=140737488355328) (d:dV e=0):uT e eo ec:=by
 obtain⟨a,c,ps,pl⟩:=e;unfold dV at d;simp only at d h i;by_cases f:a=1
 ·subst f;refine Zh c ps pl eo ec ?_;rw [if_pos rfl] at d;cases l:jJ c
  ·rw [l] at d;simp at d
  ·rfl
 ·rw [if_neg f] at d;by_cases j:2<=a∧a<=5
  ·have k:a=2∨a=3∨a=4∨a=5:=(by omega);rcases k with rfl | rfl | rfl | rfl
   ·exact Ze c ps pl eo ec
   ·exact Zd c ps pl eo ec h
   ·exact Zg c ps pl eo ec i
   ·exact Zf c ps pl eo ec
  ·rw [if_neg j] at d;cases d
variable (g:Gr) (ao:Option Addr) (cap:Nat) (lo:Option Addr) (lc:Nat) (w:World)
theorem all_nil (k:aL w ao g.n g.f) (q:ao=none->g.n=0∧cap=0) (u:g.n<=4398046511104):
  kC 90 #[ay g ao cap,.slice lo 0 lc] w (AllEnd w (g,0)):=by
 have o:=gH k;have p:Hid (∀ w,aL w ao g.n g.f->kC 17 #[.slice ao g.n cap] w fun e y=>∃ d a,e=.returned (.slice d g.n a)∧eH w g.n g.f d a y):=fun w k=>uD ao cap g.n g.f w k q (by omega);have l:Hid (∀ r s:Obj,Below w.heap.size w ((w.alloc r).alloc s)):=fun r s=>(aM _ _).alloc (by simp) _;clear k q u;go_enter func90,ntmps90;go_upto_region 1 with fail;go_cut [] from 9 to 12 (fun A=>∃ d a,Start w g d a A)
 case first=>
  go_wp2_with (go_at_call 17;refine(p.out _ (o.out.below (l.out _ _))).mono ?_;rintro e _ ⟨d,a,rfl,j⟩;have t:=gH j;obtain⟨⟨B,C,D,E,F,G,H,I,J⟩,z⟩:=nine (aG j.2.2 (aF (at_new w _) _) (by simp;omega));clear j);go_meet;exact⟨d,a,JW t.out⟩
 case rest=>
  obtain⟨d,a,h⟩:=hcut;obtain⟨⟨B,C,D,E,F,G,H,I,J⟩,z⟩:=nine h.box;obtain⟨⟨_,_,_,_,_,_,_,_,_⟩,_⟩:=nine h.res;have m:=gH h;clear h p o;go_wp2;go_loopw [24] (fun i wr=>i=.int .i64 0∧wr=wc) (fun _ _=>0)
  case atStart=>exact⟨rfl,rfl⟩
  case round=>
   obtain⟨rfl,rfl⟩:=hrel;go_wp2;refine bodyPost_ret (v:=.tuple #[ay g d a,.int .i64 0]) (by simp [results,results90,go_sem, *]) rfl ?_;exact⟨d,a,rfl,m.out.copied (Below.refl _ _) _ _ _ _ _ _ _ _ _⟩
theorem WS (a:List wH) (lc:Nat) (w:World) (k:aL w ao g.n g.f) (j:ao=none->g.n=0∧cap=0) (i:g.n<=4398046511104) (h:yN w lo a) (p:a.length<=140737488355328) (m:∀ x∈a,x.1.ps.length<=140737488355328∧x.1.pl.size<=140737488355328) (r:Gr×Int) (d:r=LG g (a.map (·.1))):
  kC 90 #[ay g ao cap,.slice lo a.length lc] w (AllEnd w r):=by
 cases a with
 | nil=>
  have:r=(g,0):=(by rw [d];rfl);rw [this];exact all_nil g ao cap lo lc w k j i
 | cons e l=>
  refine all_some g ao cap lo (e::l) lc w k j i h p (by simp) ?_ r ?_
  ·intro x q o;have:=m x q;exact Zc x.1 x.2.1 x.2.2 (by omega) (by omega) o
  ·rw [d];unfold LG;rw [if_neg (by simp)]
end Go.Proofs.YtkcdcamophkdlaaGreatDoor
