import Derived.Test.YtkcdcamophkdlaaGreatDoorAJ
import Derived.Test.YtkcdcamophkdlaaGreatDoorBC
set_option maxHeartbeats 2000000
set_option maxRecDepth 100000
open Go.Proofs.Tryz
namespace Go.Proofs.YtkcdcamophkdlaaGreatDoor
open Go.RowKit
theorem O8:(33:TypeId)≠65:=by decide
theorem ag5:(33:TypeId)≠149:=by decide
theorem ag4:(33:TypeId)≠5:=by decide
theorem aW.grid {w1 v:World} {pb b cap:Nat} {o1:Option Addr} {j:Nat} {q m:bU} (h:eO w1 pb b cap o1 j q) (l:aW w1 pb b cap o1 m v) {k:Nat} {c:Array Value} (d:w1.heap[k]?=some (.cells c 33 (0,0))):v.heap[k]?=some (.cells c 33 (0,0)):=by
 obtain⟨_,_,_,z⟩:=l;obtain⟨_,f,_⟩:=h.bM;refine(z.block k (gQ d).1 (wm d h.box ag5) (wm d f O8) (fun e=>?_)).trans d;obtain⟨_,i⟩:=F9 h.own e;exact wm d i ag4 rfl
theorem Ux (pb b cap:Nat) (r:Option Addr) (oc:Nat) (p:bU) (ok:OkG p.g) (F:p.g.n<=cap) (t:Gr) (s:OkG t) (z:t.wide=p.g.wide) (za:t.high=p.g.high) (Z:t.col < t.wide) (ta:Option Addr) (c:Nat) (T:t.n<=c) (hl:p.out.length<=100) (w:World) (h:eO w pb b cap r oc p)
  (Y:∀ l o',Kept w l pb b r o'->aL l ta t.n t.f):
  kC 110 #[.pointer (some ⟨pb,0,none⟩),ay t ta c] w fun e l=>e=.returned (.tuple #[])∧aW w pb b cap r (zD p t) l:=by
 have w1:=s.w1;have w2:=s.w2;have h1:=s.h1;have h2:=s.h2;have V:=wE s;have ac:0 < t.n:=by
  rw [V];exact Nat.mul_pos (by omega) (by omega)
 obtain⟨u,y,rfl,_⟩:=(Y w r (Kept.refl _ _ _ _)).resolve_left (by omega);obtain⟨H,N⟩:∃ H:Nat,(H:Int)=t.high:=⟨t.high.toNat,by omega⟩;obtain⟨W,B⟩:∃ W:Nat,W=t.wide.toNat:=⟨_,rfl⟩;have X:t.n=H*W:=by rw [V,B, <-N];rfl
 obtain⟨Q,E⟩:∃ Q:Nat->bU,Q=fun k=>wo p t k:=⟨_,rfl⟩;have S:Hid (∀ k,k<=H->OkG (Q k).g∧(Q k).g.wide=p.g.wide∧(Q k).g.high=p.g.high∧(Q k).g.n=p.g.n∧(Q k).out.length<=5000):=fun k G=>by
  obtain⟨ha,_⟩:=OJ ok t s z za k (by omega);obtain⟨M,o2,o3,o4⟩:=ha.ok ok;obtain⟨_,m1,_,_⟩:=ha.more;rw [E];refine⟨M,o2,o3,o4,?_⟩;show (wo p t k).out.length<=5000;rw [m1,List.length_append];omega
 have D:Hid (∀ k,Q (k+1)=rowP (Q k) k (iL t.f (k*W))):=fun k=>by rw [E,B];rfl
 have C:Hid (aW w pb b cap r (Q 0) (w.alloc (aB t (some ⟨u,y,none⟩) c))):=by rw [E];exact h.stay (aM _ _)
 have uw:Hid (zD p t=dh (Q H) t.row t.col):=by show zD p t=_;rw [E];unfold zD;rw [<-N];rfl
 have oK:Hid (∀ k:Nat,k < H->∀ w,kC 133 #[ay t (some ⟨u,y,none⟩) c,.int .i64 k] w fun e l=>e=.returned (.slice (some ⟨u,y+k*W*4,none⟩) W (c - k*W))∧l=w.alloc (aB t (some ⟨u,y,none⟩) c)):=fun k G w=>by
  have:=EW t s u y c k (by omega) T w;rw [<-B] at this;exact this
 have J:∀ k,k < H->k*W+W<=t.n:=fun k G=>by
  have:(k+1)*W<=H*W:=Nat.mul_le_mul_right _ (by omega);rw [Nat.succ_mul] at this;omega
 have K3:Hid (∀ k,k < H->∀ wr,aW w pb b cap r (Q k) wr->wr.heap[w.heap.size]?=some (aB t (some ⟨u,y,none⟩) c)->∀ o:Obj,kC 132 #[.pointer (some ⟨pb,0,none⟩),.int .i64 k,.slice (some ⟨u,y+k*W*4,none⟩) W (c - k*W)] (wr.alloc o) fun e l=>e=.returned (.tuple #[])∧aW w pb b cap r (Q (k+1)) l∧l.heap[w.heap.size]?=some (aB t (some ⟨u,y,none⟩) c)):=fun k G wr m v o=>by
  obtain⟨z1,z2,z3,z4,z5⟩:=S.out k (by omega);obtain⟨M,c1,a1,O⟩:=m;have ab:=J k G;have d:=aM wr o;rw [D.out k];refine(agd pb b cap M c1 (Q k) z1 (by rw [z4];exact F) k (by rw [z3];omega) (iL t.f (k*W)) (fun j hj=>?_) _ (c - k*W) W (by rw [z2, <-z];exact B) (by omega) (by omega) (wr.alloc o) (a1.later d) (fun l o' x=>?_)).mono fun e l x=>⟨x.1,aW.trans (O.trans (Kept.below pb b M d)) x.2,aW.grid (a1.later d) x.2 (aF v o)⟩
  ·rw [z2, <-z, <-B] at hj;exact s.cells _ (by omega)
  ·exact(Y l o' ((O.trans (Kept.below pb b M d)).trans x)).shift (k*W) W _ (by omega) rfl
 have oM:Hid (∀ wr,aW w pb b cap r (Q H) wr->kC 134 #[.pointer (some ⟨pb,0,none⟩),.int .i64 t.row,.int .i64 t.col] wr fun e l=>e=.returned (.tuple #[])∧aW w pb b cap r (zD p t) l):=fun wr m=>by
  obtain⟨z1,z2,z3,z4,z5⟩:=S.out H (Nat.le_refl _);have r1:=s.r1;have r2:=s.r2;have O:=s.c1;rw [uw.out];exact Sq m z1 t.row t.col r1 (by omega) O (by omega) (by omega)
 have A:=h.lt;have aa:H<=10:=by omega
 have HH:=gH N;have nH:1<=t.high:=h1;clear h Y B V X ok s E z za Z J N D S uw;go_enter func110,ntmps110;go_wp2_with fail;go_loopw [7] (fun i wr=>∃ k:Nat,k<=H∧i=.int .i64 k∧aW w pb b cap r (Q k) wr∧wr.heap[w.heap.size]?=some (aB t (some ⟨u,y,none⟩) c)) (fun i _=>H - (intOf i).toNat)
 case atStart=>exact⟨0,Nat.zero_le _,rfl,C.out,at_new w _⟩
 case round=>
  obtain⟨k,G,rfl,m,v⟩:=hrel;have P:Hid (aW w pb b cap r (Q k) wr∧wr.heap[w.heap.size]?=some (aB t (some ⟨u,y,none⟩) c)):=⟨m,v⟩;obtain⟨⟨_,_,_,_,_,_,_,_,_⟩,_⟩:=nine v;clear m v C;by_cases A:k < H
  ·have K:(k:Int) < t.high:=by rw [<-HH.out];omega
   go_wp2_with (first
    | (go_at_call 133;refine(oK.out k A _).mono ?_;rintro e _ ⟨rfl,rfl⟩)
    | (go_at_call 132;refine(K3.out k A _ P.out.1 P.out.2 _).mono ?_;rintro e v2 ⟨rfl,I,L⟩;have Ef:Hid (aW w pb b cap r (Q (k+1)) v2∧v2.heap[w.heap.size]?=some (aB t (some ⟨u,y,none⟩) c)):=⟨I,L⟩;clear I L))
   go_roundw
   case rel=>exact⟨k+1,by omega,by go_num,Ef.out.1,Ef.out.2⟩
   case measure=>simp [intOf];omega
  ·have K:¬ (k:Int) < t.high:=(by rw [<-HH.out];omega);have R:Hid (aW w pb b cap r (Q H) wr):=(by rw [show H=k by omega];exact P.out.1);go_wp2_with (go_at_call 134;refine(oM.out _ R.out).mono ?_;rintro e _ ⟨rfl,U⟩);go_end0;exact⟨rfl,U⟩
variable (g:Gr) (ao:Option Addr) (cap:Nat) (w:World) {wr:World} {a b:Obj}
theorem Te (i:aL w ao g.n g.f) (l:ao=none->g.n=0∧cap=0) (t:g.n<=4398046511104):
  kC 108 #[ay g ao cap] w fun e k=>∃ h c,e=.returned (ay g h c)∧eH w g.n g.f h c k:=by
 have p:=gH i;have s:Hid (∀ w,aL w ao g.n g.f->kC 17 #[.slice ao g.n cap] w fun e k=>∃ h c,e=.returned (.slice h g.n c)∧eH w g.n g.f h c k):=fun w i=>uD ao cap g.n g.f w i l (by omega);have j:Hid (∀ m o:Obj,Below w.heap.size w ((w.alloc m).alloc o)):=fun m o=>(aM _ _).alloc (by simp) _;clear i l t;go_enter func108,ntmps108;go_wp2_with (go_at_call 17;refine(s.out _ (p.out.below (j.out _ _))).mono ?_;rintro e _ ⟨h,c,rfl,d⟩;have r:=gH d;obtain⟨⟨_,_,_,_,_,_,_,_,_⟩,_⟩:=nine (aG d.2.2 (aF (at_new w _) _) (by simp;omega));obtain⟨⟨_,_,_,_,_,_,_,_,_⟩,v⟩:=nine (aG d.2.2 (bK w _ _) (by simp));clear d);refine bodyPost_ret (v:=ay g h c) (by simp [results,results108,go_sem, *]) rfl ?_;exact⟨h,c,rfl,(JW r.out).copied (Below.refl _ _) _ _ _ _ _ _ _ _ _⟩
theorem OY (h:aL w ao g.n g.f) (o:(g.n:Int)<=9223372036854775807) (S:Bool) (m:S=Dz g):
  kA 107 #[ay g ao cap] w (.bool S):=by
 obtain⟨G,i⟩:∃ G,G=kE g:=⟨_,rfl⟩;have j:Hid (∀ w,aL w ao g.n g.f->kA 81 #[ay g ao cap] w (.bool G)):=fun w h=>jT g ao cap w h o G i;have l:Hid (S=(G && decide (g.col < g.wide))):=by rw [m,i];rfl
 have k:=gH h;clear h o m i;cases G
 ·go_enter func107,ntmps107;go_wp2_with (go_at_call 81;refine(j.out _ (k.out.below (aM _ _))).mono ?_;rintro e w1 ⟨rfl,c⟩;have d:=gH (vO c);obtain⟨⟨p,r,s,t,u,v,x,y,A⟩,z⟩:=nine (aG c (at_new w _) (by simp));clear c);go_ret;exact⟨bD (by rw [l.out];rfl),d.out⟩
 ·go_enter func107,ntmps107;go_wp2_with (go_at_call 81;refine(j.out _ (k.out.below (aM _ _))).mono ?_;rintro e w1 ⟨rfl,c⟩;have d:=gH (vO c);obtain⟨⟨p,r,s,t,u,v,x,y,A⟩,z⟩:=nine (aG c (at_new w _) (by simp));clear c);go_ret;exact⟨bD (by rw [l.out];rfl),d.out⟩
def DT (x t:Gr):List UInt8×Gr×Int:=if Bp x t then ((wG x t).out,(wG x t).g,0) else ([],x,1)
def yx (w:World) (r:List UInt8×Gr×Int) (e:Ending) (w':World):Prop:=
 ∃ ao cap,e=.returned (.tuple #[.string (bs r.1),ay r.2.1 ao cap,.int .i64 r.2.2])∧eH w r.2.1.n r.2.1.f ao cap w'
structure kU (w wr:World) (a b:Obj):Prop where
 one:wr.heap[w.heap.size]?=some a
 two:wr.heap[w.heap.size+1]?=some b
 res:wr.heap[w.heap.size+2]?=some aV
 below:Below w.heap.size w wr
theorem kU.later {w w':World} (h:kU w wr a b) (c:Below wr.heap.size wr w'):kU w w' a b:=
 ⟨aG c h.one (gQ h.one).1,aG c h.two (gQ h.two).1,aG c h.res (gQ h.res).1,h.below.trans (c.mono h.below.size)⟩
theorem Qd (a b:Obj):kU w (((w.alloc a).alloc b).alloc aV) a b:=
 ⟨aF (aF (at_new w _) _) _,aF (bK w _ _) _,WY w _ _ _,((aM _ _).alloc (by simp) _).alloc (by simp;omega) _⟩
theorem eH.Ol {w w2:World} {n:Nat} {f:Nat->aH} {ao:Option Addr} {cap:Nat} (h:eH wr n f ao cap w2) (c:kU w wr a b) (u0 u1 u2 u3 u4 u5 u6 u7 u8:Value):
  eH w n f ao cap (((((((((w2.setCell ⟨w.heap.size+2,0,none⟩ u0).setCell ⟨w.heap.size+2,1,none⟩ u1).setCell ⟨w.heap.size+2,2,none⟩ u2).setCell ⟨w.heap.size+2,3,none⟩ u3).setCell ⟨w.heap.size+2,4,none⟩ u4).setCell ⟨w.heap.size+2,5,none⟩ u5).setCell ⟨w.heap.size+2,6,none⟩ u6).setCell ⟨w.heap.size+2,7,none⟩ u7).setCell ⟨w.heap.size+2,8,none⟩ u8):=
 h.out c.below (by omega) (gQ c.res).1 _ _ _ _ _ _ _ _ _
theorem ahp (x:Gr) (ao:Option Addr) (cap:Nat) (t:Gr) (p:Option Addr) (r:Nat) (w:World) (hr:aL w ao x.n x.f) (hn:ao=none->x.n=0∧cap=0) (hm:x.n<=4398046511104) (ht:aL w p t.n t.f) (Y:t.n<=4398046511104) (hB:Bp x t=false):
  kC 106 #[ay x ao cap,ay t p r] w (yx w ([],x,1)):=by
 obtain⟨G,W⟩:∃ G,G=kE x:=⟨_,rfl⟩;obtain⟨S,X⟩:∃ S,S=Dz t:=⟨_,rfl⟩;have U:Hid (∀ wr,kU w wr (aB x ao cap) (aB t p r)->kA 81 #[ay x ao cap] wr (.bool G)):=fun wr u=>jT x ao cap wr (hr.below u.below) (by omega) G W;have HS:Hid (∀ wr,kU w wr (aB x ao cap) (aB t p r)->kA 107 #[ay t p r] wr (.bool S)):=fun wr u=>OY t p r wr (ht.below u.below) (by omega) S X;have V:Hid (∀ wr,kU w wr (aB x ao cap) (aB t p r)->kC 108 #[ay x ao cap] wr fun e w'=>∃ k c,e=.returned (ay x k c)∧eH wr x.n x.f k c w'):=fun wr u=>Te x ao cap wr (hr.below u.below) hn hm;have m:Hid (kU w (((w.alloc (aB x ao cap)).alloc (aB t p r)).alloc aV) (aB x ao cap) (aB t p r)):=Qd w _ _;have o:(G && S && decide (x.wide=t.wide) && decide (x.high=t.high))=false:=by rw [W,X];exact hB
 clear hr hn hm ht Y hB W X;cases G
 ·clear o;go_enter func106,ntmps106
  go_wp2_with (first
   | (go_at_call 81;refine(U.out _ m.out).mono ?_;rintro e w1 ⟨rfl,h⟩;have i:=gH (m.out.later h);clear h m;obtain⟨⟨y,z,A,B,C,D,E,F,H⟩,I⟩:=nine i.out.one)
   | (go_at_call 108;refine(V.out _ i.out).mono ?_;rintro e w3 ⟨k,c,rfl,d⟩;have s:=gH d;obtain⟨⟨u0,u1,u2,u3,u4,u5,u6,u7,u8⟩,uf⟩:=nine (aG d.2.2 i.out.res (gQ i.out.res).1);clear d y z A B C D E F H I))
  refine bodyPost_ret (v:=.tuple #[.string (bs []),ay x k c,.int .i64 1]) (by simp [results,results106,go_sem, *]) rfl ?_;exact⟨k,c,rfl,s.out.Ol i.out _ _ _ _ _ _ _ _ _⟩
 ·cases S
  ·clear o;go_enter func106,ntmps106
   go_wp2_with (first
    | (go_at_call 81;refine(U.out _ m.out).mono ?_;rintro e w1 ⟨rfl,h⟩;have i:=gH (m.out.later h);clear h m;obtain⟨⟨J,K,L,M,N,O,P,Q,R⟩,T⟩:=nine i.out.two)
    | (go_at_call 107;refine(HS.out _ i.out).mono ?_;rintro e w2 ⟨rfl,l⟩;have j:=gH (i.out.later l);clear l i J K L M N O P Q R T;obtain⟨⟨y,z,A,B,C,D,E,F,H⟩,I⟩:=nine j.out.one)
    | (go_at_call 108;refine(V.out _ j.out).mono ?_;rintro e w3 ⟨k,c,rfl,d⟩;have s:=gH d;obtain⟨⟨u0,u1,u2,u3,u4,u5,u6,u7,u8⟩,uf⟩:=nine (aG d.2.2 j.out.res (gQ j.out.res).1);clear d y z A B C D E F H I))
   refine bodyPost_ret (v:=.tuple #[.string (bs []),ay x k c,.int .i64 1]) (by simp [results,results106,go_sem, *]) rfl ?_;exact⟨k,c,rfl,s.out.Ol j.out _ _ _ _ _ _ _ _ _⟩
  ·have Z:(x.wide !=t.wide)=true∨(x.wide !=t.wide)=false∧(x.high !=t.high)=true:=by
    by_cases e:x.wide=t.wide
    ·refine .inr ⟨by simpa using e,?_⟩;simpa [e] using o
    ·exact .inl (by simpa using e)
   clear o;rcases Z with e1 | ⟨e1,e2⟩
   all_goals (
    go_enter func106,ntmps106
    go_wp2_with (first
     | (go_at_call 81;refine(U.out _ m.out).mono ?_;rintro e w1 ⟨rfl,h⟩;have i:=gH (m.out.later h);clear h m;obtain⟨⟨J,K,L,M,N,O,P,Q,R⟩,T⟩:=nine i.out.two)
     | (go_at_call 107;refine(HS.out _ i.out).mono ?_;rintro e w2 ⟨rfl,l⟩;have j:=gH (i.out.later l);clear l i J K L M N O P Q R T;obtain⟨⟨y,z,A,B,C,D,E,F,H⟩,I⟩:=nine j.out.one;obtain⟨⟨J,K,L,M,N,O,P,Q,R⟩,T⟩:=nine j.out.two)
     | (go_at_call 108;refine(V.out _ j.out).mono ?_;rintro e w3 ⟨k,c,rfl,d⟩;have s:=gH d;obtain⟨⟨u0,u1,u2,u3,u4,u5,u6,u7,u8⟩,uf⟩:=nine (aG d.2.2 j.out.res (gQ j.out.res).1);clear d y z A B C D E F H I J K L M N O P Q R T))
    refine bodyPost_ret (v:=.tuple #[.string (bs []),ay x k c,.int .i64 1]) (by simp [results,results106,go_sem, *]) rfl ?_
    exact⟨k,c,rfl,s.out.Ol j.out _ _ _ _ _ _ _ _ _⟩)
variable {w w1 w2:World} {pb b cap n:Nat} {q:bU}
theorem aL.kept {w':World} {d:Option Addr} {f:Nat->aH} {m:Option Addr} (h:aL w d n f) (c:Below w.heap.size w w1) (l:Kept w1 w' pb b none m) (i:w.heap.size<=pb) (j:w.heap.size<=b):aL w' d n f:=
 h.below (c.trans (l.toBelow i j (fun k e=>by simp [fQ] at e) c.size))
theorem FY {x:Gr} (h:av w b x.n x.f) (c:n=x.n):eO (w.alloc (.cells #[.slice none 0 0,.int .i64 x.wide,.int .i64 x.high,.slice (some ⟨b,0,none⟩) n cap,.int .i64 x.row,.int .i64 x.col,.int .i64 x.aA,.bool x.bold,.int .i64 x.top,.int .i64 x.bottom] 149)) w.heap.size b cap none 0 ⟨[],x⟩:=by
 subst c;exact⟨at_new w _,World.ownsRow_nil _ _ _ _,h.alloc _⟩
theorem kU.pen {_a _b:Obj} {j:Nat} {l:bU} {i:Option Addr} {k:Nat} {e f:Array Value} (h:kU w w1 (.cells e 33) (.cells f 33)) (d:eO w1 pb j cap i k q) (c:aW w1 pb j cap i l w2):
  w2.heap[w.heap.size]?=some (.cells e 33 (0,0))∧w2.heap[w.heap.size+1]?=some (.cells f 33 (0,0))∧w2.heap[w.heap.size+2]?=some aV:=
 ⟨aW.grid d c h.one,aW.grid d c h.two,aW.grid d c h.res⟩
theorem QC {B:Nat} (i:Below w.heap.size w w1) (p:aW w1 pb b cap none q w2) (l:w.heap.size<=pb) (h:w.heap.size<=b) (o:q.g.n<=cap) (m:w.heap.size<=B) (d:b≠B) (u0 u1 u2 u3 u4 u5 u6 u7 u8:Value):
  eH w q.g.n q.g.f (some ⟨b,0,none⟩) cap (((((((((w2.setCell ⟨B,0,none⟩ u0).setCell ⟨B,1,none⟩ u1).setCell ⟨B,2,none⟩ u2).setCell ⟨B,3,none⟩ u3).setCell ⟨B,4,none⟩ u4).setCell ⟨B,5,none⟩ u5).setCell ⟨B,6,none⟩ u6).setCell ⟨B,7,none⟩ u7).setCell ⟨B,8,none⟩ u8).drew:=by
 obtain⟨_,_,a,k⟩:=p;have c:Below w.heap.size w w2:=i.trans (k.toBelow l h (fun k e=>by simp [fQ] at e) i.size);have j:=(iC a.bM d u0 u1 u2 u3 u4 u5 u6 u7 u8).drew;have r:=OC (iZ c m u0 u1 u2 u3 u4 u5 u6 u7 u8);exact⟨j.rd,fun _=>⟨b,rfl,h,o,j⟩,r⟩
theorem ahq (x:Gr) (ao:Option Addr) (cap:Nat) (t:Gr) (j:Option Addr) (h:Nat) (w:World) (hr:aL w ao x.n x.f) (hn:ao=none->x.n=0∧cap=0) (ht:aL w j t.n t.f) (G:t.n<=h) (hB:Bp x t=true):
  kC 106 #[ay x ao cap,ay t j h] w (yx w ((wG x t).out,(wG x t).g,0)):=by
 obtain⟨l,B,k,i,W⟩:=(UU x t).1 hB;obtain⟨m1,m2,_⟩:=l.nums;obtain⟨m3,m4,_⟩:=B.nums;have J:x.n=x.high.toNat*x.wide.toNat:=wE l;have H:0 < x.n:=by
  have:=l.h1;have:=l.w1;rw [J];exact Nat.mul_pos (by omega) (by omega)
 have HG:Hid (∀ wr,kU w wr (aB x ao cap) (aB t j h)->kA 81 #[ay x ao cap] wr (.bool true)):=fun wr r=>jT x ao cap wr (hr.below r.below) (by omega) true ((iT x).2 l).symm;have HS:Hid (∀ wr,kU w wr (aB x ao cap) (aB t j h)->kA 107 #[ay t j h] wr (.bool true)):=fun wr r=>OY t j h wr (ht.below r.below) (by omega) true (by unfold Dz;rw [(iT t).2 B];simpa using k);have HO:Hid (∀ wr,kU w wr (aB x ao cap) (aB t j h)->kC 108 #[ay x ao cap] wr fun e Z=>∃ aK c,e=.returned (ay x aK c)∧eH wr x.n x.f aK c Z):=fun wr r=>Te x ao cap wr (hr.below r.below) hn (by omega);have H0:Hid (kU w (((w.alloc (aB x ao cap)).alloc (aB t j h)).alloc aV) (aB x ao cap) (aB t j h)):=Qd w _ _;have uw:Hid (∀ w1 pb b c,Below w.heap.size w w1->eO w1 pb b c none 0 ⟨[],x⟩->w.heap.size<=pb->w.heap.size<=b->x.n<=c->kC 110 #[.pointer (some ⟨pb,0,none⟩),ay t j h] w1 fun e Z=>e=.returned (.tuple #[])∧aW w1 pb b c none (wG x t) Z):=fun w1 pb b c r hp h1 h2 hc=>
  Ux pb b c none 0 ⟨[],x⟩ l hc t B i.symm W.symm k j h G (by simp) w1 hp (fun Z o' hk=>ht.kept r hk h1 h2)
 have u:=UW l B k i W;obtain⟨q,hq⟩:∃ q,q=wG x t:=⟨_,rfl⟩;rw [<-hq] at uw u ⊢;have I:q.g.n=x.n:=by
  rw [u.n,wE B,wE l,i,W]
 have KY:=gH I;have:(x.wide !=t.wide)=false:=by simpa using i
 have:(x.high !=t.high)=false:=by simpa using W
 clear hr hn ht hB l B i W k m1 m2 m3 m4 J u hq G I;go_enter func106,ntmps106
 go_wp2_with (first
  | (go_at_call 81;refine(HG.out _ H0.out).mono ?_;rintro e w1 ⟨rfl,C⟩;have X:=gH (H0.out.later C);clear C H0;obtain⟨⟨L,M,N,O,P,Q,R,T,U⟩,V⟩:=nine X.out.two)
  | (go_at_call 107;refine(HS.out _ X.out).mono ?_;rintro e _ ⟨rfl,D⟩;have A:=gH (X.out.later D);clear D X L M N O P Q R T U V;obtain⟨⟨x0,x1,x2,x3,x4,x5,x6,x7,x8⟩,xf⟩:=nine A.out.one;obtain⟨⟨L,M,N,O,P,Q,R,T,U⟩,V⟩:=nine A.out.two)
  | (go_at_call 108;refine(HO.out _ A.out).mono ?_;rintro e z ⟨aK,c,rfl,s⟩;have d:=gH (A.out.later s.2.2);obtain⟨b,rfl,E,F,FK⟩:=s.2.1 H;have p:Hid (av z b x.n x.f∧w.heap.size<=b∧x.n<=c):=⟨FK,Nat.le_trans A.out.below.size E,F⟩;clear s E F FK A x0 x1 x2 x3 x4 x5 x6 x7 x8 xf L M N O P Q R T U V;obtain⟨⟨L,M,N,O,P,Q,R,T,U⟩,V⟩:=nine d.out.two;have:w.heap.size+2 < z.heap.size:=(gQ d.out.res).1;have:w.heap.size+1 < z.heap.size:=(by omega))
  | (go_at_call 110;refine(uw.out _ z.heap.size b c (d.out.below.alloc d.out.below.size _) (FY p.out.1 rfl) d.out.below.size p.out.2.1 p.out.2.2).mono ?_;rintro e K ⟨rfl,y⟩;have o:=aW.grid (FY p.out.1 rfl) y (aF d.out.res _);have HE:Hid (∀ u0 u1 u2 u3 u4 u5 u6 u7 u8:Value,eH w q.g.n q.g.f (some ⟨b,0,none⟩) c (((((((((K.setCell ⟨w.heap.size+2,0,none⟩ u0).setCell ⟨w.heap.size+2,1,none⟩ u1).setCell ⟨w.heap.size+2,2,none⟩ u2).setCell ⟨w.heap.size+2,3,none⟩ u3).setCell ⟨w.heap.size+2,4,none⟩ u4).setCell ⟨w.heap.size+2,5,none⟩ u5).setCell ⟨w.heap.size+2,6,none⟩ u6).setCell ⟨w.heap.size+2,7,none⟩ u7).setCell ⟨w.heap.size+2,8,none⟩ u8).drew):=(fun u0 u1 u2 u3 u4 u5 u6 u7 u8=>QC (d.out.below.alloc d.out.below.size _) y d.out.below.size p.out.2.1 (by rw [KY.out];exact p.out.2.2) (by omega) (fun e=>by have aa:=p.out.1;obtain⟨_,m,_⟩:=aa;rw [e] at m;exact wm d.out.res m O8 rfl) u0 u1 u2 u3 u4 u5 u6 u7 u8);obtain⟨o5,c5,Y,_⟩:=y;clear L M N O P Q R T U V;obtain⟨⟨_,_,_,_,_,_,_,_,_,_⟩,_⟩:=ten Y.box;obtain⟨⟨u0,u1,u2,u3,u4,u5,u6,u7,u8⟩,_⟩:=nine o;obtain⟨S,hS⟩:∃ S,S=bs q.out:=⟨_,rfl⟩;have:(convert 106 9 (.slice o5 q.out.length c5)).run prog K.drew=.ok (.string S) K.drew:=(by rw [hS];exact run_text K.drew 0 q.out.length c5 o5 q.out rfl Y.own.drew);have La:=gH hS;have:z.heap.size < K.heap.size:=Y.lt;clear hS Y o p d))
 have:z.heap.size≠w.heap.size+2:=by omega
 have:w.heap.size+2≠z.heap.size:=by omega
 go_region;go_wp2;refine bodyPost_ret (v:=.tuple #[.string S,ay q.g (some ⟨b,0,none⟩) c,.int .i64 0]) (by simp [results,results106,go_sem, *]) rfl ?_;exact⟨some ⟨b,0,none⟩,c,by rw [La.out],HE.out _ _ _ _ _ _ _ _ _⟩
theorem ahn (x:Gr) (ao:Option Addr) (cap:Nat) (t:Gr) (d:Option Addr) (c:Nat) (w:World) (k:aL w ao x.n x.f) (j:ao=none->x.n=0∧cap=0) (m:x.n<=4398046511104) (l:aL w d t.n t.f) (h:t.n<=4398046511104) (e:t.n<=c):
  kC 106 #[ay x ao cap,ay t d c] w (yx w (DT x t)):=by
 unfold DT;cases i:Bp x t
 ·exact ahp x ao cap t d c w k j m l h i
 ·exact ahq x ao cap t d c w k j l e i
structure yw (w wr:World) (a:Obj):Prop where
 one:wr.heap[w.heap.size]?=some a
 res:wr.heap[w.heap.size+1]?=some aV
 below:Below w.heap.size w wr
theorem yw.later {w wr w':World} {a:Obj} (h:yw w wr a) (c:Below wr.heap.size wr w'):yw w w' a:=
 ⟨aG c h.one (gQ h.one).1,aG c h.res (gQ h.res).1,h.below.trans (c.mono h.below.size)⟩
theorem Xm (w:World) (a:Obj):yw w ((w.alloc a).alloc aV) a:=
 ⟨aF (at_new w _) _,bK w _ _,(aM _ _).alloc (by simp) _⟩
theorem eH.F4 {w wr w2:World} {n:Nat} {f:Nat->aH} {ao:Option Addr} {cap:Nat} {a:Obj} (h:eH wr n f ao cap w2) (c:yw w wr a) (u0 u1 u2 u3 u4 u5 u6 u7 u8:Value):
  eH w n f ao cap (((((((((w2.setCell ⟨w.heap.size+1,0,none⟩ u0).setCell ⟨w.heap.size+1,1,none⟩ u1).setCell ⟨w.heap.size+1,2,none⟩ u2).setCell ⟨w.heap.size+1,3,none⟩ u3).setCell ⟨w.heap.size+1,4,none⟩ u4).setCell ⟨w.heap.size+1,5,none⟩ u5).setCell ⟨w.heap.size+1,6,none⟩ u6).setCell ⟨w.heap.size+1,7,none⟩ u7).setCell ⟨w.heap.size+1,8,none⟩ u8):=
 h.out c.below (by omega) (gQ c.res).1 _ _ _ _ _ _ _ _ _
theorem WT (t:Gr) (j:Option Addr) (d:Nat) (w:World) (Q:aL w j t.n t.f) (E:t.n<=d) (A:OkG t) (i:t.col < t.wide):
  kC 92 #[ay t j d] w (yx w ((yP t).out,(yP t).g,0)):=by
 obtain⟨m3,m4,_⟩:=A.nums;obtain⟨X,Y,Z⟩:=Dm A;have T:=sQ t.wide t.high;have HS:Hid (∀ wr,yw w wr (aB t j d)->kA 107 #[ay t j d] wr (.bool true)):=fun wr K=>OY t j d wr (Q.below K.below) (by omega) true (by unfold Dz;rw [(iT t).2 A];simpa using i);have I:Hid (yw w ((w.alloc (aB t j d)).alloc aV) (aB t j d)):=Xm w _;have r:=P7 (x:=t) A i rfl rfl;obtain⟨q,O⟩:∃ q,q=yP t:=⟨_,rfl⟩;obtain⟨x,y⟩:∃ x,x=newG t.wide t.high:=⟨_,rfl⟩;have HN:Hid (∀ w,kC 62 #[.int .i64 t.wide,.int .i64 t.high] w fun e o=>∃ b,e=.returned (ay x (some ⟨b,0,none⟩) x.n)∧av o b x.n x.f∧w.heap.size<=b∧Below w.heap.size w o):=fun w=>zo t.wide t.high w x y;have HW:Hid (∀ w1 pb b,eO w1 pb b x.n none 0 ⟨[],x⟩->kC 109 #[.pointer (some ⟨pb,0,none⟩),.string (bs [27,99])] w1 fun e o=>e=.returned (.tuple #[])∧aW w1 pb b x.n none ⟨[27,99],x⟩ o):=fun w1 pb b h=>J6 pb b x.n none 0 ⟨[],x⟩ (bs [27,99]) w1 h (show 0+(bs [27,99]).size<=1048576 by decide);have uw:Hid (∀ w1 w2 pb b,Below w.heap.size w w1->aW w1 pb b x.n none ⟨[27,99],x⟩ w2->w.heap.size<=pb->w.heap.size<=b->kC 110 #[.pointer (some ⟨pb,0,none⟩),ay t j d] w2 fun e o=>e=.returned (.tuple #[])∧aW w1 pb b x.n none q o):=fun w1 w2 pb b K hp h1 h2=>by
  obtain⟨o',c',N,V⟩:=hp;rw [O];unfold yP;rw [<-y];have:=Ux pb b x.n o' c' ⟨[27,99],x⟩ (by rw [y];exact T) (Nat.le_refl _) t A (by rw [y];exact X.symm) (by rw [y];exact Y.symm) i j d E (by simp) w2 N (fun o af L=>Q.kept K (V.trans L) h1 h2);refine this.mono ?_;rintro e o ⟨he,M⟩;exact⟨he,aW.trans V M⟩
 rw [<-O] at r ⊢;have KY:Hid (q.g.n=x.n):=by
  show q.g.n=x.n;rw [r.n,y];exact Z.symm
 clear Q A i m3 m4 X Y Z T r O E y;go_enter func92,ntmps92
 go_wp2_with (first
  | (go_at_call 107;refine(HS.out _ I.out).mono ?_;rintro e w2 ⟨rfl,B⟩;have G:=gH (I.out.later B);clear B I;obtain⟨⟨x0,x1,x2,x3,x4,x5,x6,x7,x8⟩,xf⟩:=nine G.out.one)
  | (go_at_call 62;refine(HN.out _).mono ?_;rintro e p ⟨b,rfl,R,D,C⟩;have c:=gH (G.out.later C);have z:Hid (av p b x.n x.f∧w.heap.size<=b):=⟨R,Nat.le_trans G.out.below.size D⟩;clear D C R G x0 x1 x2 x3 x4 x5 x6 x7 x8 xf;have ae:w.heap.size+1 < p.heap.size:=(gQ c.out.res).1;have ad:w.heap.size < p.heap.size:=(by omega))
  | (go_at_call 109;refine(HW.out _ p.heap.size b (FY z.out.1 rfl)).mono ?_;rintro e _ ⟨rfl,s⟩;have l:=aW.grid (FY z.out.1 rfl) s (aF c.out.one _);have yD:=gH s;clear s;obtain⟨⟨y0,y1,y2,y3,y4,y5,y6,y7,y8⟩,yf⟩:=nine l;clear l)
  | (go_at_call 110;refine(uw.out _ _ p.heap.size b (c.out.below.alloc c.out.below.size _) yD.out c.out.below.size z.out.2).mono ?_;rintro e F ⟨rfl,u⟩;have m:=aW.grid (FY z.out.1 rfl) u (aF c.out.res _);have HE:Hid (∀ u0 u1 u2 u3 u4 u5 u6 u7 u8:Value,eH w q.g.n q.g.f (some ⟨b,0,none⟩) x.n (((((((((F.setCell ⟨w.heap.size+1,0,none⟩ u0).setCell ⟨w.heap.size+1,1,none⟩ u1).setCell ⟨w.heap.size+1,2,none⟩ u2).setCell ⟨w.heap.size+1,3,none⟩ u3).setCell ⟨w.heap.size+1,4,none⟩ u4).setCell ⟨w.heap.size+1,5,none⟩ u5).setCell ⟨w.heap.size+1,6,none⟩ u6).setCell ⟨w.heap.size+1,7,none⟩ u7).setCell ⟨w.heap.size+1,8,none⟩ u8).drew):=(fun u0 u1 u2 u3 u4 u5 u6 u7 u8=>QC (c.out.below.alloc c.out.below.size _) u c.out.below.size z.out.2 (by rw [KY.out];exact Nat.le_refl _) (by omega) (fun e=>by have P:=z.out.1;obtain⟨_,k,_⟩:=P;rw [e] at k;exact wm c.out.res k O8 rfl) u0 u1 u2 u3 u4 u5 u6 u7 u8);obtain⟨o5,U,H,_⟩:=u;clear y0 y1 y2 y3 y4 y5 y6 y7 y8 yf;obtain⟨⟨_,_,_,_,_,_,_,_,_,_⟩,_⟩:=ten H.box;obtain⟨⟨u0,u1,u2,u3,u4,u5,u6,u7,u8⟩,_⟩:=nine m;obtain⟨S,J⟩:∃ S,S=bs q.out:=⟨_,rfl⟩;have aa:(convert 106 9 (.slice o5 q.out.length U)).run prog F.drew=.ok (.string S) F.drew:=(by rw [J];exact run_text F.drew 0 q.out.length U o5 q.out rfl H.own.drew);have La:=gH J;have ac:p.heap.size < F.heap.size:=H.lt;clear J H m z c yD))
 have ab:p.heap.size≠w.heap.size+1:=by omega
 have W:w.heap.size+1≠p.heap.size:=by omega
 go_region;go_wp2;refine bodyPost_ret (v:=.tuple #[.string S,ay q.g (some ⟨b,0,none⟩) x.n,.int .i64 0]) (by simp [results,results92,go_sem, *]) rfl ?_;exact⟨some ⟨b,0,none⟩,x.n,by rw [La.out],HE.out _ _ _ _ _ _ _ _ _⟩
end Go.Proofs.YtkcdcamophkdlaaGreatDoor
