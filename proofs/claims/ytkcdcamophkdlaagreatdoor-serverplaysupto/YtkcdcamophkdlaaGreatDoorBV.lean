import Derived.Test.YtkcdcamophkdlaaGreatDoorBU
set_option maxHeartbeats 4000000
set_option maxRecDepth 20000
open Go.Proofs.Tryz
namespace Go.Proofs.YtkcdcamophkdlaaGreatDoor
open Go.RowKit
theorem aeb (g:Gr) (h:OkG g) (b cap:Nat) (w:World) (O:av w b g.n g.f) (H:g.n<=cap) (V:Option Addr) (U lc:Nat) (p q:Int) (W:Hid (qN w V U lc p q)) (S:0<=p) (fB:p<=999) (l:List Int) (hl:l.length<=140737488355328) (R:U=l.length) (hr:bV w V l) (m:Int) (Z:m=max p 1) (x:Gr) (I:x=fH g l):
  kC 57 #[ay g (some ⟨b,0,none⟩) cap,.int .i64 109,.slice V U lc] w (jr w b x):=by
 have:=O.lt;have HS:Hid (av w b g.n g.f∧g.n<=cap):=⟨O,H⟩;have:=h.c1;have:=h.c2;have:=h.w1;have:=h.w2;have:=h.r1;have:=h.r2;have:=h.h1;have:=h.h2;obtain⟨q1,q2,q3,q4,_⟩:=h.nums;obtain⟨P,Y⟩:∃ P,P=g.row*g.wide:=⟨_,rfl⟩;have:IntKind.i64.wrap (g.row*g.wide)=P:=by rw [<-Y,IntKind.wrap_i64];omega
 have:0<=P:=by omega
 have:P<=240:=by omega
 have:(if p < 1 then (1:Int) else p)=m:=by rw [rQ,Z]
 obtain⟨k,Q⟩:∃ k,(if g.wide - 1 < g.col then g.wide - 1 else g.col)=k:=⟨_,rfl⟩;have:Hid (k=aZ g):=by show k=aZ g;rw [<-Q];unfold aZ;split <;>omega
 have:0<=k:=by rw [<-Q];split <;>omega
 have:k<=24:=by rw [<-Q];split <;>omega
 have:1<=m:=by omega
 have:m<=999:=by omega
 have HR:=gH hr;have HX:=gH I;obtain⟨_,_,_,X,M⟩:=Oh h l;have E:Hid (x.n=g.n∧x.f=g.f):=⟨by rw [I];exact X,by rw [I];exact M⟩;clear hr X M;subst R;clear O h I H q1 q2 q3 q4 Y Z S fB;go_enter func57,ntmps57
 go_wp2_with (first
  | (go_at_call_of 78 (Value.int IntKind.i64 0);refine(W.out _ (aO _ _ _)).1.mono ?_;rintro e w1 ⟨rfl,rfl⟩)
  | (go_at_call_of 78 (Value.int IntKind.i64 1);refine(W.out _ (aO _ _ _)).2.mono ?_;rintro e w1 ⟨rfl,rfl⟩))
 go_loopw [175] (fun i wr=>∃ k:Nat,k<=l.length∧i=.int .i64 k∧ni w (fH g (l.take k)) (some ⟨b,0,none⟩) cap wr) (fun i _=>l.length - (intOf i).toNat)
 case atStart=>exact⟨0,Nat.zero_le _,rfl,aF (at_new w _) _,bK w _ _,aO _ _ _⟩
 case round=>
  obtain⟨a,_,rfl,r⟩:=hrel;obtain⟨s,j⟩:∃ s,s=fH g (l.take a):=⟨_,rfl⟩;rw [<-j] at r;have o:=gH r;by_cases d:a < l.length
  ·obtain⟨_,_,rfl,H⟩:=(HR.out.below r.below).resolve_left (fun e=>by rw [e] at d;simp at d);have t:=H a d;obtain⟨y,T⟩:∃ y,y=l.getD a 0:=⟨_,rfl⟩;rw [<-T] at t;have C:Hid (fH g (l.take (a+1))=o9 s y):=(by show fH g (l.take (a+1))=_;rw [j,T];exact RV d);obtain⟨⟨Po,x1,x2,x3,x4,x5,x6,x7,x8⟩,z⟩:=nine r.box;have:(a:Int) < (l.length:Int):=(by omega);have:(0:Int)<=(a:Int):=(by omega);clear H T r j;by_cases u:y=0
   ·subst u;go_wp2;go_roundw
    case rel=>exact⟨a+1,by omega,by go_num,by rw [C.out];exact(o.out.aA 0).bold false⟩
    case measure=>simp [intOf];omega
   by_cases A:y=1
   ·subst A;go_wp2;go_roundw
    case rel=>exact⟨a+1,by omega,by go_num,by rw [C.out];exact o.out.bold true⟩
    case measure=>simp [intOf];omega
   by_cases B:y=22
   ·subst B;go_wp2;go_roundw
    case rel=>exact⟨a+1,by omega,by go_num,by rw [C.out];exact o.out.bold false⟩
    case measure=>simp [intOf];omega
   by_cases D:y=39
   ·subst D;go_wp2;go_roundw
    case rel=>exact⟨a+1,by omega,by go_num,by rw [C.out];exact o.out.aA 0⟩
    case measure=>simp [intOf];omega
   have:(y==0)=false:=(by simp [u]);have K:(y==1)=false:=(by simp [A]);have L:(y==22)=false:=(by simp [B]);have M:(y==39)=false:=(by simp [D]);by_cases F:30<=y∧y<=37
   ·have J:Hid (fH g (l.take (a+1))={s with aA:=y - 29}):=by
     show fH g (l.take (a+1))=_;rw [C.out];unfold o9;rw [if_neg u,if_neg A,if_neg B,if_pos F]
    obtain⟨G,N⟩:=F;clear u A B D;go_wp2;go_roundw
    case rel=>exact⟨a+1,by omega,by go_num,by rw [J.out];exact o.out.aA (y - 29)⟩
    case measure=>simp [intOf];omega
   ·have J:Hid (fH g (l.take (a+1))=s):=by
     show fH g (l.take (a+1))=_;rw [C.out];unfold o9;rw [if_neg u,if_neg A,if_neg B,if_neg F,if_neg D]
    by_cases G:30<=y
    ·have N:37 < y:=(by omega);clear u A B D F;go_wp2;go_roundw
     case rel=>exact⟨a+1,by omega,by go_num,by rw [J.out];exact o.out⟩
     case measure=>simp [intOf];omega
    ·have:y < 30:=(by omega);clear u A B D F G;go_wp2;go_roundw
     case rel=>exact⟨a+1,by omega,by go_num,by rw [J.out];exact o.out⟩
     case measure=>simp [intOf];omega
  ·have HE:Hid (x=s):=by
    show x=s;rw [HX.out,j,List.take_of_length_le (by omega)]
   obtain⟨⟨Po,x1,x2,x3,x4,x5,x6,x7,x8⟩,z⟩:=nine r.box;obtain⟨⟨_,_,_,_,_,_,_,_,_⟩,v⟩:=nine r.res;have:(l.length:Int)<=(a:Int):=(by omega);clear r j;go_wp2;refine bodyPost_ret (v:=ay s (some ⟨b,0,none⟩) cap) (by simp [results,results57,go_sem, *]) rfl ?_;have K:=E.out.1;have L:=E.out.2;rw [HE.out] at K L ⊢;exact LK o HS K L _ _ _ _ _ _ _ _ _
def Li (w:World) (b:Nat) (y:Gr) (wx:World):Prop:=∃ b' cap',wx.heap[w.heap.size]?=some (aB y (some ⟨b',0,none⟩) cap')∧wx.heap[w.heap.size+1]?=some aV∧av wx b' y.n y.f∧y.n<=cap'∧(b'=b∨w.heap.size+2<=b')∧Below w.heap.size w wx
theorem Sr {w e:World} {b d cap' cap:Nat} {y g:Gr} {h:Option Addr} (o:b < w.heap.size) (p:av e d y.n y.f) (m:y.n<=cap') (l:d=b∨((w.alloc (aB g h cap)).alloc aV).heap.size<=d) (a:Below ((w.alloc (aB g h cap)).alloc aV).heap.size ((w.alloc (aB g h cap)).alloc aV) e):
  Li w b y (((((((((e.setCell ⟨w.heap.size,0,none⟩ (.int .i64 y.wide)).setCell ⟨w.heap.size,1,none⟩ (.int .i64 y.high)).setCell ⟨w.heap.size,2,none⟩ (.slice (some ⟨d,0,none⟩) y.n cap')).setCell ⟨w.heap.size,3,none⟩ (.int .i64 y.row)).setCell ⟨w.heap.size,4,none⟩ (.int .i64 y.col)).setCell ⟨w.heap.size,5,none⟩ (.int .i64 y.aA)).setCell ⟨w.heap.size,6,none⟩ (.bool y.bold)).setCell ⟨w.heap.size,7,none⟩ (.int .i64 y.top)).setCell ⟨w.heap.size,8,none⟩ (.int .i64 y.bottom)):=by
 have i:Below w.heap.size w e:=(aO w _ _).trans (a.mono (by simp;omega));have j:d=b∨w.heap.size+2<=d:=by simp at l;omega
 exact⟨d,cap',Gs (aG a (aF (at_new w _) _) (by simp;omega)) _ _ _ _ _ _ _ _ _,zC (aG a (bK w _ _) (by simp)) (by omega) _ _ _ _ _ _ _ _ _,iC p (by omega) _ _ _ _ _ _ _ _ _,m,j,iZ i (Nat.le_refl _) _ _ _ _ _ _ _ _ _⟩
theorem TN {w e:World} {b a cap':Nat} {y x:Gr} (m:b < w.heap.size) (o:av e a y.n y.f) (l:y.n<=cap') (q:a=b∨w.heap.size+2<=a) (d:Below w.heap.size w e) (p:x={y with col:=0}) (h u0 u1 u2 u3 u4 u5 u6 u7 u8:Value):
  jr w b x (.returned (ay x (some ⟨a,0,none⟩) cap')) ((((((((((e.setCell ⟨w.heap.size,4,none⟩ h).setCell ⟨w.heap.size+1,0,none⟩ u0).setCell ⟨w.heap.size+1,1,none⟩ u1).setCell ⟨w.heap.size+1,2,none⟩ u2).setCell ⟨w.heap.size+1,3,none⟩ u3).setCell ⟨w.heap.size+1,4,none⟩ u4).setCell ⟨w.heap.size+1,5,none⟩ u5).setCell ⟨w.heap.size+1,6,none⟩ u6).setCell ⟨w.heap.size+1,7,none⟩ u7).setCell ⟨w.heap.size+1,8,none⟩ u8):=by
 subst p;have i:av (e.setCell ⟨w.heap.size,4,none⟩ h) a y.n y.f:=o.set (by show w.heap.size≠a;omega) _;have j:Below w.heap.size w (e.setCell ⟨w.heap.size,4,none⟩ h):=d.setCell (Nat.le_refl _) _;exact⟨a,cap',rfl,iC i (by omega) _ _ _ _ _ _ _ _ _,l,Below.nO (iZ j (by omega) _ _ _ _ _ _ _ _ _) _,by omega⟩
theorem ad7 (g:Gr) (h:OkG g) (b cap:Nat) (w:World) (j:av w b g.n g.f) (G:g.n<=cap) (lo:Option Addr) (ln lc:Nat) (p q:Int) (t:Hid (qN w lo ln lc p q)) (s:0<=p) (V:p<=999) (m:Int) (S:m=max p 1) (x:Gr) (O:x=mY g m mO):
  kC 57 #[ay g (some ⟨b,0,none⟩) cap,.int .i64 76,.slice lo ln lc] w (jr w b x):=by
 have J:=j.lt;have U:Hid (av w b g.n g.f∧g.n<=cap):=⟨j,G⟩;have ad:=h.c1;have ae:=h.c2;have ao:=h.w1;have ap:=h.w2;have aa:=h.r1;have ak:=h.r2;have af:=h.h1;have nH:=h.h2;obtain⟨q1,q2,q3,q4,_⟩:=h.nums;obtain⟨P,R⟩:∃ P,P=g.row*g.wide:=⟨_,rfl⟩;have uL:IntKind.i64.wrap (g.row*g.wide)=P:=by rw [<-R,IntKind.wrap_i64];omega
 have jU:0<=P:=by omega
 have ac:P<=240:=by omega
 have aj:(if p < 1 then (1:Int) else p)=m:=by rw [rQ,S]
 obtain⟨k,Z⟩:∃ k,(if g.wide - 1 < g.col then g.wide - 1 else g.col)=k:=⟨_,rfl⟩;have mH:Hid (k=aZ g):=by show k=aZ g;rw [<-Z];unfold aZ;split <;>omega
 have ag:0<=k:=by rw [<-Z];split <;>omega
 have ah:k<=24:=by rw [<-Z];split <;>omega
 have ai:1<=m:=by omega
 have rG:m<=999:=by omega
 have al:=h.t1;have am:=h.t2;have an:=h.t3;have En:Hid ((g.row < g.top∨g.bottom<=g.row)->∀ o1 o2:Obj,jr w b x (.returned (.agg #[.int .i64 g.wide,.int .i64 g.high,.slice (some ⟨b,0,none⟩) g.n cap,.int .i64 g.row,.int .i64 g.col,.int .i64 g.aA,.bool g.bold,.int .i64 g.top,.int .i64 g.bottom])) ((w.alloc o1).alloc o2)):=by
  intro ho o1 o2;have e:x=g:=(by rw [O];unfold mY;rw [if_pos ho]);rw [e];exact⟨b,cap,rfl,(U.out.1.alloc _).alloc _,U.out.2,bB (bB (eP _ _) _) _,.inl rfl⟩
 by_cases r:g.row < g.top
 ·clear j h O G q1 q2 q3 q4 R S s V;go_enter func57,ntmps57
  go_wp2_with (first
  | (go_at_call_of 78 (Value.int IntKind.i64 0);refine(t.out _ (aO _ _ _)).1.mono ?_;rintro e Q ⟨rfl,rfl⟩)
  | (go_at_call_of 78 (Value.int IntKind.i64 1);refine(t.out _ (aO _ _ _)).2.mono ?_;rintro e Q ⟨rfl,rfl⟩))
  refine bodyPost_ret (by simp [results,results57,go_sem];rfl) rfl ?_;exact En.out (.inl r) _ _
 by_cases K:g.bottom<=g.row
 ·have Nk:g.top<=g.row:=(by omega);clear r;clear j h O G q1 q2 q3 q4 R S s V;go_enter func57,ntmps57
  go_wp2_with (first
  | (go_at_call_of 78 (Value.int IntKind.i64 0);refine(t.out _ (aO _ _ _)).1.mono ?_;rintro e Q ⟨rfl,rfl⟩)
  | (go_at_call_of 78 (Value.int IntKind.i64 1);refine(t.out _ (aO _ _ _)).2.mono ?_;rintro e Q ⟨rfl,rfl⟩))
  refine bodyPost_ret (by simp [results,results57,go_sem];rfl) rfl ?_;exact En.out (.inr K) _ _
 have Nk:g.top<=g.row:=by omega
 have ab:g.row < g.bottom:=by omega
 obtain⟨X,l⟩:∃ X,X=mO g.f (g.row*g.wide).toNat (g.bottom*g.wide).toNat (min m (g.bottom - g.row)*g.wide).toNat:=⟨_,rfl⟩;obtain⟨y,hy⟩:∃ y:Gr,y=⟨g.wide,g.high,g.n,X,g.row,g.col,g.aA,g.bold,g.top,g.bottom⟩:=⟨_,rfl⟩;have qQ:Hid (∀ w,av w b g.n g.f->kC 77 #[ay g (some ⟨b,0,none⟩) cap,.int .i64 g.row,.int .i64 g.bottom,.int .i64 (-m)] w (wV w b y)):=by
  intro w j;rw [hy];refine OG g h b cap w j G g.row g.bottom (-m) aa (by omega) h.t3 (by omega) (by omega) _ ?_;intro W H Y hH i hi;obtain⟨A,hA⟩:∃ A:Nat,g.row=A:=⟨g.row.toNat,by omega⟩;obtain⟨B,hB⟩:∃ B:Nat,g.bottom=B:=⟨g.bottom.toNat,by omega⟩;obtain⟨M,hM⟩:∃ M:Nat,m=M:=⟨m.toNat,by omega⟩;have:=afa g W H A B M (by omega) i hi;rw [l,xQ hA Y,xQ hB Y,xQ (show min m (g.bottom - g.row)=((min M (B - A):Nat):Int) by omega) Y,hA,hB,hM];exact this
 have HX:Hid (x={y with col:=0}):=by
  show x=_;rw [O,hy,l];unfold mY;rw [if_neg (by omega)]
 clear r K hy l;clear j h O G q1 q2 q3 q4 R S s V;go_enter func57,ntmps57
 go_upto_region 44 with (first
  | (go_at_call_of 78 (Value.int IntKind.i64 0);refine(t.out _ (aO _ _ _)).1.mono ?_;rintro e Q ⟨rfl,rfl⟩)
  | (go_at_call_of 78 (Value.int IntKind.i64 1);refine(t.out _ (aO _ _ _)).2.mono ?_;rintro e Q ⟨rfl,rfl⟩))
 go_cut [7] from 163 to 169 (fun _ wx=>Li w b y wx)
 case first=>
  go_wp2_with (first
  | (go_at_call 77;refine(qQ.out _ ((U.out.1.alloc _).alloc _)).mono ?_;rintro e w2 ⟨d,a,rfl,N,I,E,o⟩;obtain⟨⟨_,_,_,_,_,_,_,_,_⟩,_⟩:=nine (aG o (aF (at_new w _) _) (by simp;omega));have T:Hid (av w2 d y.n y.f∧y.n<=a∧(d=b∨((w.alloc (aB g (some ⟨b,0,none⟩) cap)).alloc aV).heap.size<=d)∧Below ((w.alloc (aB g (some ⟨b,0,none⟩) cap)).alloc aV).heap.size ((w.alloc (aB g (some ⟨b,0,none⟩) cap)).alloc aV) w2):=⟨N,I,E,o⟩;clear N I E o))
  go_meet;obtain⟨u,z,C,D⟩:=T.out;exact Sr J u z C D
 case rest=>
  obtain⟨d,a,F,L,u,z,C,D⟩:=hcut;have T:Hid (av _ d y.n y.f∧y.n<=a∧(d=b∨w.heap.size+2<=d)∧Below w.heap.size w _):=⟨u,z,C,D⟩;obtain⟨⟨_,_,_,_,_,_,_,_,_⟩,_⟩:=nine F;obtain⟨⟨_,_,_,_,_,_,_,_,_⟩,v⟩:=nine L;clear F L u z C D;go_wp2;refine bodyPost_ret (v:=ay x (some ⟨d,0,none⟩) a) (by rw [HX.out];simp [results,results57,go_sem, *]) rfl ?_;obtain⟨u,z,C,D⟩:=T.out;exact TN J u z C D HX.out _ _ _ _ _ _ _ _ _ _
theorem ad8 (g:Gr) (h:OkG g) (b cap:Nat) (w:World) (j:av w b g.n g.f) (G:g.n<=cap) (lo:Option Addr) (ln lc:Nat) (p q:Int) (t:Hid (qN w lo ln lc p q)) (s:0<=p) (V:p<=999) (m:Int) (S:m=max p 1) (x:Gr) (O:x=mY g m kK):
  kC 57 #[ay g (some ⟨b,0,none⟩) cap,.int .i64 77,.slice lo ln lc] w (jr w b x):=by
 have J:=j.lt;have U:Hid (av w b g.n g.f∧g.n<=cap):=⟨j,G⟩;have ad:=h.c1;have ae:=h.c2;have ao:=h.w1;have ap:=h.w2;have aa:=h.r1;have ak:=h.r2;have af:=h.h1;have nH:=h.h2;obtain⟨q1,q2,q3,q4,_⟩:=h.nums;obtain⟨P,R⟩:∃ P,P=g.row*g.wide:=⟨_,rfl⟩;have uL:IntKind.i64.wrap (g.row*g.wide)=P:=by rw [<-R,IntKind.wrap_i64];omega
 have jU:0<=P:=by omega
 have ac:P<=240:=by omega
 have aj:(if p < 1 then (1:Int) else p)=m:=by rw [rQ,S]
 obtain⟨k,Z⟩:∃ k,(if g.wide - 1 < g.col then g.wide - 1 else g.col)=k:=⟨_,rfl⟩;have mH:Hid (k=aZ g):=by show k=aZ g;rw [<-Z];unfold aZ;split <;>omega
 have ag:0<=k:=by rw [<-Z];split <;>omega
 have ah:k<=24:=by rw [<-Z];split <;>omega
 have ai:1<=m:=by omega
 have rG:m<=999:=by omega
 have al:=h.t1;have am:=h.t2;have an:=h.t3;have En:Hid ((g.row < g.top∨g.bottom<=g.row)->∀ o1 o2:Obj,jr w b x (.returned (.agg #[.int .i64 g.wide,.int .i64 g.high,.slice (some ⟨b,0,none⟩) g.n cap,.int .i64 g.row,.int .i64 g.col,.int .i64 g.aA,.bool g.bold,.int .i64 g.top,.int .i64 g.bottom])) ((w.alloc o1).alloc o2)):=by
  intro ho o1 o2;have e:x=g:=(by rw [O];unfold mY;rw [if_pos ho]);rw [e];exact⟨b,cap,rfl,(U.out.1.alloc _).alloc _,U.out.2,bB (bB (eP _ _) _) _,.inl rfl⟩
 by_cases r:g.row < g.top
 ·clear j h O G q1 q2 q3 q4 R S s V;go_enter func57,ntmps57
  go_wp2_with (first
  | (go_at_call_of 78 (Value.int IntKind.i64 0);refine(t.out _ (aO _ _ _)).1.mono ?_;rintro e Q ⟨rfl,rfl⟩)
  | (go_at_call_of 78 (Value.int IntKind.i64 1);refine(t.out _ (aO _ _ _)).2.mono ?_;rintro e Q ⟨rfl,rfl⟩))
  refine bodyPost_ret (by simp [results,results57,go_sem];rfl) rfl ?_;exact En.out (.inl r) _ _
 by_cases K:g.bottom<=g.row
 ·have Nk:g.top<=g.row:=(by omega);clear r;clear j h O G q1 q2 q3 q4 R S s V;go_enter func57,ntmps57
  go_wp2_with (first
  | (go_at_call_of 78 (Value.int IntKind.i64 0);refine(t.out _ (aO _ _ _)).1.mono ?_;rintro e Q ⟨rfl,rfl⟩)
  | (go_at_call_of 78 (Value.int IntKind.i64 1);refine(t.out _ (aO _ _ _)).2.mono ?_;rintro e Q ⟨rfl,rfl⟩))
  refine bodyPost_ret (by simp [results,results57,go_sem];rfl) rfl ?_;exact En.out (.inr K) _ _
 have Nk:g.top<=g.row:=by omega
 have ab:g.row < g.bottom:=by omega
 obtain⟨X,l⟩:∃ X,X=kK g.f (g.row*g.wide).toNat (g.bottom*g.wide).toNat (min m (g.bottom - g.row)*g.wide).toNat:=⟨_,rfl⟩;obtain⟨y,hy⟩:∃ y:Gr,y=⟨g.wide,g.high,g.n,X,g.row,g.col,g.aA,g.bold,g.top,g.bottom⟩:=⟨_,rfl⟩;have qQ:Hid (∀ w,av w b g.n g.f->kC 77 #[ay g (some ⟨b,0,none⟩) cap,.int .i64 g.row,.int .i64 g.bottom,.int .i64 m] w (wV w b y)):=by
  intro w j;rw [hy];refine OG g h b cap w j G g.row g.bottom m aa (by omega) h.t3 (by omega) (by omega) _ ?_;intro W H Y hH i hi;obtain⟨A,hA⟩:∃ A:Nat,g.row=A:=⟨g.row.toNat,by omega⟩;obtain⟨B,hB⟩:∃ B:Nat,g.bottom=B:=⟨g.bottom.toNat,by omega⟩;obtain⟨M,hM⟩:∃ M:Nat,m=M:=⟨m.toNat,by omega⟩;have:=Ua g W H A B M (by omega) i hi;rw [l,xQ hA Y,xQ hB Y,xQ (show min m (g.bottom - g.row)=((min M (B - A):Nat):Int) by omega) Y,hA,hB,hM];exact this
 have HX:Hid (x={y with col:=0}):=by
  show x=_;rw [O,hy,l];unfold mY;rw [if_neg (by omega)]
 clear r K hy l;clear j h O G q1 q2 q3 q4 R S s V;go_enter func57,ntmps57
 go_upto_region 44 with (first
  | (go_at_call_of 78 (Value.int IntKind.i64 0);refine(t.out _ (aO _ _ _)).1.mono ?_;rintro e Q ⟨rfl,rfl⟩)
  | (go_at_call_of 78 (Value.int IntKind.i64 1);refine(t.out _ (aO _ _ _)).2.mono ?_;rintro e Q ⟨rfl,rfl⟩))
 go_cut [7] from 163 to 169 (fun _ wx=>Li w b y wx)
 case first=>
  go_wp2_with (first
  | (go_at_call 77;refine(qQ.out _ ((U.out.1.alloc _).alloc _)).mono ?_;rintro e w2 ⟨d,a,rfl,N,I,E,o⟩;obtain⟨⟨_,_,_,_,_,_,_,_,_⟩,_⟩:=nine (aG o (aF (at_new w _) _) (by simp;omega));have T:Hid (av w2 d y.n y.f∧y.n<=a∧(d=b∨((w.alloc (aB g (some ⟨b,0,none⟩) cap)).alloc aV).heap.size<=d)∧Below ((w.alloc (aB g (some ⟨b,0,none⟩) cap)).alloc aV).heap.size ((w.alloc (aB g (some ⟨b,0,none⟩) cap)).alloc aV) w2):=⟨N,I,E,o⟩;clear N I E o))
  go_meet;obtain⟨u,z,C,D⟩:=T.out;exact Sr J u z C D
 case rest=>
  obtain⟨d,a,F,L,u,z,C,D⟩:=hcut;have T:Hid (av _ d y.n y.f∧y.n<=a∧(d=b∨w.heap.size+2<=d)∧Below w.heap.size w _):=⟨u,z,C,D⟩;obtain⟨⟨_,_,_,_,_,_,_,_,_⟩,_⟩:=nine F;obtain⟨⟨_,_,_,_,_,_,_,_,_⟩,v⟩:=nine L;clear F L u z C D;go_wp2;refine bodyPost_ret (v:=ay x (some ⟨d,0,none⟩) a) (by rw [HX.out];simp [results,results57,go_sem, *]) rfl ?_;obtain⟨u,z,C,D⟩:=T.out;exact TN J u z C D HX.out _ _ _ _ _ _ _ _ _ _
theorem ad4 (g:Gr) (h:OkG g) (b cap:Nat) (w:World) (j:av w b g.n g.f) (t:g.n<=cap) (A:Option Addr) (z y:Nat) (p q:Int) (d:Hid (qN w A z y p q)) (o:0<=p) (J:p<=999) (N:0<=q) (V:q<=999) (m:Int) (u:m=max p 1) (x:Gr) (v:x={g with row:=min m g.high - 1,col:=max 1 (min q g.wide) - 1}):
  kC 57 #[ay g (some ⟨b,0,none⟩) cap,.int .i64 72,.slice A z y] w (jr w b x):=by
 have:=j.lt;have r:Hid (av w b g.n g.f∧g.n<=cap):=⟨j,t⟩;have:=h.c1;have:=h.c2;have:=h.w1;have:=h.w2;have:=h.r1;have:=h.r2;have:=h.h1;have:=h.h2;obtain⟨O,S,T,U,_⟩:=h.nums;obtain⟨P,s⟩:∃ P,P=g.row*g.wide:=⟨_,rfl⟩;have:IntKind.i64.wrap (g.row*g.wide)=P:=by rw [<-s,IntKind.wrap_i64];omega
 have:0<=P:=by omega
 have:P<=240:=by omega
 have:(if p < 1 then (1:Int) else p)=m:=by rw [rQ,u]
 obtain⟨k,l⟩:∃ k,(if g.wide - 1 < g.col then g.wide - 1 else g.col)=k:=⟨_,rfl⟩;have:Hid (k=aZ g):=by show k=aZ g;rw [<-l];unfold aZ;split <;>omega
 have:0<=k:=by rw [<-l];split <;>omega
 have:k<=24:=by rw [<-l];split <;>omega
 have:1<=m:=by omega
 have:m<=999:=by omega
 obtain⟨R,M⟩:∃ R,(if g.high < m then g.high else m)=R:=⟨_,rfl⟩;obtain⟨Q,L⟩:∃ Q,(if q < 1 then (1:Int) else q)=Q:=⟨_,rfl⟩;obtain⟨C,K⟩:∃ C,(if g.wide < Q then g.wide else Q)=C:=⟨_,rfl⟩;have I:R=min m g.high:=by rw [<-M,Sl]
 have i:Q=max q 1:=by rw [<-L,rQ]
 have G:C=min Q g.wide:=by rw [<-K,Sl]
 have H:Hid (x=⟨g.wide,g.high,g.n,g.f,R - 1,C - 1,g.aA,g.bold,g.top,g.bottom⟩):=by
  show x=_;rw [v,show R - 1=min m g.high - 1 by omega,show C - 1=max 1 (min q g.wide) - 1 by omega]
 have a:Hid (∀ B D:Obj,jr w b x (.returned (.agg #[.int .i64 g.wide,.int .i64 g.high,.slice (some ⟨b,0,none⟩) g.n cap,.int .i64 (R - 1),.int .i64 (C - 1),.int .i64 g.aA,.bool g.bold,.int .i64 g.top,.int .i64 g.bottom])) ((w.alloc B).alloc D).drew):=by
  intro B D;rw [H.out];exact⟨b,cap,rfl,av.drew ((r.out.1.alloc _).alloc _),r.out.2,om (bB (bB (eP _ _) _) _),.inl rfl⟩
 have:1<=R:=by omega
 have:R<=10:=by omega
 have:1<=C:=by omega
 have:C<=24:=by omega
 clear I i G;clear j h v t O S T U s u o J;go_enter func57,ntmps57
 go_wp2_with (first
  | (go_at_call_of 78 (Value.int IntKind.i64 0);refine(d.out _ (aO _ _ _)).1.mono ?_;rintro e F ⟨rfl,rfl⟩)
  | (go_at_call_of 78 (Value.int IntKind.i64 1);refine(d.out _ (aO _ _ _)).2.mono ?_;rintro e F ⟨rfl,rfl⟩)
  | fail)
 go_region_held3 (fun E=>E.cell? ⟨w.heap.size,0,none⟩=some (.int .i64 g.wide)∧E.cell? ⟨w.heap.size,1,none⟩=some (.int .i64 g.high)) (first | go_keep | (simp [*,World.cell?_alloc_past]))
  (first
  | (go_at_call_of 78 (Value.int IntKind.i64 1);refine(d.out _ (by first | exact aO _ _ _ | exact below_drewN (aO _ _ _) _)).2.mono ?_;rintro e F ⟨rfl,rfl⟩)
  | fail)
 all_goals (go_wp2;refine bodyPost_ret (by simp [results,results57,go_sem];rfl) rfl ?_;exact a.out _ _)
variable (f:Nat->aH) (g:Gr) (k:Nat) (c:Nat->Bool) {w:World}
def kQ (f:Nat->aH) (k:Nat) (c:Nat->Bool):Nat->aH:=fun i=>if i < k∧c i=true then aX else f i
theorem Dr (h:c k=true):gV (kQ f k c) k aX=kQ f (k+1) c:=by
 funext i;unfold gV kQ;by_cases b:i=k
 ·subst b;rw [if_pos rfl,if_pos ⟨by omega,h⟩]
 ·rw [if_neg b];by_cases a:i < k∧c i=true
  ·rw [if_pos a,if_pos ⟨by omega,a.2⟩]
  ·rw [if_neg a,if_neg (fun e=>a ⟨by omega,e.2⟩)]
theorem Bd (h:c k=false):kQ f k c=kQ f (k+1) c:=by
 funext i;unfold kQ;by_cases a:i < k∧c i=true
 ·rw [if_pos a,if_pos ⟨by omega,a.2⟩]
 ·rw [if_neg a,if_neg];rintro⟨_,b⟩;have:i=k:=by
   by_cases d:i < k
   ·exact absurd ⟨d,b⟩ a
   ·omega
  subst this;rw [h] at b;exact absurd b (by decide)
theorem Tt:kQ f 0 c=f:=by
 funext i;unfold kQ;rw [if_neg (by omega)]
def kT (p:Int) (z:Int) (i:Nat):Bool:=decide ((p=0∧z<=i)∨(p=1∧(i:Int)<=z)∨p=2)
theorem rE {a:World} {b:Option Nat} (h:a.grownBy w b) (n:Nat):a.grownBy (w.drewN n) b:=⟨h.os,h.tape,h.output,h.size,h.block⟩
theorem fA.drewN {g:Gr} {b cap:Nat} {f:Nat->aH} {wr:World} (h:fA w g b cap f wr) (n:Nat):fA w g b cap f (wr.drewN n):=⟨h.box,h.res,h.bM,rE h.grown n⟩
theorem ad5 (h:OkG g) (b cap:Nat) (w:World) (I:av w b g.n g.f) (W:g.n<=cap) (Q:Option Addr) (O N:Nat) (p q:Int) (T:Hid (qN w Q O N p q)) (L:0<=p) (fB:p<=999) (y:Hid (∀ R,w.grownBy R (some b)->kC 78 #[.slice Q O N,.int .i64 0] R fun e S=>e=.returned (.int .i64 p)∧S=R)) (G:Nat->aH) (c:Nat->Bool) (C:∀ i:Nat,c i=kT p (g.row*g.wide+aZ g) i) (D:∀ i,i < g.n->G i=kQ g.f g.n c i) (m:Int) (X:m=max p 1) (x:Gr) (Y:x={g with f:=G}):
  kC 57 #[ay g (some ⟨b,0,none⟩) cap,.int .i64 74,.slice Q O N] w (jr w b x):=by
 have o:=I.lt;have U:Hid (av w b g.n g.f∧g.n<=cap):=⟨I,W⟩;have:=h.c1;have:=h.c2;have:=h.w1;have:=h.w2;have:=h.r1;have:=h.r2;have:=h.h1;have:=h.h2;obtain⟨q1,q2,q3,q4,_⟩:=h.nums;obtain⟨P,H⟩:∃ P,P=g.row*g.wide:=⟨_,rfl⟩;have:IntKind.i64.wrap (g.row*g.wide)=P:=by rw [<-H,IntKind.wrap_i64];omega
 have:0<=P:=by omega
 have:P<=240:=by omega
 have:(if p < 1 then (1:Int) else p)=m:=by rw [rQ,X]
 obtain⟨k,K⟩:∃ k,(if g.wide - 1 < g.col then g.wide - 1 else g.col)=k:=⟨_,rfl⟩;have mH:Hid (k=aZ g):=by show k=aZ g;rw [<-K];unfold aZ;split <;>omega
 have:0<=k:=by rw [<-K];split <;>omega
 have:k<=24:=by rw [<-K];split <;>omega
 have:1<=m:=by omega
 have:m<=999:=by omega
 obtain⟨Z,J⟩:∃ Z,Z=P+k:=⟨_,rfl⟩;have:IntKind.i64.wrap (P+k)=Z:=by rw [J,IntKind.wrap_i64];omega
 have HZ:Hid (g.row*g.wide+aZ g=Z):=by show _=Z;rw [J,H,mH.out]
 have:0<=Z:=by omega
 have:Z<=264:=by omega
 have HX:=gH Y;have z:Hid (∀ i:Nat,c i=kT p Z i):=by intro i;rw [C,HZ.out]
 have wJ:=gH D;have:g.n<=240:=by omega
 clear C D J;clear I h Y W q1 q2 q3 q4 H X L fB;go_enter func57,ntmps57
 go_wp2_with (first
  | (go_at_call_of 78 (Value.int IntKind.i64 0);refine(T.out _ (aO _ _ _)).1.mono ?_;rintro e u ⟨rfl,rfl⟩)
  | (go_at_call_of 78 (Value.int IntKind.i64 1);refine(T.out _ (aO _ _ _)).2.mono ?_;rintro e u ⟨rfl,rfl⟩))
 go_loopw [100] (fun i wr=>∃ k:Nat,k<=g.n∧i=.int .i64 k∧fA w g b cap (kQ g.f k c) wr) (fun i _=>g.n - (intOf i).toNat)
 case atStart=>exact⟨0,Nat.zero_le _,rfl,by rw [Tt];exact⟨aF (at_new w _) _,bK w _ _,(U.out.1.alloc _).alloc _,bB (bB (eP _ _) _) _⟩⟩
 case round=>
  obtain⟨a,_,rfl,s⟩:=hrel;have d:=gH s;obtain⟨⟨_,_,_,_,_,_,_,_,_⟩,_⟩:=nine s.box;obtain⟨⟨_,_,_,_,_,_,_,_,_⟩,v⟩:=nine s.res;by_cases E:a < g.n
  ·have:(a:Int) < (g.n:Int):=(by omega);have:(0:Int)<=(a:Int):=(by omega);obtain⟨t0,t1,t2,t3⟩:=s.bM.cells a E;have:∀ j,wr.frozen? ⟨b,j,none⟩=false:=s.bM.free;obtain⟨V,r⟩:∃ V,V=kQ g.f a c a:=⟨_,rfl⟩;rw [<-r] at t0 t1 t2 t3;have:IntKind.i64.wrap (a:Int)=(a:Int):=(by rw [IntKind.wrap_i64];omega);have:(a:Int) < 240:=(by omega);clear s r;by_cases A:p=0
   ·subst A;by_cases t:Z<=(a:Int)
    ·have l:Hid (c a=true):=(by show c a=true;rw [z.out];simp [kT,t]);go_wp2_with fail;go_quiet (fail);go_wp2_with (first | (go_at_call_of 78 (Value.int IntKind.i64 0);refine(y.out _ (rE d.out.grown _)).mono ?_;rintro e u ⟨rfl,rfl⟩))
     (go_roundw;(case rel=>exact⟨a+1,by omega,by go_num,by rw [<-Dr _ _ _ l.out];exact fA.put (fA.drewN d.out _) o a _ _ _ _ aX (by omega) (by omega) (by omega) (by omega) (by omega)⟩);(case measure=>simp [intOf];omega))
    ·have M:(a:Int) < Z:=(by omega);have l:Hid (c a=false):=(by show c a=false;rw [z.out];simp [kT,t]);clear t;go_wp2_with fail;go_quiet (fail);go_wp2_with (first | (go_at_call_of 78 (Value.int IntKind.i64 0);refine(y.out _ (rE d.out.grown _)).mono ?_;rintro e u ⟨rfl,rfl⟩))
     (go_roundw;(case rel=>exact⟨a+1,by omega,by go_num,by rw [<-Bd _ _ _ l.out];exact fA.drewN d.out _⟩);(case measure=>simp [intOf];omega))
   have:(p==0)=false:=(by simp [A]);by_cases B:p=1
   ·subst B;by_cases t:(a:Int)<=Z
    ·have l:Hid (c a=true):=(by show c a=true;rw [z.out];simp [kT,t]);go_wp2_with fail;go_quiet (fail);go_wp2_with (first | (go_at_call_of 78 (Value.int IntKind.i64 0);refine(y.out _ (rE d.out.grown _)).mono ?_;rintro e u ⟨rfl,rfl⟩))
     (go_roundw;(case rel=>exact⟨a+1,by omega,by go_num,by rw [<-Dr _ _ _ l.out];exact fA.put (fA.drewN d.out _) o a _ _ _ _ aX (by omega) (by omega) (by omega) (by omega) (by omega)⟩);(case measure=>simp [intOf];omega))
    ·have M:Z < (a:Int):=(by omega);have l:Hid (c a=false):=(by show c a=false;rw [z.out];simp [kT,t]);clear t;go_wp2_with fail;go_quiet (fail);go_wp2_with (first | (go_at_call_of 78 (Value.int IntKind.i64 0);refine(y.out _ (rE d.out.grown _)).mono ?_;rintro e u ⟨rfl,rfl⟩))
     (go_roundw;(case rel=>exact⟨a+1,by omega,by go_num,by rw [<-Bd _ _ _ l.out];exact fA.drewN d.out _⟩);(case measure=>simp [intOf];omega))
   have:(p==1)=false:=(by simp [B]);by_cases F:p=2
   ·subst F;have l:Hid (c a=true):=(by show c a=true;rw [z.out];simp [kT]);clear A B;go_wp2_with fail;go_quiet (fail);go_wp2_with (first | (go_at_call_of 78 (Value.int IntKind.i64 0);refine(y.out _ (rE d.out.grown _)).mono ?_;rintro e u ⟨rfl,rfl⟩))
    (go_roundw;(case rel=>exact⟨a+1,by omega,by go_num,by rw [<-Dr _ _ _ l.out];exact fA.put (fA.drewN d.out _) o a _ _ _ _ aX (by omega) (by omega) (by omega) (by omega) (by omega)⟩);(case measure=>simp [intOf];omega))
   ·have:(p==2)=false:=(by simp [F]);have l:Hid (c a=false):=(by show c a=false;rw [z.out];simp [kT,A,B,F]);clear A B F;go_wp2_with fail;go_quiet (fail);go_wp2_with (first | (go_at_call_of 78 (Value.int IntKind.i64 0);refine(y.out _ (rE d.out.grown _)).mono ?_;rintro e u ⟨rfl,rfl⟩))
    (go_roundw;(case rel=>exact⟨a+1,by omega,by go_num,by rw [<-Bd _ _ _ l.out];exact fA.drewN d.out _⟩);(case measure=>simp [intOf];omega))
  ·have:(g.n:Int)<=(a:Int):=(by omega);obtain rfl:a=g.n:=(by omega);clear s;go_wp2;refine bodyPost_ret (v:=ay {g with f:=G} (some ⟨b,0,none⟩) cap) (by simp [results,results57,go_sem, *]) rfl ?_;rw [HX.out];exact⟨b,cap,rfl,iC (d.out.bM.congr fun i hi=>(wJ.out i hi).symm) (by omega) _ _ _ _ _ _ _ _ _,U.out.2,(jC ⟨d.out.bM,d.out.grown⟩ (by omega) o _ _ _ _ _ _ _ _ _).2,.inl rfl⟩
theorem ad6 (h:OkG g) (b cap:Nat) (w:World) (Q:av w b g.n g.f) (hc:g.n<=cap) (Y:Option Addr) (X W:Nat) (p q:Int) (HN:Hid (qN w Y X W p q)) (U:0<=p) (fB:p<=999) (E:Hid (∀ w',w.grownBy w' (some b)->kC 78 #[.slice Y X W,.int .i64 0] w' fun e aa=>e=.returned (.int .i64 p)∧aa=w')) (N:Nat->aH) (c:Nat->Bool) (H:∀ i:Nat,c i=(decide ((i:Int) / g.wide=g.row) && kT p (g.row*g.wide+aZ g) i)) (J:∀ i,i < g.n->N i=kQ g.f g.n c i) (m:Int) (hm:m=max p 1) (x:Gr) (hx:x={g with f:=N}):
  kC 57 #[ay g (some ⟨b,0,none⟩) cap,.int .i64 75,.slice Y X W] w (jr w b x):=by
 have u:=Q.lt;have HS:Hid (av w b g.n g.f∧g.n<=cap):=⟨Q,hc⟩;have:=h.c1;have:=h.c2;have:=h.w1;have:=h.w2;have:=h.r1;have:=h.r2;have:=h.h1;have:=h.h2;obtain⟨q1,q2,q3,q4,_⟩:=h.nums;obtain⟨P,O⟩:∃ P,P=g.row*g.wide:=⟨_,rfl⟩;have:IntKind.i64.wrap (g.row*g.wide)=P:=by rw [<-O,IntKind.wrap_i64];omega
 have:0<=P:=by omega
 have:P<=240:=by omega
 have:(if p < 1 then (1:Int) else p)=m:=by rw [rQ,hm]
 obtain⟨k,T⟩:∃ k,(if g.wide - 1 < g.col then g.wide - 1 else g.col)=k:=⟨_,rfl⟩;have mH:Hid (k=aZ g):=by show k=aZ g;rw [<-T];unfold aZ;split <;>omega
 have:0<=k:=by rw [<-T];split <;>omega
 have:k<=24:=by rw [<-T];split <;>omega
 have:1<=m:=by omega
 have:m<=999:=by omega
 obtain⟨Z,R⟩:∃ Z,Z=P+k:=⟨_,rfl⟩;have:IntKind.i64.wrap (P+k)=Z:=by rw [R,IntKind.wrap_i64];omega
 have HZ:Hid (g.row*g.wide+aZ g=Z):=by show _=Z;rw [R,O,mH.out]
 have:0<=Z:=by omega
 have:Z<=264:=by omega
 have HX:=gH hx;have C:Hid (∀ i:Nat,c i=(decide ((i:Int) / g.wide=g.row) && kT p Z i)):=by intro i;rw [H,HZ.out]
 have wJ:=gH J;have:g.n<=240:=by omega
 clear H J R;clear Q h hx hc q1 q2 q3 q4 O hm U fB;go_enter func57,ntmps57
 go_wp2_with (first
  | (go_at_call_of 78 (Value.int IntKind.i64 0);refine(HN.out _ (aO _ _ _)).1.mono ?_;rintro e D ⟨rfl,rfl⟩)
  | (go_at_call_of 78 (Value.int IntKind.i64 1);refine(HN.out _ (aO _ _ _)).2.mono ?_;rintro e D ⟨rfl,rfl⟩))
 go_loopw [100] (fun i wr=>∃ k:Nat,k<=g.n∧i=.int .i64 k∧fA w g b cap (kQ g.f k c) wr) (fun i _=>g.n - (intOf i).toNat)
 case atStart=>exact⟨0,Nat.zero_le _,rfl,by rw [Tt];exact⟨aF (at_new w _) _,bK w _ _,(HS.out.1.alloc _).alloc _,bB (bB (eP _ _) _) _⟩⟩
 case round=>
  obtain⟨a,_,rfl,A⟩:=hrel;have l:=gH A;obtain⟨⟨_,_,_,_,_,_,_,_,_⟩,_⟩:=nine A.box;obtain⟨⟨_,_,_,_,_,_,_,_,_⟩,v⟩:=nine A.res;by_cases K:a < g.n
  ·have:(a:Int) < (g.n:Int):=(by omega);have t:(0:Int)<=(a:Int):=(by omega);obtain⟨t0,t1,t2,t3⟩:=A.bM.cells a K;have:∀ j,wr.frozen? ⟨b,j,none⟩=false:=A.bM.free;obtain⟨c0,y⟩:∃ c0,c0=kQ g.f a c a:=⟨_,rfl⟩;rw [<-y] at t0 t1 t2 t3;have:IntKind.i64.wrap (a:Int)=(a:Int):=(by rw [IntKind.wrap_i64];omega);have:(a:Int) < 240:=(by omega);clear A y;obtain⟨d,I⟩:∃ d,(a:Int) / g.wide=d:=⟨_,rfl⟩;have:(a:Int).tdiv g.wide=d:=(by rw [Int.tdiv_eq_ediv_of_nonneg t];exact I);have:0<=d:=(by rw [<-I];exact Int.ediv_nonneg t (by omega));have S:d<=a:=(by rw [<-I];exact Int.ediv_le_self _ t);have:d<=240:=(by omega);have:(g.wide==0)=false:=(by simp;omega);have:IntKind.i64.wrap d=d:=(by rw [IntKind.wrap_i64];omega);have z:=gH I;clear I S;by_cases s:d=g.row
   ·have M:(d==g.row)=true:=(by simp [s]);have o:=gH s;clear s;by_cases F:p=0
    ·subst F;by_cases B:Z<=(a:Int)
     ·have r:Hid (c a=true):=(by show c a=true;rw [C.out,z.out,o.out];simp [kT,B]);go_wp2_with fail;go_quiet (fail);go_wp2_with (first | (go_at_call_of 78 (Value.int IntKind.i64 0);refine(E.out _ (rE l.out.grown _)).mono ?_;rintro e D ⟨rfl,rfl⟩))
      (go_roundw;(case rel=>exact⟨a+1,by omega,by go_num,by rw [<-Dr _ _ _ r.out];exact fA.put (fA.drewN l.out _) u a _ _ _ _ aX (by omega) (by omega) (by omega) (by omega) (by omega)⟩);(case measure=>simp [intOf];omega))
     ·have V:(a:Int) < Z:=(by omega);have r:Hid (c a=false):=(by show c a=false;rw [C.out,z.out,o.out];simp [kT,B]);clear B;go_wp2_with fail;go_quiet (fail);go_wp2_with (first | (go_at_call_of 78 (Value.int IntKind.i64 0);refine(E.out _ (rE l.out.grown _)).mono ?_;rintro e D ⟨rfl,rfl⟩))
      (go_roundw;(case rel=>exact⟨a+1,by omega,by go_num,by rw [<-Bd _ _ _ r.out];exact fA.drewN l.out _⟩);(case measure=>simp [intOf];omega))
    have:(p==0)=false:=(by simp [F]);by_cases G:p=1
    ·subst G;by_cases B:(a:Int)<=Z
     ·have r:Hid (c a=true):=(by show c a=true;rw [C.out,z.out,o.out];simp [kT,B]);go_wp2_with fail;go_quiet (fail);go_wp2_with (first | (go_at_call_of 78 (Value.int IntKind.i64 0);refine(E.out _ (rE l.out.grown _)).mono ?_;rintro e D ⟨rfl,rfl⟩))
      (go_roundw;(case rel=>exact⟨a+1,by omega,by go_num,by rw [<-Dr _ _ _ r.out];exact fA.put (fA.drewN l.out _) u a _ _ _ _ aX (by omega) (by omega) (by omega) (by omega) (by omega)⟩);(case measure=>simp [intOf];omega))
     ·have V:Z < (a:Int):=(by omega);have r:Hid (c a=false):=(by show c a=false;rw [C.out,z.out,o.out];simp [kT,B]);clear B;go_wp2_with fail;go_quiet (fail);go_wp2_with (first | (go_at_call_of 78 (Value.int IntKind.i64 0);refine(E.out _ (rE l.out.grown _)).mono ?_;rintro e D ⟨rfl,rfl⟩))
      (go_roundw;(case rel=>exact⟨a+1,by omega,by go_num,by rw [<-Bd _ _ _ r.out];exact fA.drewN l.out _⟩);(case measure=>simp [intOf];omega))
    have:(p==1)=false:=(by simp [G]);by_cases L:p=2
    ·subst L;have r:Hid (c a=true):=(by show c a=true;rw [C.out,z.out,o.out];simp [kT]);clear F G;go_wp2_with fail;go_quiet (fail);go_wp2_with (first | (go_at_call_of 78 (Value.int IntKind.i64 0);refine(E.out _ (rE l.out.grown _)).mono ?_;rintro e D ⟨rfl,rfl⟩))
     (go_roundw;(case rel=>exact⟨a+1,by omega,by go_num,by rw [<-Dr _ _ _ r.out];exact fA.put (fA.drewN l.out _) u a _ _ _ _ aX (by omega) (by omega) (by omega) (by omega) (by omega)⟩);(case measure=>simp [intOf];omega))
    ·have:(p==2)=false:=(by simp [L]);have r:Hid (c a=false):=(by show c a=false;rw [C.out,z.out,o.out];simp [kT,F,G,L]);clear F G L;go_wp2_with fail;go_quiet (fail);go_wp2_with (first | (go_at_call_of 78 (Value.int IntKind.i64 0);refine(E.out _ (rE l.out.grown _)).mono ?_;rintro e D ⟨rfl,rfl⟩))
     (go_roundw;(case rel=>exact⟨a+1,by omega,by go_num,by rw [<-Bd _ _ _ r.out];exact fA.drewN l.out _⟩);(case measure=>simp [intOf];omega))
   ·have M:(d==g.row)=false:=(by simp [s]);have r:Hid (c a=false):=(by show c a=false;rw [C.out,z.out];simp [s]);clear s;go_wp2_with fail;go_quiet (fail);go_wp2
    (go_roundw;(case rel=>exact⟨a+1,by omega,by go_num,by rw [<-Bd _ _ _ r.out];exact fA.drewN l.out _⟩);(case measure=>simp [intOf];omega))
  ·have:(g.n:Int)<=(a:Int):=(by omega);obtain rfl:a=g.n:=(by omega);clear A;go_wp2;refine bodyPost_ret (v:=ay {g with f:=N} (some ⟨b,0,none⟩) cap) (by simp [results,results57,go_sem, *]) rfl ?_;rw [HX.out];exact⟨b,cap,rfl,iC (l.out.bM.congr fun i hi=>(wJ.out i hi).symm) (by omega) _ _ _ _ _ _ _ _ _,HS.out.2,(jC ⟨l.out.bM,l.out.grown⟩ (by omega) u _ _ _ _ _ _ _ _ _).2,.inl rfl⟩
def Pp (lo:Option Addr) (b:Nat):Prop:=∀ a,lo=some a->a.block≠b
theorem bV.grown {w w':World} {e:Option Addr} {l:List Int} {b:Nat} (h:bV w e l) (a:l=[]∨Pp e b) (q:w.grownBy w' (some b)):bV w' e l:=by
 rcases h with h | ⟨d,n,rfl,p⟩
 ·exact .inl h
 ·refine .inr ⟨d,n,rfl,fun j o=>?_⟩;rcases a with a | a
  ·subst a;simp at o
  have m:d≠b:=a _ rfl;have t:=p j o;have i:d < w.heap.size:=World.block_lt_of_cell? _ _ t;rw [<-t];exact World.cell?_of_block (w:=w) (q.block d i (by simp;exact m))
theorem Zt (g:Gr) (p Z:Int) (i:Nat) (h:i < g.n) (j:0<=Z):lY g.f 0 g.n Z.toNat p i=kQ g.f g.n (fun i=>kT p Z i) i:=by
 unfold lY kQ kT gT;by_cases b:p=0
 ·subst b;simp only [if_true];by_cases a:Z<=i
  ·rw [if_pos (by omega),if_pos ⟨h,by simp [a]⟩]
  ·rw [if_neg (by omega),if_neg (by simp [a])]
 rw [if_neg b];by_cases d:p=1
 ·subst d;simp only [if_true];by_cases a:(i:Int)<=Z
  ·rw [if_pos (by omega),if_pos ⟨h,by simp [a]⟩]
  ·rw [if_neg (by omega),if_neg (by simp [a])]
 rw [if_neg d];by_cases e:p=2
 ·subst e;simp only [if_true];rw [if_pos (by omega),if_pos ⟨h,by simp⟩]
 ·rw [if_neg e,if_neg (by simp [b,d,e])]
theorem Zu (g:Gr) (W R K:Nat) (p:Int) (i:Nat) (j:i < g.n) (r:K < W):lY g.f (R*W) W K p i=kQ g.f g.n (fun i=>decide ((i:Int) / (W:Int)=(R:Int)) && kT p ((R*W+K:Nat):Int) i) i:=by
 have m:((i:Int) / (W:Int)=(R:Int))↔R*W<=i∧i < R*W+W:=by
  rw [<-Int.natCast_ediv];constructor
  ·intro h;have o:i / W=R:=(by omega);have b:=Nat.div_add_mod i W;have d:=Nat.mod_lt i (show W>0 by omega);rw [o,Nat.mul_comm] at b;omega
  ·rintro⟨b,d⟩;have:i / W=R:=by
    rw [show i=(i - R*W)+R*W by omega,Nat.add_mul_div_right _ _ (by omega),Nat.div_eq_of_lt (by omega)];omega
   omega
 unfold lY kQ kT gT;by_cases l:R*W<=i∧i < R*W+W
 ·have a:decide ((i:Int) / (W:Int)=(R:Int))=true:=(by simp [m,l]);simp only [a,Bool.true_and];by_cases e:p=0
  ·subst e;simp only [if_true];by_cases q:R*W+K<=i
   ·rw [if_pos (by omega),if_pos ⟨j,by simp;omega⟩]
   ·rw [if_neg (by omega),if_neg (by simp;omega)]
  rw [if_neg e];by_cases b:p=1
  ·subst b;simp only [if_true];by_cases q:i<=R*W+K
   ·rw [if_pos (by omega),if_pos ⟨j,by simp;omega⟩]
   ·rw [if_neg (by omega),if_neg (by simp;omega)]
  rw [if_neg b];by_cases d:p=2
  ·subst d;simp only [if_true];rw [if_pos (by omega),if_pos ⟨j,by simp⟩]
  ·rw [if_neg d,if_neg (by simp [e,b,d])]
 ·have a:decide ((i:Int) / (W:Int)=(R:Int))=false:=(by simp [m];omega);by_cases e:p=0
  ·rw [if_pos e];simp only [a];rw [if_neg (by omega),if_neg (by simp)]
  rw [if_neg e];by_cases b:p=1
  ·rw [if_pos b];simp only [a];rw [if_neg (by omega),if_neg (by simp)]
  rw [if_neg b];by_cases d:p=2
  ·rw [if_pos d];simp only [a];rw [if_neg (by omega),if_neg (by simp)]
  rw [if_neg d];simp [a]
theorem aea (g:Gr) (h:OkG g) (b cap:Nat) (w:World) (m:av w b g.n g.f) (o:g.n<=cap) (l:List Int) (a:Option Addr) (d:Nat) (v:bV w a l) (U:l=[]∨Pp a b) (Y:l.length<=140737488355328) (c:Int) (x:Gr) (p:x=jH g c l):
  kC 57 #[ay g (some ⟨b,0,none⟩) cap,.int .i64 c,.slice a l.length d] w (jr w b x):=by
 have j:Hid (qN w a l.length d (fE l 0) (fE l 1)):=fun s N=>⟨MB l a d 0 s (v.below N) (by omega),MB l a d 1 s (v.below N) (by omega)⟩;have J:Hid (∀ s,w.grownBy s (some b)->kC 78 #[.slice a l.length d,.int .i64 0] s fun e I=>e=.returned (.int .i64 (fE l 0))∧I=s):=fun s X=>MB l a d 0 s (v.grown U X) (by omega);obtain⟨q,r⟩:=Jt l 0;obtain⟨O,P⟩:=Jt l 1;by_cases y:c=65
 ·subst y;exact adZ g h b cap w m o a _ d _ _ j q r _ rfl x p
 by_cases z:c=66
 ·subst z;exact ad1 g h b cap w m o a _ d _ _ j q r _ rfl x p
 by_cases A:c=67
 ·subst A;exact ad2 g h b cap w m o a _ d _ _ j q r _ rfl x p
 by_cases B:c=68
 ·subst B;exact ad3 g h b cap w m o a _ d _ _ j q r _ rfl x p
 by_cases C:c=72
 ·subst C;exact ad4 g h b cap w m o a _ d _ _ j q r O P _ rfl x p
 obtain⟨_,_,_,_,_⟩:=h.nums;have Z:=h.w1;have V:=h.c1;have S:0<=aZ g:=by unfold aZ;omega
 have T:aZ g < g.wide:=by unfold aZ;omega
 by_cases D:c=74
 ·subst D;refine ad5 g h b cap w m o a _ d _ _ j q r J (lY g.f 0 g.n (g.row*g.wide+aZ g).toNat (fE l 0)) (fun i=>kT (fE l 0) (g.row*g.wide+aZ g) i) (fun _=>rfl) ?_ _ rfl x (by rw [p,Mc]);intro i H;exact Zt g _ _ i H (by omega)
 by_cases E:c=75
 ·subst E;refine ad6 g h b cap w m o a _ d _ _ j q r J (lY g.f (g.row*g.wide).toNat g.wide.toNat (aZ g).toNat (fE l 0)) (fun i=>decide ((i:Int) / g.wide=g.row) && kT (fE l 0) (g.row*g.wide+aZ g) i) (fun _=>rfl) ?_ _ rfl x (by rw [p,E8]);intro i H;obtain⟨W,M⟩:∃ W:Nat,g.wide=W:=⟨g.wide.toNat,by omega⟩;obtain⟨R,L⟩:∃ R:Nat,g.row=R:=⟨g.row.toNat,by have:=h.r1;omega⟩;obtain⟨K,Q⟩:∃ K:Nat,aZ g=K:=⟨(aZ g).toNat,by omega⟩;have:=Zu g W R K (fE l 0) i H (by omega);rw [xQ L M,M,L,Q];rw [show ((R*W+K:Nat):Int)=(R:Int)*(W:Int)+(K:Int) by simp] at this;exact this
 by_cases F:c=76
 ·subst F;exact ad7 g h b cap w m o a _ d _ _ j q r _ rfl x p
 by_cases G:c=77
 ·subst G;exact ad8 g h b cap w m o a _ d _ _ j q r _ rfl x p
 by_cases t:c=109
 ·subst t;exact aeb g h b cap w m o a _ d _ _ j q r l Y rfl v _ rfl x p
 by_cases u:c=114
 ·subst u;exact aec g h b cap w m o a _ d _ _ j q r O P _ rfl x p
 exact ad9 g h b cap w m o a _ d _ _ j q r c y z A B C D E F G t u _ rfl x (by rw [p,Md g c l y z A B C D E F G t u])
end Go.Proofs.YtkcdcamophkdlaaGreatDoor
