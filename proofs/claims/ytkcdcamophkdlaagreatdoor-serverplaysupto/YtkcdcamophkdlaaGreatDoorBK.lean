import Derived.Test.YtkcdcamophkdlaaGreatDoorAZ
import Derived.Deep.AppendLies
set_option maxHeartbeats 4000000
set_option maxRecDepth 2000
open Go.Proofs.Tryz
namespace Go.Proofs.YtkcdcamophkdlaaGreatDoor
open Go.RowKit
variable {w wr:World} {g x:Gr} {ao ax:Option Addr} {cap cx B:Nat}
structure Two (w:World) (g x:Gr) (ao ax:Option Addr) (cap cx B:Nat) (wr:World):Prop where
 one:wr.heap[w.heap.size]?=some (aB g ao cap)
 two:wr.heap[B]?=some (aB x ax cx)
 rg:aL wr ao g.n g.f
 rx:aL wr ax x.n x.f
 below:Below w.heap.size w wr
 RZ:w.heap.size < wr.heap.size
 R3:B < wr.heap.size
theorem Two.later {w':World} (h:Two w g x ao ax cap cx B wr) (d:Below wr.heap.size wr w'):Two w g x ao ax cap cx B w':=
 ⟨aG d h.one h.RZ,aG d h.two h.R3,h.rg.below d,h.rx.below d,h.below.trans (d.mono h.below.size),Nat.lt_of_lt_of_le h.RZ d.size,Nat.lt_of_lt_of_le h.R3 d.size⟩
theorem Two.drew (h:Two w g x ao ax cap cx B wr):Two w g x ao ax cap cx B wr.drew:=
 ⟨h.one,h.two,h.rg,h.rx,h.below.drew,h.RZ,h.R3⟩
variable (n ch a aA b:Int) (bold:Bool) (w:World)
theorem yh (h:a<=n∧n<=b):kD 76 #[.int .i64 n,.int .i64 a,.int .i64 b] w (.bool true):=by
 obtain⟨_,_⟩:=h;go_enter func76,ntmps76;go_wp2;go_ret;exact⟨rfl,rfl⟩
theorem yg (h:n < a∨b < n):kD 76 #[.int .i64 n,.int .i64 a,.int .i64 b] w (.bool false):=by
 by_cases d:n < a
 ·clear h;go_enter func76,ntmps76;go_wp2;go_ret;exact⟨rfl,rfl⟩
 ·have:b < n:=(by omega);have:a<=n:=(by omega);clear h d;go_enter func76,ntmps76;go_wp2;go_ret;exact⟨bD (by simp;omega),rfl⟩
theorem abz:kA 75 #[cval ⟨ch,aA,0,bold⟩] w (.bool (bS ⟨ch,aA,0,bold⟩)):=by
 obtain⟨e,d⟩:∃ e,e=dL ⟨ch,aA,0,bold⟩ aX:=⟨_,rfl⟩;have:∀ w,(binOp .eql 65 (.agg #[.int .i64 ch,.int .i64 aA,.int .i64 0,.bool bold]) (.agg #[.int .i64 0,.int .i64 0,.int .i64 0,.bool false])).run prog w=.ok (.bool e) w:=fun w=>by rw [d];exact xB ⟨ch,aA,0,bold⟩ aX w
 have h:Hid (bS ⟨ch,aA,0,bold⟩=(e || (jJ ch && rJ aA))):=by
  show bS ⟨ch,aA,0,bold⟩=_;rw [d];simp [bS]
 clear d;obtain⟨G,i⟩:∃ G,G=bS ⟨ch,aA,0,bold⟩:=⟨_,rfl⟩;rw [<-i] at h ⊢;clear i;cases e
 ·go_enter func75,ntmps75;go_wp2
  all_goals (go_ret;refine⟨bD ?_,aM _ _⟩;rw [h.out,Bool.eq_iff_iff];simp only [jJ,rJ,Bool.false_or,Bool.and_eq_true,decide_eq_true_eq,Bool.false_eq_true,false_iff];omega)
 ·go_enter func75,ntmps75;go_wp2;go_ret;exact⟨bD (by rw [h.out];rfl),aM _ _⟩
theorem aby (d:Int) (bold:Bool) (i:d≠0) (w:World):kA 75 #[cval ⟨ch,aA,d,bold⟩] w (.bool (bS ⟨ch,aA,d,bold⟩)):=by
 obtain⟨h,e⟩:∃ h,h=dL ⟨ch,aA,d,bold⟩ ⟨0,0,d,false⟩:=⟨_,rfl⟩;have o:∀ w,(binOp .eql 65 (.agg #[.int .i64 ch,.int .i64 aA,.int .i64 d,.bool bold]) (.agg #[.int .i64 0,.int .i64 0,.int .i64 d,.bool false])).run prog w=.ok (.bool h) w:=fun w=>by rw [e];exact xB ⟨ch,aA,d,bold⟩ ⟨0,0,d,false⟩ w
 have p:∀ w,(binOp .eql 65 (.agg #[.int .i64 ch,.int .i64 aA,.int .i64 d,.bool bold]) (.agg #[.int .i64 0,.int .i64 0,.int .i64 0,.bool false])).run prog w=.ok (.bool false) w:=fun w=>by
  have:=xB ⟨ch,aA,d,bold⟩ aX w;rw [show dL ⟨ch,aA,d,bold⟩ aX=false by simp [dL,aX,i]] at this;exact this
 have j:Hid (bS ⟨ch,aA,d,bold⟩=(h && decide (1<=d∧d<=8))):=by
  show bS ⟨ch,aA,d,bold⟩=_;rw [e];simp [bS,dL,aX,i]
 have m:(d !=0)=true:=by simp [i]
 have l:(d==0)=false:=by simp [i]
 clear e i;obtain⟨G,k⟩:∃ G,G=bS ⟨ch,aA,d,bold⟩:=⟨_,rfl⟩;rw [<-k] at j ⊢;clear k;cases h
 ·go_enter func75,ntmps75;go_wp2;go_ret;exact⟨bD (by rw [j.out];rfl),aM _ _⟩
 ·go_enter func75,ntmps75;go_wp2
  all_goals (go_ret;refine⟨bD ?_,aM _ _⟩;rw [j.out];first | (simp;done) | (simp;omega))
theorem abx (c:aH) (w:World):kA 75 #[cval c] w (.bool (bS c)):=by
 obtain⟨ch,aA,d,bold⟩:=c;by_cases h:d=0
 ·subst h;exact abz ch aA bold w
 ·exact aby ch aA d bold h w
theorem xG {g:Gr} (h:¬ OkG g):kE g=false:=by
 cases d:kE g
 ·rfl
 ·exact absurd ((iT g).1 d) h
theorem rz (g:Gr) (ao:Option Addr) (cap:Nat) (w:World) (hr:aL w ao g.n g.f) (hm:g.n<=4398046511104) (G:Bool) (W:G=kE g):
  kA 54 #[ay g ao cap] w (.bool G):=by
 have s:=gH W;have HR:=gH hr;clear W hr;go_enter func54,ntmps54;go_wp2;go_loopw [9] (fun i wr=>∃ k:Nat,k<=g.n∧i=.int .i64 k∧Below w.heap.size w wr∧wr.heap[w.heap.size]?=some (aB g ao cap)∧qK g.f k=true) (fun i _=>g.n - (intOf i).toNat)
 case atStart=>exact⟨0,Nat.zero_le _,rfl,aM _ _,at_new w _,rfl⟩
 case round=>
  obtain⟨k,_,rfl,E,v,hu⟩:=hrel;have R:=gH hu;have l:=gH E;have yC:=gH v;obtain⟨⟨_,_,_,_,_,_,_,_,_⟩,_⟩:=nine v;have ae:w.heap.size < wr.heap.size:=(gQ v).1;clear hu v;by_cases C:k < g.n
  ·obtain⟨b,m,rfl,X⟩:∃ b m,ao=some ⟨b,m,none⟩∧∀ i,i < g.n->wr.cell? ⟨b,m+i*4,none⟩=some (.int .i64 (g.f i).ch)∧wr.cell? ⟨b,m+i*4+1,none⟩=some (.int .i64 (g.f i).aA)∧wr.cell? ⟨b,m+i*4+2,none⟩=some (.int .i64 (g.f i).aJ)∧wr.cell? ⟨b,m+i*4+3,none⟩=some (.bool (g.f i).bold):=by
    rcases HR.out.below E with V | V
    ·omega
    ·exact V
   obtain⟨t0,t1,t2,t3⟩:=X k C;have Y:(k:Int) < (g.n:Int):=(by omega);have ac:(0:Int)<=(k:Int):=(by omega);obtain⟨y,O⟩:∃ y,y=g.f k:=⟨_,rfl⟩;rw [<-O] at t0 t1 t2 t3;obtain⟨q,N⟩:∃ q,q=bS y:=⟨_,rfl⟩;have Q:Hid (q=bS (g.f k)):=(by rw [<-O];exact N);have P:Hid (∀ w,kA 75 #[.agg #[.int .i64 y.ch,.int .i64 y.aA,.int .i64 y.aJ,.bool y.bold]] w (.bool q)):=fun w=>(by rw [N];exact abx y w);clear X E O N;cases q
   ·have j:Hid (G=false):=by
     show G=false;rw [s.out];exact xG fun d=>by have:=d.cells k C;rw [<-Q.out] at this;cases this
    go_wp2_with (go_at_call 75;refine(P.out _).mono ?_;rintro e h ⟨rfl,o⟩;have u:Hid (Below w.heap.size w h):=(l.out.alloc l.out.size _).trans (o.mono (by simp;have:=l.out.size;omega));clear o);go_ret;exact⟨by rw [j.out];rfl,u.out⟩
   ·go_wp2_with (go_at_call 75;refine(P.out _).mono ?_;rintro e h ⟨rfl,o⟩;have u:Hid (Below w.heap.size w h∧h.heap[w.heap.size]?=some (aB g (some ⟨b,m,none⟩) cap)):=⟨(l.out.alloc l.out.size _).trans (o.mono (by simp;have:=l.out.size;omega)),aG o (aF yC.out _) (by simp;omega)⟩;clear o);go_roundw
    case rel=>exact⟨k+1,by omega,by go_num,u.out.1,u.out.2,by rw [U3,R.out, <-Q.out];rfl⟩
    case measure=>simp [intOf];omega
  ·obtain rfl:k=g.n:=(by omega);have Kr:Hid (∀ i,i < g.n->bS (g.f i)=true):=(JZ g.f g.n).1 R.out;clear E;by_cases z:¬ (1<=g.wide∧g.wide<=24)
   ·have j:Hid (G=false):=(by show G=false;rw [s.out];exact xG fun d=>z ⟨d.w1,d.w2⟩);go_wp2_with (go_at_call 76;first | (refine(yh _ _ _ _ (by omega)).mono ?_;rintro e h ⟨rfl,rfl⟩) | (refine(yg _ _ _ _ (by omega)).mono ?_;rintro e h ⟨rfl,rfl⟩));go_ret;exact⟨by rw [j.out];rfl,l.out⟩
   have L:1<=g.wide∧g.wide<=24:=Classical.byContradiction z;clear z;by_cases A:¬ (1<=g.high∧g.high<=10)
   ·have j:Hid (G=false):=(by show G=false;rw [s.out];exact xG fun d=>A ⟨d.h1,d.h2⟩);go_wp2_with (go_at_call 76;first | (refine(yh _ _ _ _ (by omega)).mono ?_;rintro e h ⟨rfl,rfl⟩) | (refine(yg _ _ _ _ (by omega)).mono ?_;rintro e h ⟨rfl,rfl⟩));go_ret;exact⟨by rw [j.out];rfl,l.out⟩
   have c2:1<=g.high∧g.high<=10:=Classical.byContradiction A;clear A;have aa:0<=g.wide*g.high:=Int.mul_nonneg (by omega) (by omega);have Z:g.wide*g.high<=240:=by
    have h1:g.wide*g.high<=24*g.high:=rR L.2 (by omega);omega
   have D:IntKind.i64.wrap (g.wide*g.high)=g.wide*g.high:=(by rw [IntKind.wrap_i64];omega);by_cases p:¬ ((g.n:Int)=g.wide*g.high)
   ·have j:Hid (G=false):=(by show G=false;rw [s.out];exact xG fun d=>p d.size);have ad:((g.n:Int)==g.wide*g.high)=false:=(by simp [p]);clear p;go_wp2_with (go_at_call 76;first | (refine(yh _ _ _ _ (by omega)).mono ?_;rintro e h ⟨rfl,rfl⟩) | (refine(yg _ _ _ _ (by omega)).mono ?_;rintro e h ⟨rfl,rfl⟩));go_ret;exact⟨by rw [j.out];rfl,l.out⟩
   have M:(g.n:Int)=g.wide*g.high:=Classical.byContradiction p;clear p;have Ku:=gH M;have ab:IntKind.i64.wrap (g.wide*g.high)=(g.n:Int):=(by rw [D];exact M.symm);clear M D;by_cases H:¬ (0<=g.row∧g.row<=g.high - 1)
   ·have j:Hid (G=false):=(by show G=false;rw [s.out];exact xG fun d=>H ⟨d.r1,by have:=d.r2;omega⟩);go_wp2_with (go_at_call 76;first | (refine(yh _ _ _ _ (by omega)).mono ?_;rintro e h ⟨rfl,rfl⟩) | (refine(yg _ _ _ _ (by omega)).mono ?_;rintro e h ⟨rfl,rfl⟩));go_ret;exact⟨by rw [j.out];rfl,l.out⟩
   have c4:0<=g.row∧g.row<=g.high - 1:=Classical.byContradiction H;clear H;by_cases F:¬ (0<=g.col∧g.col<=g.wide)
   ·have j:Hid (G=false):=(by show G=false;rw [s.out];exact xG fun d=>F ⟨d.c1,d.c2⟩);go_wp2_with (go_at_call 76;first | (refine(yh _ _ _ _ (by omega)).mono ?_;rintro e h ⟨rfl,rfl⟩) | (refine(yg _ _ _ _ (by omega)).mono ?_;rintro e h ⟨rfl,rfl⟩));go_ret;exact⟨by rw [j.out];rfl,l.out⟩
   have S:0<=g.col∧g.col<=g.wide:=Classical.byContradiction F;clear F;by_cases I:¬ (0<=g.aA∧g.aA<=8)
   ·have j:Hid (G=false):=(by show G=false;rw [s.out];exact xG fun d=>I ⟨d.i1,d.i2⟩);go_wp2_with (go_at_call 76;first | (refine(yh _ _ _ _ (by omega)).mono ?_;rintro e h ⟨rfl,rfl⟩) | (refine(yg _ _ _ _ (by omega)).mono ?_;rintro e h ⟨rfl,rfl⟩));go_ret;exact⟨by rw [j.out];rfl,l.out⟩
   have U:0<=g.aA∧g.aA<=8:=Classical.byContradiction I;clear I;by_cases J:¬ (1<=g.bottom∧g.bottom<=g.high)
   ·have j:Hid (G=false):=(by show G=false;rw [s.out];exact xG fun d=>J ⟨by have:=d.t1;have:=d.t2;omega,d.t3⟩);go_wp2_with (go_at_call 76;first | (refine(yh _ _ _ _ (by omega)).mono ?_;rintro e h ⟨rfl,rfl⟩) | (refine(yg _ _ _ _ (by omega)).mono ?_;rintro e h ⟨rfl,rfl⟩));go_ret;exact⟨by rw [j.out];rfl,l.out⟩
   have c7:1<=g.bottom∧g.bottom<=g.high:=Classical.byContradiction J;clear J;by_cases K:¬ (0<=g.top∧g.top<=g.bottom - 1)
   ·have j:Hid (G=false):=(by show G=false;rw [s.out];exact xG fun d=>K ⟨d.t1,by have:=d.t2;omega⟩);go_wp2_with (go_at_call 76;first | (refine(yh _ _ _ _ (by omega)).mono ?_;rintro e h ⟨rfl,rfl⟩) | (refine(yg _ _ _ _ (by omega)).mono ?_;rintro e h ⟨rfl,rfl⟩));go_ret;exact⟨by rw [j.out];rfl,l.out⟩
   have c8:0<=g.top∧g.top<=g.bottom - 1:=Classical.byContradiction K;clear K;have j:Hid (G=true):=by
    show G=true;rw [s.out];exact(iT g).2 ⟨L.1,L.2,c2.1,c2.2,Ku.out,Kr.out,c4.1,by omega,S.1,S.2,U.1,U.2,c8.1,by omega,c7.2⟩
   go_wp2_with (go_at_call 76;first | (refine(yh _ _ _ _ (by omega)).mono ?_;rintro e h ⟨rfl,rfl⟩) | (refine(yg _ _ _ _ (by omega)).mono ?_;rintro e h ⟨rfl,rfl⟩));go_ret;exact⟨by rw [j.out];rfl,l.out⟩
variable {w:World} {ao:Option Addr} {cap base n:Nat} {xs:List Value}
@[reducible] def qb (a c:Int) (ao:Option Addr) (k cap:Nat):Obj:=.cells #[.int .i64 a,.int .i64 c,.slice ao k cap,.int .i64 0,.int .i64 0,.int .i64 0,.bool false,.int .i64 0,.int .i64 0] 33
structure Ad (w:World) (a c:Int) (k:Nat) (ao:Option Addr) (cap:Nat) (wr:World):Prop where
 box:wr.heap[w.heap.size+1]?=some (qb a c ao k cap)
 res:wr.heap[w.heap.size]?=some aV
 row:wr.ownsRow (w.heap.size+2) 65 4 (.slice ao k cap) k (dX (fun _=>aX) k)
 below:Below w.heap.size w wr
theorem uS (h:w.ownsRow base 65 4 (.slice ao n cap) n xs) {p:Addr} (m:p.block < base) (u:Value):(w.setCell p u).ownsRow base 65 4 (.slice ao n cap) n xs:=by
 refine⟨h.1,?_⟩;rcases h.2 with i | ⟨g,c,e,l,j,k,d⟩
 ·exact .inl i
 ·exact .inr ⟨g,c,e,l,j,by rw [Below.heap_setCell _ _ _ _ (by omega)];exact k,d⟩
theorem rV {B:Nat} (h:w.ownsRow base 65 4 (.slice ao n cap) n xs) (d:B < base):some B≠(Value.slice ao n cap).ownBlock:=by
 cases ao with
 | none=>simp [Value.ownBlock]
 | some a=>
  intro e;simp only [Value.ownBlock,Option.some.injEq] at e;have:=(World.ownsRow.lt h a.block rfl).1;omega
theorem Ad.step {a c:Int} {k:Nat} {wr i:World} {o:Obj} {l cap':Nat} (h:Ad w a c k ao cap wr) (d:i.ownsRow (w.heap.size+2) 65 4 (.slice (some ⟨l,0,none⟩) (k+1) cap') (k+1) (dX (fun _=>aX) k++dX (fun _=>aX) 1)) (p:(wr.alloc o).grownBy i (Value.slice ao k cap).ownBlock):
  Ad w a c (k+1) (some ⟨l,0,none⟩) cap' (i.setCell ⟨w.heap.size+1,2,none⟩ (.slice (some ⟨l,0,none⟩) (k+1) cap')):=by
 have s:=h.below;have m:=s.size;have:w.heap.size+1 < wr.heap.size:=(gQ h.box).1;have e:dX (fun _=>aX) k++dX (fun _=>aX) 1=dX (fun _=>aX) (k+1):=(Al (fun _=>aX) k).symm;rw [e] at d;have u:Below w.heap.size w i:=by
  refine(s.alloc m o).grown p (by simp;omega) fun j v=>?_;rcases Nat.lt_or_ge j w.heap.size with q | q
  ·exact absurd v.symm (rV h.row (by omega))
  ·exact q
 exact⟨OT (bH p (aF h.box o) (rV h.row (by omega))),cO (bH p (aF h.res o) (rV h.row (by omega))) (by omega),uS d (by simp) _,u.setCell (by simp) _⟩
theorem acY (w:World) (j:Nat) (u:Value) (d:(dX (fun _=>aX) 1)[j]?=some u):(w.alloc (.cells #[.int .i64 0,.int .i64 0,.int .i64 0,.bool false] 65)).cell? ((⟨w.heap.size,0,none⟩:Addr).add j)=some u:=by
 obtain⟨⟨h,i,k,l⟩,_⟩:=four (at_new w (.cells #[.int .i64 0,.int .i64 0,.int .i64 0,.bool false] 65));have m:j < 4:=by have:=(gL d).1;rwa [mQ] at this
 rw [mJ];have e:j=0∨j=1∨j=2∨j=3:=by omega
 rcases e with rfl | rfl | rfl | rfl
 ·rw [Nat.zero_add,h, <-d];rfl
 ·rw [Nat.zero_add,i, <-d];rfl
 ·rw [Nat.zero_add,k, <-d];rfl
 ·rw [Nat.zero_add,l, <-d];rfl
theorem NW (wide high:Int) (w:World) (x:Gr) (J:x=newG wide high):
  kC 33 #[.int .i64 wide,.int .i64 high] w fun e L=>∃ b cap,e=.returned (ay x (some ⟨b,0,none⟩) cap)∧av L b x.n x.f∧x.n<=cap∧w.heap.size<=b∧Below w.heap.size w L:=by
 obtain⟨W,S,F,G,H⟩:=info_parts info49;obtain⟨a,q⟩:∃ a,a=max 1 (min wide 24):=⟨_,rfl⟩;obtain⟨c,s⟩:∃ c,c=max 1 (min high 10):=⟨_,rfl⟩;have Q:1<=a:=by omega
 have R:a<=24:=by omega
 have:1<=c:=by omega
 have:c<=10:=by omega
 have V:0<=a*c:=Int.mul_nonneg (by omega) (by omega);have C:1<=a*c:=by
  have:1*c<=a*c:=rR Q (by omega);omega
 have D:a*c<=240:=by
  have:a*c<=24*c:=rR R (by omega);omega
 obtain⟨n,A⟩:∃ n:Nat,a*c=n:=⟨(a*c).toNat,by omega⟩;have O:Hid (x=⟨a,c,n,fun _=>aX,0,0,0,false,0,c⟩):=by
  show x=_;rw [J];unfold newG;rw [<-q, <-s,A];simp
 have:IntKind.i64.wrap (a*c)=(n:Int):=by rw [<-A,IntKind.wrap_i64];omega
 have:0 < n:=by omega
 have:n<=240:=by omega
 have M:Hid (a=max 1 (min wide 24)∧c=max 1 (min high 10)):=⟨q,s⟩;clear J q s V C D A;go_enter func33,ntmps33;go_upto_region 1 with fail;go_cut [5] from 6 to 12 (fun X Y=>X=.pointer (some ⟨w.heap.size+1,0,none⟩)∧∃ l h,l=a∧h=c∧Y=(w.alloc aV).alloc (qb l h none 0 0))
 case first=>
  obtain⟨q,s⟩:=M.out;go_wp2_with fail;have:(if wide < 1 then (1:Int) else wide)=max wide 1:=(by split <;>omega);have:(if high < 1 then (1:Int) else high)=max high 1:=by split <;>omega
  all_goals (go_meet;refine⟨rfl,_,_,?_,?_,rfl⟩ <;>omega)
 case rest=>
  obtain⟨rfl,l,h,rfl,rfl,rfl⟩:=hcut;have u:Hid (Ad w l h 0 none 0 ((w.alloc aV).alloc (qb l h none 0 0))):=⟨bK w _ _,aF (at_new w _) _,World.ownsRow_nil _ _ _ _,aO _ _ _⟩;go_wp2_with fail;go_loopw [18] (fun i wr=>∃ (k:Nat) (ao:Option Addr) (cap:Nat),k<=n∧i=.int .i64 k∧Ad w l h k ao cap wr) (fun i _=>n - (intOf i).toNat)
  case atStart=>exact⟨0,none,0,Nat.zero_le _,rfl,u.out⟩
  case round=>
   obtain⟨k,ao,cap,_,rfl,p⟩:=hrel;have m:=gH p;obtain⟨⟨_,_,_,_,_,_,_,_,_⟩,_⟩:=nine p.box;obtain⟨⟨_,_,_,_,_,_,_,_,_⟩,v⟩:=nine p.res;have:w.heap.size+1 < wr.heap.size:=(gQ p.box).1;clear p;by_cases U:k < n
   ·have:(k:Int) < (n:Int):=(by omega);have:(0:Int)<=(k:Int):=(by omega);go_wp2_with (first | (at_builtin;refine wpList_append_lies _ rfl _ _ 31 rfl (w.heap.size+2) 65 W (.agg #[.int .i64 0,.int .i64 0,.int .i64 0,.bool false]) 4 32 underlying31 S F G H rfl (by decide) _ k (dX (fun _=>aX) k) rfl (m.out.row.alloc _) ⟨wr.heap.size,0,none⟩ 1 1 (dX (fun _=>aX) 1) rfl rfl ?c1 ?c2 (by decide) ?c3 ?c4 ?c5 (wr.heap.size+1) ?c6 ?_) | fail)
    case c1=>exact acY wr
    case c2=>exact Ak _ 1
    case c3=>unfold maxLen;omega
    case c4=>omega
    case c5=>simp;omega
    case c6=>simp
    ·intro P o Z j d _ _;have N:=gH (m.out.step j d);obtain⟨⟨_,_,_,_,_,_,_,_,_⟩,_⟩:=nine (bH d (aF m.out.box _) (rV m.out.row (by omega)));clear j d;go_wp2;go_roundw
     case rel=>exact⟨k+1,some ⟨P,0,none⟩,o,by omega,by go_num,N.out⟩
     case measure=>simp [intOf];omega
   ·have I:Hid (k=n):=(by omega:k=n);have:(n:Int)<=(k:Int):=(by omega);have:w.heap.size≠w.heap.size+1:=(by omega);go_wp2;refine bodyPost_ret (v:=ay ⟨l,h,k,fun _=>aX,0,0,0,false,0,h⟩ ao cap) (by simp [results,results33,go_sem, *]) rfl ?_;obtain⟨b,_,K,_,y,E⟩:=Bg m.out.row (by have:=I.out;omega);simp only [Value.slice.injEq] at K;obtain⟨rfl,_,rfl⟩:=K;have z:=I.out;rw [O.out];subst z;exact⟨b,_,rfl,iC (E.set (by simp;omega) _) (by omega) _ _ _ _ _ _ _ _ _,y,by omega,iZ (m.out.below.setCell (by simp) _) (Nat.le_refl _) _ _ _ _ _ _ _ _ _⟩
variable (g:Gr) (ao:Option Addr) (cap:Nat) (r c:Int) (w:World)
theorem Xy (d:¬ (g.wide<=24∧g.high<=10∧0<=r∧r < g.high∧0<=c∧c < g.wide)):
  kA 65 #[ay g ao cap,.int .i64 r,.int .i64 c] w (cval aX):=by
 by_cases e:24 < g.wide
 ·clear d;go_enter func65,ntmps65;go_wp2;exact bodyPost_ret (v:=cval aX) (by simp [results,results65,go_sem,aX]) rfl ⟨rfl,aO _ _ _⟩
 have m:g.wide<=24:=by omega
 clear e;by_cases h:10 < g.high
 ·clear d;go_enter func65,ntmps65;go_wp2;exact bodyPost_ret (v:=cval aX) (by simp [results,results65,go_sem,aX]) rfl ⟨rfl,aO _ _ _⟩
 have c2:g.high<=10:=by omega
 clear h;by_cases i:r < 0
 ·clear d;go_enter func65,ntmps65;go_wp2;exact bodyPost_ret (v:=cval aX) (by simp [results,results65,go_sem,aX]) rfl ⟨rfl,aO _ _ _⟩
 have o:0<=r:=by omega
 clear i;by_cases k:g.high<=r
 ·clear d;go_enter func65,ntmps65;go_wp2;exact bodyPost_ret (v:=cval aX) (by simp [results,results65,go_sem,aX]) rfl ⟨rfl,aO _ _ _⟩
 have p:r < g.high:=by omega
 clear k;by_cases j:c < 0
 ·clear d;go_enter func65,ntmps65;go_wp2;exact bodyPost_ret (v:=cval aX) (by simp [results,results65,go_sem,aX]) rfl ⟨rfl,aO _ _ _⟩
 have q:0<=c:=by omega
 clear j;by_cases l:g.wide<=c
 ·clear d;go_enter func65,ntmps65;go_wp2;exact bodyPost_ret (v:=cval aX) (by simp [results,results65,go_sem,aX]) rfl ⟨rfl,aO _ _ _⟩
 have s:c < g.wide:=by omega
 clear l;exact absurd ⟨m,c2,o,p,q,s⟩ d
theorem Xx (Y:aL w ao g.n g.f) (hm:g.n<=4398046511104) (c1:g.wide<=24) (c2:g.high<=10) (Q:0<=r) (R:r < g.high) (S:0<=c) (U:c < g.wide):
  kA 65 #[ay g ao cap,.int .i64 r,.int .i64 c] w (cval (iy g r c)):=by
 have HR:=gH Y;have A:=p8 Q R (w:=g.wide) (by omega);obtain⟨P,V⟩:∃ P:Nat,r*g.wide+c=P:=⟨(r*g.wide+c).toNat,by omega⟩;have VT:Hid (P < g.n->iy g r c=g.f P):=fun h=>by
  unfold iy;rw [if_pos ⟨c1,c2,Q,R,S,U,by omega⟩];congr 1;omega
 have uZ:Hid (g.n<=P->iy g r c=aX):=fun h=>Iy (by omega);have aj:1<=g.wide:=by omega
 have I:Hid (∀ k:Nat,((k:Int) / g.wide=r∧(k:Int) % g.wide=c)↔k=P):=by
  intro k;constructor
  ·rintro⟨l,z⟩;have:=Int.mul_ediv_add_emod (k:Int) g.wide;rw [l,z,Int.mul_comm] at this;omega
  ·rintro rfl;have u:=Mf (r:=r) (c:=c) (w:=g.wide) S U;rw [<-V];exact u
 have N:¬ g.wide=0:=by omega
 have aa:(g.wide==0)=false:=by simp [N]
 clear Y A V;go_enter func65,ntmps65;go_wp2;go_loopw [40] (fun i wr=>∃ k:Nat,k<=g.n∧k<=P∧i=.int .i64 k∧Below w.heap.size w wr∧wr.heap[w.heap.size]?=some (aB g ao cap)∧wr.heap[w.heap.size+1]?=some (.cells #[.int .i64 0,.int .i64 0,.int .i64 0,.bool false] 65)) (fun i _=>g.n - (intOf i).toNat)
 case atStart=>exact⟨0,Nat.zero_le _,Nat.zero_le _,rfl,aO _ _ _,aF (at_new w _) _,bK w _ _⟩
 case round=>
  obtain⟨k,_,_,rfl,H,p,j⟩:=hrel;have G:Hid (Below w.heap.size w wr∧wr.heap[w.heap.size]?=some (aB g ao cap)∧wr.heap[w.heap.size+1]?=some (.cells #[.int .i64 0,.int .i64 0,.int .i64 0,.bool false] 65)):=⟨H,p,j⟩;obtain⟨⟨_,_,_,_,_,_,_,_,_⟩,_⟩:=nine p;obtain⟨⟨_,_,_,_⟩,v⟩:=four j;have ai:w.heap.size+1 < wr.heap.size:=(gQ j).1;have Z:w.heap.size < wr.heap.size:=(by omega);have ae:wr.heap.size≠w.heap.size+1:=(by omega);by_cases M:k < g.n
  ·obtain⟨_,_,rfl,W⟩:=(HR.out.below H).resolve_left (by omega);obtain⟨t0,t1,t2,t3⟩:=W k M;have X:(k:Int) < (g.n:Int):=(by omega);have s:(0:Int)<=(k:Int):=(by omega);obtain⟨y,F⟩:∃ y,y=g.f k:=⟨_,rfl⟩;rw [<-F] at t0 t1 t2 t3;have L:=World.block_lt_of_cell? _ _ t0;simp only at L;obtain⟨q,A⟩:∃ q,(k:Int) / g.wide=q:=⟨_,rfl⟩;obtain⟨m,E⟩:∃ m,(k:Int) % g.wide=m:=⟨_,rfl⟩;have ah:(k:Int).tdiv g.wide=q:=(by rw [Int.tdiv_eq_ediv_of_nonneg s];exact A);have ad:(k:Int).tmod g.wide=m:=(by rw [Int.tmod_eq_emod_of_nonneg s];exact E);have u:=I.out k;rw [A,E] at u;have af:0<=q:=(by rw [<-A];exact Int.ediv_nonneg s (by omega));have ag:q<=140737488355328:=by
    rw [<-A];have:=Int.ediv_le_self g.wide s;omega
   clear W H p j;by_cases d:k=P
   ·obtain⟨l,z⟩:=u.2 d;have O:(q==r)=true:=(by simp [l]);have K:(m==c)=true:=(by simp [z]);have J:Hid (iy g r c=y):=by
     show iy g r c=y;rw [VT.out (by omega),F,d]
    clear u F d l z;go_wp2;refine bodyPost_ret (v:=cval y) (by simp [results,results65,go_sem, *]) rfl ?_;rw [J.out];obtain⟨o,C,D⟩:=G.out;exact⟨rfl,((((o.setCell (by simp) _).setCell (by simp) _).setCell (by simp) _).setCell (by simp) _).alloc (by have:=o.size;simp;omega) _⟩
   ·have ac:k < P:=(by omega);by_cases l:q=r
    ·have z:¬ m=c:=fun e=>d (u.1 ⟨l,e⟩);have O:(q==r)=true:=(by simp [l]);have K:(m==c)=false:=(by simp [z]);clear u F l z d;go_wp2;go_roundw
     case rel=>
      obtain⟨o,C,D⟩:=G.out;exact⟨k+1,by omega,by omega,by go_num,o.alloc o.size _,aF C _,aF D _⟩
     case measure=>simp [intOf];omega
    ·have O:(q==r)=false:=(by simp [l]);clear u F l d;go_wp2;go_roundw
     case rel=>
      obtain⟨o,C,D⟩:=G.out;exact⟨k+1,by omega,by omega,by go_num,o.alloc o.size _,aF C _,aF D _⟩
     case measure=>simp [intOf];omega
  ·have ab:(g.n:Int)<=(k:Int):=(by omega);have J:=gH (uZ.out (by omega));clear H p j;go_wp2;refine bodyPost_ret (v:=cval aX) (by simp [results,results65,go_sem,aX, *]) rfl ?_;rw [J.out];obtain⟨o,C,D⟩:=G.out;exact⟨rfl,(((o.setCell (by simp) _).setCell (by simp) _).setCell (by simp) _).setCell (by simp) _⟩
theorem Xw (e:aL w ao g.n g.f) (d:g.n<=4398046511104):
  kA 65 #[ay g ao cap,.int .i64 r,.int .i64 c] w (cval (iy g r c)):=by
 by_cases h:g.wide<=24∧g.high<=10∧0<=r∧r < g.high∧0<=c∧c < g.wide
 ·exact Xx g ao cap r c w e d h.1 h.2.1 h.2.2.1 h.2.2.2.1 h.2.2.2.2.1 h.2.2.2.2.2
 ·rw [Iy (fun k=>h ⟨k.1,k.2.1,k.2.2.1,k.2.2.2.1,k.2.2.2.2.1,k.2.2.2.2.2.1⟩)];exact Xy g ao cap r c w h
variable {g t:Gr} {w wr:World} {ao:Option Addr} {cap b c2 T:Nat} {f:Nat->aH}
def pE (g:Gr) (wide:Int) (p:Nat):Nat->aH:=fun i=>if i < p then qg g wide i else aX
theorem aeR {W:Int} {p:Nat} {r c:Int} (k:0<=c) (l:c < W) (m:(p:Int)=r*W+c) (i:Nat):gV (pE g W p) p (iy g r c) i=pE g W (p+1) i:=by
 have j:=Mf (r:=r) (c:=c) (w:=W) k l;have e:qg g W p=iy g r c:=by unfold qg;rw [m,j.1,j.2]
 unfold gV pE;by_cases h:i=p
 ·subst h;rw [if_pos rfl,if_pos (by omega),e]
 ·rw [if_neg h];by_cases d:i < p
  ·rw [if_pos d,if_pos (by omega)]
  ·rw [if_neg d,if_neg (by omega)]
structure pJ (w:World) (g t:Gr) (ao:Option Addr) (cap b c2 T:Nat) (f:Nat->aH) (wr:World):Prop where
 one:wr.heap[w.heap.size]?=some (aB g ao cap)
 res:wr.heap[w.heap.size+1]?=some aV
 two:wr.heap[T]?=some (aB t (some ⟨b,0,none⟩) c2)
 bM:av wr b t.n f
 below:Below w.heap.size w wr
 own:w.heap.size+2<=b
 far:b < T
theorem pJ.later {w':World} (h:pJ w g t ao cap b c2 T f wr) (d:Below wr.heap.size wr w'):pJ w g t ao cap b c2 T f w':=
 ⟨aG d h.one (gQ h.one).1,aG d h.res (gQ h.res).1,aG d h.two (gQ h.two).1,h.bM.below d h.bM.lt,h.below.trans (d.mono h.below.size),h.own,h.far⟩
theorem pJ.drew (h:pJ w g t ao cap b c2 T f wr):pJ w g t ao cap b c2 T f wr.drew:=⟨h.one,h.res,h.two,h.bM,h.below.drew,h.own,h.far⟩
theorem pJ.put (h:pJ w g t ao cap b c2 T f wr) (i o0 o1 o2 o3:Nat) (c:aH) (p:i < t.n) (e:o0=i*4) (j:o1=i*4+1) (k:o2=i*4+2) (l:o3=i*4+3):
  pJ w g t ao cap b c2 T (gV f i c) ((((wr.setCell ⟨b,o0,none⟩ (.int .i64 c.ch)).setCell ⟨b,o1,none⟩ (.int .i64 c.aA)).setCell ⟨b,o2,none⟩ (.int .i64 c.aJ)).setCell ⟨b,o3,none⟩ (.bool c.bold)):=by
 have m:=h.own;have o:=h.far;have d:w.heap.size<=b:=by omega
 exact⟨cO (cO (cO (cO h.one (by omega)) (by omega)) (by omega)) (by omega),cO (cO (cO (cO h.res (by omega)) (by omega)) (by omega)) (by omega),cO (cO (cO (cO h.two (by omega)) (by omega)) (by omega)) (by omega),h.bM.put i o0 o1 o2 o3 c p e j k l,(((h.below.setCell d _).setCell d _).setCell d _).setCell d _,m,o⟩
def VZ (w:World) (r:Gr×Int) (e:Ending) (w':World):Prop:=
 ∃ ao cap,e=.returned (.tuple #[ay r.1 ao cap,.int .i64 r.2])∧aL w' ao r.1.n r.1.f∧Below w.heap.size w w'
def Lm (w:World) (r:Gr×Int) (e:Ending) (w':World):Prop:=
 ∃ b cap,e=.returned (.tuple #[ay r.1 (some ⟨b,0,none⟩) cap,.int .i64 r.2])∧aL w' (some ⟨b,0,none⟩) r.1.n r.1.f∧Below w.heap.size w w'∧w.heap.size<=b
theorem aeY (g:Gr) (A:OkG g) (ao:Option Addr) (cap:Nat) (wide high:Int) (w:World) (L:aL w ao g.n g.f) (x:Gr) (hx:x=Gg g wide high):
  kC 34 #[ay g ao cap,.int .i64 wide,.int .i64 high] w (Lm w (x,0)):=by
 have G:g.n<=4398046511104:=by obtain⟨q1,q2,_⟩:=A.nums;omega
 obtain⟨t,V⟩:∃ t,t=newG wide high:=⟨_,rfl⟩;have F:OkG t:=by rw [V];exact sQ wide high
 have HX:Hid (x=⟨t.wide,t.high,t.n,qg g t.wide,min g.row (t.high - 1),min g.col (t.wide - 1),g.aA,g.bold,t.top,t.bottom⟩):=by
  show x=_;rw [hx,V]
  rfl
 have HR:=gH L;have HO:Hid (OkG g∧OkG t):=⟨A,F⟩;have dZ:Hid (∀ w,aL w ao g.n g.f->kA 54 #[ay g ao cap] w (.bool true)):=fun w L=>rz g ao cap w L G true ((iT g).2 A).symm;have HN:Hid (∀ w,kC 33 #[.int .i64 wide,.int .i64 high] w fun e d=>∃ b c2,e=.returned (ay t (some ⟨b,0,none⟩) c2)∧av d b t.n t.f∧t.n<=c2∧w.heap.size<=b∧Below w.heap.size w d):=fun w=>NW wide high w t V;have ab:Hid (∀ w r c,aL w ao g.n g.f->kA 65 #[ay g ao cap,.int .i64 r,.int .i64 c] w (cval (iy g r c))):=fun w r c h=>Xw g ao cap r c w h G;have zV:Hid (∀ i,t.f i=pE g t.wide 0 i):=by
  intro i;rw [V];show aX=pE g _ 0 i;unfold pE;rw [if_neg (by omega)]
 have ap:=F.h1;have Au:=F.h2;have RH:=F.w1;have aq:=F.w2;have aU:=A.r1;have aV:g.row<=10:=by have:=A.r2;have:=A.h2;omega
 have aJ:=A.c1;have aK:g.col<=24:=by have:=A.c2;have:=A.w2;omega
 obtain⟨H,hH⟩:∃ H:Nat,t.high=H:=⟨t.high.toNat,by omega⟩;obtain⟨o,hW⟩:∃ W:Nat,t.wide=W:=⟨t.wide.toNat,by omega⟩;have aD:H<=10:=by omega
 have aI:o<=24:=by omega
 have pW:(t.n:Int)=H*o:=by rw [<-hH, <-hW];obtain⟨q1,_⟩:=F.nums;exact q1
 have Q:t.n=H*o:=by exact_mod_cast pW
 have K:Hid (t.high=H∧t.wide=o∧t.n=H*o):=⟨hH,hW,Q⟩;clear L hx V A F hH hW pW Q G;have aa:Hid (∀ (b c2:Nat) (d:World),w.heap.size<=b->av d b t.n (pE g t.wide (H*o))->Below w.heap.size w d->∀ r c:Int,r=min g.row (t.high - 1)->c=min g.col (t.wide - 1)->Lm w (x,0) (.returned (.tuple #[.agg #[.int .i64 t.wide,.int .i64 t.high,.slice (some ⟨b,0,none⟩) t.n c2,.int .i64 r,.int .i64 c,.int .i64 g.aA,.bool g.bold,.int .i64 t.top,.int .i64 t.bottom],.int .i64 0])) d):=by
  intro b c2 d af S O r c L hc;have ai:av d b t.n (qg g t.wide):=S.congr fun i hi=>(by unfold pE;rw [if_pos (by have:=K.out.2.2;omega)]);rw [HX.out,L,hc];exact⟨b,c2,rfl,ai.rd,O,af⟩
 go_enter func34,ntmps34
 go_wp2_with (first
  | (go_at_call 54;refine(dZ.out _ (HR.out.below (aO _ _ _))).mono ?_;rintro e w2 ⟨rfl,D⟩;have HB:Hid (Below w.heap.size w w2):=(aO _ _ _).trans (D.mono (by simp;omega));have Z:Hid _:=aG D (aF (at_new w _) _) (by simp;omega);have X:Hid _:=aG D (bK w _ _) (by simp);clear D)
  | (go_at_call 33;refine(HN.out _).mono ?_;rintro e l ⟨b,c2,rfl,S,aM,ae,s⟩;have HV:Hid (pJ w g t ao cap b c2 l.heap.size (pE g t.wide 0) (l.alloc (aB t (some ⟨b,0,none⟩) c2))):=⟨aF (aG s Z.out (gQ Z.out).1) _,aF (aG s X.out (gQ X.out).1) _,at_new _ _,(S.congr (fun i _=>zV.out i)).alloc _,(HB.out.trans (s.mono HB.out.size)).alloc (by have:=HB.out.size;have:=s.size;omega) _,(by have:=(gQ X.out).1;omega),S.lt⟩;have au:w.heap.size < l.heap.size:=(by have:=(gQ Z.out).1;have:=s.size;omega);have az:w.heap.size+1 < l.heap.size:=(by have:=(gQ X.out).1;have:=s.size;omega);clear S ae s))
 clear Z X HN dZ;go_loopw [20] (fun i wr=>∃ k:Nat,k<=H∧i=.int .i64 k∧pJ w g t ao cap b c2 l.heap.size (pE g t.wide (k*o)) wr) (fun i _=>H - (intOf i).toNat)
 case atStart=>exact⟨0,Nat.zero_le _,rfl,by rw [Nat.zero_mul];exact HV.out⟩
 case round=>
  obtain⟨k,hk,rfl,E⟩:=hrel;have HI:=gH E;obtain⟨⟨y0,y1,y2,y3,y4,y5,y6,y7,y8⟩,z3⟩:=nine E.two;obtain⟨⟨x0,x1,x2,x3,x4,x5,x6,x7,x8⟩,z⟩:=nine E.one;by_cases aS:k < H
  ·have aj:(k:Int) < t.high:=(by rw [K.out.1];omega);have aN:(0:Int)<=(k:Int):=(by omega);clear E;go_wp2;clear x0 x1 x2 x3 x4 x5 x6 x7 x8 z y0 y1 y2 y3 y4 y5 y6 y7 y8 z3;go_loopw [25] (fun j ws=>∃ m:Nat,m<=o∧j=.int .i64 m∧pJ w g t ao cap b c2 l.heap.size (pE g t.wide (k*o+m)) ws) (fun j _=>o - (intOf j).toNat)
   case atStart=>exact⟨0,Nat.zero_le _,rfl,HI.out⟩
   case round=>
    obtain⟨m,hm,rfl,q⟩:=hrel;rename_i Pm wr;have Lc:=gH q;obtain⟨⟨x0,x1,x2,x3,x4,x5,x6,x7,x8⟩,z⟩:=nine q.one;obtain⟨⟨y0,y1,y2,y3,y4,y5,y6,y7,y8⟩,z3⟩:=nine q.two;have aP:w.heap.size < wr.heap.size:=(gQ q.one).1;have aQ:l.heap.size < wr.heap.size:=(gQ q.two).1;by_cases aR:m < o
    ·have ad:(m:Int) < t.wide:=(by rw [K.out.2.1];omega);have ah:(0:Int)<=(m:Int):=(by omega);obtain⟨y,hy⟩:∃ y,y=iy g k m:=⟨_,rfl⟩;have ac:Hid (∀ w,aL w ao g.n g.f->kA 65 #[ay g ao cap,.int .i64 k,.int .i64 m] w (cval y)):=fun w h=>(by rw [hy];exact ab.out w k m h);obtain⟨P,hP⟩:∃ P:Nat,P=k*o:=⟨_,rfl⟩;obtain⟨I,hI⟩:∃ I:Nat,I=P+m:=⟨_,rfl⟩;have MQ:(k:Int)*t.wide=P:=(by rw [K.out.2.1,hP];simp);have M:I < t.n:=by
      have h9:=K.out.2.2;have h8:(k+1)*o<=H*o:=Nat.mul_le_mul_right _ (by omega);rw [Nat.add_mul] at h8;omega
     have ar:t.n<=240:=(by obtain⟨q1,q2,_⟩:=HO.out.2.nums;omega);have Nz:IntKind.i64.wrap ((k:Int)*t.wide)=(P:Int):=(by rw [MQ,IntKind.wrap_i64];omega);have U:(P:Int)+(m:Int)=(I:Int):=(by omega);have an:IntKind.i64.wrap ((P:Int)+(m:Int))=(I:Int):=(by rw [U,IntKind.wrap_i64];omega);have RJ:IntKind.i64.wrap (I:Int)=(I:Int):=(by rw [IntKind.wrap_i64];omega);have aE:(0:Int)<=(I:Int):=(by omega);have aH:(I:Int) < (t.n:Int):=(by omega);have dF:Hid (∀ i,gV (pE g t.wide (k*o+m)) I y i=pE g t.wide (k*o+(m+1)) i):=by
      intro i;have:=aeR (g:=g) (W:=t.wide) (p:=k*o+m) (r:=k) (c:=m) ah ad (by rw [MQ,hP];simp) i;rw [<-hy] at this;rw [hI,hP,this]
      rfl
     have Dc:b≠w.heap.size:=(by have:=q.own;omega);have aw:b≠l.heap.size:=(by have:=q.far;omega);have lS:=gH M;clear hy hP hI MQ M q;go_wp2_with fail;go_region_held3 (fun d=>(d.cell? ⟨l.heap.size,0,none⟩=some (.int .i64 t.wide)∧d.cell? ⟨l.heap.size,1,none⟩=some (.int .i64 t.high)∧d.cell? ⟨l.heap.size,2,none⟩=some (.slice (some ⟨b,0,none⟩) t.n c2)∧d.cell? ⟨l.heap.size,3,none⟩=some (.int .i64 t.row)∧d.cell? ⟨l.heap.size,4,none⟩=some (.int .i64 t.col)∧d.cell? ⟨l.heap.size,5,none⟩=some (.int .i64 t.aA)∧d.cell? ⟨l.heap.size,6,none⟩=some (.bool t.bold)∧d.cell? ⟨l.heap.size,7,none⟩=some (.int .i64 t.top)∧d.cell? ⟨l.heap.size,8,none⟩=some (.int .i64 t.bottom))∧(d.cell? ⟨w.heap.size,0,none⟩=some (.int .i64 g.wide)∧d.cell? ⟨w.heap.size,1,none⟩=some (.int .i64 g.high)∧d.cell? ⟨w.heap.size,2,none⟩=some (.slice ao g.n cap)∧d.cell? ⟨w.heap.size,3,none⟩=some (.int .i64 g.row)∧d.cell? ⟨w.heap.size,4,none⟩=some (.int .i64 g.col)∧d.cell? ⟨w.heap.size,5,none⟩=some (.int .i64 g.aA)∧d.cell? ⟨w.heap.size,6,none⟩=some (.bool g.bold)∧d.cell? ⟨w.heap.size,7,none⟩=some (.int .i64 g.top)∧d.cell? ⟨w.heap.size,8,none⟩=some (.int .i64 g.bottom))) (first | go_keep | (simp [*,World.cell?_alloc_past,World.cell?_setCell_far]))
      ((go_at_call 65;refine(ac.out _ ((HR.out.below Lc.out.below).below (Below.drew (Below.refl _ _)))).mono ?_;rintro e w6 ⟨rfl,N⟩;have Y:=gH (Lc.out.drew.later N);obtain⟨⟨c0,c1,aC,c3,c4,c5,c6,c7,c8⟩,c9⟩:=nine Y.out.two;obtain⟨⟨d0,d1,d2,d3,d4,d5,d6,d7,d8⟩,d9⟩:=nine Y.out.one;obtain⟨k0,k1,k2,k3⟩:=Y.out.bM.cells I lS.out;have k4:=Y.out.bM.free;clear N))
     go_wp2;go_roundw
     case rel=>
      have J:=Y.out.put I (I*4) (I*4+1) (I*4+2) (I*4+3) y lS.out rfl rfl rfl rfl;refine⟨m+1,by omega,by go_num,?_⟩;exact⟨J.one,J.res,J.two,J.bM.congr (fun i _=>dF.out i),J.below,J.own,J.far⟩
     case measure=>simp [intOf];omega
    ·have ag:t.wide<=(m:Int):=(by rw [K.out.2.1];omega);have Eh:Hid (m=o):=(by omega:m=o);clear q;go_wp2;go_roundw
     case rel=>exact⟨k+1,by omega,by go_num,by have h9:=Lc.out;rw [Eh.out] at h9;rw [Nat.add_mul,Nat.one_mul];exact h9⟩
     case measure=>simp [intOf];omega
  ·have ag:t.high<=(k:Int):=(by rw [K.out.1];omega);have HK:Hid (k=H):=(by omega:k=H);obtain⟨⟨u0,u1,u2,u3,u4,u5,u6,u7,u8⟩,v⟩:=nine E.res;have aW:w.heap.size+1 < wr.heap.size:=(gQ E.res).1;have am:=E.own;have Rt:=E.far;have ak:l.heap.size≠w.heap.size:=(by omega);have al:l.heap.size≠w.heap.size+1:=(by omega);have aY:IntKind.i64.wrap (t.high - 1)=t.high - 1:=(by rw [IntKind.wrap_i64];omega);have aZ:IntKind.i64.wrap (t.wide - 1)=t.wide - 1:=(by rw [IntKind.wrap_i64];omega);clear E;have aT:∀ (d:World) (u:Value) (j i:Nat),j≠i->(d.setCell ⟨l.heap.size,j,none⟩ u).cell? ⟨l.heap.size,i,none⟩=d.cell? ⟨l.heap.size,i,none⟩:=fun d u j i h=>World.cell?_setCell_other _ _ _ _ (by intro e;simp only [Addr.mk.injEq] at e;omega);obtain⟨R,hR⟩:∃ R,(if t.high - 1 < g.row then t.high - 1 else g.row)=R:=⟨_,rfl⟩;obtain⟨C,hC⟩:∃ C,(if t.wide - 1 < g.col then t.wide - 1 else g.col)=C:=⟨_,rfl⟩;have wU:Hid (R=min g.row (t.high - 1)∧C=min g.col (t.wide - 1)):=⟨by rw [<-hR];split <;>omega,by rw [<-hC];split <;>omega⟩;go_wp2_with fail;go_region_held3 (fun d=>(d.cell? ⟨l.heap.size,0,none⟩=some (.int .i64 t.wide)∧d.cell? ⟨l.heap.size,1,none⟩=some (.int .i64 t.high))∧d.cell? ⟨w.heap.size,3,none⟩=some (.int .i64 g.row)∧d.cell? ⟨w.heap.size,4,none⟩=some (.int .i64 g.col)∧d.cell? ⟨w.heap.size,5,none⟩=some (.int .i64 g.aA)∧d.cell? ⟨w.heap.size,6,none⟩=some (.bool g.bold)) (first | go_keep | (simp [*,World.cell?_setCell_far,World.cell?_setCell_other])) (fail)
   all_goals (
    go_wp2
    refine bodyPost_ret (by simp [results,results34,go_sem, *];rfl) rfl ?_
    have hi:=HI.out
    rw [HK.out] at hi
    exact aa.out _ _ _ (by omega) (av.drew (iC ((((hi.bM.set (by simp;omega) _).set (by simp;omega) _).set (by simp;omega) _).set (by simp;omega) _) (by omega) _ _ _ _ _ _ _ _ _)) (Below.drew (iZ ((((hi.below.setCell (by simp;omega) _).setCell (by simp;omega) _).setCell (by simp;omega) _).setCell (by simp;omega) _) (by omega) _ _ _ _ _ _ _ _ _)) _ _ wU.out.1 wU.out.2)
end Go.Proofs.YtkcdcamophkdlaaGreatDoor
