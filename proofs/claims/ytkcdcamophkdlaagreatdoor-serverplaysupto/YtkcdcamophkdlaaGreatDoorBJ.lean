import Derived.Test.YtkcdcamophkdlaaGreatDoorAP
set_option maxHeartbeats 2000000
set_option maxRecDepth 100000
open Go.Proofs.Tryz
namespace Go.Proofs.YtkcdcamophkdlaaGreatDoor.Tl
open Go.RowKit
variable {w:World} {v:Value}
theorem NK (p:Int) (w:World):kD 49 #[.int .i64 p] w (.bool (dG p)):=by
 by_cases a:0<=p
 ·go_enter func49,ntmps49;go_wp2;go_ret;exact⟨bD (by simp [dG,a]),rfl⟩
 ·have:p < 0:=(by omega);go_enter func49,ntmps49;go_wp2;go_ret;exact⟨bD (by simp [dG];omega),rfl⟩
theorem uO {base c n j:Nat} {e:TypeId} {d:List Value} (h:w.ownsRow base e c v n d) (a:v.ownBlock=some j):base<=j:=by
 rcases h.2 with ⟨rfl,_⟩ | ⟨g,cap,b,rfl,i,_⟩
 ·simp [Value.ownBlock] at a
 ·simp only [Value.ownBlock,Option.some.injEq] at a;omega
structure Cu (w:World) (its:List bn) (co:Option Addr) (cap:Nat) (l:List Int) (v:Value) (wr:World):Prop where
 row:wr.ownsRow (w.heap.size+1) 3 1 v l.length (ints l)
 box:wr.heap[w.heap.size]?=some (aT co its.length cap)
 below:Below w.heap.size w wr
theorem Cu.more {its:List bn} {co:Option Addr} {cap:Nat} {l m:List Int} {d:Value} {wr b:World} (h:Cu w its co cap l v wr) (a:b.ownsRow (w.heap.size+1) 3 1 d (l.length+m.length) (ints l++ints m)) (c:wr.grownBy b v.ownBlock):Cu w its co cap (l++m) d b:=by
 refine⟨by simpa using a,?_,h.below.grown c h.below.size (fun j g=>by have:=uO h.row g;omega)⟩;rw [c.block _ (dI h.box) (fun e=>by have:=uO h.row e.symm;omega)];exact h.box
theorem EP (its:List bn) (co:Option Addr) (cap:Nat) (w:World) (T:aI w co its) (hm:its.length<=5864062014805) (G:(ak its).flatten.length<=17592186044416) (f:List Int) (S:f=(ak its).flatten):
  kC 26 #[tval co its.length cap] w fun e V=>∃ z c,e=.returned (.slice z f.length c)∧V.ownsRow (w.heap.size+1) 3 1 (.slice z f.length c) f.length (ints f)∧Below w.heap.size w V:=by
 obtain⟨U,y,H,I,J⟩:=info_parts info3;have Z:=gH T;have W:=gH S;have Y:Hid (∀ k (D:k < its.length),((ak its).take k).flatten.length+its[k].1.length<=17592186044416):=by
  intro k D;have F:k < (ak its).length:=(by simpa using D);have t:(ak its)=(ak its).take k++(ak its)[k]::(ak its).drop (k+1):=(by rw [<-List.drop_eq_getElem_cons F,List.take_append_drop]);have e:=congrArg (fun l:List (List Int)=>l.flatten.length) t;simp only [List.flatten_append,List.flatten_cons,List.length_append] at e;simp only [List.getElem_map] at e;omega
 obtain⟨_,_⟩:=one (at_new w (aT co its.length cap));clear T G S;go_enter func26,ntmps26;go_wp2;go_loopw [3,9] (fun v i wr=>∃ k:Nat,k<=its.length∧i=.int .i64 k∧Cu w its co cap ((ak its).take k).flatten v wr) (fun _ i _=>its.length - (intOf i).toNat)
 case atStart=>exact⟨0,Nat.zero_le _,rfl,by simpa using World.ownsRow_nil _ _ _ _,at_new _ _,aM _ _⟩
 case round=>
  obtain⟨k,D,rfl,y⟩:=hrel;have n:=gH y;clear y;by_cases g:k < its.length
  ·have:(k:Int) < (its.length:Int):=(by omega);have r:=Z.out.below n.out.below;obtain⟨b,K,rfl,Q⟩:=r.row.resolve_left (by intro h;subst h;simp at g);have t:=Q k g;have q:=Y.out k g;obtain⟨⟨s,N,O⟩,A⟩:∃ x,x=its[k]:=⟨_,rfl⟩;rw [<-A] at t q;have:wr.cell? ⟨b,K+k,none⟩=some (.slice N s.length O):=t;have o:(s,N,O)∈its:=(by rw [A];exact List.getElem_mem g);have m:=r.each _ o;have C:Hid (((ak its).take (k+1)).flatten=((ak its).take k).flatten++s):=by
    show _=_;rw [List.take_succ_eq_append_getElem (by simpa using g),List.flatten_append];simp [<-A]
   simp only at q m;obtain⟨L,P⟩:∃ L,L=((ak its).take k).flatten:=⟨_,rfl⟩;rw [<-P] at n C q;have:w.heap.size < wr.heap.size:=dI n.out.box;clear Q t A o r P;cases N with
   | none=>
    obtain⟨rfl,rfl⟩:=m.2 rfl;clear m;have VP:Hid (∀ M,(Builtin.append_ #[38,38] M #[u3,.slice none 0 0]).run prog wr=.ok u3 wr):=fun M=>run_append_owned_none wr (w.heap.size+1) 38 M 3 U 1 underlying38 y u3 _ _ n.out.row;go_wp2_with (at_builtin;refine Lib.wpList_append_run _ rfl _ _ _ _ rfl _ _ rfl rfl _ _ (VP.out _) ?_);go_roundw
    case rel=>
     refine⟨k+1,by omega,by go_num,?_⟩;rw [C.out,List.append_nil];exact n.out
    case measure=>simp [intOf];omega
   | some a=>
    have Ia:Hid (∀ j u,(ints s)[j]?=some u->wr.cell? (a.add j)=some u):=fun j u hu=>TU m.1 j u hu;clear m;go_wp2_with (at_builtin;refine wpList_append_own _ rfl _ _ 38 rfl (w.heap.size+1) 3 U (.int .i64 0) 1 8 underlying38 y H I J rfl (by decide) _ _ _ rfl n.out.row a s.length O (ints s) rfl (by simp) Ia.out (Jl s) (by unfold maxLen;omega) (by omega) (by omega) ?_);intro v' w2 p d _;have B:=gH (n.out.more p d);clear p d;go_wp2;go_roundw
    case rel=>
     refine⟨k+1,by omega,by go_num,?_⟩;rw [C.out];exact B.out
    case measure=>simp [intOf];omega
  ·have:(its.length:Int)<=(k:Int):=(by omega);have X:Hid (((ak its).take k).flatten=f):=by
    show _=_;rw [W.out,List.take_of_length_le (by simp;omega)]
   go_wp2;go_ret;have h:=n.out;rw [X.out] at h;obtain⟨z,c,hv⟩:=oG h.row;subst hv;exact⟨z,c,rfl,h.row,h.below⟩
variable (its:List bn) (co:Option Addr) (cap:Nat) (w:World) {aj:List (List Int)} {f:List Int} {k:Nat}
theorem Ms:∀ (aj:List (List Int)),(∀ c∈aj,c.length<=3)->aj.flatten.length<=3*aj.length
 | [],_=>by simp
 | c::r,h=>by
  have:=h c (by simp)
  have:=Ms r (fun d a=>h d (by simp [a]))
  simp only [List.flatten_cons,List.length_append,List.length_cons]
  omega
theorem pU (p:Int) (w:World) (G:aI w co its) (q:its.length<=5864062014805) (d:(ak its).flatten.length<=17592186044416) (h:Bool) (D:h=aR (ak its) p):
  kA 23 #[tval co its.length cap,.int .i64 p] w (.bool h):=by
 obtain⟨f,o⟩:∃ f,f=(ak its).flatten:=⟨_,rfl⟩;have H:Hid (kC 26 #[tval co its.length cap] (w.alloc (aT co its.length cap)) fun e t=>∃ b c,e=.returned (.slice b f.length c)∧bV t b f∧Below w.heap.size w t):=by
  refine(EP its co cap _ (G.below (aM _ _)) q d f o).mono ?_;rintro e t ⟨b,c,rfl,L,n⟩;exact⟨b,c,rfl,(Gi (x:=(f,b,c)) L).1,iG (aM _ _) n⟩
 have y:Hid (h=decide (p∈f)):=by
  show h=_;rw [D,Bool.eq_iff_iff,qC,decide_eq_true_eq,o]
 have:f.length<=17592186044416:=by rw [o];exact d
 obtain⟨I,M⟩:=one (at_new w (aT co its.length cap));clear G q d D o;go_enter func23,ntmps23
 go_wp2_with (first
  | (go_at_call 26;refine H.out.mono ?_;rintro e u ⟨b,c,rfl,m,l⟩;have r:Hid (bV u b f∧Below w.heap.size w u):=⟨m,l⟩;clear m l I M)
  | fail)
 go_loopw [10] (fun i wr=>∃ k:Nat,k<=f.length∧i=.int .i64 k∧wr=u∧∀ j (F:j < f.length),j < k->f[j]≠p) (fun i _=>f.length - (intOf i).toNat)
 case atStart=>exact⟨0,Nat.zero_le _,rfl,rfl,fun j _ h=>by omega⟩
 case round=>
  obtain⟨k,_,rfl,rfl,n⟩:=hrel;have z:=gH n;clear n;by_cases a:k < f.length
  ·obtain⟨_,_,rfl,B⟩:=r.out.1.resolve_left (by intro h;subst h;simp at a);have J:=B k a;obtain⟨x,s⟩:∃ x,x=f.getD k 0:=⟨_,rfl⟩;rw [<-s] at J;have A:Hid (f[k]=x):=(by show f[k]=x;rw [s];simp [a]);have:(k:Int) < (f.length:Int):=(by omega);clear B s;by_cases C:p=x
   ·have g:Hid (h=true):=by
     show h=true;rw [y.out,decide_eq_true_eq,C, <-A.out];exact List.getElem_mem a
    go_wp2;go_ret;exact⟨bD g.out.symm,r.out.2⟩
   ·have g:Hid (f[k]≠p):=(by show f[k]≠p;rw [A.out];exact fun e=>C e.symm);go_wp2;go_roundw
    case rel=>exact⟨k+1,by omega,by go_num,by first | rfl | trivial,fun j F h=>if e:j=k then by subst e;exact g.out else z.out j F (by omega)⟩
    case measure=>simp [intOf];omega
  ·have:(f.length:Int)<=(k:Int):=(by omega);have g:Hid (h=false):=by
    show h=false;rw [y.out,decide_eq_false_iff_not];intro q;obtain⟨i,K,e⟩:=List.getElem_of_mem q;exact z.out i K (by omega) e
   go_wp2;go_ret;exact⟨bD g.out.symm,r.out.2⟩
def Ll (f:List Int) (k:Nat):Prop:=∀ j (hj:j < f.length),j < k->dG f[j]=true∧∀ i (hi:i < j),f[i]≠f[j]
theorem acD (g:f=aj.flatten) (e:∀ c∈aj,1<=c.length∧c.length<=3) (h:Ll f f.length):cK aj=decide (0 < f.length):=by
 subst g;rw [Bool.eq_iff_iff,nG,decide_eq_true_eq];constructor
 ·intro n;cases aj with
  | nil=>exact absurd n.some (by simp)
  | cons c r=>
   have:=(e c (by simp)).1;simp only [List.flatten_cons,List.length_append];omega
 ·intro l;refine⟨?_,e,fun p m=>?_,?_⟩
  ·cases aj with
   | nil=>simp at l
   | cons c r=>simp
  ·obtain⟨i,a,rfl⟩:=List.getElem_of_mem m;exact(h i a a).1
  ·unfold List.Nodup;rw [List.pairwise_iff_getElem];intro i j a d b;exact(h j d d).2 i b
theorem Xe (a:f=aj.flatten) (b:k < f.length) (h:dG f[k]=false):cK aj=false:=yV fun c=>by
 subst a
 have:=c.pane _ (List.getElem_mem b)
 rw [h] at this
 cases this
theorem Xf (a:f=aj.flatten) {j:Nat} (c:k < f.length) (b:j < k) (h:f[j]=f[k]):cK aj=false:=yV fun d=>by
 subst a
 have:=d.once
 unfold List.Nodup at this
 rw [List.pairwise_iff_getElem] at this
 exact this j k (by omega) c b h
theorem Am (hr:aI w co its) (hm:its.length<=5864062014805) (F:∀ x∈its,x.1.length<=17592186044416) (g:Bool) (hg:g=cK (ak its)):
  kA 48 #[tval co its.length cap] w (.bool g):=by
 have HR:Hid (aI (w.alloc (aT co its.length cap)) co its):=hr.below (aM _ _);have HM:=gH F;have u:=gH hg;have HP:=gH NK;obtain⟨b0,z0⟩:=one (at_new w (aT co its.length cap));clear hr F hg;go_enter func48,ntmps48;go_wp2;go_loopw [13] (fun i wr=>∃ k:Nat,k<=its.length∧i=.int .i64 k∧wr=w.alloc (aT co its.length cap)∧∀ j (S:j < its.length),j < k->1<=its[j].1.length∧its[j].1.length<=3) (fun i _=>its.length - (intOf i).toNat)
 case atStart=>exact⟨0,Nat.zero_le _,rfl,rfl,fun j _ h=>by omega⟩
 case round=>
  obtain⟨k,_,rfl,rfl,L⟩:=hrel;have HT:=gH L;clear L;by_cases n:k < its.length
  ·obtain⟨b,t,rfl,m⟩:=HR.out.row.resolve_left (by intro h;subst h;simp at n);have z:=m k n;obtain⟨⟨o,x2,x3⟩,M⟩:∃ x,x=its[k]:=⟨_,rfl⟩;rw [<-M] at z;have h1:(w.alloc (aT (some ⟨b,t,none⟩) its.length cap)).cell? ⟨b,t+k,none⟩=some (.slice x2 o.length x3):=z;have X:=HM.out (o,x2,x3) (by rw [M];exact List.getElem_mem n);have HX:=gH M;have D:k < (ak its).length:=(by simpa using n);have jO:Hid ((ak its)[k]=o):=(by show _=_;simp [<-M]);have ab:(k:Int) < (its.length:Int):=(by omega);simp only at X;clear m M z;by_cases hs:o.length < 1
   ·have a:Hid (g=false):=by
     show g=_;rw [u.out];exact yV (Iz D (by rw [jO.out];omega))
    have W:(o.length:Int) < 1:=(by omega);go_wp2;go_ret;exact⟨bD a.out.symm,aM _ _⟩
   ·have W:(1:Int)<=(o.length:Int):=(by omega);by_cases al:3 < o.length
    ·have a:Hid (g=false):=by
      show g=_;rw [u.out];exact yV (Iz D (by rw [jO.out];omega))
     have Nw:(3:Int) < (o.length:Int):=(by omega);go_wp2;go_ret;exact⟨bD a.out.symm,aM _ _⟩
    ·have Nw:(o.length:Int)<=3:=(by omega);go_wp2;go_roundw
     case rel=>
      refine⟨k+1,by omega,by go_num,by first | rfl | trivial,fun j S h=>?_⟩;by_cases e:j=k
      ·subst e;rw [<-HX.out];simp only;omega
      ·exact HT.out j S (by omega)
     case measure=>simp [intOf];omega
  ·have ah:(its.length:Int)<=(k:Int):=(by omega);obtain⟨f,B⟩:∃ f,f=(ak its).flatten:=⟨_,rfl⟩;have y:Hid (∀ c∈ak its,1<=c.length∧c.length<=3):=by
    intro c m;obtain⟨i,s,rfl⟩:=List.getElem_of_mem m;simp only [List.getElem_map];exact HT.out i (by simpa using s) (by simp at s;omega)
   have Q:f.length<=17592186044416:=by
    have:=Ms (ak its) (fun c m=>(y.out c m).2);rw [<-B] at this;simp only [ak,List.length_map] at this;omega
   have HA:Hid (kC 26 #[tval co its.length cap] (w.alloc (aT co its.length cap)) fun e Y=>∃ r c,e=.returned (.slice r f.length c)∧f.length<=c∧bV Y r f∧Below w.heap.size w Y):=by
    refine(EP its co cap _ HR.out hm (by rw [<-B];exact Q) f B).mono ?_;rintro e Y ⟨r,c,rfl,H,hb⟩;refine⟨r,c,rfl,?_,(Gi (x:=(f,r,c)) H).1,iG (aM _ _) hb⟩;rcases H.2 with ⟨hv,z⟩ | ⟨_,_,_,hv,_,_,m,_⟩
    ·rw [z];exact Nat.zero_le _
    ·simp only [Value.slice.injEq] at hv;omega
   have P:=gH B;clear B
   go_wp2_with (first
    | (go_at_call 26;refine HA.out.mono ?_;rintro e Z ⟨r,c,rfl,_,K,A⟩;have N:Hid (bV Z r f∧Below w.heap.size w Z):=⟨K,A⟩;clear K A b0 z0)
    | fail)
   go_loopw [30] (fun i wr=>∃ k:Nat,k<=f.length∧i=.int .i64 k∧wr=Z∧Ll f k) (fun i _=>f.length - (intOf i).toNat)
   case atStart=>exact⟨0,Nat.zero_le _,rfl,rfl,fun j _ h=>by omega⟩
   case round=>
    obtain⟨l,_,rfl,rfl,I⟩:=hrel;have HO:=gH I;clear I;by_cases d:l < f.length
    ·obtain⟨b,t,rfl,m⟩:=N.out.1.resolve_left (by intro h;subst h;simp at d);have h1:=m l d;obtain⟨p,U⟩:∃ p,p=f.getD l 0:=⟨_,rfl⟩;rw [<-U] at h1;have O:Hid (f[l]=p):=(by show _=_;rw [U];simp [d]);have rY:=gH m;have ae:(l:Int) < (f.length:Int):=(by omega);have ag:(l:Int)<=(c:Int):=(by omega);have af:(0:Int)<=(l:Int):=(by omega);clear m U;by_cases J:dG p=true
     ·go_wp2_with (go_at_call 49;refine(HP.out _ _).mono ?_;rintro e w2 ⟨rfl,rfl⟩);go_loopw [42] (fun i aa=>∃ j:Nat,j<=l∧i=.int .i64 j∧aa=w2∧∀ i (s:i < f.length),i < j->f[i]≠p) (fun i _=>l - (intOf i).toNat)
      case atStart=>exact⟨0,Nat.zero_le _,rfl,rfl,fun j _ h=>by omega⟩
      case round=>
       obtain⟨j,S,rfl,rfl,G⟩:=hrel;have yE:=gH G;clear G;by_cases T:j < l
       ·have C:j < f.length:=(by omega);have h3:=rY.out j C;obtain⟨q,V⟩:∃ q,q=f.getD j 0:=⟨_,rfl⟩;rw [<-V] at h3;have HQ:Hid (f[j]=q):=(by show _=_;rw [V];simp [C]);have Nc:(j:Int) < (l:Int):=(by omega);clear V;by_cases he:p=q
        ·have a:Hid (g=false):=by
          show g=_;rw [u.out];exact Xf P.out d T (by rw [HQ.out,O.out,he])
         go_wp2;go_ret;exact⟨bD a.out.symm,N.out.2⟩
        ·have HE:Hid (f[j]≠p):=(by show f[j]≠p;rw [HQ.out];exact fun e=>he e.symm);go_wp2;go_roundw
         case rel=>exact⟨j+1,by omega,by go_num,by first | rfl | trivial,fun i s h=>if e:i=j then by subst e;exact HE.out else yE.out i s (by omega)⟩
         case measure=>simp [intOf];omega
       ·have ad:(l:Int)<=(j:Int):=(by omega);go_wp2;go_roundw
        case rel=>
         refine⟨l+1,by omega,by go_num,by first | rfl | trivial,fun i s h=>?_⟩;by_cases e:i=l
         ·subst e;rw [O.out];exact⟨J,fun i' ai=>yE.out i' (by omega) (by omega)⟩
         ·exact HO.out i s (by omega)
        case measure=>simp [intOf];omega
     ·have Dg:dG p=false:=(by simpa using J);have a:Hid (g=false):=by
       show g=_;rw [u.out];exact Xe P.out d (by rw [O.out];exact Dg)
      go_wp2_with (go_at_call 49;refine(HP.out _ _).mono ?_;rintro e w2 ⟨rfl,rfl⟩);go_ret;exact⟨bD a.out.symm,N.out.2⟩
    ·have ac:(f.length:Int)<=(l:Int):=(by omega);have a:Hid (g=decide (0 < f.length)):=by
      show g=_;rw [u.out];have H:=HO.out;rw [show l=f.length by omega] at H;exact acD P.out y.out H
     go_wp2;go_ret;refine⟨bD ?_,N.out.2⟩;rw [a.out,Bool.eq_iff_iff]
variable (E R:Int)
def qH (E R:Int):Nat->Int
 | 0=>0
 | i+1=>qH E R i+((if (i:Int) < R then E+1 else E)+1)
theorem af5 (a:0<=R) (i:Nat):qH E R i=i*(E+1)+min (i:Int) R:=by
 induction i with
 | zero=>simp [qH];omega
 | succ i ih=>
  unfold qH;rw [ih];have e:((i+1:Nat):Int)*(E+1)=(i:Int)*(E+1)+(E+1):=by
   rw [Int.natCast_add,Int.add_mul];simp
  rw [e];split <;>omega
theorem af4 (b:0<=E) (a:E<=24) (i:Nat) (c:i<=6):0<=qH E R i∧qH E R i<=26*i:=by
 induction i with
 | zero=>simp [qH]
 | succ i ih=>
  have:=ih (by omega);unfold qH;split <;>omega
theorem af8 (b n k:Int) (w:World) (r:Int×Int) (c:r=cZ b n k):kD 64 #[.int .i64 b,.int .i64 n,.int .i64 k] w (.tuple #[.int .i64 r.1,.int .i64 r.2]):=by
 by_cases h:n < 1∨6 < n∨k < 0∨n<=k
 ·have g:Hid (r=(0,0)):=by
   show r=(0,0);rw [c,Gt (by omega)]
  clear c;rcases h with h | h | h | h
  all_goals
   go_enter func64,ntmps64;go_wp2
   all_goals
    refine bodyPost_ret (by simp [results,results64,go_sem];rfl) rfl ?_;rw [g.out];exact⟨rfl,rfl⟩
 ·have:1<=n:=(by omega);have:n<=6:=(by omega);have:0<=k:=(by omega);have:k < n:=(by omega);by_cases C:b < 2*n - 1
  ·have g:Hid (r=(0,0)):=by
    show r=(0,0);rw [c,Gt (by omega)]
   clear c h;go_enter func64,ntmps64;go_wp2
   all_goals
    refine bodyPost_ret (by simp [results,results64,go_sem];rfl) rfl ?_;rw [g.out];exact⟨rfl,rfl⟩
  ·have:2*n - 1<=b:=(by omega);by_cases D:24 < b
   ·have g:Hid (r=(0,0)):=by
     show r=(0,0);rw [c,Gt (by omega)]
    clear c h;go_enter func64,ntmps64;go_wp2
    all_goals
     refine bodyPost_ret (by simp [results,results64,go_sem];rfl) rfl ?_;rw [g.out];exact⟨rfl,rfl⟩
   ·have:b<=24:=(by omega);obtain⟨E,d⟩:∃ E,E=(b - (n - 1)) / n:=⟨_,rfl⟩;obtain⟨R,e⟩:∃ R,R=(b - (n - 1)) % n:=⟨_,rfl⟩;have t:0<=E:=(by rw [d];exact Int.ediv_nonneg (by omega) (by omega));have u:E<=24:=by
     rw [d];have:=Int.ediv_le_self (a:=b - (n - 1)) n (by omega);omega
    have y:0<=R:=(by rw [e];exact Int.emod_nonneg _ (by omega));have:R < n:=(by rw [e];exact Int.emod_lt_of_pos _ (by omega));obtain⟨M,A⟩:∃ M,M=b - n+1:=⟨_,rfl⟩;have o:b - (n - 1)=M:=(by omega);rw [o] at d e;have:M / n=E:=d.symm;have:M % n=R:=e.symm;have:M.tdiv n=E:=(by rw [d];exact Int.tdiv_eq_ediv_of_nonneg (by omega));have:M.tmod n=R:=(by rw [e];exact Int.tmod_eq_emod_of_nonneg (by omega));obtain⟨K,rfl⟩:∃ K:Nat,k=K:=⟨k.toNat,by omega⟩;have j:Hid (r=(qH E R K,if (K:Int) < R then E+1 else E)):=by
     show r=_;rw [c];unfold cZ;rw [if_neg (by omega),o, <-d, <-e,af5 E R y]
    have:¬ n=0:=(by omega);have x:b - n+1=M:=A.symm;have:IntKind.i64.wrap (b - n+1)=M:=(by rw [x,IntKind.wrap_i64];omega);have:0<=M:=(by omega);have:M<=24:=(by omega);clear c h d e o C D A;go_enter func64,ntmps64;go_wp2;go_loopw [9,10] (fun a i wr=>∃ m:Nat,m<=K∧i=.int .i64 m∧a=.int .i64 (qH E R m)∧wr=w) (fun _ i _=>K+1 - (intOf i).toNat)
    case atStart=>exact⟨0,Nat.zero_le _,rfl,rfl,rfl⟩
    case round=>
     obtain⟨m,_,rfl,rfl,rfl⟩:=hrel;obtain⟨F,G⟩:=af4 E R t u m (by omega);have p:Hid (qH E R (m+1)=qH E R m+((if (m:Int) < R then E+1 else E)+1)):=rfl;have l:Hid (m=K->r=(qH E R m,if (m:Int) < R then E+1 else E)):=by
      rintro rfl;exact j.out
     obtain⟨Y,B⟩:∃ Y,Y=qH E R m:=⟨_,rfl⟩;rw [<-B] at F G p l ⊢;clear B j;by_cases z:(m:Int) < R
     ·by_cases q:m=K
      ·subst q;go_wp2
       all_goals
        refine bodyPost_ret (by simp [results,results64,go_sem];rfl) rfl ?_;rw [l.out (by first | rfl | trivial),if_pos z];exact⟨rfl,rfl⟩
      ·have s:¬ ((m:Int)=(K:Int)):=(by omega);go_wp2;go_roundw
       case rel=>
        refine⟨m+1,by omega,by go_num,?_,by first | rfl | trivial⟩;rw [p.out,if_pos z]
       case measure=>simp [intOf];omega
     ·have:R<=(m:Int):=(by omega);by_cases q:m=K
      ·subst q;go_wp2
       all_goals
        refine bodyPost_ret (by simp [results,results64,go_sem];rfl) rfl ?_;rw [l.out (by first | rfl | trivial),if_neg (by omega)];exact⟨rfl,rfl⟩
      ·have s:¬ ((m:Int)=(K:Int)):=(by omega);go_wp2;go_roundw
       case rel=>
        refine⟨m+1,by omega,by go_num,?_,by first | rfl | trivial⟩;rw [p.out,if_neg (by omega)]
       case measure=>simp [intOf];omega
theorem QT {aj:List (List Int)} (n:eY aj) {k j:Nat} (c:k < aj.length) (b:j < aj[k].length) {p:Int} (h:aj[k][j]=p):bL p aj=some (k,j):=by
 obtain⟨_,e⟩:=QW c b;have d:=n.once;rw [e,List.nodup_append] at d;have a:∀ q∈(aj.take k).flatten++aj[k].take j,q≠p:=fun q m=>by
  have:=d.2.2 q m aj[k][j] (by simp);rw [h] at this;exact this
 refine QO c (RN b h (fun i g=>?_)) (fun i g=>?_)
 ·refine a _ (List.mem_append_right _ ?_);rw [List.mem_take_iff_getElem];exact⟨i,by omega,rfl⟩
 ·rw [ND];intro l;refine a p (List.mem_append_left _ (List.mem_flatten.2 ⟨aj[i]'(by omega),?_,l⟩)) rfl;rw [List.mem_take_iff_getElem];exact⟨i,by omega,rfl⟩
theorem Ut (a n k:Int):0<=(cZ a n k).2:=by
 unfold cZ;split
 ·simp
 ·rename_i h;have:0<=(a - (n - 1)) / n:=Int.ediv_nonneg (by omega) (by omega);simp only;split <;>omega
theorem adD (its:List bn) (co:Option Addr) (cap:Nat) (wide high p:Int) (w:World) (hr:aI w co its) (hm:its.length<=5864062014805) (F:∀ x∈its,x.1.length<=17592186044416) (r:Rc) (K:r=gW (ak its) wide high p):
  kA 32 #[tval co its.length cap,.int .i64 wide,.int .i64 high,.int .i64 p] w (rval r):=by
 obtain⟨g,hg⟩:∃ g,g=cK (ak its):=⟨_,rfl⟩;have HG:Hid (∀ W,aI W co its->kA 48 #[tval co its.length cap] W (.bool g)):=fun W h=>Am its co cap W h hm F g hg;have z:Hid (jA w its co cap ((w.alloc (aT co its.length cap)).alloc ng)):=Pg hr;have HM:Hid (∀ x∈its,x.1.length<=17592186044416):=F;have V:Hid (r=gW (ak its) wide high p):=K;have M:Hid (g=cK (ak its)):=hg;clear hr F K hg;cases g with
 | false=>
  have A:Hid (r=dx):=by
   show r=_;rw [V.out];unfold gW;rw [if_pos M.out.symm]
  go_enter func32,ntmps32
  go_wp2_with (first
   | (go_at_call 48;refine(HG.out _ z.out.rd).mono ?_;rintro e T ⟨rfl,t⟩;have m:Hid (jA w its co cap T):=z.out.next t;obtain⟨a1,a2⟩:=one m.out.box;obtain⟨⟨a3,a4,a5,a6⟩,a7⟩:=four m.out.res;clear t)
   | fail)
  refine bodyPost_ret (v:=rval dx) (by simp [results,results32,go_sem,dx, *]) rfl ?_;rw [A.out];exact⟨rfl,qI m.out.below (by omega) _ _ _ _⟩
 | true=>
  have iF:Hid (eY (ak its)):=(nG _).1 M.out.symm;have HS:Hid (∀ (a b c:Int) (W:World),kD 64 #[.int .i64 a,.int .i64 b,.int .i64 c] W (.tuple #[.int .i64 (cZ a b c).1,.int .i64 (cZ a b c).2])):=fun a b c W=>af8 a b c W _ rfl;go_enter func32,ntmps32
  go_wp2_with (first
   | (go_at_call 48;refine(HG.out _ z.out.rd).mono ?_;rintro e T ⟨rfl,t⟩;have m:Hid (jA w its co cap T):=z.out.next t;obtain⟨a1,a2⟩:=one m.out.box;obtain⟨⟨a3,a4,a5,a6⟩,a7⟩:=four m.out.res;clear t)
   | fail)
  go_loopw [24] (fun i wr=>∃ k:Nat,k<=its.length∧i=.int .i64 k∧wr=T∧∀ d l,bL p (ak its)=some (d,l)->d < k->r=dx) (fun i _=>its.length - (intOf i).toNat)
  case atStart=>exact⟨0,Nat.zero_le _,rfl,rfl,fun _ _ _ h=>by omega⟩
  case round=>
   obtain⟨k,hk,rfl,rfl,J⟩:=hrel;have uZ:Hid (∀ d l,bL p (ak its)=some (d,l)->d < k->r=dx):=J;clear J;by_cases u:k < its.length
   ·have al:(k:Int) < (its.length:Int):=(by omega);obtain⟨b,ah,rfl,hc⟩:=m.out.rd.row.resolve_left (by intro h;subst h;simp at u);have Y:=hc k u;obtain⟨⟨o,x2,x3⟩,N⟩:∃ x,x=its[k]:=⟨_,rfl⟩;rw [<-N] at Y;have h1:wr.cell? ⟨b,ah+k,none⟩=some (.slice x2 o.length x3):=Y;have y:(o,x2,x3)∈its:=(by rw [N];exact List.getElem_mem u);have ag:=HM.out _ y;have jM:Hid (bV wr x2 o):=(m.out.rd.each _ y).1;have ac:k < (ak its).length:=(by simpa using u);have O:Hid ((ak its)[k]=o):=(by show _=_;simp [<-N]);simp only at ag;clear hc Y N y;go_wp2;go_loopw [31] (fun i ai=>∃ j:Nat,j<=o.length∧i=.int .i64 j∧ai=wr∧∀ d l,bL p (ak its)=some (d,l)->(d < k∨(d=k∧l < j))->r=dx) (fun i _=>o.length - (intOf i).toNat)
    case atStart=>exact⟨0,Nat.zero_le _,rfl,rfl,fun d l h1 h2=>uZ.out d l h1 (by omega)⟩
    case round=>
     obtain⟨j,hj,rfl,af,RB⟩:=hrel;subst af;have rZ:Hid (∀ d l,bL p (ak its)=some (d,l)->(d < k∨(d=k∧l < j))->r=dx):=RB;clear RB;by_cases B:j < o.length
     ·have Nc:(j:Int) < (o.length:Int):=(by omega);have ab:j < (ak its)[k].length:=(by rw [O.out];exact B);obtain⟨bl,ol,Z,I⟩:=jM.out.resolve_left (by intro h;subst h;simp at B);subst Z;have h3:=I j B;obtain⟨q,hq⟩:∃ q,q=o.getD j 0:=⟨_,rfl⟩;rw [<-hq] at h3;have HQ:Hid ((ak its)[k][j]=q):=by
       show _=_;simp only [O.out];rw [hq];simp [B]
      clear I hq;by_cases he:q=p
      ·subst he;have uU:Hid (bL q (ak its)=some (k,j)):=QT iF.out ac ab HQ.out;obtain⟨G,C⟩:∃ s,s=cZ wide its.length k:=⟨_,rfl⟩;obtain⟨H,D⟩:∃ s,s=cZ high o.length j:=⟨_,rfl⟩;have ad:0<=G.2:=(by rw [C];exact Ut _ _ _);have ae:0<=H.2:=(by rw [D];exact Ut _ _ _);have P:Hid (∀ W,kD 64 #[.int .i64 wide,.int .i64 its.length,.int .i64 k] W (.tuple #[.int .i64 G.1,.int .i64 G.2])):=fun W=>(by rw [C];exact HS.out _ _ _ W);have U:Hid (∀ W,kD 64 #[.int .i64 high,.int .i64 o.length,.int .i64 j] W (.tuple #[.int .i64 H.1,.int .i64 H.2])):=fun W=>(by rw [D];exact HS.out _ _ _ W);have X:Hid (r=if G.2=0∨H.2=0 then dx else ⟨H.1,G.1,H.2,G.2⟩):=by
        show r=_;rw [V.out];unfold gW;rw [if_neg (by rw [<-M.out];simp),uU.out];have aa:(ak its).getD k []=o:=by
         rw [<-O.out];simp [u]
        simp only [aa,C,D,ak,List.length_map]
       clear C D V;obtain⟨sx,S⟩:=G;obtain⟨sy,Q⟩:=H;simp only at ad ae P U X;by_cases e1:0 < S
       ·by_cases e2:0 < Q
        ·have A:Hid (r=⟨sy,sx,Q,S⟩):=by show r=_;rw [X.out,if_neg (by omega)]
         go_wp2_with (first
          | (go_at_call_of 64 (Value.int IntKind.i64 wide);refine(P.out _).mono ?_;rintro e L ⟨rfl,rfl⟩)
          | (go_at_call_of 64 (Value.int IntKind.i64 high);refine(U.out _).mono ?_;rintro e L ⟨rfl,rfl⟩)
          | fail)
         refine bodyPost_ret (v:=rval ⟨sy,sx,Q,S⟩) (by simp [results,results32,go_sem, *]) rfl ?_;rw [A.out];exact⟨rfl,qI m.out.below (by omega) _ _ _ _⟩
        ·have an:Q<=0:=(by omega);have A:Hid (r=dx):=by show r=_;rw [X.out,if_pos (by omega)]
         go_wp2_with (first
          | (go_at_call_of 64 (Value.int IntKind.i64 wide);refine(P.out _).mono ?_;rintro e L ⟨rfl,rfl⟩)
          | (go_at_call_of 64 (Value.int IntKind.i64 high);refine(U.out _).mono ?_;rintro e L ⟨rfl,rfl⟩)
          | fail)
         go_roundw
         case rel=>exact⟨j+1,by omega,by go_num,by first | rfl | trivial,fun _ _ _ _=>A.out⟩
         case measure=>simp [intOf];omega
       ·have IK:S<=0:=(by omega);have A:Hid (r=dx):=by show r=_;rw [X.out,if_pos (by omega)]
        go_wp2_with (first
         | (go_at_call_of 64 (Value.int IntKind.i64 wide);refine(P.out _).mono ?_;rintro e L ⟨rfl,rfl⟩)
         | (go_at_call_of 64 (Value.int IntKind.i64 high);refine(U.out _).mono ?_;rintro e L ⟨rfl,rfl⟩)
         | fail)
        go_roundw
        case rel=>exact⟨j+1,by omega,by go_num,by first | rfl | trivial,fun _ _ _ _=>A.out⟩
        case measure=>simp [intOf];omega
      ·have yE:Hid (∀ d l,bL p (ak its)=some (d,l)->¬ (d=k∧l=j)):=by
        rintro d l n ⟨rfl,rfl⟩;obtain⟨_,_,e⟩:=jI n;exact he (HQ.out.symm.trans e)
       have ao:¬ q=p:=he;go_wp2;go_roundw
       case rel=>exact⟨j+1,by omega,by go_num,by first | rfl | trivial,fun d l n h=>rZ.out d l n (by have:=yE.out d l n;omega)⟩
       case measure=>simp [intOf];omega
     ·have am:(o.length:Int)<=(j:Int):=(by omega);have GQ:Hid (∀ d l,bL p (ak its)=some (d,l)->d=k->l < j):=by
       rintro d l n rfl;obtain⟨g1,g2,_⟩:=jI n;rw [O.out] at g2;omega
      go_wp2;go_roundw
      case rel=>exact⟨k+1,by omega,by go_num,by first | rfl | trivial,fun d l n h=>rZ.out d l n (by have:=GQ.out d l n;omega)⟩
      case measure=>simp [intOf];omega
   ·have ap:(its.length:Int)<=(k:Int):=(by omega);have A:Hid (r=dx):=by
     show r=_;cases n:bL p (ak its) with
     | none=>
      rw [V.out];unfold gW;rw [if_neg (by rw [<-M.out];simp),n]
     | some x=>
      obtain⟨d,l⟩:=x;obtain⟨g1,_⟩:=jI n;exact uZ.out d l n (by simp at g1;omega)
    go_wp2;refine bodyPost_ret (v:=rval dx) (by simp [results,results32,go_sem,dx, *]) rfl ?_;rw [A.out];exact⟨rfl,qI m.out.below (by omega) _ _ _ _⟩
end Go.Proofs.YtkcdcamophkdlaaGreatDoor.Tl
