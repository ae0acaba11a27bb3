import Derived.Test.YtkcdcamophkdlaaGreatDoorAK
set_option maxHeartbeats 4000000
set_option maxRecDepth 2000
open Go.Proofs.Tryz
namespace Go.Proofs.YtkcdcamophkdlaaGreatDoor
open Go.RowKit
variable {g t:Gr} {r c:Int} {w wr:World} {cap b T:Nat} {f:Nat->aH}
def qg (g:Gr) (wide:Int):Nat->aH:=fun i=>iy g ((i:Int) / wide) ((i:Int) % wide)
def qG (g:Gr) (wide:Int) (k:Nat):Nat->aH:=fun i=>if (i:Int) < k*wide then qg g wide i else aX
def Gg (g:Gr) (wide high:Int):Gr:=
 ⟨(newG wide high).wide,(newG wide high).high,(newG wide high).n,qg g (newG wide high).wide,min g.row ((newG wide high).high - 1),min g.col ((newG wide high).wide - 1),g.aA,g.bold,(newG wide high).top,(newG wide high).bottom⟩
theorem Mf {w:Int} (a:0<=c) (d:c < w):(r*w+c) / w=r∧(r*w+c) % w=c:=by
 have e:w≠0:=by omega
 constructor
 ·rw [Int.add_comm,Int.add_mul_ediv_right _ _ e,Int.ediv_eq_zero_of_lt a d];omega
 ·rw [Int.add_comm,Int.add_mul_emod_self_right];exact Int.emod_eq_of_lt a d
theorem P8 (h:g.high<=r∨g.wide<=c):iy g r c=aX:=by
 unfold iy;rw [if_neg (by omega)]
theorem aeQ (h:OkG g) (W:Int) (A:1<=W) (k n:Nat) (v:(k:Int) < g.high) (i:Nat) (_hi:i < n):
  rP (qG g W k) (k*W).toNat (Nat.min g.wide.toNat W.toNat) (fun j=>g.f ((k*g.wide).toNat+j)) i=qG g W (k+1) i:=by
 have B:=h.w1;have p:((k+1:Nat):Int)*W=k*W+W:=by
  have:((k+1:Nat):Int)=(k:Int)+1:=(by omega);rw [this,Int.add_mul];omega
 have x:0<=(k:Int)*W:=Int.mul_nonneg (by omega) (by omega);have y:0<=(k:Int)*g.wide:=Int.mul_nonneg (by omega) (by omega);obtain⟨m,a⟩:∃ m,m=Nat.min g.wide.toNat W.toNat:=⟨_,rfl⟩;have z:(m:Int)=min g.wide W:=by
  rw [a];show ((min g.wide.toNat W.toNat:Nat):Int)=_;omega
 rw [<-a];clear a;unfold rP qG;rw [p];by_cases e:(i:Int) < k*W
 ·rw [if_neg (by omega),if_pos e,if_pos (by omega)]
 ·by_cases l:(i:Int) < k*W+W
  ·obtain⟨j,u⟩:∃ j:Nat,(i:Int)=k*W+j:=⟨i - (k*W).toNat,by omega⟩;have o:=Mf (r:=k) (c:=(j:Int)) (w:=W) (by omega) (by omega);have d:qg g W i=iy g k j:=(by unfold qg;rw [u,o.1,o.2]);rw [if_pos l];by_cases s:(j:Int) < g.wide
   ·rw [if_pos (by omega),d];obtain⟨q,_,_⟩:=WV h (r:=k) (c:=j) (by omega) v (by omega) s;rw [q];show g.f _=g.f _;congr 1;omega
   ·rw [if_neg (by omega),if_neg (by omega),d,P8 (.inr (by omega))]
  ·rw [if_neg (by omega),if_neg e,if_neg l]
theorem aeP (W H:Int) (k:1<=W) (M n:Nat) (m:(n:Int)=W*H) (j:(M:Int)=min g.high H) (i:Nat) (l:i < n):qG g W M i=qg g W i:=by
 unfold qG;by_cases h:(i:Int) < M*W
 ·rw [if_pos h]
 ·rw [if_neg h];have d:(M:Int)<=(i:Int) / W:=by
   have:=Int.ediv_le_ediv (a:=(M:Int)*W) (b:=(i:Int)) (c:=W) (by omega) (by omega);rw [Int.mul_ediv_cancel _ (by omega)] at this;exact this
  have e:(i:Int) / W < H:=by
   refine Int.ediv_lt_of_lt_mul (by omega) ?_;rw [Int.mul_comm];omega
  unfold qg;rw [P8 (.inl (by omega))]
theorem afp (g:Gr) (b a cap:Nat) (r s:Int) (w:World) (k:0<=r*g.wide) (d:r*g.wide < s*g.wide) (l:s*g.wide<=g.n) (j:g.n<=240) (i:g.n<=cap):
  kC 82 #[ay g (some ⟨b,a,none⟩) cap,.int .i64 r,.int .i64 s] w fun e h=>e=.returned (.slice (some ⟨b,a+(r*g.wide).toNat*4,none⟩) ((s*g.wide).toNat - (r*g.wide).toNat) (cap - (r*g.wide).toNat))∧h=w.alloc (aB g (some ⟨b,a,none⟩) cap):=by
 obtain⟨p,_⟩:∃ p,p=r*g.wide:=⟨_,rfl⟩;obtain⟨q,_⟩:∃ q,q=s*g.wide:=⟨_,rfl⟩;go_enter func82,ntmps82;go_wp2;go_ret;exact⟨rfl,rfl⟩
theorem afq (g:Gr) (h:OkG g) (b a cap:Nat) (w:World) (l:g.n<=cap) (r:Int) (i:0<=r) (j:r < g.high):
  kC 82 #[ay g (some ⟨b,a,none⟩) cap,.int .i64 r,.int .i64 (r+1)] w fun e m=>e=.returned (.slice (some ⟨b,a+(r*g.wide).toNat*4,none⟩) g.wide.toNat (cap - (r*g.wide).toNat))∧m=w.alloc (aB g (some ⟨b,a,none⟩) cap):=by
 obtain⟨_,_,_⟩:=h.nums;have:=h.w1;have:=p8 i j (w:=g.wide) (by omega);have e:(r+1)*g.wide=r*g.wide+g.wide:=by rw [Int.add_mul];omega
 have k:=afp g b a cap r (r+1) w (by omega) (by omega) (by omega) (by omega) l;rw [e] at k;have d:(r*g.wide+g.wide).toNat - (r*g.wide).toNat=g.wide.toNat:=by omega
 rw [d] at k;exact k
structure RInv (w:World) (g t:Gr) (ao:Option Addr) (cap b T:Nat) (f:Nat->aH) (wr:World):Prop where
 one:wr.heap[w.heap.size]?=some (aB g ao cap)
 res:wr.heap[w.heap.size+1]?=some aV
 two:wr.heap[T]?=some (aB t (some ⟨b,0,none⟩) t.n)
 bM:av wr b t.n f
 below:Below w.heap.size w wr
 own:w.heap.size+2<=b
 far:b < T
theorem RInv.step {e:Option Addr} {i:Nat->aH} {w':World} {o1 o2:Obj} (h:RInv w g t e cap b T f wr) (l:av w' b t.n i) (d:((wr.alloc o1).alloc o2).drew.grownBy w' (some b)):RInv w g t e cap b T i w':=by
 have j:=h.own;have k:=h.far;have a:=h.below;refine⟨bH d (aF (aF h.one o1) o2) (by simp;omega),bH d (aF (aF h.res o1) o2) (by simp;omega),bH d (aF (aF h.two o1) o2) (by simp;omega),l,?_,j,k⟩;exact(((a.alloc a.size _).alloc (by have:=a.size;simp;omega) _)).drew.trans (rD d (by have:=a.size;simp;omega) (by omega))
theorem RInv.src {d a:Nat} (_h:RInv w g t (some ⟨d,a,none⟩) cap b T f wr) (p:aL wr (some ⟨d,a,none⟩) g.n g.f) (s m:Nat) (C:s+m<=g.n) (o1 o2:Obj) (i:Nat) (A:i < m) (j:Nat) (B:j < 4):
  ((wr.alloc o1).alloc o2).drew.cell? ((⟨d,a+s*4,none⟩:Addr).add (i*4+j))=pO (g.f (s+i)) j:=by
 have e:=p.below (aO wr o1 o2);rcases e with z | ⟨y,k,h,o⟩
 ·omega
 ·simp only [Option.some.injEq,Addr.mk.injEq,and_true] at h;obtain⟨rfl,rfl⟩:=h;obtain⟨q,u,v,x⟩:=o (s+i) (by omega);rw [mJ];show ((wr.alloc o1).alloc o2).cell? _=_;have l:j=0∨j=1∨j=2∨j=3:=(by omega);rcases l with rfl | rfl | rfl | rfl
  ·rw [show a+s*4+(i*4+0)=a+(s+i)*4 by omega,q];rfl
  ·rw [show a+s*4+(i*4+1)=a+(s+i)*4+1 by omega,u];rfl
  ·rw [show a+s*4+(i*4+2)=a+(s+i)*4+2 by omega,v];rfl
  ·rw [show a+s*4+(i*4+3)=a+(s+i)*4+3 by omega,x];rfl
variable {g:Gr} {w wr:World} {b cap:Nat} {f:Nat->aH}
structure fA (w:World) (g:Gr) (b cap:Nat) (f:Nat->aH) (wr:World):Prop where
 box:wr.heap[w.heap.size]?=some (aB g (some ⟨b,0,none⟩) cap)
 res:wr.heap[w.heap.size+1]?=some aV
 bM:av wr b g.n f
 grown:w.grownBy wr (some b)
theorem fA.alloc (h:fA w g b cap f wr) (o:Obj):fA w g b cap f (wr.alloc o):=
 ⟨aF h.box o,aF h.res o,h.bM.alloc o,bB h.grown o⟩
theorem fA.drew (h:fA w g b cap f wr):fA w g b cap f wr.drew:=
 ⟨h.box,h.res,h.bM,om h.grown⟩
theorem fA.put (h:fA w g b cap f wr) (l:b < w.heap.size) (i o0 o1 o2 o3:Nat) (c:aH) (k:i < g.n) (a:o0=i*4) (d:o1=i*4+1) (e:o2=i*4+2) (j:o3=i*4+3):
  fA w g b cap (gV f i c) ((((wr.setCell ⟨b,o0,none⟩ (.int .i64 c.ch)).setCell ⟨b,o1,none⟩ (.int .i64 c.aA)).setCell ⟨b,o2,none⟩ (.int .i64 c.aJ)).setCell ⟨b,o3,none⟩ (.bool c.bold)):=
 ⟨cO (cO (cO (cO h.box (by omega)) (by omega)) (by omega)) (by omega),cO (cO (cO (cO h.res (by omega)) (by omega)) (by omega)) (by omega),h.bM.put i o0 o1 o2 o3 c k a d e j,MH h.grown⟩
theorem Gx (s:ByteArray) (k:Nat) (h:k < s.size):s.data.toList.take (k+1)=s.data.toList.take k++[s[k]]:=by
 rw [List.take_succ_eq_append_getElem (by simpa using h)];rfl
theorem TG (g:Gr) (l:List UInt8) (c:UInt8):eZ g (l++[c])=iV g (eZ g l) c:=by
 unfold eZ;rw [List.foldl_append]
 rfl
theorem TD (h:OkG g) (l:List UInt8):0<=(eZ g l).2.1∧(eZ g l).2.1<=24+l.length∧0<=(eZ g l).2.2∧(eZ g l).2.2<=24+l.length:=by
 have a:0<=aZ g:=by have:=h.c1;have:=h.w1;unfold aZ;omega
 have d:aZ g<=24:=by have:=h.w2;unfold aZ;omega
 suffices H:∀ (l:List UInt8) (s:(Nat->aH)×Int×Int) (A:Int),24<=A->(0<=s.2.1∧s.2.1<=A∧0<=s.2.2∧s.2.2<=A)->0<=(l.foldl (iV g) s).2.1∧(l.foldl (iV g) s).2.1<=A+l.length∧0<=(l.foldl (iV g) s).2.2∧(l.foldl (iV g) s).2.2<=A+l.length by
  refine H l _ 24 (Int.le_refl _) ⟨h.r1,?_,a,d⟩;have:=h.r2;have:=h.h2;show g.row<=24;omega
 intro l;induction l with
 | nil=>intro s A _ e;simpa using e
 | cons c r ih=>
  intro s A j e;have i:0<=(iV g s c).2.1∧(iV g s c).2.1<=A+1∧0<=(iV g s c).2.2∧(iV g s c).2.2<=A+1:=by
   unfold iV;split
   ·exact⟨by simp only;omega,by simp only;omega,by simp only;omega,by simp only;omega⟩
   ·exact⟨by simp only;omega,by simp only;omega,by simp only;omega,by simp only;omega⟩
  have:=ih (iV g s c) (A+1) (by omega) i;simp only [List.foldl_cons,List.length_cons] at this ⊢;omega
theorem Ue (g:Gr) (h:OkG g) (b cap:Nat) (w:World) (j:g.n<=cap) (r:Int) (d:0<=r) (i:r < g.high):
  kC 82 #[ay g (some ⟨b,0,none⟩) cap,.int .i64 r,.int .i64 (r+1)] w fun e l=>e=.returned (.slice (some ⟨b,(r*g.wide).toNat*4,none⟩) g.wide.toNat (cap - (r*g.wide).toNat))∧l=w.alloc (aB g (some ⟨b,0,none⟩) cap):=by
 obtain⟨_,_,_⟩:=h.nums;have:=h.w1;have:=p8 d i (w:=g.wide) (by omega);have e:(r+1)*g.wide=r*g.wide+g.wide:=by rw [Int.add_mul];omega
 have k:=JM g b cap r (r+1) w (by omega) (by omega) (by omega) (by omega) j;rw [e] at k;have a:(r*g.wide+g.wide).toNat - (r*g.wide).toNat=g.wide.toNat:=by omega
 rw [a] at k;exact k
theorem adC (g:Gr) (h:OkG g) (b cap:Nat) (w:World) (Z:av w b g.n g.f) (hc:g.n<=cap) (s:ByteArray) (hs:s.size<=140737488355328) (S:Nat->aH) (M:S=(eZ g s.data.toList).1):
  kC 131 #[ay g (some ⟨b,0,none⟩) cap,.string s] w (dU w b cap ⟨g.wide,g.high,g.n,S,g.row,g.col,g.aA,g.bold,g.top,g.bottom⟩):=by
 have O:=Z.lt;have HS:=gH Z;have Q:Hid (OkG g∧g.n<=cap):=⟨h,hc⟩;have wJ:=gH M;have an:=h.w1;have ao:=h.w2;have aj:=h.c1;have ak:=h.c2;obtain⟨k0,A⟩:∃ k,k=aZ g:=⟨_,rfl⟩;have HH:Hid (∀ w,kC 145 #[ay g (some ⟨b,0,none⟩) cap] w fun e m=>e=.returned (.int .i64 k0)∧m=w.alloc (aB g (some ⟨b,0,none⟩) cap)):=by
  intro w;rw [A];exact Fz g _ cap w ⟨by omega,by omega⟩
 have Ed:=gH A;clear Z h hc M A;go_enter func131,ntmps131;go_wp2_with fail;go_region_held3 (fun m=>m.cell? ⟨w.heap.size,0,none⟩=some (.int .i64 g.wide)∧m.cell? ⟨w.heap.size,1,none⟩=some (.int .i64 g.high)∧m.cell? ⟨w.heap.size,2,none⟩=some (.slice (some ⟨b,0,none⟩) g.n cap)∧m.cell? ⟨w.heap.size,3,none⟩=some (.int .i64 g.row)∧m.cell? ⟨w.heap.size,4,none⟩=some (.int .i64 g.col)∧m.cell? ⟨w.heap.size,5,none⟩=some (.int .i64 g.aA)∧m.cell? ⟨w.heap.size,6,none⟩=some (.bool g.bold)∧m.cell? ⟨w.heap.size,7,none⟩=some (.int .i64 g.top)∧m.cell? ⟨w.heap.size,8,none⟩=some (.int .i64 g.bottom)) (first | go_keep | (simp [*,World.cell?_alloc_past]))
  ((go_at_call 145;refine(HH.out _).mono ?_;rintro e U ⟨rfl,rfl⟩))
 go_wp2;go_loopw [5,6,15] (fun r c i wr=>∃ k:Nat,k<=s.size∧i=.int .i64 k∧r=.int .i64 (eZ g (s.data.toList.take k)).2.1∧c=.int .i64 (eZ g (s.data.toList.take k)).2.2∧fA w g b cap (eZ g (s.data.toList.take k)).1 wr) (fun _ _ i _=>s.size - (intOf i).toNat)
 case atStart=>
  refine⟨0,Nat.zero_le _,rfl,rfl,?_,?_⟩
  ·show Value.int .i64 k0=_;rw [Ed.out]
   rfl
  ·have l:fA w g b cap g.f ((w.alloc (aB g (some ⟨b,0,none⟩) cap)).alloc aV):=⟨aF (at_new w _) _,bK w _ _,(HS.out.alloc _).alloc _,bB (bB (eP _ _) _) _⟩;exact(l.alloc _).drew
 case round=>
  obtain⟨k,_,rfl,rfl,rfl,l⟩:=hrel;have hb:=TD Q.out.1 (s.data.toList.take k);have N:(s.data.toList.take k).length<=k:=List.length_take_le _ _;obtain⟨st,o⟩:∃ st,st=eZ g (s.data.toList.take k):=⟨_,rfl⟩;rw [<-o] at hb l ⊢;obtain⟨f,R,C⟩:=st;simp only at hb l ⊢;have E:=gH l;obtain⟨G,aa,ab,ac⟩:=hb;have ag:R<=140737488355400:=(by omega);have ou:C<=140737488355400:=(by omega);by_cases ad:k < s.size
  ·have B:Hid (eZ g (s.data.toList.take (k+1))=iV g (f,R,C) s[k]):=by
    show eZ g _=_;rw [Gx s k ad,TG, <-o]
   obtain⟨⟨x0,x1,x2,x3,x4,x5,x6,x7,x8⟩,z⟩:=nine l.box;have am:w.heap.size < wr.heap.size:=(gQ l.box).1;have Rz:(k:Int) < (s.size:Int):=(by omega);have A:(0:Int)<=(k:Int):=(by omega);have p:s[k].toNat < 256:=UInt8.toNat_lt _;obtain⟨y,hy⟩:∃ y:Int,(s[k].toNat:Int)=y:=⟨_,rfl⟩;have ae:0<=y:=(by omega);have af:y<=255:=(by omega);clear o N aa ac;by_cases q:s[k]=45
   ·have d:Hid (eZ g (s.data.toList.take (k+1))=(f,R+1,k0)):=by
     show eZ g _=_;rw [B.out,Ed.out];unfold iV;rw [if_pos q]
    have FN:y=45:=(by rw [<-hy,q];rfl);subst FN;clear l q p ae af;go_wp2_with (go_at_call 145;refine(HH.out _).mono ?_;rintro e U ⟨rfl,rfl⟩);go_roundw
    case rel=>exact⟨k+1,by omega,by go_num,by rw [d.out],by rw [d.out],by rw [d.out];exact E.out.alloc _⟩
    case measure=>simp [intOf];omega
   ·have FN:(y==45)=false:=by
     have:y≠45:=fun e=>q (by apply UInt8.toNat_inj.1;show s[k].toNat=45;omega);simp [this]
    have K:97<=s[k].toNat∧s[k].toNat<=104↔97<=y∧y<=104:=(by omega);by_cases J:97<=y∧y<=104
    ·have e1:1<=y - 97+1:=(by omega);have e2:y - 97+1<=8:=(by omega);by_cases a:R < g.high∧C < g.wide
     ·have d:Hid (eZ g (s.data.toList.take (k+1))=(gV f (R*g.wide+C).toNat ⟨0,0,y - 97+1,false⟩,R,C+1)):=by
       show eZ g _=_;rw [B.out];unfold iV;rw [if_neg q];simp only;rw [if_pos ⟨(K.2 J).1,(K.2 J).2,a⟩,hy,show y - 97+1=y - 96 by omega]
      have X:Hid (∀ w,kC 153 #[ay g (some ⟨b,0,none⟩) cap,.int .i64 R,.int .i64 C] w fun e m=>e=.returned (.bool true)∧m=w.alloc (aB g (some ⟨b,0,none⟩) cap)):=fun w=>by
       have:=vT g (some ⟨b,0,none⟩) cap R C w;rw [decide_eq_true ⟨G,a.1,ab,a.2⟩] at this;exact this
      obtain⟨q1,q2,_⟩:=Q.out.1.nums;have q3:=p8 G a.1 (w:=g.wide) (by omega);obtain⟨P,hP⟩:∃ P,P=(R*g.wide).toNat:=⟨_,rfl⟩;obtain⟨Wd,L⟩:∃ W,W=g.wide.toNat:=⟨_,rfl⟩;have x:IntKind.i64.wrap (R+1)=R+1:=(by rw [IntKind.wrap_i64];omega);have V:Hid (∀ w v,v=R+1->kC 82 #[ay g (some ⟨b,0,none⟩) cap,.int .i64 R,.int .i64 v] w fun e m=>e=.returned (.slice (some ⟨b,P*4,none⟩) Wd (cap - P))∧m=w.alloc (aB g (some ⟨b,0,none⟩) cap)):=by
       intro w v hv;rw [hP,hv,L];exact Ue g Q.out.1 b cap w Q.out.2 R G a.1
      have vB:=gH x;obtain⟨I,hI⟩:∃ I,I=P+C.toNat:=⟨_,rfl⟩;have F:I < g.n:=(by omega);obtain⟨t0,t1,t2,t3⟩:=l.bM.cells I F;have u:I*4=P*4+C.toNat*4:=(by omega);rw [u] at t0 t1 t2 t3;have al:∀ j,wr.frozen? ⟨b,j,none⟩=false:=l.bM.free;have ah:b < wr.heap.size:=l.bM.lt;have ai:C < (Wd:Int):=(by omega);have HI:Hid (I=(R*g.wide+C).toNat∧I < g.n∧I*4=P*4+C.toNat*4):=⟨by omega,F,u⟩;obtain⟨_,D⟩:∃ c,c=f I:=⟨_,rfl⟩;rw [<-D] at t0 t1 t2 t3;clear D l q p K J a q1 q2 q3 hP L hI F u x B
      go_wp2_with (first
       | (go_at_call 153;refine(X.out _).mono ?_;rintro e U ⟨rfl,rfl⟩)
       | (go_at_call 82;refine(V.out _ _ (by first | exact vB.out | rfl)).mono ?_;rintro e U ⟨rfl,rfl⟩))
      go_roundw
      case rel=>
       obtain⟨i1,i2,_⟩:=HI.out;refine⟨k+1,by omega,by go_num,by rw [d.out],by rw [d.out],?_⟩;rw [d.out];have hq:=E.out.put O I (P*4+C.toNat*4) (P*4+C.toNat*4+1) (P*4+C.toNat*4+2) (P*4+C.toNat*4+3) ⟨0,0,y - 97+1,false⟩ i2 (by omega) (by omega) (by omega) (by omega);rw [i1] at hq;exact(hq.alloc _).alloc _
      case measure=>simp [intOf];omega
     ·have d:Hid (eZ g (s.data.toList.take (k+1))=(f,R,C+1)):=by
       show eZ g _=_;rw [B.out];unfold iV;rw [if_neg q];simp only;rw [if_neg (fun H=>a H.2.2)]
      have X:Hid (∀ w,kC 153 #[ay g (some ⟨b,0,none⟩) cap,.int .i64 R,.int .i64 C] w fun e m=>e=.returned (.bool false)∧m=w.alloc (aB g (some ⟨b,0,none⟩) cap)):=fun w=>by
       have:=vT g (some ⟨b,0,none⟩) cap R C w;rw [decide_eq_false (fun H=>a ⟨H.2.1,H.2.2.2⟩)] at this;exact this
      clear l q p K J a B;go_wp2_with (go_at_call 153;refine(X.out _).mono ?_;rintro e U ⟨rfl,rfl⟩);go_roundw
      case rel=>exact⟨k+1,by omega,by go_num,by rw [d.out],by rw [d.out],by rw [d.out];exact E.out.alloc _⟩
      case measure=>simp [intOf];omega
    ·have d:Hid (eZ g (s.data.toList.take (k+1))=(f,R,C+1)):=by
      show eZ g _=_;rw [B.out];unfold iV;rw [if_neg q];simp only;rw [if_neg (fun H=>J (K.1 ⟨H.1,H.2.1⟩))]
     by_cases Y:97<=y
     ·have e1:1<=y - 97+1:=(by omega);have e2:8 < y - 97+1:=(by omega);clear l q p K J B;go_wp2;go_roundw
      case rel=>exact⟨k+1,by omega,by go_num,by rw [d.out],by rw [d.out],by rw [d.out];exact E.out⟩
      case measure=>simp [intOf];omega
     ·have e1:y - 97+1 < 1:=(by omega);clear l q p K J B Y;go_wp2;go_roundw
      case rel=>exact⟨k+1,by omega,by go_num,by rw [d.out],by rw [d.out],by rw [d.out];exact E.out⟩
      case measure=>simp [intOf];omega
  ·have HE:Hid (S=f):=by
    show S=f;rw [List.take_of_length_le (by simp;omega)] at o;rw [wJ.out, <-o]
   obtain⟨⟨x0,x1,x2,x3,x4,x5,x6,x7,x8⟩,z⟩:=nine l.box;obtain⟨⟨_,_,_,_,_,_,_,_,_⟩,v⟩:=nine l.res;clear l o N;go_wp2;refine bodyPost_ret (v:=ay ⟨g.wide,g.high,g.n,f,g.row,g.col,g.aA,g.bold,g.top,g.bottom⟩ (some ⟨b,0,none⟩) cap) (by simp [results,results131,go_sem, *]) rfl ?_;rw [HE.out];exact⟨rfl,jC (w:=w) ⟨E.out.bM,E.out.grown⟩ (by omega) O _ _ _ _ _ _ _ _ _⟩
theorem aeT (g:Gr) (h:Option Addr) (cap:Nat) (wide high:Int) (w:World) (k:aL w h g.n g.f) (B:h=none->g.n=0∧cap=0) (J:g.n<=4398046511104) (A:kE g=false):
  kC 63 #[ay g h cap,.int .i64 wide,.int .i64 high] w (AllEnd w (g,1)):=by
 have z:=gH k;have G:Hid (∀ w,aL w h g.n g.f->kC 17 #[.slice h g.n cap] w fun e K=>∃ j a,e=.returned (.slice j g.n a)∧eH w g.n g.f j a K):=fun w k=>uD h cap g.n g.f w k B (by omega);have E:Hid (∀ w,aL w h g.n g.f->kA 81 #[ay g h cap] w (.bool false)):=fun w k=>jT g h cap w k (by omega) false A.symm;clear k B J A;go_enter func63,ntmps63
 go_wp2_with (first
  | (go_at_call 81;refine(E.out _ (z.out.below (aO _ _ _))).mono ?_;rintro e D ⟨rfl,i⟩;have m:Hid (Below w.heap.size w D):=(aO _ _ _).trans (i.mono (by simp;omega));have u:=aG i (aF (at_new w _) _) (by simp;omega);have C:=aG i (bK w _ _) (by simp);have y:Hid _:=u;have x:Hid _:=C;obtain⟨⟨_,_,_,_,_,_,_,_,_⟩,_⟩:=nine u;clear i u C)
  | (go_at_call 17;refine(G.out _ (z.out.below m.out)).mono ?_;rintro e L ⟨j,a,rfl,d⟩;have F:=gH d;obtain⟨⟨_,_,_,_,_,_,_,_,_⟩,_⟩:=nine (aG d.2.2 y.out (gQ y.out).1);obtain⟨⟨_,_,_,_,_,_,_,_,_⟩,v⟩:=nine (aG d.2.2 x.out (gQ x.out).1);clear d))
 refine bodyPost_ret (v:=.tuple #[ay g j a,.int .i64 1]) (by simp [results,results63,go_sem, *]) rfl ?_;have:w.heap.size+1 < D.heap.size:=(gQ x.out).1;have d:=F.out;have o:Below w.heap.size w L:=m.out.trans (d.2.2.mono m.out.size);have q:=o.setCell (p:=⟨w.heap.size,2,none⟩) (Nat.le_refl _) (.slice j g.n a);refine⟨j,a,rfl,?_,?_,iZ q (by omega) _ _ _ _ _ _ _ _ _⟩
 ·rcases Nat.eq_zero_or_pos g.n with l | l
  ·exact .inl l
  ·obtain⟨b,rfl,H,_,s⟩:=d.2.1 l;exact(iC (s.set (p:=⟨w.heap.size,2,none⟩) (by simp;omega) _) (by omega) _ _ _ _ _ _ _ _ _).rd
 ·intro l;obtain⟨b,rfl,H,I,s⟩:=d.2.1 l;exact⟨b,rfl,by omega,I,iC (s.set (p:=⟨w.heap.size,2,none⟩) (by simp;omega) _) (by omega) _ _ _ _ _ _ _ _ _⟩
theorem aeU (g:Gr) (h:OkG g) (m d cap:Nat) (wide high:Int) (w:World) (G:aL w (some ⟨m,d,none⟩) g.n g.f) (O:g.n<=cap) (x:Gr) (hx:x=Gg g wide high):
  kC 63 #[ay g (some ⟨m,d,none⟩) cap,.int .i64 wide,.int .i64 high] w (AllEnd w (x,0)):=by
 obtain⟨t,N⟩:∃ t,t=newG wide high:=⟨_,rfl⟩;have s:OkG t:=by rw [N];exact sQ wide high
 have HX:Hid (x=⟨t.wide,t.high,t.n,qg g t.wide,min g.row (t.high - 1),min g.col (t.wide - 1),g.aA,g.bold,t.top,t.bottom⟩):=by
  show x=_;rw [hx,N]
  rfl
 have HR:=gH G;have HO:Hid (OkG g∧OkG t∧g.n<=cap):=⟨h,s,O⟩;have dZ:Hid (∀ w,aL w (some ⟨m,d,none⟩) g.n g.f->kA 81 #[ay g (some ⟨m,d,none⟩) cap] w (.bool true)):=fun w G=>jT g (some ⟨m,d,none⟩) cap w G (by obtain⟨q1,q2,_⟩:=h.nums;omega) true ((iT g).2 h).symm;have HN:Hid (∀ w,kC 62 #[.int .i64 wide,.int .i64 high] w fun e a=>∃ b,e=.returned (ay t (some ⟨b,0,none⟩) t.n)∧av a b t.n t.f∧w.heap.size<=b∧Below w.heap.size w a):=fun w=>zo wide high w t N;have zV:Hid (∀ i,t.f i=qG g t.wide 0 i):=by
  intro i;rw [N];show aX=qG g _ 0 i;unfold qG;rw [if_neg (by omega)]
 have:=h.h1;have:=h.h2;have:=s.h1;have:=s.h2;have:=h.w1;have:=h.w2;have RH:=s.w1;have:=s.w2;have:=h.r1;have:g.row<=10:=by have:=h.r2;omega
 have:=h.c1;have:g.col<=24:=by have:=h.c2;omega
 obtain⟨M,hM⟩:∃ M:Nat,(M:Int)=min g.high t.high:=⟨(min g.high t.high).toNat,by omega⟩;have X:=gH hM;have:M<=10:=by omega
 have ab:(t.high < g.high∧t.high=(M:Int))∨(g.high<=t.high∧g.high=(M:Int)):=by omega
 clear G hx N h s O hM;have S:Hid (∀ (b:Nat) (a:World),w.heap.size<=b->av a b t.n (qG g t.wide M)->Below w.heap.size w a->∀ r c:Int,r=min g.row (t.high - 1)->c=min g.col (t.wide - 1)->AllEnd w (x,0) (.returned (.tuple #[.agg #[.int .i64 t.wide,.int .i64 t.high,.slice (some ⟨b,0,none⟩) t.n t.n,.int .i64 r,.int .i64 c,.int .i64 g.aA,.bool g.bold,.int .i64 t.top,.int .i64 t.bottom],.int .i64 0])) a):=by
  intro b a hb L H r c G O;have E:av a b t.n (qg g t.wide):=L.congr fun i D=>aeP t.wide t.high RH M t.n HO.out.2.1.size X.out i D;rw [HX.out,G,O];exact⟨some ⟨b,0,none⟩,t.n,rfl,E.rd,fun _=>⟨b,rfl,hb,Nat.le_refl _,E⟩,H⟩
 rcases ab with ⟨I,Z⟩ | ⟨I,Z⟩
 all_goals (
  have oM:Hid _:=Z
  clear Z
  go_enter func63,ntmps63
  go_wp2_with (first
   | (go_at_call 81;refine(dZ.out _ (HR.out.below (aO _ _ _))).mono ?_;rintro e w2 ⟨rfl,u⟩;have U:Hid (Below w.heap.size w w2):=(aO _ _ _).trans (u.mono (by simp;omega));have F:Hid _:=aG u (aF (at_new w _) _) (by simp;omega);have R:Hid _:=aG u (bK w _ _) (by simp);clear u)
   | (go_at_call 62;refine(HN.out _).mono ?_;rintro e l ⟨b,rfl,L,aa,o⟩;have HV:Hid (RInv w g t (some ⟨m,d,none⟩) cap b l.heap.size (qG g t.wide 0) (l.alloc (aB t (some ⟨b,0,none⟩) t.n))):=⟨aF (aG o F.out (gQ F.out).1) _,aF (aG o R.out (gQ R.out).1) _,at_new _ _,(L.congr (fun i _=>zV.out i)).alloc _,(U.out.trans (o.mono U.out.size)).alloc (by have:=U.out.size;have:=o.size;omega) _,(by have:=(gQ R.out).1;omega),L.lt⟩;obtain⟨⟨x0,x1,x2,x3,x4,x5,x6,x7,x8⟩,z⟩:=nine (aG o F.out (gQ F.out).1);have:w.heap.size < l.heap.size:=(by have:=(gQ F.out).1;have:=o.size;omega);clear L aa o))
  clear x0 x1 x2 x3 x4 x5 x6 x7 x8 z F R HN dZ
  go_loopw [26] (fun i wr=>∃ k:Nat,k<=M∧i=.int .i64 k∧RInv w g t (some ⟨m,d,none⟩) cap b l.heap.size (qG g t.wide k) wr) (fun i _=>M - (intOf i).toNat)
  case atStart=>exact⟨0,Nat.zero_le _,rfl,HV.out⟩
  case round=>
   obtain⟨k,_,rfl,p⟩:=hrel
   have HI:=gH p
   obtain⟨⟨x0,x1,x2,x3,x4,x5,x6,x7,x8⟩,z⟩:=nine p.one
   obtain⟨⟨_,_,_,_,_,_,_,_,_⟩,_⟩:=nine p.two
   have:w.heap.size < wr.heap.size:=(gQ p.one).1
   have E:l.heap.size < wr.heap.size:=(gQ p.two).1
   by_cases ad:k < M
   ·have q:(k:Int) < g.high:=by have:=X.out;omega
    have A:(k:Int) < t.high:=by have:=X.out;omega
    have v:(0:Int)<=(k:Int):=by omega
    obtain⟨h,s,y⟩:=HO.out
    obtain⟨q1,q2,_⟩:=h.nums
    obtain⟨r1,r2,_⟩:=s.nums
    have q3:=p8 v q (w:=g.wide) (by omega)
    have r3:=p8 v A (w:=t.wide) (by omega)
    have:IntKind.i64.wrap ((k:Int)+1)=(k:Int)+1:=by rw [IntKind.wrap_i64];omega
    obtain⟨P,hP⟩:∃ P,P=((k:Int)*t.wide).toNat:=⟨_,rfl⟩
    obtain⟨Q,hQ⟩:∃ Q,Q=((k:Int)*g.wide).toNat:=⟨_,rfl⟩
    obtain⟨C,MU⟩:∃ W,W=t.wide.toNat:=⟨_,rfl⟩
    obtain⟨B,MS⟩:∃ W,W=g.wide.toNat:=⟨_,rfl⟩
    have Y:Hid (∀ w,kC 82 #[ay t (some ⟨b,0,none⟩) t.n,.int .i64 k,.int .i64 (k+1)] w fun e a=>e=.returned (.slice (some ⟨b,P*4,none⟩) C (t.n - P))∧a=w.alloc (aB t (some ⟨b,0,none⟩) t.n)):=by
     intro w
     rw [hP,MU]
     exact Ue t s b t.n w (Nat.le_refl _) k v A
    have vo:Hid (∀ w,kC 82 #[ay g (some ⟨m,d,none⟩) cap,.int .i64 k,.int .i64 (k+1)] w fun e a=>e=.returned (.slice (some ⟨m,d+Q*4,none⟩) B (cap - Q))∧a=w.alloc (aB g (some ⟨m,d,none⟩) cap)):=by
     intro w
     rw [hQ,MS]
     exact afq g h m d cap w y k v q
    have K:=HR.out.below p.below
    obtain⟨w5,_,h5,g5⟩:=Gm ((wr.alloc (aB t (some ⟨b,0,none⟩) t.n)).alloc (aB g (some ⟨m,d,none⟩) cap)).drew 3 b t.n (qG g t.wide k) ((p.bM.alloc _).alloc _).drew P C (t.n - P) (some ⟨b,P*4,none⟩) (some ⟨m,d+Q*4,none⟩) B (cap - Q) (Nat.min B C) (fun j=>g.f (Q+j)) rfl
     (by have h9:Nat.min B C<=C:=Nat.min_le_right _ _;omega)
     (fun _=>⟨rfl,_,rfl,p.src K Q (Nat.min B C) (by have h9:Nat.min B C<=B:=Nat.min_le_left _ _;omega) _ _⟩)
    have V:Hid (RInv w g t (some ⟨m,d,none⟩) cap b l.heap.size (qG g t.wide (k+1)) w5):=by
     refine p.step (h5.congr fun i D=>?_) g5
     rw [hP,hQ,MU,MS]
     exact aeQ h t.wide (by omega) k t.n q i D
    obtain⟨⟨_,_,_,_,_,_,_,_,_⟩,_⟩:=nine V.out.one
    obtain⟨⟨_,_,_,_,_,_,_,_,_⟩,_⟩:=nine V.out.two
    clear h5 g5 K p q1 q2 q3 r1 r2 r3 h s y hP hQ MU MS
    go_wp2_with fail
    go_region_held3 (fun a=>(a.cell? ⟨l.heap.size,0,none⟩=some (.int .i64 t.wide)∧a.cell? ⟨l.heap.size,1,none⟩=some (.int .i64 t.high)∧a.cell? ⟨l.heap.size,2,none⟩=some (.slice (some ⟨b,0,none⟩) t.n t.n)∧a.cell? ⟨l.heap.size,3,none⟩=some (.int .i64 t.row)∧a.cell? ⟨l.heap.size,4,none⟩=some (.int .i64 t.col)∧a.cell? ⟨l.heap.size,5,none⟩=some (.int .i64 t.aA)∧a.cell? ⟨l.heap.size,6,none⟩=some (.bool t.bold)∧a.cell? ⟨l.heap.size,7,none⟩=some (.int .i64 t.top)∧a.cell? ⟨l.heap.size,8,none⟩=some (.int .i64 t.bottom))∧(a.cell? ⟨w.heap.size,0,none⟩=some (.int .i64 g.wide)∧a.cell? ⟨w.heap.size,1,none⟩=some (.int .i64 g.high)∧a.cell? ⟨w.heap.size,2,none⟩=some (.slice (some ⟨m,d,none⟩) g.n cap)∧a.cell? ⟨w.heap.size,3,none⟩=some (.int .i64 g.row)∧a.cell? ⟨w.heap.size,4,none⟩=some (.int .i64 g.col)∧a.cell? ⟨w.heap.size,5,none⟩=some (.int .i64 g.aA)∧a.cell? ⟨w.heap.size,6,none⟩=some (.bool g.bold)∧a.cell? ⟨w.heap.size,7,none⟩=some (.int .i64 g.top)∧a.cell? ⟨w.heap.size,8,none⟩=some (.int .i64 g.bottom))) (first | go_keep | (simp [*,World.cell?_alloc_past]))
     (first
     | (have:=eU;go_at_call 82;go_fit (vo.out _);rintro e w1 ⟨rfl,rfl⟩)
     | (go_at_call 82;go_fit (Y.out _);rintro e w1 ⟨rfl,rfl⟩;have eU:Hid True:=trivial))
    go_wp2
    go_roundw
    case rel=>exact⟨k+1,by omega,by go_num,V.out⟩
    case measure=>simp [intOf];omega
   ·have J:M<=k:=by omega
    first
    | (have ac:t.high<=(k:Int):=by have h9:=oM.out;omega)
    | (have ac:g.high<=(k:Int):=by have h9:=oM.out;omega)
    have HK:Hid (k=M):=(by omega:k=M)
    obtain⟨⟨_,_,_,_,_,_,_,_,_⟩,_⟩:=nine p.res
    have:w.heap.size+1 < wr.heap.size:=(gQ p.res).1
    have:=p.own
    have:=p.far
    clear p oM J ad
    have:l.heap.size≠w.heap.size:=by omega
    have:l.heap.size≠w.heap.size+1:=by omega
    go_wp2_with fail
    all_goals (
     go_region_held3 (fun a=>a.cell? ⟨w.heap.size,5,none⟩=some (.int .i64 g.aA)∧a.cell? ⟨w.heap.size,6,none⟩=some (.bool g.bold)) (first | go_keep | (simp [*,World.cell?_setCell_far])) (fail)
     all_goals (
      go_wp2
      refine bodyPost_ret (by simp [results,results63,go_sem, *];rfl) rfl ?_
      have D:=HI.out
      rw [HK.out] at D
      refine S.out _ _ (by omega) (av.drew (iC ((((D.bM.set (by simp;omega) _).set (by simp;omega) _).set (by simp;omega) _).set (by simp;omega) _) (by omega) _ _ _ _ _ _ _ _ _)) (Below.drew (iZ ((((D.below.setCell (by simp;omega) _).setCell (by simp;omega) _).setCell (by simp;omega) _).setCell (by simp;omega) _) (by omega) _ _ _ _ _ _ _ _ _)) _ _ ?_ ?_ <;>omega)))
theorem SV {g:Gr} (h:OkG g) (wide high:Int):OkG (Gg g wide high):=by
 have k:=sQ wide high;have:=k.h1;have:=k.w1;have:=h.r1;have:=h.c1;have e:(newG wide high).wide≠0:=by omega
 refine⟨k.w1,k.w2,k.h1,k.h2,k.size,fun i a=>?_,?_,?_,?_,?_,h.i1,h.i2,k.t1,k.t2,k.t3⟩
 ·show bS (qg g _ i)=true;unfold qg iy;split
  ·next hh=>
   have d:=Int.mul_nonneg hh.2.2.1 (show 0<=g.wide by omega);exact h.cells _ (by omega)
  ·exact CS
 ·show 0<=min g.row ((newG wide high).high - 1);omega
 ·show min g.row ((newG wide high).high - 1) < (newG wide high).high;omega
 ·show 0<=min g.col ((newG wide high).wide - 1);omega
 ·show min g.col ((newG wide high).wide - 1)<=(newG wide high).wide;omega
def JI (g:Gr) (wide high:Int):Gr×Int:=if kE g then (Gg g wide high,0) else (g,1)
theorem aeS (g:Gr) (e:Option Addr) (cap:Nat) (wide high:Int) (w:World) (i:aL w e g.n g.f) (o:e=none->g.n=0∧cap=0) (m:g.n<=4398046511104) (l:g.n<=cap) (r:Gr×Int) (a:r=JI g wide high):
  kC 63 #[ay g e cap,.int .i64 wide,.int .i64 high] w (AllEnd w r):=by
 unfold JI at a;cases h:kE g
 ·rw [h] at a;rw [a];exact aeT g e cap wide high w i o m h
 ·rw [h] at a;rw [a];have d:=(iT g).1 h;have:0 < g.n:=by
   have p:=d.size;have:1*g.high<=g.wide*g.high:=rR d.w1 (by have:=d.h1;omega);have:=d.h1;omega
  obtain⟨k,j,rfl,_⟩:=i.resolve_left (by omega);exact aeU g d k j cap wide high w i l _ rfl
end Go.Proofs.YtkcdcamophkdlaaGreatDoor
