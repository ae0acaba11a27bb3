import Derived.Test.YtkcdcamophkdlaaGreatDoorAB
set_option maxHeartbeats 1000000
open Go.Proofs.Tryz
namespace Go.Proofs.YtkcdcamophkdlaaGreatDoor
variable {g x:Gr} {es:List gM}
def Did (g:Gr) (es:List gM) (x:Gr):Prop:=iR g es=(x,0)
theorem Y3 (g:Gr):Did g [] g:=rfl
theorem Did.append {y:Gr} {c:List gM} (h:Did g es x) (k:Did x c y):Did g (es++c) y:=by
 induction es generalizing g with
 | nil=>
  have e:g=x:=(Prod.mk.inj h).1;rw [e];exact k
 | cons e r ih=>
  unfold Did at h ⊢;rw [List.cons_append];unfold iR at h ⊢;by_cases a:dV e=0
  ·rw [if_pos a] at h ⊢;exact ih h
  ·rw [if_neg a] at h;exact absurd (Prod.mk.inj h).2 a
theorem Me (g:Gr) (e:gM) (h:dV e=0):Did g [e] (nZ g e):=by
 unfold Did iR;rw [if_pos h]
 rfl
theorem E9 (h:Did g es x) (c:OkG g):OkG x∧x.wide=g.wide∧x.high=g.high∧x.n=g.n:=by
 induction es generalizing g with
 | nil=>
  have e:g=x:=(Prod.mk.inj h).1;rw [<-e];exact⟨c,rfl,rfl,rfl⟩
 | cons e r ih=>
  unfold Did iR at h;by_cases a:dV e=0
  ·rw [if_pos a] at h;obtain⟨p,d,i,j⟩:=Og c e a;obtain⟨q,k,l,m⟩:=ih h p;exact⟨q,k.trans d,l.trans i,m.trans j⟩
  ·rw [if_neg a] at h;exact absurd (Prod.mk.inj h).2 a
theorem Y4 (b:Int) (a:jJ b=true) (c:g.col≠g.wide):Did g [⟨1,b,[],⟨#[]⟩⟩] {g with f:=gV g.f (g.row*g.wide+g.col).toNat ⟨b,g.aA,0,g.bold⟩,col:=g.col+1}:=by
 have d:dV ⟨1,b,[],⟨#[]⟩⟩=0:=by simp [dV,a]
 have e:nZ g ⟨1,b,[],⟨#[]⟩⟩={g with f:=gV g.f (g.row*g.wide+g.col).toNat ⟨b,g.aA,0,g.bold⟩,col:=g.col+1}:=by
  show xW (lX g) b=_;have:lX g=g:=(by unfold lX;rw [if_neg c]);rw [this]
  rfl
 rw [<-e];exact Me g _ d
theorem Y5 (g:Gr):Did g [⟨5,0,[],⟨#[]⟩⟩] (newG g.wide g.high):=Me g _ rfl
open Go.RowKit
variable {w w2:World} {n base b B:Nat} {f:Nat->aH} {v:Value}
theorem Bg (h:w.ownsRow base 65 4 v n (dX f n)) (t:0 < n):∃ g cap,v=.slice (some ⟨g,0,none⟩) n cap∧base<=g∧n<=cap∧av w g n f:=by
 rcases h.2 with ⟨_,s⟩ | ⟨g,cap,a,r,e,k,d,_,p,q⟩
 ·omega
 ·refine⟨g,cap,r,e,d,a,k,by rw [p];exact Nat.mul_le_mul_right 4 d,fun i l j m=>?_⟩;have c:=CP f n i j l m;rw [<-q,List.getElem?_take_of_lt (by omega)] at c;simpa using c
theorem iC (h:av w2 b n f) (c:b≠B) (u0 u1 u2 u3 u4 u5 u6 u7 u8:Value):
  av (((((((((w2.setCell ⟨B,0,none⟩ u0).setCell ⟨B,1,none⟩ u1).setCell ⟨B,2,none⟩ u2).setCell ⟨B,3,none⟩ u3).setCell ⟨B,4,none⟩ u4).setCell ⟨B,5,none⟩ u5).setCell ⟨B,6,none⟩ u6).setCell ⟨B,7,none⟩ u7).setCell ⟨B,8,none⟩ u8) b n f:=by
 have a:∀ (w2:World) (j:Nat) (u:Value),av w2 b n f->av (w2.setCell ⟨B,j,none⟩ u) b n f:=fun w2 j u h=>h.set (fun e=>c e.symm) _;exact a _ _ _ (a _ _ _ (a _ _ _ (a _ _ _ (a _ _ _ (a _ _ _ (a _ _ _ (a _ _ _ (a _ _ _ h))))))))
theorem iZ (h:Below b w w2) (c:b<=B) (u0 u1 u2 u3 u4 u5 u6 u7 u8:Value):
  Below b w (((((((((w2.setCell ⟨B,0,none⟩ u0).setCell ⟨B,1,none⟩ u1).setCell ⟨B,2,none⟩ u2).setCell ⟨B,3,none⟩ u3).setCell ⟨B,4,none⟩ u4).setCell ⟨B,5,none⟩ u5).setCell ⟨B,6,none⟩ u6).setCell ⟨B,7,none⟩ u7).setCell ⟨B,8,none⟩ u8):=by
 have a:∀ (w2:World) (j:Nat) (u:Value),Below b w w2->Below b w (w2.setCell ⟨B,j,none⟩ u):=fun w2 j u h=>h.setCell c _;exact a _ _ _ (a _ _ _ (a _ _ _ (a _ _ _ (a _ _ _ (a _ _ _ (a _ _ _ (a _ _ _ (a _ _ _ h))))))))
theorem NP (m:Nat):(madeCells #[.int .i64 0,.int .i64 0,.int .i64 0,.bool false] (m*4)).toList=dX (fun _=>aX) m:=Vr m
theorem zo (wide high:Int) (w:World) (x:Gr) (E:x=newG wide high):
  kC 62 #[.int .i64 wide,.int .i64 high] w fun e F=>∃ b,e=.returned (ay x (some ⟨b,0,none⟩) x.n)∧av F b x.n x.f∧w.heap.size<=b∧Below w.heap.size w F:=by
 obtain⟨L,J,u,y,z⟩:=info_parts info49;obtain⟨a,m⟩:∃ a,a=max 1 (min wide 24):=⟨_,rfl⟩;obtain⟨c,p⟩:∃ c,c=max 1 (min high 10):=⟨_,rfl⟩;have j:Hid (∀ w,kD 80 #[.int .i64 wide,.int .i64 1,.int .i64 24] w (.int .i64 a)):=fun w=>by rw [m];exact yj wide 1 24 w
 have l:Hid (∀ w,kD 80 #[.int .i64 high,.int .i64 1,.int .i64 10] w (.int .i64 c)):=fun w=>by rw [p];exact yj high 1 10 w
 have H:1<=a:=by omega
 have I:a<=24:=by omega
 have:1<=c:=by omega
 have:c<=10:=by omega
 have K:0<=a*c:=Int.mul_nonneg (by omega) (by omega);have s:1<=a*c:=by
  have:1*c<=a*c:=rR H (by omega);omega
 have t:a*c<=240:=by
  have:a*c<=24*c:=rR I (by omega);omega
 obtain⟨n,q⟩:∃ n:Nat,a*c=n:=⟨(a*c).toNat,by omega⟩;have G:Hid (x=⟨a,c,n,fun _=>aX,0,0,0,false,0,c⟩):=by
  show x=_;rw [E];unfold newG;rw [<-m, <-p,q];simp
 have:IntKind.i64.wrap (a*c)=(n:Int):=by rw [<-q,IntKind.wrap_i64];omega
 have r:0 < n:=by omega
 have:n<=240:=by omega
 clear E m p K s t q;go_enter func62,ntmps62
 go_wp2_with (first
  | (go_at_call_of 80 (Value.int IntKind.i64 24);refine(j.out _).mono ?_;rintro e i ⟨rfl,rfl⟩)
  | (go_at_call_of 80 (Value.int IntKind.i64 10);refine(l.out _).mono ?_;rintro e i ⟨rfl,rfl⟩)
  | (at_make;refine wpList_make_full _ rfl _ _ 31 rfl w.heap.size 65 L (.agg #[.int .i64 0,.int .i64 0,.int .i64 0,.bool false]) 4 underlying31 J u y .i64 .i64 _ _ n rfl rfl rfl rfl (by rw [z];omega) (by unfold maxLen;omega) (by simp) ?_))
 intro i d h;rw [NP] at d;obtain⟨_,_,D,_,_,C⟩:=Bg d r;simp only [Value.slice.injEq,Option.some.injEq,Addr.mk.injEq,and_true,true_and] at D;obtain⟨rfl,rfl⟩:=D;obtain⟨⟨_,_,_,_,_,_,_,_,_⟩,v⟩:=nine (bH h (at_new w _) (by simp));have A:Hid (av i (w.heap.size+1) n (fun _=>aX)∧Below w.heap.size w i):=⟨C,(aM w _).trans ⟨h.os,h.tape,h.output,h.size,fun k M=>h.block k (by simp;omega) (by simp)⟩⟩;clear d h C;go_wp2;refine bodyPost_ret (v:=ay ⟨a,c,n,fun _=>aX,0,0,0,false,0,c⟩ (some ⟨w.heap.size+1,0,none⟩) n) (by simp [results,results62,go_sem, *]) rfl ?_;rw [G.out];exact⟨w.heap.size+1,rfl,iC A.out.1 (by omega) _ _ _ _ _ _ _ _ _,by omega,iZ A.out.2 (Nat.le_refl _) _ _ _ _ _ _ _ _ _⟩
theorem SC (w:World) (a:Option Addr) (n c:Nat):(binOp .eql 31 (.slice a n c) (.slice none 0 0)).run prog w=.ok (.bool a.isNone) w:=Lib.run_eql_slice_nil w 31 65 a n c 0 0 underlying31
def eH (w:World) (n:Nat) (f:Nat->aH) (ao:Option Addr) (cap:Nat) (w':World):Prop:=
 aL w' ao n f∧(0 < n->∃ b,ao=some ⟨b,0,none⟩∧w.heap.size<=b∧n<=cap∧av w' b n f)∧Below w.heap.size w w'
theorem EX (w:World):kD 17 #[.slice none 0 0] w (.slice none 0 0):=by
 have:=SC;go_enter func17,ntmps17;go_wp2;go_ret;exact⟨rfl,rfl⟩
theorem oG (h:w.ownsRow base 65 4 v n (dX f n)):∃ ao cap,v=.slice ao n cap∧aL w ao n f∧(0 < n->∃ b,ao=some ⟨b,0,none⟩∧base<=b∧n<=cap∧av w b n f):=by
 rcases Nat.eq_zero_or_pos n with c | c
 ·subst c;rcases h.2 with ⟨a,_⟩ | ⟨g,cap,e,a,_⟩
  ·exact⟨none,0,a,.inl rfl,fun h=>absurd h (by omega)⟩
  ·exact⟨_,_,a,.inl rfl,fun h=>absurd h (by omega)⟩
 ·obtain⟨g,cap,a,i,j,d⟩:=Bg h c;exact⟨_,_,a,d.rd,fun _=>⟨g,rfl,i,j,d⟩⟩
theorem EY (a:Addr) (cap n:Nat) (f:Nat->aH) (w:World) (C:aL w (some a) n f) (S:n*32<=140737488355328):
  kC 17 #[.slice (some a) n cap] w fun e O=>∃ y l,e=.returned (.slice y n l)∧eH w n f y l O:=by
 obtain⟨J,H,r,s,t⟩:=info_parts info49;have T:=SC;have E:Hid (∀ j u,(dX f n)[j]?=some u->(w.alloc (.cells #[] 65)).cell? (a.add j)=some u):=by
  intro j u q;have R:j < n*4:=(by have:=(gL q).1;rwa [mQ] at this);rcases C.below (aM w (.cells #[] 65)) with Q | ⟨b,d,z,G⟩
  ·omega
  ·simp only [Option.some.injEq] at z;subst z;have e:j=(j / 4)*4+j % 4:=(by omega);rw [mJ];obtain⟨K,L,M,N⟩:=G (j / 4) (by omega);rw [e,CP f n _ _ (by omega) (by omega)] at q;rw [<-q];have F:j % 4=0∨j % 4=1∨j % 4=2∨j % 4=3:=(by omega);rcases F with h | h | h | h
   ·rw [h,show d+j=d+j / 4*4 by omega,K];rfl
   ·rw [h,show d+j=d+j / 4*4+1 by omega,L];rfl
   ·rw [h,show d+j=d+j / 4*4+2 by omega,M];rfl
   ·rw [h,show d+j=d+j / 4*4+3 by omega,N];rfl
 clear C;go_enter func17,ntmps17;go_wp2_with (first | (at_builtin;refine wpList_append_own _ rfl _ _ 31 rfl w.heap.size 65 J (.agg #[.int .i64 0,.int .i64 0,.int .i64 0,.bool false]) 4 32 underlying31 H r s t rfl (by decide) _ 0 [] rfl (World.ownsRow_made w #[] 0 (Nat.le_refl _) (by decide) rfl) a n cap (dX f n) rfl (mQ f n) E.out (Ak f n) (by unfold maxLen;omega) (by omega) (by simp) ?_) | go_in);intro U P m i _;obtain⟨ao,c,rfl,A,p⟩:=oG m;clear m;have D:Hid (eH w n f ao c P):=⟨A,p,((Below.refl _ _).alloc (Nat.le_refl _) _).grown i (by simp) (fun k I=>by simp [Value.ownBlock] at I;omega)⟩;clear A i p;go_wp2;go_ret;exact⟨ao,c,rfl,D.out⟩
theorem uD (ao:Option Addr) (cap n:Nat) (f:Nat->aH) (w:World) (l:aL w ao n f) (k:ao=none->n=0∧cap=0) (j:n*32<=140737488355328):
  kC 17 #[.slice ao n cap] w fun e i=>∃ d c,e=.returned (.slice d n c)∧eH w n f d c i:=by
 cases ao with
 | none=>
  obtain⟨rfl,rfl⟩:=k rfl;refine(EX w).mono ?_;rintro e i ⟨rfl,rfl⟩;exact⟨none,0,rfl,.inl rfl,fun h=>absurd h (by omega),Below.refl _ _⟩
 | some a=>exact EY a cap n f w l j
variable {w:World} {b B:Nat} {o:Obj}
theorem Gs {m l k j i e d c a:Value} {t:TypeId} (h:w.heap[B]?=some (.cells #[m,l,k,j,i,e,d,c,a] t (0,0))) (u0 u1 u2 u3 u4 u5 u6 u7 u8:Value):
  (((((((((w.setCell ⟨B,0,none⟩ u0).setCell ⟨B,1,none⟩ u1).setCell ⟨B,2,none⟩ u2).setCell ⟨B,3,none⟩ u3).setCell ⟨B,4,none⟩ u4).setCell ⟨B,5,none⟩ u5).setCell ⟨B,6,none⟩ u6).setCell ⟨B,7,none⟩ u7).setCell ⟨B,8,none⟩ u8).heap[B]?=some (.cells #[u0,u1,u2,u3,u4,u5,u6,u7,u8] t (0,0)):=by
 have p:(w.setCell ⟨B,0,none⟩ u0).heap[B]?=some (.cells #[u0,l,k,j,i,e,d,c,a] t (0,0)):=heap_setCell_same _ B 0 _ t u0 h;have q:((w.setCell ⟨B,0,none⟩ u0).setCell ⟨B,1,none⟩ u1).heap[B]?=some (.cells #[u0,u1,k,j,i,e,d,c,a] t (0,0)):=heap_setCell_same _ B 1 _ t u1 p;have r:(((w.setCell ⟨B,0,none⟩ u0).setCell ⟨B,1,none⟩ u1).setCell ⟨B,2,none⟩ u2).heap[B]?=some (.cells #[u0,u1,u2,j,i,e,d,c,a] t (0,0)):=heap_setCell_same _ B 2 _ t u2 q;have s:((((w.setCell ⟨B,0,none⟩ u0).setCell ⟨B,1,none⟩ u1).setCell ⟨B,2,none⟩ u2).setCell ⟨B,3,none⟩ u3).heap[B]?=some (.cells #[u0,u1,u2,u3,i,e,d,c,a] t (0,0)):=heap_setCell_same _ B 3 _ t u3 r;have u:(((((w.setCell ⟨B,0,none⟩ u0).setCell ⟨B,1,none⟩ u1).setCell ⟨B,2,none⟩ u2).setCell ⟨B,3,none⟩ u3).setCell ⟨B,4,none⟩ u4).heap[B]?=some (.cells #[u0,u1,u2,u3,u4,e,d,c,a] t (0,0)):=heap_setCell_same _ B 4 _ t u4 s;have y:((((((w.setCell ⟨B,0,none⟩ u0).setCell ⟨B,1,none⟩ u1).setCell ⟨B,2,none⟩ u2).setCell ⟨B,3,none⟩ u3).setCell ⟨B,4,none⟩ u4).setCell ⟨B,5,none⟩ u5).heap[B]?=some (.cells #[u0,u1,u2,u3,u4,u5,d,c,a] t (0,0)):=heap_setCell_same _ B 5 _ t u5 u;have z:(((((((w.setCell ⟨B,0,none⟩ u0).setCell ⟨B,1,none⟩ u1).setCell ⟨B,2,none⟩ u2).setCell ⟨B,3,none⟩ u3).setCell ⟨B,4,none⟩ u4).setCell ⟨B,5,none⟩ u5).setCell ⟨B,6,none⟩ u6).heap[B]?=some (.cells #[u0,u1,u2,u3,u4,u5,u6,c,a] t (0,0)):=heap_setCell_same _ B 6 _ t u6 y;have A:((((((((w.setCell ⟨B,0,none⟩ u0).setCell ⟨B,1,none⟩ u1).setCell ⟨B,2,none⟩ u2).setCell ⟨B,3,none⟩ u3).setCell ⟨B,4,none⟩ u4).setCell ⟨B,5,none⟩ u5).setCell ⟨B,6,none⟩ u6).setCell ⟨B,7,none⟩ u7).heap[B]?=some (.cells #[u0,u1,u2,u3,u4,u5,u6,u7,a] t (0,0)):=heap_setCell_same _ B 7 _ t u7 z;have C:(((((((((w.setCell ⟨B,0,none⟩ u0).setCell ⟨B,1,none⟩ u1).setCell ⟨B,2,none⟩ u2).setCell ⟨B,3,none⟩ u3).setCell ⟨B,4,none⟩ u4).setCell ⟨B,5,none⟩ u5).setCell ⟨B,6,none⟩ u6).setCell ⟨B,7,none⟩ u7).setCell ⟨B,8,none⟩ u8).heap[B]?=some (.cells #[u0,u1,u2,u3,u4,u5,u6,u7,u8] t (0,0)):=heap_setCell_same _ B 8 _ t u8 A;exact C
theorem cO {u:Value} {j:Nat} (h:w.heap[b]?=some o) (a:b≠B):(w.setCell ⟨B,j,none⟩ u).heap[b]?=some o:=by
 rw [Below.heap_setCell _ _ _ _ a];exact h
theorem zC (h:w.heap[b]?=some o) (a:b≠B) (u0 u1 u2 u3 u4 u5 u6 u7 u8:Value):
  (((((((((w.setCell ⟨B,0,none⟩ u0).setCell ⟨B,1,none⟩ u1).setCell ⟨B,2,none⟩ u2).setCell ⟨B,3,none⟩ u3).setCell ⟨B,4,none⟩ u4).setCell ⟨B,5,none⟩ u5).setCell ⟨B,6,none⟩ u6).setCell ⟨B,7,none⟩ u7).setCell ⟨B,8,none⟩ u8).heap[b]?=some o:=
 cO (cO (cO (cO (cO (cO (cO (cO (cO h a) a) a) a) a) a) a) a) a
theorem av.put {n:Nat} {f:Nat->aH} (h:av w b n f) (i o0 o1 o2 o3:Nat) (c:aH) (D:i < n) (d:o0=i*4) (l:o1=i*4+1) (m:o2=i*4+2) (p:o3=i*4+3):
  av ((((w.setCell ⟨b,o0,none⟩ (.int .i64 c.ch)).setCell ⟨b,o1,none⟩ (.int .i64 c.aA)).setCell ⟨b,o2,none⟩ (.int .i64 c.aJ)).setCell ⟨b,o3,none⟩ (.bool c.bold)) b n (gV f i c):=by
 subst d l m p;obtain⟨_,u,C,A⟩:=h;have q:=heap_setCell_same w b (i*4) _ _ (.int .i64 c.ch) u;have r:=heap_setCell_same _ b (i*4+1) _ _ (.int .i64 c.aA) q;have s:=heap_setCell_same _ b (i*4+2) _ _ (.int .i64 c.aJ) r;have t:=heap_setCell_same _ b (i*4+3) _ _ (.bool c.bold) s;refine⟨_,t,by simpa using C,fun k z j y=>?_⟩;unfold gV;by_cases e:k=i
 ·subst e;rw [if_pos rfl];have a:j=0∨j=1∨j=2∨j=3:=(by omega);rcases a with rfl | rfl | rfl | rfl <;>simp [pO,Array.getElem?_setIfInBounds] <;>omega
 ·rw [if_neg e, <-A k z j y];simp only [Array.getElem?_setIfInBounds];rw [if_neg (by omega),if_neg (by omega),if_neg (by omega),if_neg (by omega)]
theorem MH {a:World} {o0 o1 o2 o3:Nat} {u0 u1 u2 u3:Value} (h:a.grownBy w (some b)):a.grownBy ((((w.setCell ⟨b,o0,none⟩ u0).setCell ⟨b,o1,none⟩ u1).setCell ⟨b,o2,none⟩ u2).setCell ⟨b,o3,none⟩ u3) (some b):=
 oq (oq (oq (oq h (.inr rfl) _) (.inr rfl) _) (.inr rfl) _) (.inr rfl) _
variable {w w2 wx:World} {ao:Option Addr} {cap B:Nat} {g:Gr}
structure Start (w:World) (g:Gr) (ao:Option Addr) (cap:Nat) (wx:World):Prop where
 box:wx.heap[w.heap.size]?=some (aB g ao cap)
 res:wx.heap[w.heap.size+1]?=some aV
 rd:aL wx ao g.n g.f
 bM:0 < g.n->∃ b,ao=some ⟨b,0,none⟩∧w.heap.size+2<=b∧g.n<=cap∧av wx b g.n g.f
 below:Below w.heap.size w wx
theorem OT {a c m d e i j k l u:Value} {t:TypeId} (h:w.heap[B]?=some (.cells #[a,c,m,d,e,i,j,k,l] t (0,0))):(w.setCell ⟨B,2,none⟩ u).heap[B]?=some (.cells #[a,c,u,d,e,i,j,k,l] t (0,0)):=by
 have:=heap_setCell_same w B 2 _ t u h;exact this
theorem JW {l:World} {d:Option Addr} {cap':Nat} (h:eH ((w.alloc (aB g ao cap)).alloc aV) g.n g.f d cap' l):Start w g d cap' (l.setCell ⟨w.heap.size,2,none⟩ (.slice d g.n cap')):=by
 have e:=h.2.2;have i:=aG e (aF (at_new w (aB g ao cap)) aV) (by simp;omega);have j:=aG e (bK w (aB g ao cap) aV) (by simp);refine⟨OT i,cO j (by omega),?_,?_,?_⟩
 ·rcases Nat.eq_zero_or_pos g.n with c | c
  ·exact .inl c
  ·obtain⟨b,rfl,a,_,k⟩:=h.2.1 c;exact(k.set (by simp at a ⊢;omega) _).rd
 ·intro c;obtain⟨b,rfl,a,m,k⟩:=h.2.1 c;exact⟨b,rfl,by simp at a;omega,m,k.set (by simp at a ⊢;omega) _⟩
 ·exact(((aM w _).alloc (by simp) _).trans (e.mono (by simp;omega))).setCell (Nat.le_refl _) _
theorem aef (h:Start w g ao cap wx) (d:Below wx.heap.size wx w2) (u0 u1 u2 u3 u4 u5 u6 u7 u8:Value):aL (((((((((w2.setCell ⟨w.heap.size+1,0,none⟩ u0).setCell ⟨w.heap.size+1,1,none⟩ u1).setCell ⟨w.heap.size+1,2,none⟩ u2).setCell ⟨w.heap.size+1,3,none⟩ u3).setCell ⟨w.heap.size+1,4,none⟩ u4).setCell ⟨w.heap.size+1,5,none⟩ u5).setCell ⟨w.heap.size+1,6,none⟩ u6).setCell ⟨w.heap.size+1,7,none⟩ u7).setCell ⟨w.heap.size+1,8,none⟩ u8) ao g.n g.f:=by
 rcases Nat.eq_zero_or_pos g.n with a | a
 ·exact .inl a
 ·obtain⟨_,rfl,_,_,c⟩:=h.bM a;exact(iC (c.below d c.lt) (by omega) _ _ _ _ _ _ _ _ _).rd
theorem eH.out {c:World} {n:Nat} {f:Nat->aH} (h:eH w n f ao cap w2) (d:Below c.heap.size c w) (i:c.heap.size<=B) (j:B < w.heap.size) (u0 u1 u2 u3 u4 u5 u6 u7 u8:Value):
  eH c n f ao cap (((((((((w2.setCell ⟨B,0,none⟩ u0).setCell ⟨B,1,none⟩ u1).setCell ⟨B,2,none⟩ u2).setCell ⟨B,3,none⟩ u3).setCell ⟨B,4,none⟩ u4).setCell ⟨B,5,none⟩ u5).setCell ⟨B,6,none⟩ u6).setCell ⟨B,7,none⟩ u7).setCell ⟨B,8,none⟩ u8):=by
 refine⟨?_,?_,iZ (d.trans (h.2.2.mono d.size)) i _ _ _ _ _ _ _ _ _⟩
 ·rcases Nat.eq_zero_or_pos n with a | a
  ·exact .inl a
  ·obtain⟨b,rfl,k,_,e⟩:=h.2.1 a;exact(iC e (by omega) _ _ _ _ _ _ _ _ _).rd
 ·intro a;obtain⟨b,rfl,k,l,e⟩:=h.2.1 a;exact⟨b,rfl,by have:=d.size;omega,l,iC e (by omega) _ _ _ _ _ _ _ _ _⟩
theorem Start.copied (h:Start w g ao cap wx) (a:Below wx.heap.size wx w2) (u0 u1 u2 u3 u4 u5 u6 u7 u8:Value):
  eH w g.n g.f ao cap (((((((((w2.setCell ⟨w.heap.size+1,0,none⟩ u0).setCell ⟨w.heap.size+1,1,none⟩ u1).setCell ⟨w.heap.size+1,2,none⟩ u2).setCell ⟨w.heap.size+1,3,none⟩ u3).setCell ⟨w.heap.size+1,4,none⟩ u4).setCell ⟨w.heap.size+1,5,none⟩ u5).setCell ⟨w.heap.size+1,6,none⟩ u6).setCell ⟨w.heap.size+1,7,none⟩ u7).setCell ⟨w.heap.size+1,8,none⟩ u8):=by
 refine⟨aef h a _ _ _ _ _ _ _ _ _,fun d=>?_,iZ (h.below.trans (a.mono h.below.size)) (by omega) _ _ _ _ _ _ _ _ _⟩;obtain⟨b,rfl,_,e,c⟩:=h.bM d;exact⟨b,rfl,by omega,e,iC (c.below a c.lt) (by omega) _ _ _ _ _ _ _ _ _⟩
end Go.Proofs.YtkcdcamophkdlaaGreatDoor
