import Derived.Test.YtkcdcamophkdlaaGreatDoorAI
set_option maxHeartbeats 1000000
open Go.Proofs.Tryz
namespace Go.Proofs.YtkcdcamophkdlaaGreatDoor
open Go.RowKit
variable (g:Gr) (b cap:Nat) (w:World)
theorem YR (h:OkG g) (b cap:Nat) (w:World) (l:av w b g.n g.f):kC 129 #[ay g (some ⟨b,0,none⟩) cap,.int .i64 8] w (dU w b cap {g with col:=max (aZ g - 1) 0}):=by
 have t:=gH l;have:=h.w1;have:=h.w2;have i:0<=aZ g:=by have:=h.c1;unfold aZ;omega
 have j:aZ g<=24:=by unfold aZ;omega
 have s:Hid (-100<=g.wide∧g.wide<=100):=⟨by omega,by omega⟩;clear l h;obtain⟨k,d⟩:∃ k,k=aZ g:=⟨_,rfl⟩;have r:Hid (∀ w,kC 145 #[ay g (some ⟨b,0,none⟩) cap] w fun e y=>e=.returned (.int .i64 k)∧y=w.alloc (aB g (some ⟨b,0,none⟩) cap)):=by
  intro w;rw [d];exact Fz g _ cap w s.out
 rw [<-d] at i j ⊢;clear d;have a:Hid (∀ q:Int,q=max (k - 1) 0->∀ m o p:Obj,dU w b cap {g with col:=max (k - 1) 0} (.returned (ay {g with col:=q} (some ⟨b,0,none⟩) cap)) (((w.alloc m).alloc o).alloc p)):=by
  intro q u m o p;rw [u];exact⟨rfl,((t.out.alloc _).alloc _).alloc _,bB (bB (bB (eP _ _) _) _) _⟩
 go_enter func129,ntmps129;go_wp2_with (go_at_call 145;refine(r.out _).mono ?_;rintro e z ⟨rfl,rfl⟩)
 ·refine bodyPost_ret (v:=ay {g with col:=0} (some ⟨b,0,none⟩) cap) (by simp [results,results129,go_sem]) rfl ?_;exact a.out _ (by omega) _ _ _
 ·refine bodyPost_ret (v:=ay {g with col:=k - 1} (some ⟨b,0,none⟩) cap) (by simp [results,results129,go_sem]) rfl ?_;exact a.out _ (by omega) _ _ _
theorem YS (h:OkG g) (b cap:Nat) (w:World) (i:av w b g.n g.f):kC 129 #[ay g (some ⟨b,0,none⟩) cap,.int .i64 9] w (dU w b cap {g with col:=min ((g.col / 8+1)*8) (g.wide - 1)}):=by
 have o:=gH i;have:=h.w1;have:=h.w2;have e:=h.c1;have:g.col<=24:=by have:=h.c2;omega
 have d:g.col.tdiv 8=g.col / 8:=by rw [Int.tdiv_eq_ediv_of_nonneg e]
 clear i h;obtain⟨k,j⟩:∃ k,k=g.col / 8:=⟨_,rfl⟩;have:0<=k:=by omega
 have:k<=3:=by omega
 rw [<-j] at d ⊢;have a:Hid (∀ q:Int,q=min ((k+1)*8) (g.wide - 1)->∀ l m:Obj,dU w b cap {g with col:=min ((k+1)*8) (g.wide - 1)} (.returned (ay {g with col:=q} (some ⟨b,0,none⟩) cap)) ((w.alloc l).alloc m)):=by
  intro q p l m;rw [p];exact⟨rfl,(o.out.alloc _).alloc _,bB (bB (eP _ _) _) _⟩
 clear j;go_enter func129,ntmps129;go_wp2
 ·refine bodyPost_ret (v:=ay {g with col:=g.wide - 1} (some ⟨b,0,none⟩) cap) (by simp [results,results129,go_sem]) rfl ?_;exact a.out _ (by omega) _ _
 ·refine bodyPost_ret (v:=ay {g with col:=(k+1)*8} (some ⟨b,0,none⟩) cap) (by simp [results,results129,go_sem]) rfl ?_;exact a.out _ (by omega) _ _
theorem YP (h:OkG g) (b cap:Nat) (w:World) (d:av w b g.n g.f) (j:g.n<=cap) (y:Gr) (l:y=iB g):kC 129 #[ay g (some ⟨b,0,none⟩) cap,.int .i64 10] w (dU w b cap y):=by
 have r:=gH d;have i:=d.lt;have q:Hid (∀ w,av w b g.n g.f->kC 144 #[ay g (some ⟨b,0,none⟩) cap] w (dU w b cap y)):=fun w d=>Ub g h b cap w d j y l;clear d h j l;go_enter func129,ntmps129;go_wp2_with (go_at_call 144;refine(q.out _ ((r.out.alloc _).alloc _)).mono ?_;rintro _ o ⟨rfl,e,a⟩;have m:=bH a (bK w _ _) (by simp;omega);have p:Hid (av o b y.n y.f∧w.grownBy o (some b)):=⟨e,jD (bB (bB (eP _ _) _) _) a⟩;obtain⟨⟨_,_,_,_,_,_,_,_,_⟩,_⟩:=nine m;clear e a m);refine bodyPost_ret (v:=ay y (some ⟨b,0,none⟩) cap) (by simp [results,results129,go_sem, *]) rfl ?_;exact⟨rfl,jC p.out (by omega) i _ _ _ _ _ _ _ _ _⟩
theorem YQ (a:av w b g.n g.f):kC 129 #[ay g (some ⟨b,0,none⟩) cap,.int .i64 13] w (dU w b cap {g with col:=0}):=by
 have d:=gH a;clear a;go_enter func129,ntmps129;go_wp2;refine bodyPost_ret (v:=ay {g with col:=0} (some ⟨b,0,none⟩) cap) (by simp [results,results129,go_sem]) rfl ?_;exact⟨rfl,(d.out.alloc _).alloc _,bB (bB (eP _ _) _) _⟩
theorem YT (i:av w b g.n g.f) (c:Int) (a:c≠8) (d:c≠9) (e:c≠10) (h:c≠13):kC 129 #[ay g (some ⟨b,0,none⟩) cap,.int .i64 c] w (dU w b cap g):=by
 have j:=gH i;have:(c==8)=false:=by simp [a]
 have:(c==9)=false:=by simp [d]
 have:(c==10)=false:=by simp [e]
 have:(c==13)=false:=by simp [h]
 clear i a d e h;go_enter func129,ntmps129;go_wp2;refine bodyPost_ret (v:=ay g (some ⟨b,0,none⟩) cap) (by simp [results,results129,go_sem]) rfl ?_;exact⟨rfl,(j.out.alloc _).alloc _,bB (bB (eP _ _) _) _⟩
theorem Yj (h:OkG g) (b cap:Nat) (w:World) (a:av w b g.n g.f) (m:g.n<=cap) (c:Int):kC 129 #[ay g (some ⟨b,0,none⟩) cap,.int .i64 c] w (dU w b cap (uG g c)):=by
 by_cases d:c=8
 ·subst d;exact YR g h b cap w a
 by_cases i:c=9
 ·subst i;exact YS g h b cap w a
 by_cases j:c=10
 ·subst j;exact YP g h b cap w a m _ rfl
 by_cases l:c=13
 ·subst l;exact YQ g b cap w a
 have e:uG g c=g:=by unfold uG;rw [if_neg d,if_neg i,if_neg j,if_neg l]
 rw [e];exact YT g b cap w a c d i j l
@[reducible] def eval (e:gM) (ao:Option Addr) (cap:Nat):Value:=.agg #[.int .i64 e.kind,.int .i64 e.b,.slice ao e.ps.length cap,.string e.pl]
theorem XW (e:gM) (j:Option Addr) (cap:Nat) (w:World):kC 104 #[eval e j cap] w fun r m=>r=.returned (.int .i64 (dV e))∧m=w.alloc (.cells #[.int .i64 e.kind,.int .i64 e.b,.slice j e.ps.length cap,.string e.pl] 82):=by
 by_cases d:e.kind=1
 ·obtain⟨p,a⟩:∃ p,p=jJ e.b:=⟨_,rfl⟩;have i:Hid (∀ w,kD 127 #[.int .i64 e.b] w (.bool p)):=fun w=>(by rw [a];exact TK e.b w);have f:Hid (dV e=if p then 0 else 6):=(by show dV e=_;simp [dV,d,a]);obtain⟨l,b,ps,pl⟩:=e;simp only at d;subst d;clear a;cases p
  ·go_enter func104,ntmps104;go_wp2_with (go_at_call 127;refine(i.out _).mono ?_;rintro e n ⟨rfl,rfl⟩);go_ret;exact⟨by rw [f.out];rfl,rfl⟩
  ·go_enter func104,ntmps104;go_wp2_with (go_at_call 127;refine(i.out _).mono ?_;rintro e n ⟨rfl,rfl⟩);go_ret;exact⟨by rw [f.out];rfl,rfl⟩
 ·have f:Hid (dV e=if 2<=e.kind∧e.kind<=5 then 0 else 2):=(by show dV e=_;unfold dV;rw [if_neg d]);have o:(e.kind==1)=false:=(by simp [d]);clear d;go_enter func104,ntmps104;go_wp2
  all_goals (go_ret;refine⟨?_,rfl⟩;rw [f.out])
  ·have h:e.kind=2:=(by simpa using ‹(e.kind==2)=true›);rw [if_pos (by omega)]
   rfl
  ·have h:e.kind=3:=(by simpa using ‹(e.kind==3)=true›);rw [if_pos (by omega)]
   rfl
  ·have h:e.kind=4:=(by simpa using ‹(e.kind==4)=true›);rw [if_pos (by omega)]
   rfl
  ·have h:e.kind=5:=(by simpa using ‹(e.kind==5)=true›);rw [if_pos (by omega)]
   rfl
  ·have q:e.kind≠2:=(by simpa using ‹(e.kind==2)=false›);have s:e.kind≠3:=(by simpa using ‹(e.kind==3)=false›);have t:e.kind≠4:=(by simpa using ‹(e.kind==4)=false›);have u:e.kind≠5:=(by simpa using ‹(e.kind==5)=false›);rw [if_neg (by omega)]
   rfl
variable (c:Int) (ps:List Int) (pl:ByteArray) (eo:Option Addr) (ec:Nat)
def jr (w:World) (b:Nat) (x:Gr) (e:Ending) (w':World):Prop:=∃ b' cap',e=.returned (ay x (some ⟨b',0,none⟩) cap')∧av w' b' x.n x.f∧x.n<=cap'∧w.grownBy w' (some b)∧(b'=b∨w.heap.size<=b')
def bV (w:World) (ao:Option Addr) (l:List Int):Prop:=l=[]∨∃ b off,ao=some ⟨b,off,none⟩∧∀ j,j < l.length->w.cell? ⟨b,off+j,none⟩=some (.int .i64 (l.getD j 0))
theorem bV.below {w w':World} {d:Option Addr} {l:List Int} (h:bV w d l) (f:Below w.heap.size w w'):bV w' d l:=by
 rcases h with h | ⟨b,a,e,i⟩
 ·exact .inl h
 ·refine .inr ⟨b,a,e,fun j m=>?_⟩;have:=i j m;rw [f.cell (p:=⟨b,a+j,none⟩) (World.block_lt_of_cell? _ _ this)];exact this
def uT (e:gM) (eo:Option Addr) (ec:Nat):Prop:=
 ∀ (g:Gr) (_:OkG g) (b cap:Nat) (w:World) (_:av w b g.n g.f) (_:g.n<=cap) (_:bV w eo e.ps) (x:Gr) (_:x=nZ g e),kC 105 #[ay g (some ⟨b,0,none⟩) cap,eval e eo ec] w (jr w b x)
theorem Zh (y:jJ c=true):uT ⟨1,c,ps,pl⟩ eo ec:=by
 intro g h b cap w i a _ x m;have l:=i.lt;have u:=gH i;have t:Hid (∀ w,av w b g.n g.f->kC 128 #[ay g (some ⟨b,0,none⟩) cap,.int .i64 c] w (dU w b cap x)):=fun w i=>adG g h b cap w i a c x m;have s:Hid (x.n<=cap):=by
  obtain⟨_,_,_,e⟩:=SQ h c y;have:x.n=g.n:=(by rw [m];exact e);show x.n<=cap;omega
 clear i h a m;go_enter func105,ntmps105;go_wp2_with (go_at_call 128;refine(t.out _ (((u.out.alloc _).alloc _).alloc _)).mono ?_;rintro e q ⟨rfl,j,d⟩;have p:=bH d (kM w _ _ _) (by simp;omega);have r:Hid (av q b x.n x.f∧w.grownBy q (some b)):=⟨j,jD (bB (bB (bB (eP _ _) _) _) _) d⟩;obtain⟨⟨_,_,_,_,_,_,_,_,_⟩,_⟩:=nine p;clear j d p);refine bodyPost_ret (v:=ay x (some ⟨b,0,none⟩) cap) (by simp [results,results105,go_sem, *]) rfl ?_;have o:=jC r.out (B:=w.heap.size+1+1) (by omega) l (.int .i64 x.wide) (.int .i64 x.high) (.slice (some ⟨b,0,none⟩) x.n cap) (.int .i64 x.row) (.int .i64 x.col) (.int .i64 x.aA) (.bool x.bold) (.int .i64 x.top) (.int .i64 x.bottom);exact⟨b,cap,rfl,o.1,s.out,o.2,.inl rfl⟩
theorem Ze:uT ⟨2,c,ps,pl⟩ eo ec:=by
 intro g h b cap w i a _ x m;have l:=i.lt;have u:=gH i;have t:Hid (∀ w,av w b g.n g.f->kC 129 #[ay g (some ⟨b,0,none⟩) cap,.int .i64 c] w (dU w b cap x)):=fun w i=>by rw [m];exact Yj g h b cap w i a c
 have s:Hid (x.n<=cap):=by
  obtain⟨_,_,_,e⟩:=SK h c;have:x.n=g.n:=(by rw [m];exact e);show x.n<=cap;omega
 clear i h a m;go_enter func105,ntmps105;go_wp2_with (go_at_call 129;refine(t.out _ (((u.out.alloc _).alloc _).alloc _)).mono ?_;rintro e q ⟨rfl,j,d⟩;have p:=bH d (kM w _ _ _) (by simp;omega);have r:Hid (av q b x.n x.f∧w.grownBy q (some b)):=⟨j,jD (bB (bB (bB (eP _ _) _) _) _) d⟩;obtain⟨⟨_,_,_,_,_,_,_,_,_⟩,_⟩:=nine p;clear j d p);refine bodyPost_ret (v:=ay x (some ⟨b,0,none⟩) cap) (by simp [results,results105,go_sem, *]) rfl ?_;have o:=jC r.out (B:=w.heap.size+1+1) (by omega) l (.int .i64 x.wide) (.int .i64 x.high) (.slice (some ⟨b,0,none⟩) x.n cap) (.int .i64 x.row) (.int .i64 x.col) (.int .i64 x.aA) (.bool x.bold) (.int .i64 x.top) (.int .i64 x.bottom);exact⟨b,cap,rfl,o.1,s.out,o.2,.inl rfl⟩
theorem XH {g:Gr} (h:(g.n:Int)≠g.wide*g.high):sG g=false:=by simp [sG,h]
theorem XI {g:Gr} (h:(g.n:Int)=g.wide*g.high):sG g=qK g.f g.n:=by simp [sG,h]
theorem ahs {f:Nat->aH} {n k:Nat} (a:k < n) (h:bS (f k)=false):qK f n=false:=by
 cases d:qK f n
 ·rfl
 ·rw [(JZ f n).1 d k a] at h;cases h
theorem aak (g:Gr) (v:Option Addr) (cap:Nat) (w:World) (C:aL w v g.n g.f) (D:wD g=true) (S:(g.n:Int)<=9223372036854775807):
  kA 97 #[ay g v cap] w (.bool (sG g)):=by
 have o:1<=g.wide∧g.wide<=24∧1<=g.high∧g.high<=10:=by simpa [wD] using D
 have j:0<=g.wide*g.high:=Int.mul_nonneg (by omega) (by omega);have h:g.wide*g.high<=240:=by
  have:g.wide*g.high<=24*g.high:=rR o.2.1 (by omega);omega
 have s:IntKind.i64.wrap (g.wide*g.high)=g.wide*g.high:=by rw [IntKind.wrap_i64];omega
 by_cases p:(g.n:Int)=g.wide*g.high
 ·obtain⟨G,z⟩:∃ G,G=sG g:=⟨_,rfl⟩;have t:Hid (G=qK g.f g.n):=(by rw [z];exact XI p);rw [<-z];have O:=gH C;have:IntKind.i64.wrap (g.wide*g.high)=(g.n:Int):=(by rw [s];exact p.symm);clear z C D o j h s p;go_enter func97,ntmps97;go_wp2;go_loopw [17] (fun i wr=>∃ k:Nat,k<=g.n∧i=.int .i64 k∧Below w.heap.size w wr∧qK g.f k=true) (fun i _=>g.n - (intOf i).toNat)
  case atStart=>exact⟨0,Nat.zero_le _,rfl,aM _ _,rfl⟩
  case round=>
   obtain⟨k,_,rfl,u,M⟩:=hrel;have J:=gH M;have l:=gH u;clear M;by_cases r:k < g.n
   ·obtain⟨b,a,rfl,L⟩:∃ b a,v=some ⟨b,a,none⟩∧∀ i,i < g.n->wr.cell? ⟨b,a+i*4,none⟩=some (.int .i64 (g.f i).ch)∧wr.cell? ⟨b,a+i*4+1,none⟩=some (.int .i64 (g.f i).aA)∧wr.cell? ⟨b,a+i*4+2,none⟩=some (.int .i64 (g.f i).aJ)∧wr.cell? ⟨b,a+i*4+3,none⟩=some (.bool (g.f i).bold):=by
     rcases O.out.below u with K | K
     ·omega
     ·exact K
    obtain⟨N,P,Q,R⟩:=L k r;have A:=World.block_lt_of_cell? _ _ N;simp only at A;have:(k:Int) < (g.n:Int):=(by omega);have:(0:Int)<=(k:Int):=(by omega);obtain⟨y,E⟩:∃ y,y=g.f k:=⟨_,rfl⟩;rw [<-E] at N P Q R;obtain⟨q,B⟩:∃ q,q=bS y:=⟨_,rfl⟩;have I:Hid (q=bS (g.f k)):=(by rw [<-E];exact B);have H:Hid (∀ w,kA 115 #[.agg #[.int .i64 y.ch,.int .i64 y.aA,.int .i64 y.aJ,.bool y.bold]] w (.bool q)):=fun w=>(by rw [B];exact aah y w);clear L u E B;cases q
    ·go_wp2_with (go_at_call 115;refine(H.out _).mono ?_;rintro e F ⟨rfl,d⟩;have m:Hid (Below w.heap.size w F):=(l.out.alloc l.out.size _).trans (d.mono (by simp;have:=l.out.size;omega));clear d);go_ret;exact⟨by rw [t.out,ahs r I.out.symm];rfl,m.out⟩
    ·go_wp2_with (go_at_call 115;refine(H.out _).mono ?_;rintro e F ⟨rfl,d⟩;have m:Hid (Below w.heap.size w F):=(l.out.alloc l.out.size _).trans (d.mono (by simp;have:=l.out.size;omega));clear d);go_roundw
     case rel=>exact⟨k+1,by omega,by go_num,m.out,by rw [U3,J.out, <-I.out];rfl⟩
     case measure=>simp [intOf];omega
   ·obtain rfl:k=g.n:=(by omega);clear u;go_wp2;go_ret;exact⟨by rw [t.out,J.out];rfl,l.out⟩
 ·have:((g.n:Int)==g.wide*g.high)=false:=(by simp [p]);have t:=gH (XH p);clear p C D o j h;go_enter func97,ntmps97;go_wp2;go_ret;exact⟨by rw [t.out];rfl,aM _ _⟩
theorem jT (g:Gr) (d:Option Addr) (cap:Nat) (w:World) (o:aL w d g.n g.f) (v:(g.n:Int)<=9223372036854775807) (G:Bool) (B:G=kE g):
  kA 81 #[ay g d cap] w (.bool G):=by
 have l:Hid (G=(wD g && sG g && Ai g && decide (0<=g.top∧g.top < g.bottom∧g.bottom<=g.high))):=B;have p:Hid (aL w d g.n g.f):=o;clear B o;obtain⟨s,m⟩:∃ s,s=wD g:=⟨_,rfl⟩;have q:Hid (∀ w,kC 96 #[ay g d cap] w fun e z=>e=.returned (.bool s)∧z=w.alloc (aB g d cap)):=fun w=>by rw [m];exact CU g d cap w
 rw [<-m] at l;cases s
 ·clear m v p;go_enter func81,ntmps81;go_wp2_with (go_at_call 96;refine(q.out _).mono ?_;rintro e j ⟨rfl,rfl⟩);go_ret;exact⟨bD (by rw [l.out];rfl),(aM _ _).alloc (by simp) _⟩
 have F:Hid ((g.n:Int)<=9223372036854775807):=v;have H:Hid (wD g=true):=m.symm;clear v m;obtain⟨c,t⟩:∃ c,c=sG g:=⟨_,rfl⟩;have A:Hid (∀ w,aL w d g.n g.f->kA 97 #[ay g d cap] w (.bool c)):=fun w o=>by rw [t];exact aak g d cap w o H.out F.out
 rw [<-t] at l;clear t;have h:Hid (∀ D E:Obj,Below w.heap.size w ((w.alloc D).alloc E)):=fun D E=>(aM _ _).alloc (by simp) _;cases c
 ·go_enter func81,ntmps81
  go_wp2_with (first
   | (go_at_call 96;refine(q.out _).mono ?_;rintro e j ⟨rfl,rfl⟩)
   | (go_at_call 97;refine(A.out _ (p.out.below (h.out _ _))).mono ?_;rintro e j ⟨rfl,a⟩;have i:Hid (Below w.heap.size w j):=(h.out _ _).trans (a.mono (by simp;omega));clear a))
  go_ret;exact⟨bD (by rw [l.out];rfl),i.out⟩
 obtain⟨u,y⟩:∃ u,u=Ai g:=⟨_,rfl⟩;have r:Hid (∀ w,kC 98 #[ay g d cap] w fun e z=>e=.returned (.bool u)∧z=w.alloc (aB g d cap)):=fun w=>by rw [y];exact aal g d cap w
 rw [<-y] at l;clear y;cases u
 all_goals (
  go_enter func81,ntmps81
  go_wp2_with (first
   | (go_at_call 96;refine(q.out _).mono ?_;rintro e j ⟨rfl,rfl⟩)
   | (go_at_call 98;refine(r.out _).mono ?_;rintro e _ ⟨rfl,rfl⟩)
   | (go_at_call 97;refine(A.out _ (p.out.below (h.out _ _))).mono ?_;rintro e j ⟨rfl,a⟩;have i:Hid (Below w.heap.size w j):=(h.out _ _).trans (a.mono (by simp;omega));have C:=a.size;obtain⟨⟨_,_,_,_,_,_,_,_,_⟩,_⟩:=nine (aG a (aF (at_new w _) _) (by simp;omega));have:w.heap.size < j.heap.size:=(by simp at C;omega);clear a C)))
 all_goals (go_ret;refine⟨bD ?_,i.out.alloc (by omega) _⟩;rw [l.out])
 all_goals (first | rfl | (simp;done) | (rw [Bool.eq_iff_iff];simp only [Bool.true_and,Bool.and_true,decide_eq_true_eq,Bool.false_eq_true,false_iff];omega))
variable {w wr:World} {evs:List gM} {k b cap:Nat} {g x:Gr}
abbrev wH:=gM×Option Addr×Nat
@[reducible] def fC (x:wH):Obj:=.cells #[.int .i64 x.1.kind,.int .i64 x.1.b,.slice x.2.1 x.1.ps.length x.2.2,.string x.1.pl] 82
def yN (w:World) (lo:Option Addr) (evs:List wH):Prop:=
 (∀ x∈evs,bV w x.2.1 x.1.ps)∧(evs=[]∨∃ b off,lo=some ⟨b,off,none⟩∧∀ k (hk:k < evs.length),w.cell? ⟨b,off+k*4,none⟩=some (.int .i64 evs[k].1.kind)∧w.cell? ⟨b,off+k*4+1,none⟩=some (.int .i64 evs[k].1.b)∧w.cell? ⟨b,off+k*4+2,none⟩=some (.slice evs[k].2.1 evs[k].1.ps.length evs[k].2.2)∧w.cell? ⟨b,off+k*4+3,none⟩=some (.string evs[k].1.pl))
theorem yN.below {w':World} {i:Option Addr} {evs:List wH} (h:yN w i evs) (e:Below w.heap.size w w'):yN w' i evs:=by
 refine⟨fun x r=>(h.1 x r).below e,?_⟩;rcases h.2 with h | ⟨b,d,n,o⟩
 ·exact .inl h
 ·refine .inr ⟨b,d,n,fun k q=>?_⟩;obtain⟨f,j,l,m⟩:=o k q;have a:=World.block_lt_of_cell? _ _ f;simp only at a;exact⟨(e.cell (p:=⟨b,d+k*4,none⟩) a).trans f,(e.cell (p:=⟨b,d+k*4+1,none⟩) a).trans j,(e.cell (p:=⟨b,d+k*4+2,none⟩) a).trans l,(e.cell (p:=⟨b,d+k*4+3,none⟩) a).trans m⟩
def AllEnd (w:World) (r:Gr×Int) (e:Ending) (w':World):Prop:=
 ∃ ao cap,e=.returned (.tuple #[ay r.1 ao cap,.int .i64 r.2])∧eH w r.1.n r.1.f ao cap w'
def LG (g:Gr) (evs:List gM):Gr×Int:=if evs=[] then (g,0) else if kE g then iR g evs else (g,1)
theorem WQ (g:Gr) (m:Option Addr) (cap:Nat) (J:Option Addr) (p I:Nat) (w:World) (o:aL w m g.n g.f) (u:m=none->g.n=0∧cap=0) (G:g.n<=4398046511104) (H:0 < p) (V:p<=140737488355328) (t:kE g=false):
  kC 90 #[ay g m cap,.slice J p I] w (AllEnd w (g,1)):=by
 have r:=gH o;have s:Hid (∀ w,aL w m g.n g.f->kC 17 #[.slice m g.n cap] w fun e K=>∃ d a,e=.returned (.slice d g.n a)∧eH w g.n g.f d a K):=fun w o=>uD m cap g.n g.f w o u (by omega);have E:Hid (∀ w d a,aL w d g.n g.f->kA 81 #[ay g d a] w (.bool false)):=fun w d a o=>jT g d a w o (by omega) false t.symm;have q:Hid (∀ y A:Obj,Below w.heap.size w ((w.alloc y).alloc A)):=fun y A=>(aM _ _).alloc (by simp) _;have:(0:Int) < (p:Int):=by omega
 clear o u G t H;go_enter func90,ntmps90;go_upto_region 1 with fail;go_cut [] from 9 to 12 (fun L=>∃ d a,Start w g d a L)
 case first=>
  go_wp2_with (go_at_call 17;refine(s.out _ (r.out.below (q.out _ _))).mono ?_;rintro e _ ⟨d,a,rfl,j⟩;have F:=gH j;obtain⟨⟨M,N,O,P,Q,R,S,T,U⟩,z⟩:=nine (aG j.2.2 (aF (at_new w _) _) (by simp;omega));clear j);go_meet;exact⟨d,a,JW F.out⟩
 case rest=>
  obtain⟨d,a,l⟩:=hcut;obtain⟨⟨M,N,O,P,Q,R,S,T,U⟩,z⟩:=nine l.box;have h:=gH l;clear l s r;go_wp2_with (go_at_call 81;refine(E.out _ d a h.out.rd).mono ?_;rintro e _ ⟨rfl,i⟩;have D:=gH i;have B:=aG i h.out.box (gQ h.out.box).1;have C:=aG i h.out.res (gQ h.out.res).1;obtain⟨⟨_,_,_,_,_,_,_,_,_⟩,_⟩:=nine B;obtain⟨⟨_,_,_,_,_,_,_,_,_⟩,v⟩:=nine C;clear i B C);refine bodyPost_ret (v:=.tuple #[ay g d a,.int .i64 1]) (by simp [results,results90,go_sem, *]) rfl ?_;exact⟨d,a,rfl,h.out.copied D.out _ _ _ _ _ _ _ _ _⟩
structure yu (w:World) (g:Gr) (evs:List gM) (k:Nat) (x:Gr) (b cap:Nat) (wr:World):Prop where
 ok:OkG x
 says:iR g evs=iR x (evs.drop k)
 box:wr.heap[w.heap.size]?=some (aB x (some ⟨b,0,none⟩) cap)
 res:wr.heap[w.heap.size+1]?=some aV
 bM:av wr b x.n x.f
 caps:x.n<=cap
 own:w.heap.size+2<=b
 below:Below w.heap.size w wr
theorem yu.rd (h:yu w g evs k x b cap wr) (u0 u1 u2 u3 u4 u5 u6 u7 u8:Value):aL (((((((((wr.setCell ⟨w.heap.size+1,0,none⟩ u0).setCell ⟨w.heap.size+1,1,none⟩ u1).setCell ⟨w.heap.size+1,2,none⟩ u2).setCell ⟨w.heap.size+1,3,none⟩ u3).setCell ⟨w.heap.size+1,4,none⟩ u4).setCell ⟨w.heap.size+1,5,none⟩ u5).setCell ⟨w.heap.size+1,6,none⟩ u6).setCell ⟨w.heap.size+1,7,none⟩ u7).setCell ⟨w.heap.size+1,8,none⟩ u8) (some ⟨b,0,none⟩) x.n x.f:=
 (iC h.bM (by have:=h.own;omega) _ _ _ _ _ _ _ _ _).rd
theorem QE (a:k < evs.length):evs.drop k=evs[k]::evs.drop (k+1):=List.drop_eq_getElem_cons a
theorem WJ {y:Gr} {a cap':Nat} {e:World} {o1 o2:Obj} (h:yu w g evs k x b cap wr) (s:k < evs.length) (q:dV evs[k]=0) (r:y=nZ x evs[k]) (t:av e a y.n y.f) (d:y.n<=cap') (o:((wr.alloc o1).alloc o2).grownBy e (some b)) (i:a=b∨((wr.alloc o1).alloc o2).heap.size<=a):
  yu w g evs (k+1) y a cap' (((((((((e.setCell ⟨w.heap.size,0,none⟩ (.int .i64 y.wide)).setCell ⟨w.heap.size,1,none⟩ (.int .i64 y.high)).setCell ⟨w.heap.size,2,none⟩ (.slice (some ⟨a,0,none⟩) y.n cap')).setCell ⟨w.heap.size,3,none⟩ (.int .i64 y.row)).setCell ⟨w.heap.size,4,none⟩ (.int .i64 y.col)).setCell ⟨w.heap.size,5,none⟩ (.int .i64 y.aA)).setCell ⟨w.heap.size,6,none⟩ (.bool y.bold)).setCell ⟨w.heap.size,7,none⟩ (.int .i64 y.top)).setCell ⟨w.heap.size,8,none⟩ (.int .i64 y.bottom)):=by
 have j:=h.own;have:w.heap.size+2<=wr.heap.size:=by have:=(gQ h.res).1;omega
 have l:w.heap.size+2<=a:=by
  rcases i with rfl | i
  ·exact j
  ·simp at i;omega
 have m:=bH o (aF (aF h.box o1) o2) (by simp;omega);have p:=bH o (aF (aF h.res o1) o2) (by simp;omega);have u:Below w.heap.size w e:=(((h.below.alloc h.below.size _).alloc (by have:=h.below.size;simp;omega) _)).trans (rD o (by have:=h.below.size;simp;omega) (by omega));refine⟨?_,?_,Gs m _ _ _ _ _ _ _ _ _,zC p (by omega) _ _ _ _ _ _ _ _ _,iC t (by omega) _ _ _ _ _ _ _ _ _,d,l,iZ u (Nat.le_refl _) _ _ _ _ _ _ _ _ _⟩
 ·rw [r];exact(Og h.ok _ q).1
 ·rw [h.says,QE s,iR,if_pos q,r]
theorem WI (h:yu w g evs k x b cap wr) (a:¬ k < evs.length):iR g evs=(x,0):=by
 rw [h.says,List.drop_eq_nil_of_le (by omega)]
 rfl
theorem WK (h:yu w g evs k x b cap wr) (d:k < evs.length) (a:dV evs[k]≠0):iR g evs=(x,dV evs[k]):=by
 rw [h.says,QE d,iR,if_neg a]
end Go.Proofs.YtkcdcamophkdlaaGreatDoor
