import Derived.Test.YtkcdcamophkdlaaGreatDoorBT
set_option maxHeartbeats 4000000
set_option maxRecDepth 20000
open Go.Proofs.Tryz
namespace Go.Proofs.YtkcdcamophkdlaaGreatDoor
open Go.RowKit
theorem Ma (W:World) (s:ByteArray) (N:Nat) (a:W.heap.size=N):∃ C,(convert 9 106 (.string s)).run prog W=.ok (.slice (some ⟨N,0,none⟩) s.size C) (W.alloc (.cells (bytesRow s C) 5 ((bytesRow s C).size,(bytesRow s C).size+1))).drew:=by
 subst a;exact⟨_,run_bytes_of_string (P:=prog) W 9 106 5 s underlying9 underlying106 underlying5⟩
theorem wrap_u8 (y:Int) (a:0<=y) (b:y<=255):IntKind.i64.wrap y=y:=by rw [IntKind.wrap_i64];omega
theorem Zn (g:Gr) (h:OkG g) (b cap:Nat) (w:World) (Z:av w b g.n g.f) (hc:g.n<=cap) (s:ByteArray) (hs:s.size<=140737488355328) (W:Nat->aH) (M:W=(eZ g s.data.toList).1):
  kC 58 #[ay g (some ⟨b,0,none⟩) cap,.string s] w (dU w b cap ⟨g.wide,g.high,g.n,W,g.row,g.col,g.aA,g.bold,g.top,g.bottom⟩):=by
 have S:=Z.lt;have HS:=gH Z;have HO:Hid (OkG g∧g.n<=cap):=⟨h,hc⟩;have wJ:=gH M;have ao:=h.w1;have ap:=h.w2;have al:=h.c1;have am:=h.c2;obtain⟨L,l⟩:∃ k,(if g.wide - 1 < g.col then g.wide - 1 else g.col)=k:=⟨_,rfl⟩;have Ed:Hid (L=aZ g):=by show L=aZ g;rw [<-l];unfold aZ;split <;>omega
 have aq:IntKind.i64.wrap (g.wide - 1)=g.wide - 1:=by rw [IntKind.wrap_i64];omega
 obtain⟨C,ad⟩:=Ma ((w.alloc (aB g (some ⟨b,0,none⟩) cap)).alloc aV).drew s (w.heap.size+1+1) (by simp);clear Z h hc M;go_enter func58,ntmps58;go_upto_region 1 with fail;go_cut [5,6,7] from 8 to 72 (fun s5 s6 s7 wx=>s5=.int .i64 g.row∧s6=.int .i64 L∧s7=.int .i64 L∧wx=((w.alloc (aB g (some ⟨b,0,none⟩) cap)).alloc aV).drew)
 case first=>
  go_region_held3 (fun w'=>w'.cell? ⟨w.heap.size,0,none⟩=some (.int .i64 g.wide)∧w'.cell? ⟨w.heap.size,3,none⟩=some (.int .i64 g.row)∧w'.cell? ⟨w.heap.size,4,none⟩=some (.int .i64 g.col)) (first | go_keep | (simp [*,World.cell?_alloc_past])) (fail)
  all_goals (go_wp2_with fail;go_meet;exact⟨rfl,rfl,rfl,rfl⟩)
 case rest=>
  obtain⟨rfl,rfl,rfl,rfl⟩:=hcut;go_wp2;obtain⟨J,D⟩:∃ J,J=bytesRow s C:=⟨_,rfl⟩;rw [<-D];clear ad;go_loopw [5,6,28] (fun r c i wr=>∃ k:Nat,k<=s.size∧i=.int .i64 k∧r=.int .i64 (eZ g (s.data.toList.take k)).2.1∧c=.int .i64 (eZ g (s.data.toList.take k)).2.2∧fA w g b cap (eZ g (s.data.toList.take k)).1 wr∧wr.heap[w.heap.size+2]?=some (.cells J 5 (J.size,J.size+1))) (fun _ _ i _=>s.size - (intOf i).toNat)
  case atStart=>
   refine⟨0,Nat.zero_le _,rfl,rfl,?_,?_,?_⟩
   ·show Value.int .i64 L=_;rw [Ed.out]
    rfl
   ·have d:fA w g b cap g.f ((w.alloc (aB g (some ⟨b,0,none⟩) cap)).alloc aV):=⟨aF (at_new w _) _,bK w _ _,(HS.out.alloc _).alloc _,bB (bB (eP _ _) _) _⟩;exact(d.drew.alloc _).drew
   ·exact kM w _ _ _
  case round=>
   obtain⟨k,_,rfl,rfl,rfl,d,V⟩:=hrel;have hb:=TD HO.out.1 (s.data.toList.take k);have Q:(s.data.toList.take k).length<=k:=List.length_take_le _ _;obtain⟨st,q⟩:∃ st,st=eZ g (s.data.toList.take k):=⟨_,rfl⟩;rw [<-q] at hb d ⊢;obtain⟨f,R,t⟩:=st;simp only at hb d ⊢;have m:Hid (fA w g b cap f wr∧wr.heap[w.heap.size+2]?=some (.cells J 5 (J.size,J.size+1))):=⟨d,V⟩;obtain⟨aa,ab,_,ac⟩:=hb;have ae:R<=140737488355400:=(by omega);have ou:t<=140737488355400:=(by omega);by_cases O:k < s.size
   ·have A:Hid (eZ g (s.data.toList.take (k+1))=iV g (f,R,t) s[k]):=by
     show eZ g _=_;rw [Gx s k O,TG, <-q]
    obtain⟨⟨x0,x1,x2,x3,x4,x5,x6,x7,x8⟩,z⟩:=nine d.box;have Rz:(k:Int) < (s.size:Int):=(by omega);have ai:(0:Int)<=(k:Int):=(by omega);have o:s[k].toNat < 256:=UInt8.toNat_lt _;obtain⟨y,B⟩:∃ y:Int,(s[k].toNat:Int)=y:=⟨_,rfl⟩;have T:0<=y:=(by omega);have U:y<=255:=(by omega);have Vn:wr.cell? ⟨w.heap.size+2,k,none⟩=some (.int .u8 y):=by
     rw [cell_of_row wr (w.heap.size+2) k _ 5 _ V,D, <-B];exact bytesRow_at s C k O
    have ag:=wrap_u8 y T U;clear q Q ab ac D V;by_cases u:s[k]=45
    ·have a:Hid (eZ g (s.data.toList.take (k+1))=(f,R+1,L)):=by
      show eZ g _=_;rw [A.out,Ed.out];unfold iV;rw [if_pos u]
     have FN:y=45:=(by rw [<-B,u];rfl);subst FN;clear d u o T U B l;go_wp2;go_roundw
     case rel=>exact⟨k+1,by omega,by go_num,by rw [a.out],by rw [a.out],by rw [a.out];exact m.out.1,m.out.2⟩
     case measure=>simp [intOf];omega
    ·have FN:(y==45)=false:=by
      have:y≠45:=fun e=>u (by apply UInt8.toNat_inj.1;show s[k].toNat=45;omega);simp [this]
     have H:97<=s[k].toNat∧s[k].toNat<=104↔97<=y∧y<=104:=(by omega);by_cases G:97<=y∧y<=104
     ·have e1:1<=y - 96:=(by omega);have e2:y - 96<=8:=(by omega);by_cases p:R < g.high∧t < g.wide
      ·have a:Hid (eZ g (s.data.toList.take (k+1))=(gV f (R*g.wide+t).toNat ⟨0,0,y - 96,false⟩,R,t+1)):=by
        show eZ g _=_;rw [A.out];unfold iV;rw [if_neg u];simp only;rw [if_pos ⟨(H.2 G).1,(H.2 G).2,p⟩,B]
       obtain⟨q1,q2,_⟩:=HO.out.1.nums;have q3:=p8 aa p.1 (w:=g.wide) (by omega);obtain⟨P,hP⟩:∃ P:Nat,R*g.wide=P:=⟨(R*g.wide).toNat,by omega⟩;obtain⟨I,hI⟩:∃ I:Nat,(P:Int)+t=I:=⟨((P:Int)+t).toNat,by omega⟩;have Nz:IntKind.i64.wrap (R*g.wide)=(P:Int):=(by rw [hP,IntKind.wrap_i64];omega);have af:IntKind.i64.wrap ((P:Int)+t)=(I:Int):=(by rw [hI,IntKind.wrap_i64];omega);have RJ:IntKind.i64.wrap (I:Int)=(I:Int):=(by rw [IntKind.wrap_i64];omega);have K:I < g.n:=(by omega);have aj:(0:Int)<=(I:Int):=(by omega);have ak:(I:Int) < (g.n:Int):=(by omega);obtain⟨t0,t1,t2,t3⟩:=d.bM.cells I K;have an:∀ j,wr.frozen? ⟨b,j,none⟩=false:=d.bM.free;have HI:Hid (I=(R*g.wide+t).toNat∧I < g.n):=⟨by omega,K⟩;obtain⟨_,E⟩:∃ c,c=f I:=⟨_,rfl⟩;rw [<-E] at t0 t1 t2 t3;obtain⟨F,N⟩:=p;clear E d u o H G q1 q2 q3 hP A K B l;go_wp2;go_roundw
       case rel=>
        obtain⟨i1,i2⟩:=HI.out;have hq:=m.out.1.put S I (I*4) (I*4+1) (I*4+2) (I*4+3) ⟨0,0,y - 96,false⟩ i2 rfl rfl rfl rfl;rw [i1] at hq;refine⟨k+1,by omega,by go_num,by rw [a.out],by rw [a.out],?_,?_⟩
        ·rw [a.out, <-i1];rw [<-i1] at hq;exact hq
        ·exact cO (cO (cO (cO m.out.2 (by omega)) (by omega)) (by omega)) (by omega)
       case measure=>simp [intOf];omega
      ·have a:Hid (eZ g (s.data.toList.take (k+1))=(f,R,t+1)):=by
        show eZ g _=_;rw [A.out];unfold iV;rw [if_neg u];simp only;rw [if_neg (fun X=>p X.2.2)]
       by_cases F:R < g.high
       ·have N:g.wide<=t:=(by omega);clear d u o H G p A B l;go_wp2;go_roundw
        case rel=>exact⟨k+1,by omega,by go_num,by rw [a.out],by rw [a.out],by rw [a.out];exact m.out.1,m.out.2⟩
        case measure=>simp [intOf];omega
       ·have ah:g.high<=R:=(by omega);clear d u o H G p A B F l;go_wp2;go_roundw
        case rel=>exact⟨k+1,by omega,by go_num,by rw [a.out],by rw [a.out],by rw [a.out];exact m.out.1,m.out.2⟩
        case measure=>simp [intOf];omega
     ·have a:Hid (eZ g (s.data.toList.take (k+1))=(f,R,t+1)):=by
       show eZ g _=_;rw [A.out];unfold iV;rw [if_neg u];simp only;rw [if_neg (fun X=>G (H.1 ⟨X.1,X.2.1⟩))]
      by_cases Y:97<=y
      ·have e1:1<=y - 96:=(by omega);have e2:8 < y - 96:=(by omega);clear d u o H G A B l;go_wp2;go_roundw
       case rel=>exact⟨k+1,by omega,by go_num,by rw [a.out],by rw [a.out],by rw [a.out];exact m.out.1,m.out.2⟩
       case measure=>simp [intOf];omega
      ·have e1:y - 96 < 1:=(by omega);clear d u o H G A Y B l;go_wp2;go_roundw
       case rel=>exact⟨k+1,by omega,by go_num,by rw [a.out],by rw [a.out],by rw [a.out];exact m.out.1,m.out.2⟩
       case measure=>simp [intOf];omega
   ·have HE:Hid (W=f):=by
     show W=f;rw [List.take_of_length_le (by simp;omega)] at q;rw [wJ.out, <-q]
    obtain⟨⟨x0,x1,x2,x3,x4,x5,x6,x7,x8⟩,z⟩:=nine d.box;obtain⟨⟨_,_,_,_,_,_,_,_,u8⟩,v⟩:=nine d.res;clear d q Q V D;go_wp2;refine bodyPost_ret (v:=ay ⟨g.wide,g.high,g.n,f,g.row,g.col,g.aA,g.bold,g.top,g.bottom⟩ (some ⟨b,0,none⟩) cap) (by simp [results,results58,go_sem, *]) rfl ?_;rw [HE.out];exact⟨rfl,jC (w:=w) ⟨m.out.1.bM,m.out.1.grown⟩ (by omega) S _ _ _ _ _ _ _ _ _⟩
theorem MB (l:List Int) (f:Option Addr) (cap i:Nat) (w:World) (c:bV w f l) (k:i<=1):
  kD 78 #[.slice f l.length cap,.int .i64 i] w (.int .i64 (fE l i)):=by
 by_cases h:i < l.length
 ·obtain⟨_,_,rfl,j⟩:=c.resolve_left (fun e=>by rw [e] at h;simp at h);have t:=j i h;obtain⟨y,d⟩:∃ y,y=l.getD i 0:=⟨_,rfl⟩;rw [<-d] at t;have b:Hid (fE l i=max 0 (min y 999)):=(by show fE l i=_;rw [d];rfl);have:(i:Int) < (l.length:Int):=(by omega);have:(0:Int)<=(i:Int):=(by omega);clear j d c h k;by_cases a:y < 0
  ·go_enter func78,ntmps78;go_wp2;go_ret;exact⟨uR (by rw [b.out];omega),rfl⟩
  ·have:0<=y:=(by omega);clear a;go_enter func78,ntmps78;go_wp2
   all_goals (go_ret;exact⟨uR (by rw [b.out];omega),rfl⟩)
 ·have b:Hid (fE l i=0):=by
   show fE l i=0;unfold fE;rw [List.getD_eq_getElem?_getD,List.getElem?_eq_none (by omega)]
   rfl
  have:(l.length:Int)<=(i:Int):=(by omega);clear h c;go_enter func78,ntmps78;go_wp2;go_ret;exact⟨by rw [b.out];rfl,rfl⟩
def qN (w:World) (lo:Option Addr) (ln lc:Nat) (p q:Int):Prop:=
 ∀ w',Below w.heap.size w w'->(kC 78 #[.slice lo ln lc,.int .i64 0] w' fun e w''=>e=.returned (.int .i64 p)∧w''=w')∧(kC 78 #[.slice lo ln lc,.int .i64 1] w' fun e w''=>e=.returned (.int .i64 q)∧w''=w')
theorem rQ (p:Int):(if p < 1 then (1:Int) else p)=max p 1:=by split <;>omega
theorem Sl (a b:Int):(if b < a then b else a)=min a b:=by split <;>omega
theorem ad2 (g:Gr) (h:OkG g) (b cap:Nat) (w:World) (l:av w b g.n g.f) (o:g.n<=cap) (z:Option Addr) (y v:Nat) (p q:Int) (d:Hid (qN w z y v p q)) (c:0<=p) (C:p<=999) (m:Int) (t:m=max p 1) (x:Gr) (u:x={g with col:=min (g.col+m) (g.wide - 1)}):
  kC 57 #[ay g (some ⟨b,0,none⟩) cap,.int .i64 67,.slice z y v] w (jr w b x):=by
 have i:Hid (av w b g.n g.f∧g.n<=cap):=⟨l,o⟩;have:=h.c1;have:=h.c2;have:=h.w1;have:=h.w2;obtain⟨E,F,G,H,_⟩:=h.nums;obtain⟨P,j⟩:∃ P,P=g.row*g.wide:=⟨_,rfl⟩;have:IntKind.i64.wrap (g.row*g.wide)=P:=by rw [<-j,IntKind.wrap_i64];omega
 have:0<=P:=by omega
 have:P<=240:=by omega
 have a:Hid (∀ r:Int,r=min (g.col+m) (g.wide - 1)->∀ A B:Obj,jr w b x (.returned (.agg #[.int .i64 g.wide,.int .i64 g.high,.slice (some ⟨b,0,none⟩) g.n cap,.int .i64 g.row,.int .i64 r,.int .i64 g.aA,.bool g.bold,.int .i64 g.top,.int .i64 g.bottom])) ((w.alloc A).alloc B)):=by
  intro r D A B;rw [u, <-D];exact⟨b,cap,rfl,(i.out.1.alloc _).alloc _,i.out.2,bB (bB (eP _ _) _) _,.inl rfl⟩
 have:(if p < 1 then (1:Int) else p)=m:=by rw [rQ,t]
 obtain⟨k,s⟩:∃ k,(if g.wide - 1 < g.col then g.wide - 1 else g.col)=k:=⟨_,rfl⟩;have:0<=k:=by rw [<-s];split <;>omega
 have:k<=24:=by rw [<-s];split <;>omega
 have:1<=m:=by omega
 have:m<=999:=by omega
 clear l h u o E F G H j t c C;go_enter func57,ntmps57
 go_wp2_with (first
  | (go_at_call_of 78 (Value.int IntKind.i64 0);refine(d.out _ (aO _ _ _)).1.mono ?_;rintro e I ⟨rfl,rfl⟩)
  | (go_at_call_of 78 (Value.int IntKind.i64 1);refine(d.out _ (aO _ _ _)).2.mono ?_;rintro e I ⟨rfl,rfl⟩))
 all_goals (refine bodyPost_ret (by simp [results,results57,go_sem];rfl) rfl ?_;refine a.out _ ?_ _ _;omega)
variable (g:Gr)
theorem ad3 (h:OkG g) (b cap:Nat) (w:World) (c:av w b g.n g.f) (s:g.n<=cap) (z:Option Addr) (y v:Nat) (p q:Int) (j:Hid (qN w z y v p q)) (i:0<=p) (C:p<=999) (m:Int) (t:m=max p 1) (x:Gr) (u:x={g with col:=max (aZ g - m) 0}):
  kC 57 #[ay g (some ⟨b,0,none⟩) cap,.int .i64 68,.slice z y v] w (jr w b x):=by
 have:=c.lt;have l:Hid (av w b g.n g.f∧g.n<=cap):=⟨c,s⟩;have:=h.c1;have:=h.c2;have:=h.w1;have:=h.w2;have:=h.r1;have:=h.r2;have:=h.h1;have:=h.h2;obtain⟨F,G,H,I,_⟩:=h.nums;obtain⟨P,o⟩:∃ P,P=g.row*g.wide:=⟨_,rfl⟩;have:IntKind.i64.wrap (g.row*g.wide)=P:=by rw [<-o,IntKind.wrap_i64];omega
 have:0<=P:=by omega
 have:P<=240:=by omega
 have:(if p < 1 then (1:Int) else p)=m:=by rw [rQ,t]
 obtain⟨k,d⟩:∃ k,(if g.wide - 1 < g.col then g.wide - 1 else g.col)=k:=⟨_,rfl⟩;have E:Hid (k=aZ g):=by show k=aZ g;rw [<-d];unfold aZ;split <;>omega
 have:0<=k:=by rw [<-d];split <;>omega
 have:k<=24:=by rw [<-d];split <;>omega
 have:1<=m:=by omega
 have:m<=999:=by omega
 have a:Hid (∀ r:Int,r=max (k - m) 0->∀ A B:Obj,jr w b x (.returned (.agg #[.int .i64 g.wide,.int .i64 g.high,.slice (some ⟨b,0,none⟩) g.n cap,.int .i64 g.row,.int .i64 r,.int .i64 g.aA,.bool g.bold,.int .i64 g.top,.int .i64 g.bottom])) ((w.alloc A).alloc B)):=by
  intro r D A B;rw [u, <-E.out, <-D];exact⟨b,cap,rfl,(l.out.1.alloc _).alloc _,l.out.2,bB (bB (eP _ _) _) _,.inl rfl⟩
 clear c h u s F G H I o t i C;go_enter func57,ntmps57
 go_wp2_with (first
  | (go_at_call_of 78 (Value.int IntKind.i64 0);refine(j.out _ (aO _ _ _)).1.mono ?_;rintro e J ⟨rfl,rfl⟩)
  | (go_at_call_of 78 (Value.int IntKind.i64 1);refine(j.out _ (aO _ _ _)).2.mono ?_;rintro e J ⟨rfl,rfl⟩))
 all_goals (refine bodyPost_ret (by simp [results,results57,go_sem];rfl) rfl ?_;refine a.out _ ?_ _ _;omega)
theorem aec (h:OkG g) (b cap:Nat) (w:World) (B:av w b g.n g.f) (H:g.n<=cap) (L:Option Addr) (K J:Nat) (p q:Int) (i:Hid (qN w L K J p q)) (E:0<=p) (M:p<=999) (N:0<=q) (T:q<=999) (m:Int) (I:m=max p 1) (x:Gr) (F:x=nM g m q):
  kC 57 #[ay g (some ⟨b,0,none⟩) cap,.int .i64 114,.slice L K J] w (jr w b x):=by
 have:=B.lt;have y:Hid (av w b g.n g.f∧g.n<=cap):=⟨B,H⟩;have:=h.c1;have:=h.c2;have:=h.w1;have:=h.w2;have:=h.r1;have:=h.r2;have:=h.h1;have:=h.h2;obtain⟨O,Q,R,S,_⟩:=h.nums;obtain⟨P,G⟩:∃ P,P=g.row*g.wide:=⟨_,rfl⟩;have:IntKind.i64.wrap (g.row*g.wide)=P:=by rw [<-G,IntKind.wrap_i64];omega
 have:0<=P:=by omega
 have:P<=240:=by omega
 have:(if p < 1 then (1:Int) else p)=m:=by rw [rQ,I]
 obtain⟨k,D⟩:∃ k,(if g.wide - 1 < g.col then g.wide - 1 else g.col)=k:=⟨_,rfl⟩;have:Hid (k=aZ g):=by show k=aZ g;rw [<-D];unfold aZ;split <;>omega
 have:0<=k:=by rw [<-D];split <;>omega
 have:k<=24:=by rw [<-D];split <;>omega
 have:1<=m:=by omega
 have:m<=999:=by omega
 have z:Hid (∀ l:Int,l=oU g q->m<=l->∀ u v:Obj,jr w b x (.returned (.agg #[.int .i64 g.wide,.int .i64 g.high,.slice (some ⟨b,0,none⟩) g.n cap,.int .i64 0,.int .i64 0,.int .i64 g.aA,.bool g.bold,.int .i64 (m - 1),.int .i64 l])) ((w.alloc u).alloc v)):=by
  intro l t c u v;have e:x=⟨g.wide,g.high,g.n,g.f,0,0,g.aA,g.bold,m - 1,l⟩:=(by rw [F];unfold nM;rw [<-t,if_pos c]);rw [e];exact⟨b,cap,rfl,(y.out.1.alloc _).alloc _,y.out.2,bB (bB (eP _ _) _) _,.inl rfl⟩
 have A:Hid (∀ l:Int,l=oU g q->l < m->∀ u v:Obj,jr w b x (.returned (.agg #[.int .i64 g.wide,.int .i64 g.high,.slice (some ⟨b,0,none⟩) g.n cap,.int .i64 g.row,.int .i64 g.col,.int .i64 g.aA,.bool g.bold,.int .i64 g.top,.int .i64 g.bottom])) ((w.alloc u).alloc v)):=by
  intro l t c u v;have e:x=g:=(by rw [F];unfold nM;rw [<-t,if_neg (by omega)]);rw [e];exact⟨b,cap,rfl,(y.out.1.alloc _).alloc _,y.out.2,bB (bB (eP _ _) _) _,.inl rfl⟩
 have C:(q=0∧g.high=oU g q)∨((q==0)=false∧g.high < q∧g.high=oU g q)∨((q==0)=false∧q<=g.high∧q=oU g q):=by
  unfold oU;by_cases r:q=0
  ·left;exact⟨r,by rw [if_pos (.inl r)]⟩
  ·right;by_cases o:g.high < q
   ·left;exact⟨by simp [r],o,by rw [if_pos (.inr o)]⟩
   ·right;exact⟨by simp [r],by omega,by rw [if_neg (by omega)]⟩
 clear B h F H O Q R S G I E M;rcases C with ⟨r,a⟩ | ⟨r,o,a⟩ | ⟨r,o,a⟩
 ·subst r;have s:Hid _:=a;clear a;by_cases c:m<=g.high
  ·go_enter func57,ntmps57
   go_wp2_with (first
  | (go_at_call_of 78 (Value.int IntKind.i64 0);refine(i.out _ (aO _ _ _)).1.mono ?_;rintro e j ⟨rfl,rfl⟩)
  | (go_at_call_of 78 (Value.int IntKind.i64 1);refine(i.out _ (aO _ _ _)).2.mono ?_;rintro e j ⟨rfl,rfl⟩))
   refine bodyPost_ret (by simp [results,results57,go_sem];rfl) rfl ?_;exact z.out _ s.out c _ _
  ·have d:g.high < m:=(by omega);go_enter func57,ntmps57
   go_wp2_with (first
  | (go_at_call_of 78 (Value.int IntKind.i64 0);refine(i.out _ (aO _ _ _)).1.mono ?_;rintro e j ⟨rfl,rfl⟩)
  | (go_at_call_of 78 (Value.int IntKind.i64 1);refine(i.out _ (aO _ _ _)).2.mono ?_;rintro e j ⟨rfl,rfl⟩))
   refine bodyPost_ret (by simp [results,results57,go_sem];rfl) rfl ?_;exact A.out _ s.out d _ _
 ·have s:Hid _:=a;clear a;by_cases c:m<=g.high
  ·go_enter func57,ntmps57
   go_wp2_with (first
  | (go_at_call_of 78 (Value.int IntKind.i64 0);refine(i.out _ (aO _ _ _)).1.mono ?_;rintro e j ⟨rfl,rfl⟩)
  | (go_at_call_of 78 (Value.int IntKind.i64 1);refine(i.out _ (aO _ _ _)).2.mono ?_;rintro e j ⟨rfl,rfl⟩))
   refine bodyPost_ret (by simp [results,results57,go_sem];rfl) rfl ?_;exact z.out _ s.out c _ _
  ·have d:g.high < m:=(by omega);go_enter func57,ntmps57
   go_wp2_with (first
  | (go_at_call_of 78 (Value.int IntKind.i64 0);refine(i.out _ (aO _ _ _)).1.mono ?_;rintro e j ⟨rfl,rfl⟩)
  | (go_at_call_of 78 (Value.int IntKind.i64 1);refine(i.out _ (aO _ _ _)).2.mono ?_;rintro e j ⟨rfl,rfl⟩))
   refine bodyPost_ret (by simp [results,results57,go_sem];rfl) rfl ?_;exact A.out _ s.out d _ _
 ·have s:Hid _:=a;clear a;by_cases c:m<=q
  ·go_enter func57,ntmps57
   go_wp2_with (first
  | (go_at_call_of 78 (Value.int IntKind.i64 0);refine(i.out _ (aO _ _ _)).1.mono ?_;rintro e j ⟨rfl,rfl⟩)
  | (go_at_call_of 78 (Value.int IntKind.i64 1);refine(i.out _ (aO _ _ _)).2.mono ?_;rintro e j ⟨rfl,rfl⟩))
   refine bodyPost_ret (by simp [results,results57,go_sem];rfl) rfl ?_;exact z.out _ s.out c _ _
  ·have d:q < m:=(by omega);go_enter func57,ntmps57
   go_wp2_with (first
  | (go_at_call_of 78 (Value.int IntKind.i64 0);refine(i.out _ (aO _ _ _)).1.mono ?_;rintro e j ⟨rfl,rfl⟩)
  | (go_at_call_of 78 (Value.int IntKind.i64 1);refine(i.out _ (aO _ _ _)).2.mono ?_;rintro e j ⟨rfl,rfl⟩))
   refine bodyPost_ret (by simp [results,results57,go_sem];rfl) rfl ?_;exact A.out _ s.out d _ _
theorem ad9 (h:OkG g) (b cap:Nat) (w:World) (i:av w b g.n g.f) (F:g.n<=cap) (K:Option Addr) (J I:Nat) (p q:Int) (o:Hid (qN w K J I p q)) (l:0<=p) (N:p<=999) (c:Int) (s:c≠65) (t:c≠66) (u:c≠67) (v:c≠68) (y:c≠72) (z:c≠74) (A:c≠75) (B:c≠76) (C:c≠77) (D:c≠109) (a:c≠114) (m:Int) (G:m=max p 1) (x:Gr) (H:x=g):
  kC 57 #[ay g (some ⟨b,0,none⟩) cap,.int .i64 c,.slice K J I] w (jr w b x):=by
 have:=i.lt;have r:Hid (av w b g.n g.f∧g.n<=cap):=⟨i,F⟩;have:=h.c1;have:=h.c2;have:=h.w1;have:=h.w2;have:=h.r1;have:=h.r2;have:=h.h1;have:=h.h2;obtain⟨O,Q,R,S,_⟩:=h.nums;obtain⟨P,E⟩:∃ P,P=g.row*g.wide:=⟨_,rfl⟩;have:IntKind.i64.wrap (g.row*g.wide)=P:=by rw [<-E,IntKind.wrap_i64];omega
 have:0<=P:=by omega
 have:P<=240:=by omega
 have:(if p < 1 then (1:Int) else p)=m:=by rw [rQ,G]
 obtain⟨k,j⟩:∃ k,(if g.wide - 1 < g.col then g.wide - 1 else g.col)=k:=⟨_,rfl⟩;have:Hid (k=aZ g):=by show k=aZ g;rw [<-j];unfold aZ;split <;>omega
 have:0<=k:=by rw [<-j];split <;>omega
 have:k<=24:=by rw [<-j];split <;>omega
 have:1<=m:=by omega
 have:m<=999:=by omega
 have:(c==65)=false:=by simp [s]
 have:(c==66)=false:=by simp [t]
 have:(c==67)=false:=by simp [u]
 have:(c==68)=false:=by simp [v]
 have:(c==72)=false:=by simp [y]
 have:(c==74)=false:=by simp [z]
 have:(c==75)=false:=by simp [A]
 have:(c==76)=false:=by simp [B]
 have:(c==77)=false:=by simp [C]
 have:(c==109)=false:=by simp [D]
 have:(c==114)=false:=by simp [a]
 have d:Hid (∀ L M:Obj,jr w b x (.returned (.agg #[.int .i64 g.wide,.int .i64 g.high,.slice (some ⟨b,0,none⟩) g.n cap,.int .i64 g.row,.int .i64 g.col,.int .i64 g.aA,.bool g.bold,.int .i64 g.top,.int .i64 g.bottom])) ((w.alloc L).alloc M)):=by
  intro L M;rw [H];exact⟨b,cap,rfl,(r.out.1.alloc _).alloc _,r.out.2,bB (bB (eP _ _) _) _,.inl rfl⟩
 clear i h H F O Q R S E G l N;clear s t u v y z A B C D a;go_enter func57,ntmps57
 go_wp2_with (first
  | (go_at_call_of 78 (Value.int IntKind.i64 0);refine(o.out _ (aO _ _ _)).1.mono ?_;rintro e T ⟨rfl,rfl⟩)
  | (go_at_call_of 78 (Value.int IntKind.i64 1);refine(o.out _ (aO _ _ _)).2.mono ?_;rintro e T ⟨rfl,rfl⟩))
 all_goals (refine bodyPost_ret (by simp [results,results57,go_sem];rfl) rfl ?_;exact d.out _ _)
variable (g:Gr) {w wr:World} {x:Gr} {cap:Nat}
theorem ni.row {a:Option Addr} (h:ni w x a cap wr) (k:Int):ni w {x with row:=k} a cap (wr.setCell ⟨w.heap.size,3,none⟩ (.int .i64 k)):=by
 have b:=heap_setCell_same wr w.heap.size 3 _ _ (.int .i64 k) h.box;exact⟨b,cO h.res (by omega),h.below.setCell (Nat.le_refl _) _⟩
theorem LK {b n:Nat} {f:Nat->aH} (d:Hid (ni w x (some ⟨b,0,none⟩) cap wr)) (a:Hid (av w b n f∧n<=cap)) (h:x.n=n) (e:x.f=f) (u0 u1 u2 u3 u4 u5 u6 u7 u8:Value):
  jr w b x (.returned (ay x (some ⟨b,0,none⟩) cap)) (((((((((wr.setCell ⟨w.heap.size+1,0,none⟩ u0).setCell ⟨w.heap.size+1,1,none⟩ u1).setCell ⟨w.heap.size+1,2,none⟩ u2).setCell ⟨w.heap.size+1,3,none⟩ u3).setCell ⟨w.heap.size+1,4,none⟩ u4).setCell ⟨w.heap.size+1,5,none⟩ u5).setCell ⟨w.heap.size+1,6,none⟩ u6).setCell ⟨w.heap.size+1,7,none⟩ u7).setCell ⟨w.heap.size+1,8,none⟩ u8):=by
 have c:=a.out.1.lt;subst h e;exact⟨b,cap,rfl,iC (a.out.1.below d.out.below c) (by omega) _ _ _ _ _ _ _ _ _,a.out.2,Below.nO (iZ d.out.below (by omega) _ _ _ _ _ _ _ _ _) _,.inl rfl⟩
theorem adZ (h:OkG g) (b cap:Nat) (w:World) (r:av w b g.n g.f) (C:g.n<=cap) (H:Option Addr) (G F:Nat) (p q:Int) (A:Hid (qN w H G F p q)) (z:0<=p) (N:p<=999) (m:Int) (D:m=max p 1) (x:Gr) (E:x={g with row:=max (g.row - m) 0}):
  kC 57 #[ay g (some ⟨b,0,none⟩) cap,.int .i64 65,.slice H G F] w (jr w b x):=by
 have:=r.lt;have K:Hid (av w b g.n g.f∧g.n<=cap):=⟨r,C⟩;have:=h.c1;have:=h.c2;have:=h.w1;have:=h.w2;have:=h.r1;have:=h.r2;have:=h.h1;have:=h.h2;obtain⟨O,Q,S,T,_⟩:=h.nums;obtain⟨P,B⟩:∃ P,P=g.row*g.wide:=⟨_,rfl⟩;have:IntKind.i64.wrap (g.row*g.wide)=P:=by rw [<-B,IntKind.wrap_i64];omega
 have:0<=P:=by omega
 have:P<=240:=by omega
 have y:(if p < 1 then (1:Int) else p)=m:=by rw [rQ,D]
 obtain⟨k,t⟩:∃ k,(if g.wide - 1 < g.col then g.wide - 1 else g.col)=k:=⟨_,rfl⟩;have:Hid (k=aZ g):=by show k=aZ g;rw [<-t];unfold aZ;split <;>omega
 have:0<=k:=by rw [<-t];split <;>omega
 have:k<=24:=by rw [<-t];split <;>omega
 have u:1<=m:=by omega
 have U:m<=999:=by omega
 obtain⟨M,l⟩:∃ M:Nat,m=M:=⟨m.toNat,by omega⟩;have L:=gH E;have J:=gH l;clear r h E C O Q S T B D z N;rw [l] at y;have:M<=999:=by omega
 clear l u U;go_enter func57,ntmps57
 go_wp2_with (first
  | (go_at_call_of 78 (Value.int IntKind.i64 0);refine(A.out _ (aO _ _ _)).1.mono ?_;rintro e V ⟨rfl,rfl⟩)
  | (go_at_call_of 78 (Value.int IntKind.i64 1);refine(A.out _ (aO _ _ _)).2.mono ?_;rintro e V ⟨rfl,rfl⟩))
 go_loopw [34] (fun i wr=>∃ k:Nat,k<=M∧i=.int .i64 k∧ni w {g with row:=max (g.row - k) 0} (some ⟨b,0,none⟩) cap wr) (fun i _=>M - (intOf i).toNat)
 case atStart=>exact⟨0,Nat.zero_le _,rfl,by rw [show max (g.row - ((0:Nat):Int)) 0=g.row by omega];exact⟨aF (at_new w _) _,bK w _ _,aO _ _ _⟩⟩
 case round=>
  obtain⟨j,_,rfl,a⟩:=hrel;obtain⟨R,o⟩:∃ R,R=max (g.row - j) 0:=⟨_,rfl⟩;rw [<-o] at a;have c:=gH a;have d:=gH o;obtain⟨⟨_,_,_,_,_,_,_,_,_⟩,_⟩:=nine a.box;obtain⟨⟨_,_,_,_,_,_,_,_,_⟩,v⟩:=nine a.res;have:0<=R:=(by omega);have:R<=10:=(by omega);clear a o;by_cases W:j < M
  ·have:(j:Int) < (M:Int):=(by omega);by_cases s:0 < R
   ·go_wp2;go_roundw
    case rel=>exact⟨j+1,by omega,by go_num,by rw [show max (g.row - ((j+1:Nat):Int)) 0=R - 1 by have:=d.out;omega];exact c.out.row _⟩
    case measure=>simp [intOf];omega
   ·have:R<=0:=(by omega);clear s;go_wp2;go_roundw
    case rel=>exact⟨j+1,by omega,by go_num,by rw [show max (g.row - ((j+1:Nat):Int)) 0=R by have:=d.out;omega];exact c.out⟩
    case measure=>simp [intOf];omega
  ·have:(M:Int)<=(j:Int):=(by omega);have I:Hid (x={g with row:=R}):=by
    show x=_;rw [L.out,d.out];congr 1;have:=J.out;omega
   go_wp2;refine bodyPost_ret (v:=ay {g with row:=R} (some ⟨b,0,none⟩) cap) (by simp [results,results57,go_sem, *]) rfl ?_;rw [I.out];exact LK c K rfl rfl _ _ _ _ _ _ _ _ _
theorem ad1 (h:OkG g) (b cap:Nat) (w:World) (r:av w b g.n g.f) (C:g.n<=cap) (H:Option Addr) (G F:Nat) (p q:Int) (A:Hid (qN w H G F p q)) (z:0<=p) (N:p<=999) (m:Int) (D:m=max p 1) (x:Gr) (E:x={g with row:=min (g.row+m) (g.high - 1)}):
  kC 57 #[ay g (some ⟨b,0,none⟩) cap,.int .i64 66,.slice H G F] w (jr w b x):=by
 have:=r.lt;have K:Hid (av w b g.n g.f∧g.n<=cap):=⟨r,C⟩;have:=h.c1;have:=h.c2;have:=h.w1;have:=h.w2;have:=h.r1;have:=h.r2;have:=h.h1;have:=h.h2;obtain⟨O,Q,S,T,_⟩:=h.nums;obtain⟨P,B⟩:∃ P,P=g.row*g.wide:=⟨_,rfl⟩;have:IntKind.i64.wrap (g.row*g.wide)=P:=by rw [<-B,IntKind.wrap_i64];omega
 have:0<=P:=by omega
 have:P<=240:=by omega
 have y:(if p < 1 then (1:Int) else p)=m:=by rw [rQ,D]
 obtain⟨k,t⟩:∃ k,(if g.wide - 1 < g.col then g.wide - 1 else g.col)=k:=⟨_,rfl⟩;have:Hid (k=aZ g):=by show k=aZ g;rw [<-t];unfold aZ;split <;>omega
 have:0<=k:=by rw [<-t];split <;>omega
 have:k<=24:=by rw [<-t];split <;>omega
 have u:1<=m:=by omega
 have U:m<=999:=by omega
 obtain⟨M,l⟩:∃ M:Nat,m=M:=⟨m.toNat,by omega⟩;have L:=gH E;have J:=gH l;clear r h E C O Q S T B D z N;rw [l] at y;have:M<=999:=by omega
 clear l u U;go_enter func57,ntmps57
 go_wp2_with (first
  | (go_at_call_of 78 (Value.int IntKind.i64 0);refine(A.out _ (aO _ _ _)).1.mono ?_;rintro e V ⟨rfl,rfl⟩)
  | (go_at_call_of 78 (Value.int IntKind.i64 1);refine(A.out _ (aO _ _ _)).2.mono ?_;rintro e V ⟨rfl,rfl⟩))
 go_loopw [47] (fun i wr=>∃ k:Nat,k<=M∧i=.int .i64 k∧ni w {g with row:=min (g.row+k) (g.high - 1)} (some ⟨b,0,none⟩) cap wr) (fun i _=>M - (intOf i).toNat)
 case atStart=>exact⟨0,Nat.zero_le _,rfl,by rw [show min (g.row+((0:Nat):Int)) (g.high - 1)=g.row by omega];exact⟨aF (at_new w _) _,bK w _ _,aO _ _ _⟩⟩
 case round=>
  obtain⟨j,_,rfl,a⟩:=hrel;obtain⟨R,o⟩:∃ R,R=min (g.row+j) (g.high - 1):=⟨_,rfl⟩;rw [<-o] at a;have c:=gH a;have d:=gH o;obtain⟨⟨_,_,_,_,_,_,_,_,_⟩,_⟩:=nine a.box;obtain⟨⟨_,_,_,_,_,_,_,_,_⟩,v⟩:=nine a.res;have:0<=R:=(by omega);have:R<=10:=(by omega);clear a o;by_cases W:j < M
  ·have:(j:Int) < (M:Int):=(by omega);by_cases s:R < g.high - 1
   ·go_wp2;go_roundw
    case rel=>exact⟨j+1,by omega,by go_num,by rw [show min (g.row+((j+1:Nat):Int)) (g.high - 1)=R+1 by have:=d.out;omega];exact c.out.row _⟩
    case measure=>simp [intOf];omega
   ·have:g.high - 1<=R:=(by omega);clear s;go_wp2;go_roundw
    case rel=>exact⟨j+1,by omega,by go_num,by rw [show min (g.row+((j+1:Nat):Int)) (g.high - 1)=R by have:=d.out;omega];exact c.out⟩
    case measure=>simp [intOf];omega
  ·have:(M:Int)<=(j:Int):=(by omega);have I:Hid (x={g with row:=R}):=by
    show x=_;rw [L.out,d.out];congr 1;have:=J.out;omega
   go_wp2;refine bodyPost_ret (v:=ay {g with row:=R} (some ⟨b,0,none⟩) cap) (by simp [results,results57,go_sem, *]) rfl ?_;rw [I.out];exact LK c K rfl rfl _ _ _ _ _ _ _ _ _
end Go.Proofs.YtkcdcamophkdlaaGreatDoor
