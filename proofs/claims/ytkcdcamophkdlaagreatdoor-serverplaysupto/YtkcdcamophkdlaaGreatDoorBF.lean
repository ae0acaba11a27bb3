import Derived.Test.YtkcdcamophkdlaaGreatDoorBE
set_option maxHeartbeats 4000000
set_option maxRecDepth 100000
open Go.Proofs.Tryz
namespace Go.Proofs.YtkcdcamophkdlaaGreatDoor.Pt
open Go.RowKit
open Go.Proofs.YtkcdcamophkdlaaGreatDoor.Tl (Rc dx gW cZ gJ bL cK dG bn ak aI bV tval aT rval fK pz ng cv)
variable (v:Vw) (l:Lay) (C:Array Value) {aj:List (List Int)} {i:Nat}
theorem ZR {k:Nat} (d:i < aj.length) (a:k < aj[i].length):(aj.take i).flatten.length+k < aj.flatten.length∧aj.flatten.getD ((aj.take i).flatten.length+k) 0=aj[i][k]:=by
 have c:aj=aj.take i++aj[i]::aj.drop (i+1):=by rw [<-List.drop_eq_getElem_cons d,List.take_append_drop]
 have e:aj.flatten=(aj.take i).flatten++(aj[i]++(aj.drop (i+1)).flatten):=by
  conv=>lhs;rw [c]
  rw [List.flatten_append,List.flatten_cons]
 constructor
 ·rw [e];simp only [List.length_append];omega
 ·rw [List.getD_eq_getElem?_getD];rw [e,List.getElem?_append_right (by omega),Nat.add_sub_cancel_left,List.getElem?_append_left a];simp [a]
theorem ZU (a:i < aj.length):(aj.take (i+1)).flatten.length=(aj.take i).flatten.length+aj[i].length:=by
 rw [List.take_succ_eq_append_getElem a,List.flatten_append];simp
theorem agQ (a:Int) (w:World) (h:a < 0∨(0<=a∧a % 2=1)):
  kA 112 #[.agg C,.int .i64 a] w (cval (sign 32)):=by
 rcases h with h | ⟨c,d⟩
 ·go_enter func112,ntmps112;go_wp2;refine bodyPost_ret (v:=cval (sign 32)) (by simp [results,results112,go_sem,sign]) rfl ?_;exact⟨rfl,Tl.aO _ _ _⟩
 ·have:(Int.tmod a 2)=1:=(by rw [Int.tmod_eq_emod_of_nonneg c];exact d);go_enter func112,ntmps112;go_wp2;refine bodyPost_ret (v:=cval (sign 32)) (by simp [results,results112,go_sem,sign]) rfl ?_;exact⟨rfl,Tl.aO _ _ _⟩
theorem agR (O:VC v l C) (K:Nat) (hK:(K:Int)<=9000000000000000000) (w:World) (S:dw w v l) (r:aH) (hr:r=sK v (2*K)) (a:Int) (V:a=2*K):
  kA 112 #[.agg C,.int .i64 a] w (cval r):=by
 obtain⟨c0,c1,c2,c3⟩:=O.cells;have HC:=gH O;have D:=gH S;have HR:Hid (r=sK v a):=by rw [V];exact hr
 have Z:=gH V;have h1:0<=a:=by omega
 have hm:(Int.tmod a 2)=0:=by rw [Int.tmod_eq_emod_of_nonneg h1];omega
 have hq:(Int.tdiv a 2)=K:=by rw [Int.tdiv_eq_ediv_of_nonneg h1];omega
 have ae:=S.m1;have I:=gH (Qn w C);clear O S hr V;go_enter func112,ntmps112;go_wp2;go_loopw [5,22] (fun s5 L wr=>∃ i k:Nat,i<=l.its.length∧s5=.int .i64 k∧L=.int .i64 i∧j5 w C wr∧k+((ak l.its).take i).flatten.length=K) (fun _ L _=>l.its.length - (intOf L).toNat)
 case atStart=>exact⟨0,K,Nat.zero_le _,rfl,rfl,I.out,by simp⟩
 case round=>
  obtain⟨i,k,_,rfl,rfl,j,hk⟩:=hrel;have t:=gH j;have g:=gH hk;have ac:(k:Int)<=9000000000000000000:=(by omega);have X:=gH D.out.aj;obtain⟨⟨_,_,_,_⟩,_⟩:=CF HC.out j.box;obtain⟨⟨_,_,_,_⟩,_⟩:=Tl.four j.res;clear j hk c0 c1 c2 c3;by_cases c:i < l.its.length
  ·have aa:(i:Int) < (l.its.length:Int):=(by omega);have zS:=D.out.rd.below t.out.below;obtain⟨b,U,_,hc⟩:=zS.row.resolve_left (by intro h;rw [h] at c;simp at c);have N:=hc i c;obtain⟨⟨n,Y,x3⟩,E⟩:∃ x,x=l.its[i]:=⟨_,rfl⟩;rw [<-E] at N;have h5:wr.cell? ⟨b,U+i,none⟩=some (.slice Y n.length x3):=N;have e:(n,Y,x3)∈l.its:=(by rw [E];exact List.getElem_mem c);have T:=D.out.m2 _ e;have jM:Hid (bV w Y n):=(D.out.rd.each _ e).1;have z:i < (ak l.its).length:=(by simpa using c);have F:Hid ((ak l.its)[i]=n):=(by show _=_;simp [<-E]);simp only at T;clear hc N E e zS;by_cases m:k < n.length
   ·have A:(k:Int) < (n.length:Int):=(by omega);obtain⟨u,ol,P,y⟩:=jM.out.resolve_left (by intro h;subst h;simp at m);subst P;have o:=y k m;have Q:u < w.heap.size:=World.block_lt_of_cell? _ _ o;have h6:=(t.out.below.cell (p:=⟨u,ol+k,none⟩) Q).trans o;have af:¬ u=w.heap.size+1:=(by omega);have ag:¬ w.heap.size+1=u:=(by omega);clear o;obtain⟨q,s⟩:∃ q,q=n.getD k 0:=⟨_,rfl⟩;rw [<-s] at h6;obtain⟨d,R⟩:∃ d,d=48+max 0 (min q 9):=⟨_,rfl⟩;have HD:Hid (∀ w,kD 139 #[.int .i64 q] w (.int .i64 d)):=fun w=>(by rw [R];exact Y6 q w);have J:Hid (r=⟨d,0,0,decide (q=v.focus)⟩):=by
     show r=_;have M:k < (ak l.its)[i].length:=(by rw [F.out];exact m);have hf:=ZR z M;rw [HR.out,R];refine ZY v (k:=K) Z.out ?_ ?_
     ·rw [X.out, <-g.out];omega
     ·rw [X.out, <-g.out,Nat.add_comm,hf.2,s];simp only [F.out];simp [m]
    have ad:=Tl.dI t.out.res;clear y s R jM F;go_wp2_with fail;go_region_held3 (fun w'=>w'.cell? ⟨w.heap.size,57,none⟩=some (.int .i64 v.focus)∧w'.cell? ⟨u,ol+k,none⟩=some (.int .i64 q)) (first | go_keep | (simp [*,World.cell?_alloc_past])) (first | (go_at_call 139;refine(HD.out _).mono ?_;rintro _ _ ⟨rfl,rfl⟩));go_wp2;refine bodyPost_ret (v:=cval ⟨d,0,0,q==v.focus⟩) (by simp [results,results112,go_sem, *]) rfl ?_;rw [J.out];exact⟨rfl,(Tl.qI (B:=w.heap.size+1) t.out.below (by omega) _ _ _ _).drew⟩
   ·have A:(n.length:Int)<=(k:Int):=(by omega);go_wp2;go_roundw
    case rel=>exact⟨i+1,k - n.length,by omega,by go_num,by go_num,t.out,by
     have:=ZU z
     have h9:=g.out
     simp only [F.out] at this
     omega⟩
    case measure=>simp [intOf];omega
  ·have ab:(l.its.length:Int)<=(i:Int):=(by omega);have J:Hid (r=sign 32):=by
    show r=sign 32;rw [HR.out];refine QY v ?_;have h9:=g.out;rw [List.take_of_length_le (by simp;omega)] at h9;rw [X.out];have:=Z.out;omega
   go_wp2;refine bodyPost_ret (v:=cval (sign 32)) (by simp [results,results112,go_sem,sign, *]) rfl ?_;rw [J.out];exact⟨rfl,Tl.qI t.out.below (by omega) _ _ _ _⟩
theorem agP (d:VC v l C) (a:Int) (g:a<=9223372036854775807) (w:World) (e:dw w v l) (r:aH) (c:r=sK v a):
  kA 112 #[.agg C,.int .i64 a] w (cval r):=by
 by_cases h:a < 0∨(0<=a∧a % 2=1)
 ·rw [c,QY v (by omega)];exact agQ C a w h
 ·exact agR v l C d (a / 2).toNat (by omega) w e r (by rw [c];congr 1;omega) a (by omega)
def Ii (v:Vw):Prop:=∀ p,p < 6-> -9223372036854775808<=(v.gs p).row∧ -9223372036854775808<=(v.gs p).col
theorem ae0 {a b c d:Int} (e:a=c) (g:b=d):Ending.returned (.tuple #[.int .i64 a,.int .i64 b])=.returned (.tuple #[.int .i64 c,.int .i64 d]):=by rw [e,g]
theorem Zr (r:Rc) (w:World):(binOp .eql 88 (rval r) (.agg #[.int .i64 0,.int .i64 0,.int .i64 0,.int .i64 0])).run prog w=.ok (.bool (decide (r.row=0∧r.col=0∧r.high=0∧r.wide=0))) w:=by
 obtain⟨g,h,j,k⟩:=r;by_cases a:g=0
 ·by_cases c:h=0
  ·by_cases d:j=0
   ·by_cases e:k=0
    ·subst a c d e;simp [go_sem]
    ·subst a c d;simp [go_sem,e]
   ·subst a c;simp [go_sem,d]
  ·subst a;simp [go_sem,c]
 ·simp [go_sem,a]
theorem YU (v:Vw) (l:Lay) (C:Array Value) (s:VC v l C) (w:World) (y:dw w v l) (u:Ii v) (r:Int×Int) (B:r=CK v):
  kA 113 #[.agg C] w (.tuple #[.int .i64 r.1,.int .i64 r.2]):=by
 obtain⟨R,S,T,A⟩:=s.cells;have N:=gH s;have Q:=gH y;have O:=gH s.size;obtain⟨a,c⟩:∃ x,x=v.place v.focus:=⟨_,rfl⟩;have E:Hid (∀ w,dw w v l->kA 135 #[.agg C,.int .i64 v.focus] w (rval a)):=fun w y=>TH v l C N.out v.focus w y a c;have j:=TI v v.focus;rw [<-c] at j;have X:=Zr a;have L:=TJ v v.focus;rw [<-c] at L;by_cases p:a.wide=0
 ·have F:Hid (r=(0,0)):=by
   show r=(0,0);rw [B];unfold CK;rw [<-c,if_pos p]
  have k:decide (a.row=0∧a.col=0∧a.high=0∧a.wide=0)=true:=decide_eq_true (by rcases j with e | e <;>first | omega | (rw [e];decide));rw [k] at X;clear B s y c j p k L;go_enter func113,ntmps113
  go_wp2_with (first
   | (refine yt C O.out rfl _ rfl w.heap.size rfl (at_new w _) ?_)
   | (go_at_call 135;refine(E.out _ (Q.out.below (aM _ _))).mono ?_;rintro e m ⟨rfl,g⟩;have d:Hid (Below w.heap.size w m):=Tl.iG (aM _ _) g;clear g R S T A)
   | fail)
  go_ret2;rw [F.out];exact⟨rfl,Tl.iG d.out (aM _ _)⟩
 ·obtain⟨m1,m2,_,_,m5,m6,m7,m8⟩:=j.resolve_left (fun e=>p (by rw [e];rfl));obtain⟨P,I⟩:∃ P:Nat,v.focus=P:=⟨v.focus.toNat,by omega⟩;have Y:P < 6:=(by omega);obtain⟨x,D⟩:∃ x,x=v.gs P:=⟨_,rfl⟩;obtain⟨z,t⟩:∃ x,x=l.ga P:=⟨_,rfl⟩;obtain⟨n,o⟩:∃ x,x=l.gc P:=⟨_,rfl⟩;have V:=u P Y;rw [<-D] at V;obtain⟨_,_⟩:=V;have F:Hid (r=(a.row+min x.row (a.high - 1),a.col+min x.col (a.wide - 1))):=by
   show r=_;rw [B];unfold CK;rw [<-c,if_neg p,I,Int.toNat_natCast, <-D]
  have k:decide (a.row=0∧a.col=0∧a.high=0∧a.wide=0)=false:=decide_eq_false (fun h=>p h.2.2.2);rw [k] at X;have Z:Hid (∀ M:World,M.heap[w.heap.size]?=some (bf C)->M.rangeAt w.heap.size (1+P*9) (bE x z n).toList):=fun M hb=>(by rw [D,t,o];exact LY N.out hb P Y);rw [I] at E A;have Ku:=gH A;have:(0:Int)<=(P:Int):=(by omega);have:(P:Int) < 6:=(by omega);obtain⟨_,_,_,_,_,_,_,_⟩:=L;have:Hid (IntKind.i64.wrap (a.row+min x.row (a.high - 1))=a.row+min x.row (a.high - 1)):=(by show _=_;rw [IntKind.wrap_i64];omega);have:Hid (IntKind.i64.wrap (a.col+min x.col (a.wide - 1))=a.col+min x.col (a.wide - 1)):=(by show _=_;rw [IntKind.wrap_i64];omega);clear B s y c j p k u D t o I m1 m2 m5 m6 m7 m8;go_enter func113,ntmps113
  go_wp2_with (first
   | (refine yt C O.out rfl _ rfl w.heap.size rfl (at_new w _) ?_)
   | (go_at_call 135;refine(E.out _ (Q.out.below (aM _ _))).mono ?_;rintro e m ⟨rfl,g⟩;have d:Hid (Below w.heap.size w m∧m.heap[w.heap.size]?=some (bf C)):=⟨Tl.iG (aM _ _) g,aG g (at_new w _) (by simp)⟩;have K:(m.alloc (fK a)).cell? ⟨w.heap.size,57,none⟩=some (.int .i64 P):=(cell_of_row _ _ 57 _ _ _ (aF d.out.2 _)).trans Ku.out;clear g R S T A;have G:=Z.out (m.alloc (fK a)) (aF d.out.2 _);have U:=G 0 _ rfl;have g1:=G 1 _ rfl;have g2:=G 2 _ rfl;have g3:=G 3 _ rfl;have g4:=G 4 _ rfl;have g5:=G 5 _ rfl;have g6:=G 6 _ rfl;have g7:=G 7 _ rfl;have g8:=G 8 _ rfl;simp only [Nat.add_zero] at U;clear G;have:w.heap.size < m.heap.size:=Tl.dI d.out.2)
   | fail)
  obtain⟨W,J⟩:∃ W,W=(m.alloc (fK a)).alloc (aB x z n):=⟨_,rfl⟩;have q:Hid (Below w.heap.size w W):=(by show Below w.heap.size w W;rw [J];exact Tl.iG d.out.1 (Tl.aO _ _ _));obtain⟨⟨d0,d1,d2,d3⟩,d4⟩:=Tl.four (aF (at_new m (fK a)) (aB x z n));obtain⟨⟨f0,f1,f2,f3,f4,f5,f6,f7,f8⟩,f9⟩:=nine (bK m (fK a) (aB x z n));rw [<-J] at d0 d1 d2 d3 d4 f0 f1 f2 f3 f4 f5 f6 f7 f8 f9 ⊢;clear J U g1 g2 g3 g4 g5 g6 g7 g8 K;rcases(show a.high - 1 < x.row∨x.row<=a.high - 1 by omega) with e1 | e1 <;>rcases(show a.wide - 1 < x.col∨x.col<=a.wide - 1 by omega) with e2 | e2
  all_goals
   go_quiet (fail);go_wp2;go_ret2;rw [F.out];refine⟨ae0 ?_ ?_,by first | exact q.out | exact Tl.iG q.out (Tl.below_drewN _ _)⟩
   ·show _=a.row+min x.row (a.high - 1)
    first | omega | (rw [IntKind.wrap_i64];omega)
   ·show _=a.col+min x.col (a.wide - 1)
    first | omega | (rw [IntKind.wrap_i64];omega)
variable (v:Vw) (W H:Int) {w wr:World} {b G cp:Nat} {C:Array Value} {x:Gr} {f:Nat->aH}
def mP (v:Vw) (W H:Int) (m:Nat):Nat->aH:=fun i=>if i < m then qZ v W H i else aX
theorem QN (m:Nat):gV (mP v W H m) m (qZ v W H m)=mP v W H (m+1):=by
 funext i;unfold gV mP;by_cases e:i=m
 ·subst e;rw [if_pos rfl,if_pos (by omega)]
 ·rw [if_neg e];by_cases h:i < m
  ·rw [if_pos h,if_pos (by omega)]
  ·rw [if_neg h,if_neg (by omega)]
theorem ZB (i:Nat):aX=mP v W H 0 i:=by unfold mP;rw [if_neg (by omega)]
theorem Qm {W H:Int} {I:Nat} {k c:Nat} (d:(c:Int) < W) (a:(I:Int)=k*W+c):qZ v W H I=if (k:Int)=H - 1 then sK v c else pQ v k c:=by
 unfold qZ;have e:(I:Int) / W=k:=by
  rw [a,Int.add_comm,Int.add_mul_ediv_right _ _ (by omega),Int.ediv_eq_zero_of_lt (by omega) d];omega
 have g:(I:Int) % W=c:=by
  rw [a,Int.add_comm,Int.add_mul_emod_self_right,Int.emod_eq_of_lt (by omega) d]
 rw [e,g]
structure kY (w:World) (C:Array Value) (x:Gr) (b G cp:Nat) (f:Nat->aH) (wr:World):Prop where
 box:wr.heap[w.heap.size]?=some (bf C)
 res:wr.heap[w.heap.size+1]?=some aV
 g:wr.heap[G]?=some (aB x (some ⟨b,0,none⟩) cp)
 bM:av wr b x.n f
 below:Below w.heap.size w wr
 n1:w.heap.size+1 < b
 n2:b < G
theorem kY.next {c:World} (h:kY w C x b G cp f wr) (a:Below wr.heap.size wr c):kY w C x b G cp f c:=
 ⟨aG a h.box (Tl.dI h.box),aG a h.res (Tl.dI h.res),aG a h.g (Tl.dI h.g),h.bM.below a h.bM.lt,Tl.iG h.below a,h.n1,h.n2⟩
theorem kY.drew (h:kY w C x b G cp f wr):kY w C x b G cp f wr.drew:=
 ⟨h.box,h.res,h.g,h.bM.drew,h.below.drew,h.n1,h.n2⟩
theorem M4 {B c d e g:Nat} {o:Obj} (h:w.heap[B]?=some o) (a:B≠b) (u0 u1 u2 u3:Value):((((w.setCell ⟨b,c,none⟩ u0).setCell ⟨b,d,none⟩ u1).setCell ⟨b,e,none⟩ u2).setCell ⟨b,g,none⟩ u3).heap[B]?=some o:=by
 rw [Below.heap_setCell _ _ _ _ a,Below.heap_setCell _ _ _ _ a,Below.heap_setCell _ _ _ _ a,Below.heap_setCell _ _ _ _ a];exact h
theorem kY.put (h:kY w C x b G cp f wr) (i:Nat) (c:aH) (a:i < x.n):
  kY w C x b G cp (gV f i c) ((((wr.setCell ⟨b,i*4,none⟩ (.int .i64 c.ch)).setCell ⟨b,i*4+1,none⟩ (.int .i64 c.aA)).setCell ⟨b,i*4+2,none⟩ (.int .i64 c.aJ)).setCell ⟨b,i*4+3,none⟩ (.bool c.bold)):=by
 have d:=h.n1;have e:=h.n2;exact⟨M4 h.box (by omega) _ _ _ _,M4 h.res (by omega) _ _ _ _,M4 h.g (by omega) _ _ _ _,h.bM.put i _ _ _ _ c a rfl rfl rfl rfl,(((h.below.setCell (by simp;omega) _).setCell (by simp;omega) _).setCell (by simp;omega) _).setCell (by simp;omega) _,h.n1,h.n2⟩
theorem kY.setRow (h:kY w C x b G cp f wr) (R:Int):kY w C {x with row:=R} b G cp f (wr.setCell ⟨G,3,none⟩ (.int .i64 R)):=by
 have a:=h.n1;have c:=h.n2;exact⟨by rw [Below.heap_setCell _ _ _ _ (by simp;omega)];exact h.box,by rw [Below.heap_setCell _ _ _ _ (by simp;omega)];exact h.res,heap_setCell_same _ G 3 _ _ _ h.g,h.bM.set (by simp;omega) _,h.below.setCell (by simp;omega) _,h.n1,h.n2⟩
theorem Ki {c:Array Oper} {S:World->Prop} {d:Oper} {a:Act} (k:Region.wanted d (yielded c a.tmps)=true) (x:Operand) (g:d.op=.load 36 x) (b:Nat) (m:a.eval x=.pointer (some ⟨b,0,none⟩)) (C:Array Value) (j:C.size=58) (e:∀ w,S w->w.heap[b]?=some (bf C)):YieldsIf prog c S d (.agg C) a:=by
 have:=yieldsIf_load_mid (P:=prog) k 36 x g b 0 m C.toList _ (fun w h=>Ql (e w h)) underlying36 rfl (by rw [Array.length_toList,j];exact vX);simpa using this
theorem qA {w:World} {b i j:Nat} {u x:Value} (h:w.cell? ⟨b,i,none⟩=some x) (a:j≠i):(w.setCell ⟨b,j,none⟩ u).cell? ⟨b,i,none⟩=some x:=by
 rw [World.cell?_setCell_other _ _ _ _ (fun e=>a (by simp only [Addr.mk.injEq] at e;exact e.2.1))];exact h
theorem Un (v:Vw) (l:Lay) (C:Array Value) (hC:VC v l C) (wide high:Int) (w:World) (N:dw w v l) (ak:Ii v) (x:Gr) (hx:x=mD v wide high):
  kC 93 #[.agg C,.int .i64 wide,.int .i64 high] w fun e F=>∃ b,e=.returned (ay x (some ⟨b,0,none⟩) x.n)∧av F b x.n x.f∧Below w.heap.size w F:=by
 obtain⟨t,ht⟩:∃ t,t=newG wide high:=⟨_,rfl⟩;have ok:OkG t:=by rw [ht];exact sQ wide high
 obtain⟨q1,q2,_⟩:=ok.nums;have HN:Hid (∀ w,kC 62 #[.int .i64 wide,.int .i64 high] w fun e F=>∃ b,e=.returned (ay t (some ⟨b,0,none⟩) t.n)∧av F b t.n t.f∧w.heap.size<=b∧Below w.heap.size w F):=fun w=>zo wide high w t ht;have zV:Hid (∀ i,t.f i=mP v t.wide t.high 0 i):=by
  intro i;rw [<-ZB,ht]
  rfl
 have HV:=gH N;have HS:=gH hC.size;have aK:=gH hC;have fq:Hid (∀ (ab o:Int) w,dw w v l->kA 111 #[.agg C,.int .i64 ab,.int .i64 o] w (cval (pQ v ab o))):=fun ab o w N=>XE v l C hC ab o w N _ rfl;have ae:Hid (∀ (o:Int),o<=24->∀ w,dw w v l->kA 112 #[.agg C,.int .i64 o] w (cval (sK v o))):=fun o hc w N=>agP v l C hC o (by omega) w N _ rfl;obtain⟨cu,MZ⟩:∃ cu,cu=CK v:=⟨_,rfl⟩;have ad:Hid (∀ w,dw w v l->kA 113 #[.agg C] w (.tuple #[.int .i64 cu.1,.int .i64 cu.2])):=fun w N=>YU v l C hC w N ak cu MZ;have HX:Hid (x={t with f:=qZ v t.wide t.high,row:=max 0 (min cu.1 (t.high - 1)),col:=max 0 (min cu.2 (t.wide - 1))}):=by
  show x=_;rw [hx,MZ,ht]
  rfl
 obtain⟨IG,II⟩:=cu;simp only at ad HX;have h1:=ok.w1;have h2:=ok.w2;have h3:=ok.h1;have h4:=ok.h2;have HQ:Hid ((t.n:Int)=t.high*t.wide∧t.high*t.wide<=240):=⟨q1,q2⟩;obtain⟨m,ag⟩:∃ n:Nat,t.wide=n:=⟨t.wide.toNat,by omega⟩;obtain⟨B,af⟩:∃ n:Nat,t.high=(n:Int)+1:=⟨(t.high - 1).toNat,by omega⟩;have M:Hid (t.wide=m∧t.high=(B:Int)+1):=⟨ag,af⟩;have aI:Hid (∀ o1 o2:Obj,((w.alloc o1).alloc o2).heap[w.heap.size]?=some o1):=fun o1 o2=>aF (at_new w o1) o2;clear hx MZ ht ok q1 q2 N hC ak ag af;go_enter func93,ntmps93
 go_wp2_with (first
  | (go_at_call 62;refine(HN.out _).mono ?_;rintro e q ⟨b,rfl,hs,ai,aa⟩;have ao:Hid (kY w C t b q.heap.size t.n (mP v t.wide t.high 0) (q.alloc (aB t (some ⟨b,0,none⟩) t.n))):=⟨aF (aG aa (aF (at_new w _) _) (by simp;omega)) _,aF (aG aa (bK w _ _) (by simp)) _,at_new _ _,(hs.congr (fun i _=>zV.out i)).alloc _,Tl.iG (Tl.iG (Tl.aO _ _ _) aa) (aM _ _),(by simp at ai;omega),hs.lt⟩;clear hs ai aa)
  | fail)
 go_loopw [21] (fun i wr=>∃ k:Nat,k<=B∧i=.int .i64 k∧kY w C t b q.heap.size t.n (mP v t.wide t.high (k*m)) wr) (fun i _=>B - (intOf i).toNat)
 case atStart=>exact⟨0,Nat.zero_le _,rfl,by rw [Nat.zero_mul];exact ao.out⟩
 case round=>
  obtain⟨k,hk,rfl,L⟩:=hrel;have HI:=gH L;obtain⟨⟨z,T,J,U,V,X,Y,Z,g8⟩,g9⟩:=nine L.g;clear L;by_cases aN:k < B
  ·have aH:(k:Int) < t.high - 1:=(by have:=M.out.2;omega);go_wp2_with fail;go_loopw [26] (fun i ac=>∃ c:Nat,c<=m∧i=.int .i64 c∧kY w C t b q.heap.size t.n (mP v t.wide t.high (k*m+c)) ac) (fun i _=>m - (intOf i).toNat)
   case atStart=>exact⟨0,Nat.zero_le _,rfl,HI.out⟩
   case round=>
    obtain⟨c,hc,rfl,L⟩:=hrel;rename_i Pm wr;have s:=gH L;clear z T J U V X Y Z g8 g9;obtain⟨⟨z,T,J,U,V,X,Y,Z,g8⟩,g9⟩:=nine L.g;clear L;by_cases aw:c < m
    ·have S:(c:Int) < t.wide:=(by have:=M.out.1;omega);obtain⟨I,hI⟩:∃ I:Nat,I=k*m+c:=⟨_,rfl⟩;have D:(I:Int)=k*t.wide+c:=(by rw [hI,M.out.1];push_cast;rfl);have au:(I:Int) < t.n:=by
      have:=p8 (r:=(k:Int)) (h:=t.high) (w:=t.wide) (by omega) (by omega) (by omega);have:=HQ.out.1;omega
     obtain⟨p,E⟩:∃ p,p=(k:Int)*t.wide:=⟨_,rfl⟩;have aD:0<=p:=(by rw [E];exact Int.mul_nonneg (by omega) (by omega));have aC:(t.n:Int)<=240:=(by have:=HQ.out;omega);have aE:IntKind.i64.wrap ((k:Int)*t.wide)=p:=(by rw [<-E,IntKind.wrap_i64];omega);have al:IntKind.i64.wrap (p+c)=(I:Int):=(by rw [D, <-E,IntKind.wrap_i64];omega);obtain⟨y,hy⟩:∃ y,y=pQ v k c:=⟨_,rfl⟩;have Lg:Hid (∀ w,dw w v l->kA 111 #[.agg C,.int .i64 k,.int .i64 c] w (cval y)):=fun w N=>(by rw [hy];exact fq.out k c w N);have HY:Hid (y=qZ v t.wide t.high I):=by
      show y=_;rw [Qm v S D,if_neg (by omega),hy]
     have A:Hid (I=k*m+c∧I < t.n):=⟨hI,by omega⟩;have n1:=s.out.n1;have n2:=s.out.n2;have am:¬ b=q.heap.size:=(by omega);have an:¬ q.heap.size=b:=(by omega);clear hI D E hy fq;go_wp2_with fail;refine bg (fun F=>F.heap[w.heap.size]?=some (bf C)∧F.cell? ⟨q.heap.size,0,none⟩=some (.int .i64 t.wide)∧F.cell? ⟨q.heap.size,2,none⟩=some (.slice (some ⟨b,0,none⟩) t.n t.n)) ⟨s.out.box,z,J⟩ (fun d=>?_);refine wpAnyH_take (i:=0) (v:=?_) rfl (by kernel_rfl) (by kernel_rfl) (by kernel_rfl) (fun _ _ _ h=>h) (Or.inl ⟨by rfl,?_⟩) (by assumption) ?_;rotate_left
     ·((intro j a;(try dsimp only at a);go_simp) <;>with_reducible rfl)
     try simp only [Act.put,List.setIfInBounds_toArray,List.set_cons_zero,List.set_cons_succ,List.getElem_toArray,List.getElem_cons_zero]
     refine wpAnyH_take (i:=1) (v:=?_) rfl (by kernel_rfl) (by kernel_rfl) (by kernel_rfl) (fun _ _ _ h=>h) (Or.inl ⟨by rfl,?_⟩) (by assumption) ?_;rotate_left
     ·((intro j a;(try dsimp only at a);go_simp) <;>with_reducible rfl)
     try simp only [Act.put,List.setIfInBounds_toArray,List.set_cons_zero,List.set_cons_succ,List.getElem_toArray,List.getElem_cons_zero,List.getElem_cons_succ]
     refine wpAnyH_take (i:=2) (v:=?_) rfl (by kernel_rfl) (by kernel_rfl) (by kernel_rfl) (fun _ _ _ h=>h) (Or.inl ⟨by rfl,?_⟩) (by assumption) ?_;rotate_left
     ·((intro j a;(try dsimp only at a);go_simp) <;>with_reducible rfl)
     try simp only [Act.put,List.setIfInBounds_toArray,List.set_cons_zero,List.set_cons_succ,List.getElem_toArray,List.getElem_cons_zero,List.getElem_cons_succ]
     refine wpAnyH_take (i:=3) (v:=?_) rfl (by kernel_rfl) (by kernel_rfl) (by kernel_rfl) (fun _ _ _ h=>h) (Or.inl ⟨by rfl,?_⟩) (by assumption) ?_;rotate_left
     ·((intro j a;(try dsimp only at a);go_simp) <;>with_reducible rfl)
     try simp only [Act.put,List.setIfInBounds_toArray,List.set_cons_zero,List.set_cons_succ,List.getElem_toArray,List.getElem_cons_zero,List.getElem_cons_succ]
     refine wpAnyH_take (i:=4) (v:=?_) rfl (by kernel_rfl) (by kernel_rfl) (by kernel_rfl) (fun _ _ _ h=>h) (Or.inl ⟨by rfl,?_⟩) (by assumption) ?_;rotate_left
     ·((intro j a;(try dsimp only at a);go_simp) <;>with_reducible rfl)
     try simp only [Act.put,List.setIfInBounds_toArray,List.set_cons_zero,List.set_cons_succ,List.getElem_toArray,List.getElem_cons_zero,List.getElem_cons_succ]
     refine wpAnyH_take (i:=5) (v:=?_) rfl (by kernel_rfl) (by kernel_rfl) (by kernel_rfl) (fun _ _ _ h=>h) (Or.inl ⟨by rfl,?_⟩) (by assumption) ?_;rotate_left
     ·((intro j a;(try dsimp only at a);go_simp) <;>with_reducible rfl)
     try simp only [Act.put,List.setIfInBounds_toArray,List.set_cons_zero,List.set_cons_succ,List.getElem_toArray,List.getElem_cons_zero,List.getElem_cons_succ]
     refine wpAnyH_take (i:=6) (v:=?_) rfl (by kernel_rfl) (by kernel_rfl) (by kernel_rfl) (fun _ _ _ h=>h) (Or.inl ⟨by rfl,?_⟩) (by assumption) ?_;rotate_left
     ·((intro j a;(try dsimp only at a);go_simp) <;>with_reducible rfl)
     try simp only [Act.put,List.setIfInBounds_toArray,List.set_cons_zero,List.set_cons_succ,List.getElem_toArray,List.getElem_cons_zero,List.getElem_cons_succ]
     refine wpAnyH_take (i:=7) (v:=?_) rfl (by kernel_rfl) (by kernel_rfl) (by kernel_rfl) (fun _ _ _ h=>h) (Or.inl ⟨by rfl,?_⟩) (by assumption) ?_;rotate_left
     ·((intro j a;(try dsimp only at a);go_simp) <;>with_reducible rfl)
     try simp only [Act.put,List.setIfInBounds_toArray,List.set_cons_zero,List.set_cons_succ,List.getElem_toArray,List.getElem_cons_zero,List.getElem_cons_succ]
     refine wpAnyH_take (i:=8) (v:=.agg C) rfl (by kernel_rfl) (by kernel_rfl) (by kernel_rfl) (fun _ _ _ h=>h) (Ki (by rfl) _ rfl w.heap.size rfl C HS.out (fun j h=>h.1)) (by assumption) ?_
     try simp only [Act.put,List.setIfInBounds_toArray,List.set_cons_zero,List.set_cons_succ,List.getElem_toArray,List.getElem_cons_zero,List.getElem_cons_succ]
     refine wpAnyH_take (i:=9) (v:=?_) rfl (by kernel_rfl) (by kernel_rfl) (by kernel_rfl) (fun _ _ _ h=>h) (Or.inl ⟨by rfl,?_⟩) (by assumption) ?_;rotate_left
     ·((intro j a;(try dsimp only at a);go_simp) <;>with_reducible rfl)
     try simp only [Act.put,List.setIfInBounds_toArray,List.set_cons_zero,List.set_cons_succ,List.getElem_toArray,List.getElem_cons_zero,List.getElem_cons_succ]
     refine wpAnyH_take (i:=10) (v:=?_) rfl (by kernel_rfl) (by kernel_rfl) (by kernel_rfl) (fun _ _ _ h=>h) (Or.inl ⟨by rfl,?_⟩) (by assumption) ?_;rotate_left
     ·((intro j a;(try dsimp only at a);go_simp) <;>with_reducible rfl)
     try simp only [Act.put,List.setIfInBounds_toArray,List.set_cons_zero,List.set_cons_succ,List.getElem_toArray,List.getElem_cons_zero,List.getElem_cons_succ]
     refine rA 11 fun K O=>?_;go_simp;go_at_call 111;refine(Lg.out _ (HV.out.below s.out.below.drew)).mono ?_;rintro e w3 ⟨rfl,P⟩;have u:=gH (s.out.drew.next P);clear z T J U V X Y Z g8 g9 P;obtain⟨⟨z,T,J,U,V,X,Y,Z,g8⟩,g9⟩:=nine u.out.g;obtain⟨t0,t1,t2,t3⟩:=u.out.bM.cells I A.out.2;have ax:=u.out.bM.free
     try go_simp
     refine O.out _ _ ⟨u.out.box,z,J⟩ (fun d=>?_);clear O K
     try simp only [Act.put,List.setIfInBounds_toArray,List.set_cons_zero,List.set_cons_succ,List.getElem_toArray,List.getElem_cons_zero,List.getElem_cons_succ]
     refine wpAnyH_take (i:=12) (v:=?_) rfl (by kernel_rfl) (by kernel_rfl) (by kernel_rfl) (fun _ _ _ h=>h) (Or.inl ⟨by rfl,?_⟩) (by assumption) ?_;rotate_left
     ·((intro j a;(try dsimp only at a);go_simp) <;>with_reducible rfl)
     try simp only [Act.put,List.setIfInBounds_toArray,List.set_cons_zero,List.set_cons_succ,List.getElem_toArray,List.getElem_cons_zero,List.getElem_cons_succ]
     refine rA 13 fun K O=>?_;go_simp;refine O.out _ _ ⟨(u.out.put I y A.out.2).box,(nine (u.out.put I y A.out.2).g).1.1,(nine (u.out.put I y A.out.2).g).1.2.2.1⟩ (fun d=>?_);clear O K
     try simp only [Act.put,List.setIfInBounds_toArray,List.set_cons_zero,List.set_cons_succ,List.getElem_toArray,List.getElem_cons_zero,List.getElem_cons_succ]
     refine dn ?_;have nR:Hid (kY w C t b q.heap.size t.n (mP v t.wide t.high (k*m+(c+1))) ((((w3.setCell ⟨b,I*4,none⟩ (.int .i64 y.ch)).setCell ⟨b,I*4+1,none⟩ (.int .i64 y.aA)).setCell ⟨b,I*4+2,none⟩ (.int .i64 y.aJ)).setCell ⟨b,I*4+3,none⟩ (.bool y.bold))):=by
      have E:=u.out.put I y A.out.2;rw [HY.out, <-A.out.1,QN,A.out.1] at E;rw [HY.out,A.out.1];exact E
     go_wp2;go_roundw
     case rel=>exact⟨c+1,by omega,by go_num,nR.out⟩
     case measure=>simp [intOf];omega
    ·have az:t.wide<=(c:Int):=(by have:=M.out.1;omega);have HE:Hid (k*m+c=(k+1)*m):=(by show _=_;rw [Nat.add_mul];omega);go_wp2_with fail;go_roundw
     case rel=>exact⟨k+1,by omega,by go_num,by rw [<-HE.out];exact s.out⟩
     case measure=>simp [intOf];omega
  ·have az:t.high - 1<=(k:Int):=(by have:=M.out.2;omega);have ap:Hid (k=B):=(by omega:k=B);go_wp2_with fail;go_loopw [46] (fun i ac=>∃ c:Nat,c<=m∧i=.int .i64 c∧kY w C t b q.heap.size t.n (mP v t.wide t.high (B*m+c)) ac) (fun i _=>m - (intOf i).toNat)
   case atStart=>exact⟨0,Nat.zero_le _,rfl,by rw [<-ap.out];exact HI.out⟩
   case round=>
    obtain⟨c,hc,rfl,L⟩:=hrel;rename_i Pm wr;have s:=gH L;clear z T J U V X Y Z g8 g9;obtain⟨⟨z,T,J,U,V,X,Y,Z,g8⟩,g9⟩:=nine L.g;clear L;by_cases aw:c < m
    ·have S:(c:Int) < t.wide:=(by have:=M.out.1;omega);obtain⟨I,hI⟩:∃ I:Nat,I=B*m+c:=⟨_,rfl⟩;have D:(I:Int)=(B:Int)*t.wide+c:=(by rw [hI,M.out.1];push_cast;rfl);have au:(I:Int) < t.n:=by
      have:=p8 (r:=(B:Int)) (h:=t.high) (w:=t.wide) (by omega) (by have:=M.out.2;omega) (by omega);have:=HQ.out.1;omega
     obtain⟨p,E⟩:∃ p,p=(B:Int)*t.wide:=⟨_,rfl⟩;have aD:0<=p:=(by rw [E];exact Int.mul_nonneg (by omega) (by omega));have aC:(t.n:Int)<=240:=(by have:=HQ.out;omega);have aE:IntKind.i64.wrap ((t.high - 1)*t.wide)=p:=(by rw [show t.high - 1=(B:Int) by have:=M.out.2;omega, <-E,IntKind.wrap_i64];omega);have al:IntKind.i64.wrap (p+c)=(I:Int):=(by rw [D, <-E,IntKind.wrap_i64];omega);obtain⟨y,hy⟩:∃ y,y=sK v c:=⟨_,rfl⟩;have Lg:Hid (∀ w,dw w v l->kA 112 #[.agg C,.int .i64 c] w (cval y)):=fun w N=>(by rw [hy];exact ae.out c (by omega) w N);have HY:Hid (y=qZ v t.wide t.high I):=by
      show y=_;rw [Qm v S D,if_pos (by have:=M.out.2;omega),hy]
     have A:Hid (I=B*m+c∧I < t.n):=⟨hI,by omega⟩;have n1:=s.out.n1;have n2:=s.out.n2;have am:¬ b=q.heap.size:=(by omega);have an:¬ q.heap.size=b:=(by omega);clear hI D E hy;go_wp2_with fail;refine bg (fun F=>F.heap[w.heap.size]?=some (bf C)∧F.cell? ⟨q.heap.size,0,none⟩=some (.int .i64 t.wide)∧F.cell? ⟨q.heap.size,2,none⟩=some (.slice (some ⟨b,0,none⟩) t.n t.n)) ⟨s.out.box,z,J⟩ (fun d=>?_);refine wpAnyH_take (i:=0) (v:=?_) rfl (by kernel_rfl) (by kernel_rfl) (by kernel_rfl) (fun _ _ _ h=>h) (Or.inl ⟨by rfl,?_⟩) (by assumption) ?_;rotate_left
     ·((intro j a;(try dsimp only at a);go_simp) <;>with_reducible rfl)
     try simp only [Act.put,List.setIfInBounds_toArray,List.set_cons_zero,List.set_cons_succ,List.getElem_toArray,List.getElem_cons_zero]
     refine wpAnyH_take (i:=1) (v:=?_) rfl (by kernel_rfl) (by kernel_rfl) (by kernel_rfl) (fun _ _ _ h=>h) (Or.inl ⟨by rfl,?_⟩) (by assumption) ?_;rotate_left
     ·((intro j a;(try dsimp only at a);go_simp) <;>with_reducible rfl)
     try simp only [Act.put,List.setIfInBounds_toArray,List.set_cons_zero,List.set_cons_succ,List.getElem_toArray,List.getElem_cons_zero,List.getElem_cons_succ]
     refine wpAnyH_take (i:=2) (v:=?_) rfl (by kernel_rfl) (by kernel_rfl) (by kernel_rfl) (fun _ _ _ h=>h) (Or.inl ⟨by rfl,?_⟩) (by assumption) ?_;rotate_left
     ·((intro j a;(try dsimp only at a);go_simp) <;>with_reducible rfl)
     try simp only [Act.put,List.setIfInBounds_toArray,List.set_cons_zero,List.set_cons_succ,List.getElem_toArray,List.getElem_cons_zero,List.getElem_cons_succ]
     refine wpAnyH_take (i:=3) (v:=?_) rfl (by kernel_rfl) (by kernel_rfl) (by kernel_rfl) (fun _ _ _ h=>h) (Or.inl ⟨by rfl,?_⟩) (by assumption) ?_;rotate_left
     ·((intro j a;(try dsimp only at a);go_simp) <;>with_reducible rfl)
     try simp only [Act.put,List.setIfInBounds_toArray,List.set_cons_zero,List.set_cons_succ,List.getElem_toArray,List.getElem_cons_zero,List.getElem_cons_succ]
     refine wpAnyH_take (i:=4) (v:=?_) rfl (by kernel_rfl) (by kernel_rfl) (by kernel_rfl) (fun _ _ _ h=>h) (Or.inl ⟨by rfl,?_⟩) (by assumption) ?_;rotate_left
     ·((intro j a;(try dsimp only at a);go_simp) <;>with_reducible rfl)
     try simp only [Act.put,List.setIfInBounds_toArray,List.set_cons_zero,List.set_cons_succ,List.getElem_toArray,List.getElem_cons_zero,List.getElem_cons_succ]
     refine wpAnyH_take (i:=5) (v:=?_) rfl (by kernel_rfl) (by kernel_rfl) (by kernel_rfl) (fun _ _ _ h=>h) (Or.inl ⟨by rfl,?_⟩) (by assumption) ?_;rotate_left
     ·((intro j a;(try dsimp only at a);go_simp) <;>with_reducible rfl)
     try simp only [Act.put,List.setIfInBounds_toArray,List.set_cons_zero,List.set_cons_succ,List.getElem_toArray,List.getElem_cons_zero,List.getElem_cons_succ]
     refine wpAnyH_take (i:=6) (v:=?_) rfl (by kernel_rfl) (by kernel_rfl) (by kernel_rfl) (fun _ _ _ h=>h) (Or.inl ⟨by rfl,?_⟩) (by assumption) ?_;rotate_left
     ·((intro j a;(try dsimp only at a);go_simp) <;>with_reducible rfl)
     try simp only [Act.put,List.setIfInBounds_toArray,List.set_cons_zero,List.set_cons_succ,List.getElem_toArray,List.getElem_cons_zero,List.getElem_cons_succ]
     refine wpAnyH_take (i:=7) (v:=?_) rfl (by kernel_rfl) (by kernel_rfl) (by kernel_rfl) (fun _ _ _ h=>h) (Or.inl ⟨by rfl,?_⟩) (by assumption) ?_;rotate_left
     ·((intro j a;(try dsimp only at a);go_simp) <;>with_reducible rfl)
     try simp only [Act.put,List.setIfInBounds_toArray,List.set_cons_zero,List.set_cons_succ,List.getElem_toArray,List.getElem_cons_zero,List.getElem_cons_succ]
     refine wpAnyH_take (i:=8) (v:=.agg C) rfl (by kernel_rfl) (by kernel_rfl) (by kernel_rfl) (fun _ _ _ h=>h) (Ki (by rfl) _ rfl w.heap.size rfl C HS.out (fun j h=>h.1)) (by assumption) ?_
     try simp only [Act.put,List.setIfInBounds_toArray,List.set_cons_zero,List.set_cons_succ,List.getElem_toArray,List.getElem_cons_zero,List.getElem_cons_succ]
     refine wpAnyH_take (i:=9) (v:=?_) rfl (by kernel_rfl) (by kernel_rfl) (by kernel_rfl) (fun _ _ _ h=>h) (Or.inl ⟨by rfl,?_⟩) (by assumption) ?_;rotate_left
     ·((intro j a;(try dsimp only at a);go_simp) <;>with_reducible rfl)
     try simp only [Act.put,List.setIfInBounds_toArray,List.set_cons_zero,List.set_cons_succ,List.getElem_toArray,List.getElem_cons_zero,List.getElem_cons_succ]
     refine rA 10 fun K O=>?_;go_simp;go_at_call 112;refine(Lg.out _ (HV.out.below s.out.below.drew)).mono ?_;rintro e w3 ⟨rfl,P⟩;have u:=gH (s.out.drew.next P);clear z T J U V X Y Z g8 g9 P;obtain⟨⟨z,T,J,U,V,X,Y,Z,g8⟩,g9⟩:=nine u.out.g;obtain⟨t0,t1,t2,t3⟩:=u.out.bM.cells I A.out.2;have ax:=u.out.bM.free
     try go_simp
     refine O.out _ _ ⟨u.out.box,z,J⟩ (fun d=>?_);clear O K
     try simp only [Act.put,List.setIfInBounds_toArray,List.set_cons_zero,List.set_cons_succ,List.getElem_toArray,List.getElem_cons_zero,List.getElem_cons_succ]
     refine wpAnyH_take (i:=11) (v:=?_) rfl (by kernel_rfl) (by kernel_rfl) (by kernel_rfl) (fun _ _ _ h=>h) (Or.inl ⟨by rfl,?_⟩) (by assumption) ?_;rotate_left
     ·((intro j a;(try dsimp only at a);go_simp) <;>with_reducible rfl)
     try simp only [Act.put,List.setIfInBounds_toArray,List.set_cons_zero,List.set_cons_succ,List.getElem_toArray,List.getElem_cons_zero,List.getElem_cons_succ]
     refine rA 12 fun K O=>?_;go_simp;refine O.out _ _ ⟨(u.out.put I y A.out.2).box,(nine (u.out.put I y A.out.2).g).1.1,(nine (u.out.put I y A.out.2).g).1.2.2.1⟩ (fun d=>?_);clear O K
     try simp only [Act.put,List.setIfInBounds_toArray,List.set_cons_zero,List.set_cons_succ,List.getElem_toArray,List.getElem_cons_zero,List.getElem_cons_succ]
     refine dn ?_;have nR:Hid (kY w C t b q.heap.size t.n (mP v t.wide t.high (B*m+(c+1))) ((((w3.setCell ⟨b,I*4,none⟩ (.int .i64 y.ch)).setCell ⟨b,I*4+1,none⟩ (.int .i64 y.aA)).setCell ⟨b,I*4+2,none⟩ (.int .i64 y.aJ)).setCell ⟨b,I*4+3,none⟩ (.bool y.bold))):=by
      have E:=u.out.put I y A.out.2;rw [HY.out, <-A.out.1,QN,A.out.1] at E;rw [HY.out,A.out.1];exact E
     go_wp2;go_roundw
     case rel=>exact⟨c+1,by omega,by go_num,nR.out⟩
     case measure=>simp [intOf];omega
    ·have aL:t.wide<=(c:Int):=(by have:=M.out.1;omega);have HE:Hid (B*m+c=t.n):=by
      show _=_;have h9:(t.n:Int)=((B*m+m:Nat):Int):=(by rw [HQ.out.1,M.out.1,M.out.2];push_cast;rw [Int.add_mul];omega);omega
     have vB:Hid (IntKind.i64.wrap (t.wide - 1)=t.wide - 1):=(by show _=_;rw [IntKind.wrap_i64];omega);obtain⟨R,hR⟩:∃ R,R=max 0 (min IG (t.high - 1)):=⟨_,rfl⟩;obtain⟨Q,hQ⟩:∃ Q,Q=max 0 (min II (t.wide - 1)):=⟨_,rfl⟩;have aq:Hid (∀ w,kD 114 #[.int .i64 IG,.int .i64 0,.int .i64 (t.high - 1)] w (.int .i64 R)):=fun w=>(by rw [hR];exact yj IG 0 (t.high - 1) w);have ar:Hid (∀ w,kD 114 #[.int .i64 II,.int .i64 0,.int .i64 (t.wide - 1)] w (.int .i64 Q)):=fun w=>(by rw [hQ];exact yj II 0 (t.wide - 1) w);have Ih:Hid (x={t with f:=qZ v t.wide t.high,row:=R,col:=Q}):=(by show x=_;rw [HX.out,hR,hQ]);have n1:=s.out.n1;have n2:=s.out.n2;clear hR hQ HX fq ae
     go_wp2_with (first
      | (refine yt C HS.out rfl _ rfl w.heap.size rfl s.out.box ?_)
      | (go_at_call 113;refine(ad.out _ (HV.out.below s.out.below)).mono ?_;rintro e w5 ⟨rfl,ah⟩;have Ec:=gH (s.out.next ah);clear z T J U V X Y Z g8 g9 ah;obtain⟨⟨z,T,J,U,V,X,Y,Z,g8⟩,g9⟩:=nine Ec.out.g;obtain⟨⟨u0,u1,u2,u3,u4,u5,u6,u7,u8⟩,u9⟩:=nine Ec.out.res)
      | fail)
     have am:¬ q.heap.size=w.heap.size+1:=(by omega);have an:¬ w.heap.size+1=q.heap.size:=(by omega);go_region_held3 (fun F=>F.cell? ⟨q.heap.size,0,none⟩=some (.int .i64 t.wide)) (first | exact z | exact qA z (by decide) | exact qA (qA z (by decide)) (by decide) | go_keep)
      (first
      | (go_at_call_of 114 (Value.int IntKind.i64 IG);refine(aq.out _).mono ?_;rintro e w6 ⟨rfl,rfl⟩)
      | (go_at_call_of 114 (Value.int IntKind.i64 II);rw [vB.out];refine(ar.out _).mono ?_;rintro e w6 ⟨rfl,rfl⟩))
     all_goals
      go_wp2;refine bodyPost_ret (v:=ay {t with f:=qZ v t.wide t.high,row:=R,col:=Q} (some ⟨b,0,none⟩) t.n) (by simp [results,results93,go_sem, *]) rfl ?_;rw [Ih.out];refine⟨b,rfl,?_,?_⟩
      ·have hs:av w5 b t.n (qZ v t.wide t.high):=Ec.out.bM.congr fun i L=>by unfold mP;rw [HE.out,if_pos L]
       first | exact av.drew (iC ((hs.set (by simp;omega) _).set (by simp;omega) _) (by omega) _ _ _ _ _ _ _ _ _) | exact(iC ((hs.set (by simp;omega) _).set (by simp;omega) _) (by omega) _ _ _ _ _ _ _ _ _)
      ·first | exact Below.drew (iZ ((Ec.out.below.setCell (by simp;omega) _).setCell (by simp;omega) _) (by omega) _ _ _ _ _ _ _ _ _) | exact iZ ((Ec.out.below.setCell (by simp;omega) _).setCell (by simp;omega) _) (by omega) _ _ _ _ _ _ _ _ _
end Go.Proofs.YtkcdcamophkdlaaGreatDoor.Pt
