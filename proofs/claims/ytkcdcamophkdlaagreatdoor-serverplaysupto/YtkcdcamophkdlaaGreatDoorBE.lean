import Derived.Test.YtkcdcamophkdlaaGreatDoorAO
import Derived.Test.YtkcdcamophkdlaaGreatDoorAY
set_option maxHeartbeats 2000000
open Go.Proofs.Tryz
namespace Go.Proofs.YtkcdcamophkdlaaGreatDoor.Pt
open Go.RowKit
open Go.Proofs.YtkcdcamophkdlaaGreatDoor.Tl (Rc dx gW cZ gJ bL cK dG bn ak aI bV tval aT rval fK pz ng cv)
theorem yj (n a b:Int) (w:World):kD 114 #[.int .i64 n,.int .i64 a,.int .i64 b] w (.int .i64 (max a (min n b))):=by
 go_enter func114,ntmps114;go_wp2
 all_goals (go_ret;exact⟨uR (by omega),rfl⟩)
theorem Y6 (n:Int) (w:World):kD 139 #[.int .i64 n] w (.int .i64 (48+max 0 (min n 9))):=by
 obtain⟨m,a⟩:∃ m,m=max 0 (min n 9):=⟨_,rfl⟩;have b:Hid (∀ w,kD 114 #[.int .i64 n,.int .i64 0,.int .i64 9] w (.int .i64 m)):=fun w=>by rw [a];exact yj n 0 9 w
 have:0<=m:=by omega
 have:m<=9:=by omega
 rw [<-a];clear a;go_enter func139,ntmps139;go_wp2_with (go_at_call 114;refine(b.out _).mono ?_;rintro _ _ ⟨rfl,rfl⟩);go_ret;exact⟨rfl,rfl⟩
theorem abq (r:Rc) (a col:Int) (w:World) (b:0<=r.row∧r.row<=24) (c:0<=r.col∧r.col<=24) (d:0<=r.high∧r.high<=24) (e:0<=r.wide∧r.wide<=24):
  kA 136 #[rval r,.int .i64 a,.int .i64 col] w (.bool (xO r a col)):=by
 obtain⟨_,_,_,_⟩:=r;simp only at b c d e;go_enter func136,ntmps136;go_wp2
 all_goals (go_ret;refine⟨bD ?_,Tl.aM _ _⟩;rw [Bool.eq_iff_iff];simp only [xO,decide_eq_true_eq,Bool.false_eq_true,false_iff];omega)
theorem TH (v:Vw) (l:Lay) (C:Array Value) (d:VC v l C) (p:Int) (w:World) (c:dw w v l) (r:Rc) (e:r=v.place p):
  kA 135 #[.agg C,.int .i64 p] w (rval r):=by
 have b:r=gW (ak l.its) v.wide v.high p:=by rw [e,Vw.place,c.aj]
 have i:Hid (∀ w,aI w l.co l.its->kA 30 #[tval l.co l.its.length l.cap,.int .i64 v.wide,.int .i64 v.high,.int .i64 p] w (rval r)):=fun w h=>Tl.U7 l.its l.co l.cap v.wide v.high p w h c.m1 c.m2 r b;have g:=gH c;obtain⟨_,_,_,_⟩:=d.cells;clear e b c d;go_enter func135,ntmps135;go_wp2_with (go_at_call 30;refine(i.out _ (g.out.rd.below (Tl.aO _ _ _))).mono ?_;rintro _ j ⟨rfl,a⟩;have f:Hid (Below w.heap.size w j):=Tl.iG (Tl.aO _ _ _) a;obtain⟨⟨_,_,_,_⟩,_⟩:=Tl.four (aG a (bK w _ _) (by simp));clear a);refine bodyPost_ret (v:=rval r) (by simp [results,results135,go_sem, *]) rfl ?_;exact⟨rfl,Tl.qI f.out (by omega) _ _ _ _⟩
variable (v:Vw) {col:Int}
theorem af9 (k:Nat):0<=(v.share k).1∧(v.share k).1<=24∧0<=(v.share k).2∧(v.share k).2<=24:=by
 unfold Vw.share;by_cases h:0<=v.wide∧v.wide < 25
 ·rcases Tl.OW v.wide v.aj.length k h.1 h.2 with e | e
  ·rw [e];decide
  ·omega
 ·rw [OV h];decide
theorem abY {k:Nat} (c:k+1 < v.aj.length) (a:0 < (v.share k).2) (b:col=(v.share k).1+(v.share k).2):A8 v col=true:=
 List.any_eq_true.2 ⟨k,List.mem_range.2 (by omega),decide_eq_true ⟨a,b⟩⟩
theorem abX (b:∀ k:Nat,k+1 < v.aj.length->¬ (0 < (v.share k).2∧col=(v.share k).1+(v.share k).2)):A8 v col=false:=by
 refine List.any_eq_false.2 fun k a e=>b k ?_ (of_decide_eq_true e);have:=List.mem_range.1 a;omega
theorem Xi (l:Lay) (C:Array Value) (u:VC v l C) (col:Int) (w:World) (E:dw w v l) (r:Bool) (L:r=A8 v col):
  kA 138 #[.agg C,.int .i64 col] w (.bool r):=by
 have d:v.aj.length=l.its.length:=by rw [E.aj];simp
 have W:=E.m1;have I:Hid (∀ (k:Nat) w,kA 61 #[.int .i64 v.wide,.int .i64 l.its.length,.int .i64 k] w (.tuple #[.int .i64 (v.share k).1,.int .i64 (v.share k).2])):=fun k w=>Tl.OU v.wide l.its.length k w _ (by unfold Vw.share;rw [d]);have M:=gH u;have G:=gH d;have H:=gH L;obtain⟨P,Q,R,S⟩:=u.cells;clear L E u d;go_enter func138,ntmps138;go_wp2;clear P Q R S;go_loopw [15] (fun i wr=>∃ k:Nat,(k=0∨k+1<=l.its.length)∧i=.int .i64 k∧wr.heap[w.heap.size]?=some (bf C)∧Below w.heap.size w wr∧∀ j:Nat,j < k->¬ (0 < (v.share j).2∧col=(v.share j).1+(v.share j).2)) (fun i _=>l.its.length - (intOf i).toNat)
 case atStart=>exact⟨0,.inl rfl,rfl,at_new _ _,aM _ _,fun j p=>by omega⟩
 case round=>
  obtain⟨k,_,rfl,z,g,n⟩:=hrel;have f:Hid (wr.heap[w.heap.size]?=some (bf C)∧Below w.heap.size w wr):=⟨z,g⟩;have q:=gH n;obtain⟨⟨_,_,_,_⟩,_⟩:=CF M.out z;clear z g n;by_cases A:k+1 < l.its.length
  ·have K:(k:Int) < (l.its.length:Int) - 1:=(by omega);obtain⟨s,D⟩:∃ s,s=v.share k:=⟨_,rfl⟩;have B:=af9 v k;have t:=I.out k;have o:=gH D;rw [<-D] at t B;obtain⟨x,y⟩:=s;have F:=gH t;simp only at B;obtain⟨_,_,_,_⟩:=B;clear t D I;by_cases T:0 < y
   ·by_cases J:col=x+y
    ·have O:Hid (r=true):=by
      show r=true;rw [H.out];exact abY v (by rw [G.out];exact A) (by rw [<-o.out];exact T) (by rw [<-o.out];exact J)
     go_wp2_with (go_at_call 61;refine(F.out _).mono ?_;rintro e c ⟨rfl,a⟩;have b:=gH (Tl.iG f.out.2 a);clear a);go_ret;rw [O.out];exact⟨rfl,b.out⟩
    ·have m:Hid (∀ c,Below wr.heap.size wr c->c.heap[w.heap.size]?=some (bf C)∧Below w.heap.size w c):=fun c a=>⟨aG a f.out.1 (Tl.dI f.out.1),Tl.iG f.out.2 a⟩;go_wp2_with (go_at_call 61;refine(F.out _).mono ?_;rintro e c ⟨rfl,a⟩;have b:=gH (m.out c a);clear a);go_roundw
     case rel=>exact⟨k+1,by omega,by go_num,b.out.1,b.out.2,fun j p=>by
      by_cases e:j=k
      ·subst e;rw [<-o.out];exact fun h=>J h.2
      ·exact q.out j (by omega)⟩
     case measure=>simp [intOf];omega
   ·have U:y<=0:=(by omega);have m:Hid (∀ c,Below wr.heap.size wr c->c.heap[w.heap.size]?=some (bf C)∧Below w.heap.size w c):=fun c a=>⟨aG a f.out.1 (Tl.dI f.out.1),Tl.iG f.out.2 a⟩;go_wp2_with (go_at_call 61;refine(F.out _).mono ?_;rintro e c ⟨rfl,a⟩;have b:=gH (m.out c a);clear a);go_roundw
    case rel=>exact⟨k+1,by omega,by go_num,b.out.1,b.out.2,fun j p=>by
     by_cases e:j=k
     ·subst e;rw [<-o.out];intro h;have:=h.1;simp only at this;omega
     ·exact q.out j (by omega)⟩
    case measure=>simp [intOf];omega
  ·have V:(l.its.length:Int) - 1<=(k:Int):=(by omega);have N:Hid (r=false):=by
    show r=false;rw [H.out];exact abX v fun j p=>q.out j (by rw [G.out] at p;omega)
   go_wp2;go_ret;rw [N.out];exact⟨rfl,f.out.2⟩
@[reducible] def Jp (c:aH):Obj:=.cells (yR c) 65
structure j5 (w:World) (C:Array Value) (wr:World):Prop where
 box:wr.heap[w.heap.size]?=some (bf C)
 res:wr.heap[w.heap.size+1]?=some (Jp aX)
 below:Below w.heap.size w wr
theorem j5.next {w:World} {C:Array Value} {wr b:World} (h:j5 w C wr) (a:Below wr.heap.size wr b):j5 w C b:=
 ⟨aG a h.box (Tl.dI h.box),aG a h.res (Tl.dI h.res),Tl.iG h.below a⟩
theorem Qn (w:World) (C:Array Value):j5 w C ((w.alloc (bf C)).alloc (Jp aX)):=⟨aF (at_new w _) _,bK w _ _,Tl.aO _ _ _⟩
theorem XG (v:Vw) (l:Lay) (C:Array Value) (e:VC v l C) (a col:Int) (w:World) (h:¬ zH v a col):
  kA 111 #[.agg C,.int .i64 a,.int .i64 col] w (cval (sign 46)):=by
 obtain⟨_,_,_,_⟩:=e.cells;have i:Hid (∀ f g:Obj,∀ u0 u1 u2 u3,Below w.heap.size w ((((((w.alloc f).alloc g).setCell ⟨w.heap.size+1,0,none⟩ u0).setCell ⟨w.heap.size+1,1,none⟩ u1).setCell ⟨w.heap.size+1,2,none⟩ u2).setCell ⟨w.heap.size+1,3,none⟩ u3)):=fun f g u0 u1 u2 u3=>Tl.qI (Tl.aO _ _ _) (by omega) _ _ _ _;have b:a < 0∨(0<=a∧v.high<=a)∨(0<=a∧a < v.high∧col < 0)∨(0<=a∧a < v.high∧0<=col∧v.wide<=col):=by unfold zH at h;omega
 clear h e;rcases b with h | ⟨c,d⟩ | ⟨c,d,j⟩ | ⟨c,d,j,k⟩
 all_goals
  go_enter func111,ntmps111;go_wp2;refine bodyPost_ret (v:=cval (sign 46)) (by simp [results,results111,go_sem,sign]) rfl ?_
  first | exact⟨rfl,i.out _ _ _ _ _ _⟩ | exact⟨rfl,Tl.aO _ _ _⟩
variable (v:Vw) (l:Lay) (C:Array Value)
theorem XF (P:VC v l C) (a col:Int) (w:World) (y:dw w v l) (h:zH v a col) (r:aH) (hr:r=pQ v a col):
  kA 111 #[.agg C,.int .i64 a,.int .i64 col] w (cval r):=by
 obtain⟨c0,c1,c2,c3⟩:=P.cells;obtain⟨A,hA⟩:∃ A,A=(mR v l).toArray:=⟨_,rfl⟩;have Q:=gH hA;have S:=gH P;have G:=gH y;have T:=gH h;have V:=gH hr;have B:=gH (Qn w C);have O:=gH P.size;obtain⟨h1,h2,h3,h4⟩:=h;obtain⟨M,E⟩:∃ M,M=A8 v col:=⟨_,rfl⟩;have jG:Hid (∀ w,dw w v l->kA 138 #[.agg C,.int .i64 col] w (.bool M)):=fun w y=>Xi v l C S.out col w y M E;have Z:=gH E;clear P y hr hA E;go_enter func111,ntmps111;go_wp2_with (refine Pk v l C S.out rfl _ rfl w.heap.size rfl B.out.box A Q.out ?_);clear c0 c1 c2 c3;go_loopw [31] (fun i wr=>∃ p:Nat,p<=6∧i=.int .i64 p∧j5 w C wr∧∀ q:Nat,q < p->¬ gJ (v.place q) a col) (fun i _=>6 - (intOf i).toNat)
 case atStart=>exact⟨0,by omega,rfl,B.out,fun q hq=>by omega⟩
 case round=>
  obtain⟨p,hp,rfl,hi,K⟩:=hrel;have g:=gH hi;have HN:=gH K;clear hi K B;by_cases o:p < 6
  ·have aa:(p:Int) < 6:=(by omega);obtain⟨x,hx⟩:∃ x,x=v.gs p:=⟨_,rfl⟩;obtain⟨X,I⟩:∃ x,x=l.ga p:=⟨_,rfl⟩;obtain⟨D,z⟩:∃ x,x=l.gc p:=⟨_,rfl⟩;obtain⟨s,u⟩:∃ x,x=v.place p:=⟨_,rfl⟩;have pW:=TJ v p;rw [<-u] at pW;obtain⟨n1,n2,n3,n4,n5,n6,n7,n8⟩:=pW;have j:Hid (x=v.gs p∧X=l.ga p∧D=l.gc p∧s=v.place p):=⟨hx,I,z,u⟩;have HP:Hid (∀ w,dw w v l->kA 135 #[.agg C,.int .i64 p] w (rval s)):=fun w y=>TH v l C S.out p w y s u;obtain⟨L,n⟩:∃ b,b=xO s a col:=⟨_,rfl⟩;have F:Hid (∀ w,kA 136 #[rval s,.int .i64 a,.int .i64 col] w (.bool L)):=fun w=>(by rw [n];exact abq s a col w ⟨n1,n5⟩ ⟨n2,n6⟩ ⟨n3,n7⟩ ⟨n4,n8⟩);have wM:=gH n;have af:=Tl.dI g.out.res;clear hx I z u n;cases L with
   | true=>
    have H:Hid (gJ (v.place p) a col):=by
     show gJ (v.place p) a col;rw [<-j.out.2.2.2];exact(FQ _ _ _).1 wM.out.symm
    have R:Hid (∀ w,dw w v l->kA 137 #[ay x X D,.int .i64 (a - s.row),.int .i64 (col - s.col)] w (cval r)):=fun w y=>by
     rw [V.out,XC v T.out o H.out,j.out.1,j.out.2.1,j.out.2.2.1,j.out.2.2.2];exact WW (v.gs p) (l.ga p) (l.gc p) _ _ w (y.gs p o) (by have:=y.m3 p o;omega)
    have J:s.row<=a∧s.col<=col∧a < 50∧col < 50:=by
     have:=H.out;rw [<-j.out.2.2.2] at this;unfold gJ at this;omega
    obtain⟨J,ac,ad,ae⟩:=J
    go_wp2_with (first
     | (refine J4 v l rfl _ _ rfl A rfl p rfl Q.out o ?_;rw [<-j.out.1, <-j.out.2.1, <-j.out.2.2.1])
     | (refine yt C O.out rfl _ rfl w.heap.size rfl (aF g.out.box _) ?_)
     | (go_at_call 135;refine(HP.out _ (G.out.below (Tl.iG g.out.below (aM _ _)))).mono ?_;rintro e N ⟨rfl,k⟩;have m:Hid (j5 w C N∧N.heap[wr.heap.size]?=some (aB x X D)):=⟨(g.out.next (aM _ _)).next k,aG k (at_new _ _) (by simp)⟩;clear k)
     | (go_at_call 136;refine(F.out _).mono ?_;rintro e Y ⟨rfl,f⟩;have t:Hid (j5 w C Y):=(m.out.1.next (aM _ _)).next f;obtain⟨⟨g0,g1,g2,g3,g4,g5,g6,g7,g8⟩,g9⟩:=nine (aG f (aF m.out.2 _) (by have:=Tl.dI m.out.2;simp;omega));obtain⟨⟨d0,d1,d2,d3⟩,d4⟩:=Tl.four (aG f (at_new N _) (by simp));clear f)
     | (go_at_call 137;refine(R.out _ (G.out.below t.out.below)).mono ?_;rintro e w3 ⟨rfl,d⟩;have c:=gH (t.out.next d);obtain⟨⟨k0,k1,k2,k3⟩,k4⟩:=Tl.four c.out.res;clear d)
     | fail)
    refine bodyPost_ret (v:=cval r) (by simp [results,results111,go_sem, *]) rfl ?_;exact⟨rfl,Tl.qI c.out.below (by omega) _ _ _ _⟩
   | false=>
    have U:Hid (¬ gJ (v.place p) a col):=by
     show ¬ gJ (v.place p) a col;rw [<-j.out.2.2.2];exact aa7 wM.out.symm
    go_wp2_with (first
     | (refine J4 v l rfl _ _ rfl A rfl p rfl Q.out o ?_;rw [<-j.out.1, <-j.out.2.1, <-j.out.2.2.1])
     | (refine yt C O.out rfl _ rfl w.heap.size rfl (aF g.out.box _) ?_)
     | (go_at_call 135;refine(HP.out _ (G.out.below (Tl.iG g.out.below (aM _ _)))).mono ?_;rintro e N ⟨rfl,k⟩;have m:Hid (j5 w C N):=(g.out.next (aM _ _)).next k;clear k)
     | (go_at_call 136;refine(F.out _).mono ?_;rintro e Y ⟨rfl,f⟩;have t:Hid (j5 w C Y):=(m.out.next (aM _ _)).next f;clear f)
     | fail)
    go_roundw
    case rel=>exact⟨p+1,by omega,by go_num,t.out,fun q hq=>by
     by_cases e:q=p
     ·subst e;exact U.out
     ·exact HN.out q (by omega)⟩
    case measure=>simp [intOf];omega
  ·have ab:(6:Int)<=(p:Int):=(by omega);have uZ:Hid (∀ q:Nat,q < 6->¬ gJ (v.place q) a col):=fun q hq=>HN.out q (by omega);cases M with
   | true=>
    have W:Hid (r=sign 124):=by
     show r=sign 124;rw [V.out];unfold pQ;rw [if_pos T.out,Tj v uZ.out, <-Z.out]
     rfl
    go_wp2_with (first
     | (refine yt C O.out rfl _ rfl w.heap.size rfl g.out.box ?_)
     | (go_at_call 138;refine(jG.out _ (G.out.below g.out.below)).mono ?_;rintro e w3 ⟨rfl,d⟩;have c:=gH (g.out.next d);obtain⟨⟨k0,k1,k2,k3⟩,k4⟩:=Tl.four c.out.res;clear d)
     | fail)
    refine bodyPost_ret (v:=cval (sign 124)) (by simp [results,results111,go_sem,sign, *]) rfl ?_;rw [W.out];exact⟨rfl,Tl.qI c.out.below (by omega) _ _ _ _⟩
   | false=>
    have W:Hid (r=sign 45):=by
     show r=sign 45;rw [V.out];unfold pQ;rw [if_pos T.out,Tj v uZ.out, <-Z.out]
     rfl
    go_wp2_with (first
     | (refine yt C O.out rfl _ rfl w.heap.size rfl g.out.box ?_)
     | (go_at_call 138;refine(jG.out _ (G.out.below g.out.below)).mono ?_;rintro e w3 ⟨rfl,d⟩;have c:=gH (g.out.next d);obtain⟨⟨k0,k1,k2,k3⟩,k4⟩:=Tl.four c.out.res;clear d)
     | fail)
    refine bodyPost_ret (v:=cval (sign 45)) (by simp [results,results111,go_sem,sign, *]) rfl ?_;rw [W.out];exact⟨rfl,Tl.qI c.out.below (by omega) _ _ _ _⟩
theorem XE (b:VC v l C) (a col:Int) (w:World) (d:dw w v l) (r:aH) (c:r=pQ v a col):
  kA 111 #[.agg C,.int .i64 a,.int .i64 col] w (cval r):=by
 by_cases h:zH v a col
 ·exact XF v l C b a col w d h r c
 ·rw [c,XD v h];exact XG v l C b a col w h
end Go.Proofs.YtkcdcamophkdlaaGreatDoor.Pt
