import Derived.Test.YtkcdcamophkdlaaGreatDoorBR
import Derived.Deep.CutRange
set_option maxHeartbeats 20000000
set_option maxRecDepth 100000
open Go.Proofs.Tryz
namespace Go.Proofs.YtkcdcamophkdlaaGreatDoor.Ps
open Go.RowKit
def VZ (w:World) (s0:PS) (s:ByteArray) (ao:Option Addr) (cap:Nat) (e:Ending) (w':World):Prop:=
 Below w.heap.size w w'∧
 (fD s0=false->e=.returned (.tuple #[.agg #[.int .i64 s0.place,.slice ao s0.ps.length cap,.string s0.pl,.bool s0.lg],.slice none 0 0,.int .i64 1]))∧
 (fD s0=true->∃ aK cap' tq tc evs,e=.returned (.tuple #[.agg #[.int .i64 (dB s0 s.data.toList).place,.slice aK (dB s0 s.data.toList).ps.length cap',.string (dB s0 s.data.toList).pl,.bool (dB s0 s.data.toList).lg],.slice tq (List.length (α:=Item) evs) tc,.int .i64 0])∧
  Own w.heap.size w' aK cap' (dB s0 s.data.toList).ps∧Told w.heap.size w' tq tc evs∧evs.map (·.1)=bR s0 s.data.toList)
theorem Ma (W:World) (s:ByteArray) (N:Nat) (a:W.heap.size=N):∃ C,(convert 9 106 (.string s)).run prog W=.ok (.slice (some ⟨N,0,none⟩) s.size C) (W.alloc (.cells (bytesRow s C) 5 ((bytesRow s C).size,(bytesRow s C).size+1))).drew:=by
 subst a;exact⟨_,run_bytes_of_string (P:=prog) W 9 106 5 s underlying9 underlying106 underlying5⟩
theorem iJ {B L Y:Nat} {w w':World} {n:Array Value} {m:Nat×Nat} {f i:PS} {s:ByteArray} {k:Nat} {b:Int} {x:UInt8} {a:Option Addr} {c:Nat} {l:Option Addr} {j:Nat} {d e:List Item} {r:PS×Ev}
  (h:s.data.toList.take (k+1)=s.data.toList.take k++[x]) (g:i=dB f (s.data.toList.take k)) (o:b=dA x) (u:d.map (·.1)=bR f (s.data.toList.take k)) (t:bF i b=r)
  (q:GInv B L Y w w' n m r.1 a c l j e) (p:e.map (·.1)=d.map (·.1)++one r.2):
  GInv B L Y w w' n m (dB f (s.data.toList.take (k+1))) a c l j e∧e.map (·.1)=bR f (s.data.toList.take (k+1)):=by
 rw [h,Mk,Mj, <-g, <-o,t,p,u];exact⟨q,rfl⟩
theorem GoodS.Sz {s:PS} (h:GoodS s) (c:s.place=0∨s.place=1):s.ps=[]∧s.pl=⟨#[]⟩∧s.lg=false:=by
 have:¬ 0 < s.ps.length:=fun b=>by have:=h.some'.2 b;omega
 have a:=h.empty (by omega) (by omega);exact⟨List.length_eq_zero_iff.1 (by omega),a.1,a.2⟩
theorem GoodS.SB {s:PS} (h:GoodS s) (b:s.place=3∨s.place=4):s.ps=[]:=by
 have:¬ 0 < s.ps.length:=fun a=>by have:=h.some'.2 a;omega
 exact List.length_eq_zero_iff.1 (by omega)
theorem Z4 {w c:World} {b:PS} {d:Option Addr} {a:Nat} (s:ByteArray) (C:Nat) (k:Below w.heap.size w c) (l:w.heap.size+2<=c.heap.size) {m n o q:Value} (i:c.heap[w.heap.size]?=some (.cells #[m,n,o,q] 40 (0,0)))
  (j:c.heap[w.heap.size+1]?=some (.cells #[.int .i64 0,.slice none 0 0,.string ⟨#[]⟩,.bool false] 40 (0,0))) (e:Own (w.heap.size+2) c d a b.ps):
  GInv w.heap.size c.heap.size (c.heap.size+1) w ((((((c.setCell ⟨w.heap.size,0,none⟩ (.int .i64 b.place)).setCell ⟨w.heap.size,1,none⟩ (.slice d b.ps.length a)).setCell ⟨w.heap.size,2,none⟩ (.string b.pl)).setCell ⟨w.heap.size,3,none⟩ (.bool b.lg)).alloc (.cells #[.slice none 0 0] 78)).alloc (.cells (bytesRow s C) 5 ((bytesRow s C).size,(bytesRow s C).size+1))).drew
   (bytesRow s C) ((bytesRow s C).size,(bytesRow s C).size+1) b d a none 0 []:=by
 have g:Below w.heap.size w ((((c.setCell ⟨w.heap.size,0,none⟩ (.int .i64 b.place)).setCell ⟨w.heap.size,1,none⟩ (.slice d b.ps.length a)).setCell ⟨w.heap.size,2,none⟩ (.string b.pl)).setCell ⟨w.heap.size,3,none⟩ (.bool b.lg)):=
  (((k.setCell (by simp) _).setCell (by simp) _).setCell (by simp) _).setCell (by simp) _
 have f:=gK (gK (gK (gK e (p:=⟨w.heap.size,0,none⟩) (by simp) (.int .i64 b.place)) (p:=⟨w.heap.size,1,none⟩) (by simp) (.slice d b.ps.length a)) (p:=⟨w.heap.size,2,none⟩) (by simp) (.string b.pl)) (p:=⟨w.heap.size,3,none⟩) (by simp) (.bool b.lg);refine⟨((g.alloc (by rw [Bh];omega) _).alloc (by simp;omega) _).drew,l,by omega,?_,?_,?_,?_,xU (iA (iA f _) _),⟨World.ownsRow_nil _ _ _ _,fun x h=>absurd h (by simp)⟩,fun x h=>absurd h (by simp)⟩
 ·exact aF (aF (wC i _ _ _ _) _) _
 ·exact aF (aF (Bb j (by omega) _ _ _ _) _) _
 ·have:=at_new ((((c.setCell ⟨w.heap.size,0,none⟩ (.int .i64 b.place)).setCell ⟨w.heap.size,1,none⟩ (.slice d b.ps.length a)).setCell ⟨w.heap.size,2,none⟩ (.string b.pl)).setCell ⟨w.heap.size,3,none⟩ (.bool b.lg)) (.cells #[.slice none 0 0] 78);rw [Bh] at this;exact aF this _
 ·have:=bK ((((c.setCell ⟨w.heap.size,0,none⟩ (.int .i64 b.place)).setCell ⟨w.heap.size,1,none⟩ (.slice d b.ps.length a)).setCell ⟨w.heap.size,2,none⟩ (.string b.pl)).setCell ⟨w.heap.size,3,none⟩ (.bool b.lg)) (.cells #[.slice none 0 0] 78) (.cells (bytesRow s C) 5 ((bytesRow s C).size,(bytesRow s C).size+1));rw [Bh] at this;exact this
theorem aeK (E:PS) (ao:Option Addr) (cap:Nat) (s:ByteArray) (w:World) (hr:Rd w ao E.ps) (hn:ao=none->E.ps.length=0∧cap=0) (hm:E.ps.length*8<=140737488355328) (hs:s.size<=1048576):
  kC 27 #[.agg #[.int .i64 E.place,.slice ao E.ps.length cap,.string E.pl,.bool E.lg],.string s] w fun e w'=>VZ w E s ao cap e w':=by
 have HR:=gH hr;have HN:=gH hn;clear hr hn;go_enter func27,ntmps27;go_wp2_with fail;refine(aan E ao cap _ (HR.out.below (((Below.refl _ _).alloc (Nat.le_refl _) _).alloc (by simp) _)) (by omega)).mono ?_;rintro e w1 ⟨rfl,R⟩;have B0:=aG R (aF (at_new w _) _) (by simp;omega);have B1:=aG R (bK w _ _) (by simp);obtain⟨a0,a1,a2,a3,f0,f1,f2,f3⟩:=four B0;obtain⟨b0,b1,b2,b3,g0,g1,g2,g3⟩:=four B1;have W:Hid (Below w.heap.size w w1):=(((Below.refl _ _).alloc (Nat.le_refl _) _).alloc (by simp) _).trans (R.mono (by simp;omega));have aj:Hid _:=B0;have GJ:Hid _:=B1;cases hg:fD E
 ·clear R B0 B1;go_wp2;refine bodyPost_ret (v:=.tuple #[.agg #[.int .i64 E.place,.slice ao E.ps.length cap,.string E.pl,.bool E.lg],.slice none 0 0,.int .i64 1]) (by simp [results,results27,go_sem,b0,b1,b2,b3]) rfl ?_;refine⟨?_,fun _=>rfl,fun h=>absurd (hg.symm.trans h) (by decide)⟩;exact(((W.out.setCell (by simp) _).setCell (by simp) _).setCell (by simp) _).setCell (by simp) _
 ·have PO:Hid (Rd w1 ao E.ps):=(HR.out.below W.out);clear R B0 B1;go_wp2_with fail;refine(Yq E ao cap _ PO.out HN.out hm).mono ?_;rintro e w2 ⟨vN,ah,rfl,aa,X⟩;have C0:=aG X aj.out (sP aj.out);have C1:=aG X GJ.out (sP GJ.out);obtain⟨c0,c1,c2,c3,h0,h1,h2,h3⟩:=four C0;have af:w.heap.size+2<=w1.heap.size:=(by have:=sP GJ.out;omega);have aq:Below w.heap.size w w2:=W.out.trans (X.mono W.out.size);have U:w.heap.size+2<=w2.heap.size:=(by have:=X.size;omega);obtain⟨C,aD⟩:=Ma (((((w2.setCell ⟨w.heap.size,0,none⟩ (.int .i64 E.place)).setCell ⟨w.heap.size,1,none⟩ (.slice vN E.ps.length ah)).setCell ⟨w.heap.size,2,none⟩ (.string E.pl)).setCell ⟨w.heap.size,3,none⟩ (.bool E.lg)).alloc (.cells #[.slice none 0 0] 78)) s (w2.heap.size+1) (by rw [World.size_alloc,Bh]);have HI:Hid _:=Z4 s C aq U C0 C1 (Bc aa (by omega));clear a0 a1 a2 a3 f0 f1 f2 f3 b0 b1 b2 b3 g0 g1 g2 g3 aa X aq C0 C1 aj GJ W PO HR HN;go_wp2;have a4:=U;clear aD c0 c1 c2 c3 h0 h1 h2 h3;obtain⟨L,hL⟩:∃ L,L=w2.heap.size:=⟨_,rfl⟩;obtain⟨Q,ac⟩:∃ Q,Q=bytesRow s C:=⟨_,rfl⟩;rw [<-ac, <-hL] at HI;rw [<-ac, <-hL];go_loopw [26] (fun i wr=>∃ (k:Nat) (a:Option Addr) (c:Nat) (tq:Option Addr) (tc:Nat) (J:List Item),k<=s.size∧i=.int .i64 k∧GInv w.heap.size L (L+1) w wr Q (Q.size,Q.size+1) (dB E (s.data.toList.take k)) a c tq tc J∧J.map (·.1)=bR E (s.data.toList.take k)) (fun i _=>s.size - (intOf i).toNat)
  case atStart=>exact⟨0,vN,ah,none,0,[],Nat.zero_le _,rfl,HI.out,rfl⟩
  case round=>
   obtain⟨k,a,c,tq,tc,J,hk,rfl,Z,uJ⟩:=hrel;obtain⟨V,T⟩:∃ V,V=dB E (s.data.toList.take k):=⟨_,rfl⟩;rw [<-T] at Z;have j:=gH T;have y:=gH uJ;have kV:Hid (GoodS V):=(by rw [j.out];exact Fb E ((IW E).1 hg) _);have H:=gH Z;clear T uJ Z HI;by_cases av:k < s.size
   ·have z:=gH (Gx s k av);have aw:(k:Int) < (s.size:Int):=(by omega);have B:J.length<=1048576:=by
     have h1:=congrArg List.length y.out;have h2:=QK E (s.data.toList.take k);simp only [List.length_map,List.length_take] at h1 h2;omega
    obtain⟨b,hb⟩:∃ b:Int,b=(s[k].toNat:Int):=⟨_,rfl⟩;have A:=gH hb;have Vn:wr.cell? ⟨L+1,k,none⟩=some (.int .u8 b):=by
     rw [cell_of_row wr (L+1) k _ 5 _ H.out.cy,ac,hb];exact bytesRow_at s C k av
    have aZ:IntKind.i64.wrap b=b:=(by rw [hb];exact Vl _);have aU:0<=b:=(by rw [hb];exact Qb _);have R:b<=255:=(by rw [hb];exact Qa _);clear hb ac hL hk;go_upto_region 11 with fail;go_cut [13] from 27 to 250 (fun aL wx=>aL=.bool (xV b)∧wr=wx)
    case first=>
     by_cases aB:32<=b
     ·by_cases aA:b<=126
      ·go_wp2_with fail;go_meet;exact⟨congrArg Value.bool (decide_eq_true (p:=32<=b∧b<=126) ⟨aB,aA⟩).symm,rfl⟩
      ·have aN:126 < b:=(by omega);go_wp2_with fail;go_meet;exact⟨congrArg Value.bool (decide_eq_false (p:=32<=b∧b<=126) (by omega)).symm,rfl⟩
     ·have aO:b < 32:=(by omega);go_wp2_with fail;go_meet;exact⟨congrArg Value.bool (decide_eq_false (p:=32<=b∧b<=126) (by omega)).symm,rfl⟩
    case rest=>
     obtain⟨rfl,rfl⟩:=hcut;clear Vn;obtain⟨c0,c1,c2,c3,f0,f1,f2,f3⟩:=four H.out.box;obtain⟨I,n,K,lg⟩:=V;simp only at c0 c1 c2 c3;have hp:I=0∨I=1∨I=2∨I=3∨I=4:=(by have h1:=kV.out.lo;have h2:=kV.out.hi;simp only at h1 h2;omega);rcases hp with hp | hp | hp | hp | hp
     ·subst hp;obtain⟨rfl,rfl,rfl⟩:=kV.out.Sz (.inl rfl);by_cases f:b=27
      ·subst f
       as_aux_lemma=>
        have q:=H.out.Gf ⟨1,[],⟨#[]⟩,false⟩ rfl;have N:Hid _:=q;clear q;go_wp2;go_roundw
        case rel=>
         obtain⟨l,m⟩:=iJ z.out j.out A.out y.out (r:=(⟨1,[],⟨#[]⟩,false⟩,bC)) rfl N.out (by simp [one,bC]);exact⟨k+1,_,_,_,_,_,by omega,by go_num,l,m⟩
        case measure=>simp [intOf];omega
      have ag:(b==27)=false:=(by simpa using f);by_cases o:32<=b∧b<=126
      ·have q:Hid (bF ⟨0,[],⟨#[]⟩,false⟩ b=(ground,⟨1,b,[],⟨#[]⟩⟩)):=(by show bF _ b=_;simp [bF,ku,f,o]);have Ns:xV b=true:=(by simp [xV,o]);clear f o
       as_aux_lemma=>
        go_wp2_with fail;refine(wF ⟨1,b,[],⟨#[]⟩⟩ none 0 H.out (kP _ _) (.inl rfl) B).mono ?_;rintro e O ⟨rfl,g',F,d⟩;have t:=gH d;clear d;go_wp2;go_roundw
        case rel=>
         obtain⟨l,m⟩:=iJ z.out j.out A.out y.out (r:=(ground,⟨1,b,[],⟨#[]⟩⟩)) q.out t.out (by simp [one]);exact⟨k+1,_,_,_,_,_,by omega,by go_num,l,m⟩
        case measure=>simp [intOf];omega
      have Ns:xV b=false:=(by simp only [xV,o,decide_false]);by_cases am:b=8∨b=9∨b=10∨b=13
      ·rcases am with h | h | h | h
       ·subst h;clear f o
        as_aux_lemma=>
         go_wp2_with fail;refine(wF ⟨2,8,[],⟨#[]⟩⟩ none 0 H.out (kP _ _) (.inl rfl) B).mono ?_;rintro e O ⟨rfl,g',F,d⟩;have t:=gH d;clear d;go_wp2;go_roundw
         case rel=>
          obtain⟨l,m⟩:=iJ z.out j.out A.out y.out (r:=(ground,⟨2,8,[],⟨#[]⟩⟩)) rfl t.out (by simp [one]);exact⟨k+1,_,_,_,_,_,by omega,by go_num,l,m⟩
         case measure=>simp [intOf];omega
       ·subst h;clear f o
        as_aux_lemma=>
         go_wp2_with fail;refine(wF ⟨2,9,[],⟨#[]⟩⟩ none 0 H.out (kP _ _) (.inl rfl) B).mono ?_;rintro e O ⟨rfl,g',F,d⟩;have t:=gH d;clear d;go_wp2;go_roundw
         case rel=>
          obtain⟨l,m⟩:=iJ z.out j.out A.out y.out (r:=(ground,⟨2,9,[],⟨#[]⟩⟩)) rfl t.out (by simp [one]);exact⟨k+1,_,_,_,_,_,by omega,by go_num,l,m⟩
         case measure=>simp [intOf];omega
       ·subst h;clear f o
        as_aux_lemma=>
         go_wp2_with fail;refine(wF ⟨2,10,[],⟨#[]⟩⟩ none 0 H.out (kP _ _) (.inl rfl) B).mono ?_;rintro e O ⟨rfl,g',F,d⟩;have t:=gH d;clear d;go_wp2;go_roundw
         case rel=>
          obtain⟨l,m⟩:=iJ z.out j.out A.out y.out (r:=(ground,⟨2,10,[],⟨#[]⟩⟩)) rfl t.out (by simp [one]);exact⟨k+1,_,_,_,_,_,by omega,by go_num,l,m⟩
         case measure=>simp [intOf];omega
       ·subst h;clear f o
        as_aux_lemma=>
         go_wp2_with fail;refine(wF ⟨2,13,[],⟨#[]⟩⟩ none 0 H.out (kP _ _) (.inl rfl) B).mono ?_;rintro e O ⟨rfl,g',F,d⟩;have t:=gH d;clear d;go_wp2;go_roundw
         case rel=>
          obtain⟨l,m⟩:=iJ z.out j.out A.out y.out (r:=(ground,⟨2,13,[],⟨#[]⟩⟩)) rfl t.out (by simp [one]);exact⟨k+1,_,_,_,_,_,by omega,by go_num,l,m⟩
         case measure=>simp [intOf];omega
      have q:Hid (bF ⟨0,[],⟨#[]⟩,false⟩ b=(ground,bC)):=(by show bF _ b=_;simp only [bF,ku,if_neg f,if_neg o,if_neg am];rfl);have n8:(b==8)=false:=(by simp;omega);have n9:(b==9)=false:=(by simp;omega);have a7:(b==10)=false:=(by simp;omega);have a8:(b==13)=false:=(by simp;omega);clear f o am
      as_aux_lemma=>
       go_wp2;go_roundw
       case rel=>
        obtain⟨l,m⟩:=iJ z.out j.out A.out y.out (r:=(ground,bC)) q.out H.out (by simp [one,bC]);exact⟨k+1,_,_,_,_,_,by omega,by go_num,l,m⟩
       case measure=>simp [intOf];omega
     ·subst hp;obtain⟨rfl,rfl,rfl⟩:=kV.out.Sz (.inr rfl);by_cases f:b=27
      ·subst f
       as_aux_lemma=>
        have q:=H.out.Gf ⟨1,[],⟨#[]⟩,false⟩ rfl;have N:Hid _:=q;clear q;go_wp2;go_roundw
        case rel=>
         obtain⟨l,m⟩:=iJ z.out j.out A.out y.out (r:=(⟨1,[],⟨#[]⟩,false⟩,bC)) rfl N.out (by simp [one,bC]);exact⟨k+1,_,_,_,_,_,by omega,by go_num,l,m⟩
        case measure=>simp [intOf];omega
      have ag:(b==27)=false:=(by simpa using f);by_cases IZ:b=91
      ·subst IZ;have N:Hid _:=H.out.adQ;have al:w.heap.size < wr.heap.size:=sP H.out.box
       as_aux_lemma=>
        go_wp2;go_roundw
        case rel=>
         obtain⟨l,m⟩:=iJ z.out j.out A.out y.out (r:=(⟨2,[0],⟨#[]⟩,false⟩,bC)) rfl N.out (by simp [one,bC]);exact⟨k+1,_,_,_,_,_,by omega,by go_num,l,m⟩
        case measure=>simp [intOf];omega
      have bb:(b==91)=false:=(by simpa using IZ);by_cases ad:b=80
      ·subst ad
       as_aux_lemma=>
        have q:=H.out.Gf ⟨3,[],⟨#[]⟩,false⟩ rfl;have N:Hid _:=q;clear q;go_wp2;go_roundw
        case rel=>
         obtain⟨l,m⟩:=iJ z.out j.out A.out y.out (r:=(⟨3,[],⟨#[]⟩,false⟩,bC)) rfl N.out (by simp [one,bC]);exact⟨k+1,_,_,_,_,_,by omega,by go_num,l,m⟩
        case measure=>simp [intOf];omega
      have ba:(b==80)=false:=(by simpa using ad);by_cases I5:b=99
      ·subst I5
       as_aux_lemma=>
        go_wp2_with fail;refine(wF ⟨5,0,[],⟨#[]⟩⟩ none 0 H.out (kP _ _) (.inl rfl) B).mono ?_;rintro e O ⟨rfl,g',F,d⟩;have t:=gH d;clear d;go_wp2_with fail;refine(sN t.out).mono ?_;rintro e w7 ⟨rfl,jE⟩;have wK:=gH jE;clear jE;go_wp2;go_roundw
        case rel=>
         obtain⟨l,m⟩:=iJ z.out j.out A.out y.out (r:=(ground,⟨5,0,[],⟨#[]⟩⟩)) rfl wK.out (by simp [one]);exact⟨k+1,_,_,_,_,_,by omega,by go_num,l,m⟩
        case measure=>simp [intOf];omega
      have bd:(b==99)=false:=(by simpa using I5);have q:Hid (bF ⟨1,[],⟨#[]⟩,false⟩ b=(ground,bC)):=(by show bF _ b=_;simp [bF,jl,f,IZ,ad,I5]);clear f IZ ad I5
      as_aux_lemma=>
       go_wp2_with fail;refine(sN H.out).mono ?_;rintro e O ⟨rfl,d⟩;have t:=gH d;clear d;go_wp2;go_roundw
       case rel=>
        obtain⟨l,m⟩:=iJ z.out j.out A.out y.out (r:=(ground,bC)) q.out t.out (by simp [one,bC]);exact⟨k+1,_,_,_,_,_,by omega,by go_num,l,m⟩
       case measure=>simp [intOf];omega
     ·subst hp;obtain⟨rfl,rfl⟩:=kV.out.empty (by simp) (by simp);have au:0 < n.length:=kV.out.some'.1 rfl;have aJ:n.length<=4:=kV.out.len;by_cases f:b=27
      ·subst f;have HR:Hid (bF ⟨2,n,⟨#[]⟩,false⟩ 27=(⟨1,[],⟨#[]⟩,false⟩,bC)):=by show bF _ _=_;simp [bF,eB]
       as_aux_lemma=>
        have q:=H.out.Gf ⟨1,[],⟨#[]⟩,false⟩ rfl;have N:Hid _:=q;clear q;go_wp2;go_roundw
        case rel=>
         obtain⟨l,m⟩:=iJ z.out j.out A.out y.out (r:=(⟨1,[],⟨#[]⟩,false⟩,bC)) HR.out N.out (by simp [one,bC]);exact⟨k+1,_,_,_,_,_,by omega,by go_num,l,m⟩
        case measure=>simp [intOf];omega
      have ag:(b==27)=false:=(by simpa using f);obtain⟨g,rfl,_,_⟩:=Oq H.out.own au;obtain⟨D,M⟩:∃ D,n.length=D+1:=⟨n.length - 1,by omega⟩;by_cases P:48<=b∧b<=57
      ·have hx:0<=n.getD D 0∧n.getD D 0<=999:=by
        have:D < n.length:=(by omega);rw [List.getD_eq_getElem?_getD,List.getElem?_eq_getElem this];exact kV.out.nums _ (List.getElem_mem this)
       have hc:=xS H.out.own D (by show D < n.length;omega);have hf:wr.frozen? ⟨g,D,none⟩=false:=World.ownsRow.frozenAt H.out.own D;obtain⟨x,ae⟩:∃ x,x=n.getD D 0:=⟨_,rfl⟩;simp only at hc;rw [<-ae] at hc hx;have aM:=gH M;have EH:=gH ae;rw [M] at c1;obtain⟨aE,aH⟩:=P;obtain⟨_,_⟩:=hx;have aV:w.heap.size≠g:=(by omega);have aW:(D:Int) < (D:Int)+1:=(by omega);have aR:D < 4:=(by omega);have q:Hid (bF ⟨2,n,⟨#[]⟩,false⟩ b=(⟨2,n.set D (min (10*x+b - 48) 999),⟨#[]⟩,false⟩,bC)):=(by show bF _ b=_;simp [bF,eB,aE,aH,zm,M,ae]);clear M ae f au aJ;by_cases ar:999 < 10*x+b - 48
       ·have lT:Hid (GInv w.heap.size L (L+1) w ((wr.setCell ⟨g,D,none⟩ (.int .i64 (10*x+b - 48))).setCell ⟨g,D,none⟩ (.int .i64 999)).drew Q (Q.size,Q.size+1) ⟨2,n.set D 999,⟨#[]⟩,false⟩ (some ⟨g,0,none⟩) c tq tc J):=by
         have:=((H.out.store D (10*x+b - 48)).store D 999).drew;show GInv _ _ _ _ _ _ _ _ _ _ _ _ _;simpa using this
        have zL:Hid (bF ⟨2,n,⟨#[]⟩,false⟩ b=(⟨2,n.set D 999,⟨#[]⟩,false⟩,bC)):=by show bF _ b=_;rw [q.out,Int.min_eq_right (by omega)]
        as_aux_lemma=>
         go_wp2;go_region;go_wp2;go_roundw
         case rel=>
          obtain⟨l,m⟩:=iJ z.out j.out A.out y.out (r:=(⟨2,n.set D 999,⟨#[]⟩,false⟩,bC)) zL.out lT.out (by simp [one,bC]);exact⟨k+1,_,_,_,_,_,by omega,by go_num,l,m⟩
         case measure=>simp [intOf];omega
       ·have lT:Hid (GInv w.heap.size L (L+1) w (wr.setCell ⟨g,D,none⟩ (.int .i64 (10*x+b - 48))).drew Q (Q.size,Q.size+1) ⟨2,n.set D (10*x+b - 48),⟨#[]⟩,false⟩ (some ⟨g,0,none⟩) c tq tc J):=(H.out.store D (10*x+b - 48)).drew;have zL:Hid (bF ⟨2,n,⟨#[]⟩,false⟩ b=(⟨2,n.set D (10*x+b - 48),⟨#[]⟩,false⟩,bC)):=(by show bF _ b=_;rw [q.out,Int.min_eq_left (by omega)]);have aC:10*x+b - 48<=999:=(by omega);clear ar
        as_aux_lemma=>
         go_wp2;go_region;go_wp2;go_roundw
         case rel=>
          obtain⟨l,m⟩:=iJ z.out j.out A.out y.out (r:=(⟨2,n.set D (10*x+b - 48),⟨#[]⟩,false⟩,bC)) zL.out lT.out (by simp [one,bC]);exact⟨k+1,_,_,_,_,_,by omega,by go_num,l,m⟩
         case measure=>simp [intOf];omega
      obtain⟨i0,hi,an,af,U⟩:=info_parts info3;have al:w.heap.size < wr.heap.size:=sP H.out.box;have HO:=gH H.out.own;have ai:∀ u∈ints n,u.oneCell'=true:=(by intro u hu;simp [ints] at hu;obtain⟨_,_,rfl⟩:=hu;rfl);by_cases uH:b=59∧n.length < 4
      ·obtain⟨uH,aI⟩:=uH;subst uH;have q:Hid (bF ⟨2,n,⟨#[]⟩,false⟩ 59=(⟨2,n++[0],⟨#[]⟩,false⟩,bC)):=(by show bF _ _=_;simp [bF,eB,aI]);have aS:(n.length:Int) < 4:=(by omega);clear P f M
       as_aux_lemma=>
        go_wp2_with (first | (at_builtin;refine Vf _ (by rfl) _ _ 38 rfl wr.heap.size 3 i0 (.int .i64 0) 1 8 underlying38 hi an af U rfl (by decide) _ 0 [] rfl (World.ownsRow_nil _ _ _ _) (w.heap.size+2) (some ⟨g,0,none⟩) n.length c (ints n) rfl HO.out ai (by unfold maxLen;omega) (by omega) (Nat.le_refl _) ?_));intro v6 w6 G qE;obtain⟨t6,k6,rfl,rH⟩:=JB G;have S:Below wr.heap.size wr w6:=P9 qE;have Bv:=gH S;have Hz:=gH S.size;have El:=gH rH;clear G qE rH S;go_wp2_with (first | (at_builtin;refine wpList_append_lies _ rfl _ _ 38 rfl wr.heap.size 3 i0 (.int .i64 0) 1 8 underlying38 hi an af U rfl (by decide) _ n.length (ints n) rfl (World.ownsRow.alloc El.out _) ⟨w6.heap.size,0,none⟩ 1 1 [.int .i64 0] rfl rfl ?d1 ?d2 (by decide) ?d3 ?d4 ?d5 (w6.heap.size+1) ?d6 ?_))
        case d1=>exact World.news_of_block (cs:=#[.int .i64 0]) (at_new w6 _)
        case d2=>intro u hu;simp at hu;subst hu;rfl
        case d3=>unfold maxLen;omega
        case d4=>omega
        case d5=>have:=Hz.out;simp;omega
        case d6=>simp
        intro g7 Ag w7 nI M9 _ _;rw [Oo] at M9;have CZ:Below wr.heap.size wr w7:=(Bv.out.alloc Hz.out _).grown M9 (by have:=Hz.out;simp;omega) (fun k hk=>(qd El.out hk).1);have ax:Own wr.heap.size w7 (some ⟨g7,0,none⟩) Ag (n++[0]):=by
         show w7.ownsRow _ _ _ _ _ _;rw [List.length_append];simpa [ints] using nI
        obtain⟨_,_,_,_,_,_,_,_⟩:=four (aG CZ H.out.box al);have N:Hid (GInv w.heap.size L (L+1) w (w7.setCell ⟨w.heap.size,1,none⟩ (.slice (some ⟨g7,0,none⟩) (n.length+1) Ag)) Q (Q.size,Q.size+1) ⟨2,n++[0],⟨#[]⟩,false⟩ (some ⟨g7,0,none⟩) Ag tq tc J):=by
         have:=H.out.more CZ ax;show GInv _ _ _ _ _ _ _ _ _ _ _ _ _;simpa using this
        clear nI M9 CZ ax El Bv Hz;go_wp2;go_roundw
        case rel=>
         obtain⟨l,m⟩:=iJ z.out j.out A.out y.out (r:=(⟨2,n++[0],⟨#[]⟩,false⟩,bC)) q.out N.out (by simp [one,bC]);exact⟨k+1,_,_,_,_,_,by omega,by go_num,l,m⟩
        case measure=>simp [intOf];omega
      by_cases Y:64<=b∧b<=126
      ·have q:Hid (bF ⟨2,n,⟨#[]⟩,false⟩ b=(ground,⟨3,b,n,⟨#[]⟩⟩)):=by
        show bF _ b=_;have e1:¬ (48<=b∧b<=57):=P;have e2:¬ b=59:=(by omega);simp [bF,eB,e1,e2,Y]
       have aK:(b==59)=false:=(by simp;omega);have a6:57 < b:=(by omega);have a5:48<=b:=(by omega);obtain⟨_,_⟩:=Y;clear P f uH M
       as_aux_lemma=>
        go_wp2_with (first | (at_builtin;refine Vf _ (by rfl) _ _ 38 rfl wr.heap.size 3 i0 (.int .i64 0) 1 8 underlying38 hi an af U rfl (by decide) _ 0 [] rfl (World.ownsRow_nil _ _ _ _) (w.heap.size+2) (some ⟨g,0,none⟩) n.length c (ints n) rfl HO.out ai (by unfold maxLen;omega) (by omega) (Nat.le_refl _) ?_));intro v6 w6 G qE;obtain⟨t6,k6,rfl,rH⟩:=JB G;have S:Below wr.heap.size wr w6:=P9 qE;have H6:=gH (H.out.later S);have El:=gH (Bc rH H.out.size);have GI:Hid (blk t6=none∨blk t6≠blk (some ⟨g,0,none⟩)):=by
         cases hb:blk t6 with
         | none=>exact .inl rfl
         | some g'=>right;have:=(qd rH hb).1;simp [blk];omega
        clear G qE rH S;go_wp2_with fail;refine(wF ⟨3,b,n,⟨#[]⟩⟩ t6 k6 H6.out El.out GI.out B).mono ?_;rintro e O ⟨rfl,g',F,d⟩;have t:=gH d;clear d;go_wp2_with fail;refine(sN t.out).mono ?_;rintro e w7 ⟨rfl,jE⟩;have wK:=gH jE;clear jE;go_wp2;go_roundw
        case rel=>
         obtain⟨l,m⟩:=iJ z.out j.out A.out y.out (r:=(ground,⟨3,b,n,⟨#[]⟩⟩)) q.out wK.out (by simp [one]);exact⟨k+1,_,_,_,_,_,by omega,by go_num,l,m⟩
        case measure=>simp [intOf];omega
      have q:Hid (bF ⟨2,n,⟨#[]⟩,false⟩ b=(ground,bC)):=by
       show bF _ b=_;have e1:¬ (48<=b∧b<=57):=P;simp [bF,eB,e1,uH,Y,f]
      by_cases MI:b=59
      ·have hl:n.length=4:=(by omega);subst MI;have aX:¬ (n.length:Int) < 4:=(by omega);clear P uH f Y M
       as_aux_lemma=>
        go_wp2_with fail;refine(sN H.out).mono ?_;rintro e O ⟨rfl,d⟩;have t:=gH d;clear d;go_wp2;go_roundw
        case rel=>
         obtain⟨l,m⟩:=iJ z.out j.out A.out y.out (r:=(ground,bC)) q.out t.out (by simp [one,bC]);exact⟨k+1,_,_,_,_,_,by omega,by go_num,l,m⟩
        case measure=>simp [intOf];omega
      have aK:(b==59)=false:=(by simpa using MI);have ab:b < 48∨(57 < b∧b < 64)∨126 < b:=(by omega);clear P uH f Y M MI;rcases ab with ab | ab | ab
      ·as_aux_lemma=>
        go_wp2_with fail;refine(sN H.out).mono ?_;rintro e O ⟨rfl,d⟩;have t:=gH d;clear d;go_wp2;go_roundw
        case rel=>
         obtain⟨l,m⟩:=iJ z.out j.out A.out y.out (r:=(ground,bC)) q.out t.out (by simp [one,bC]);exact⟨k+1,_,_,_,_,_,by omega,by go_num,l,m⟩
        case measure=>simp [intOf];omega
      ·obtain⟨_,_⟩:=ab
       as_aux_lemma=>
        go_wp2_with fail;refine(sN H.out).mono ?_;rintro e O ⟨rfl,d⟩;have t:=gH d;clear d;go_wp2;go_roundw
        case rel=>
         obtain⟨l,m⟩:=iJ z.out j.out A.out y.out (r:=(ground,bC)) q.out t.out (by simp [one,bC]);exact⟨k+1,_,_,_,_,_,by omega,by go_num,l,m⟩
        case measure=>simp [intOf];omega
      ·as_aux_lemma=>
        go_wp2_with fail;refine(sN H.out).mono ?_;rintro e O ⟨rfl,d⟩;have t:=gH d;clear d;go_wp2;go_roundw
        case rel=>
         obtain⟨l,m⟩:=iJ z.out j.out A.out y.out (r:=(ground,bC)) q.out t.out (by simp [one,bC]);exact⟨k+1,_,_,_,_,_,by omega,by go_num,l,m⟩
        case measure=>simp [intOf];omega
     ·subst hp;obtain rfl:=kV.out.SB (.inl rfl);have aY:K.size<=48:=kV.out.size;by_cases f:b=27
      ·subst f;have N:Hid _:=H.out.adL 4
       as_aux_lemma=>
        go_wp2;go_roundw
        case rel=>
         obtain⟨l,m⟩:=iJ z.out j.out A.out y.out (r:=(⟨4,[],K,lg⟩,bC)) rfl N.out (by simp [one,bC]);exact⟨k+1,_,_,_,_,_,by omega,by go_num,l,m⟩
        case measure=>simp [intOf];omega
      have ag:(b==27)=false:=(by simpa using f);by_cases yY:b=24
      ·subst yY
       as_aux_lemma=>
        go_wp2_with fail;refine(sN H.out).mono ?_;rintro e O ⟨rfl,d⟩;have t:=gH d;clear d;go_wp2;go_roundw
        case rel=>
         obtain⟨l,m⟩:=iJ z.out j.out A.out y.out (r:=(ground,bC)) rfl t.out (by simp [one,bC]);exact⟨k+1,_,_,_,_,_,by omega,by go_num,l,m⟩
        case measure=>simp [intOf];omega
      have a9:(b==24)=false:=(by simpa using yY);by_cases o:32<=b∧b<=126
      ·have Ns:xV b=true:=(by simp [xV,o]);by_cases ak:K.size < 48
       ·have q:Hid (bF ⟨3,[],K,lg⟩ b=(⟨3,[],K++(⟨#[UInt8.ofNat b.toNat]⟩:ByteArray),lg⟩,bC)):=(by show bF _ b=_;simp [bF,kH,f,yY,o,ak,adI]);have ap:(K.size:Int) < 48:=(by omega);have aQ:=Yk (wr.alloc (.cells #[.int .u8 b] 5)) wr.heap.size b (by simp [go_sem]);have N:Hid _:=(H.out.adN (K++(⟨#[UInt8.ofNat b.toNat]⟩:ByteArray))).alloc (.cells #[.int .u8 b] 5);have al:w.heap.size < wr.heap.size:=(by have:=H.out.size;omega);clear f yY o
        as_aux_lemma=>
         go_wp2;go_roundw
         case rel=>
          obtain⟨l,m⟩:=iJ z.out j.out A.out y.out (r:=(⟨3,[],K++(⟨#[UInt8.ofNat b.toNat]⟩:ByteArray),lg⟩,bC)) q.out N.out (by simp [one,bC]);exact⟨k+1,_,_,_,_,_,by omega,by go_num,l,m⟩
         case measure=>simp [intOf];omega
       ·have q:Hid (bF ⟨3,[],K,lg⟩ b=(⟨3,[],K,true⟩,bC)):=(by show bF _ b=_;simp [bF,kH,f,yY,o,ak]);have ap:¬ (K.size:Int) < 48:=(by omega);have N:Hid _:=H.out.adO true;clear f yY o ak
        as_aux_lemma=>
         go_wp2;go_roundw
         case rel=>
          obtain⟨l,m⟩:=iJ z.out j.out A.out y.out (r:=(⟨3,[],K,true⟩,bC)) q.out N.out (by simp [one,bC]);exact⟨k+1,_,_,_,_,_,by omega,by go_num,l,m⟩
         case measure=>simp [intOf];omega
      have Ns:xV b=false:=(by simp only [xV,o,decide_false]);have q:Hid (bF ⟨3,[],K,lg⟩ b=(⟨3,[],K,lg⟩,bC)):=(by show bF _ b=_;simp only [bF,kH,if_neg f,if_neg yY,if_neg o];rfl);clear f yY o
      as_aux_lemma=>
       go_wp2;go_roundw
       case rel=>
        obtain⟨l,m⟩:=iJ z.out j.out A.out y.out (r:=(⟨3,[],K,lg⟩,bC)) q.out H.out (by simp [one,bC]);exact⟨k+1,_,_,_,_,_,by omega,by go_num,l,m⟩
       case measure=>simp [intOf];omega
     ·subst hp;obtain rfl:=kV.out.SB (.inr rfl);by_cases f:b=27
      ·subst f
       as_aux_lemma=>
        go_wp2_with fail;refine(sN H.out).mono ?_;rintro e O ⟨rfl,d⟩;have t:=gH d;clear d;go_wp2;go_roundw
        case rel=>
         obtain⟨l,m⟩:=iJ z.out j.out A.out y.out (r:=(ground,bC)) rfl t.out (by simp [one,bC]);exact⟨k+1,_,_,_,_,_,by omega,by go_num,l,m⟩
        case measure=>simp [intOf];omega
      have ag:(b==27)=false:=(by simpa using f);by_cases I4:b=92
      ·subst I4;cases lg
       ·as_aux_lemma=>
         go_wp2_with fail;refine(wF ⟨4,0,[],K⟩ none 0 H.out (kP _ _) (.inl rfl) B).mono ?_;rintro e O ⟨rfl,g',F,d⟩;have t:=gH d;clear d;go_wp2_with fail;refine(sN t.out).mono ?_;rintro e w7 ⟨rfl,jE⟩;have wK:=gH jE;clear jE;go_wp2;go_roundw
         case rel=>
          obtain⟨l,m⟩:=iJ z.out j.out A.out y.out (r:=(ground,⟨4,0,[],K⟩)) rfl wK.out (by simp [one]);exact⟨k+1,_,_,_,_,_,by omega,by go_num,l,m⟩
         case measure=>simp [intOf];omega
       ·as_aux_lemma=>
         go_wp2_with fail;refine(sN H.out).mono ?_;rintro e O ⟨rfl,d⟩;have t:=gH d;clear d;go_wp2;go_roundw
         case rel=>
          obtain⟨l,m⟩:=iJ z.out j.out A.out y.out (r:=(ground,bC)) rfl t.out (by simp [one,bC]);exact⟨k+1,_,_,_,_,_,by omega,by go_num,l,m⟩
         case measure=>simp [intOf];omega
      have bc:(b==92)=false:=(by simpa using I4);have q:Hid (bF ⟨4,[],K,lg⟩ b=(ground,bC)):=(by show bF _ b=_;simp [bF,og,I4]);clear f I4
      as_aux_lemma=>
       go_wp2_with fail;refine(sN H.out).mono ?_;rintro e O ⟨rfl,d⟩;have t:=gH d;clear d;go_wp2;go_roundw
       case rel=>
        obtain⟨l,m⟩:=iJ z.out j.out A.out y.out (r:=(ground,bC)) q.out t.out (by simp [one,bC]);exact⟨k+1,_,_,_,_,_,by omega,by go_num,l,m⟩
       case measure=>simp [intOf];omega
   ·have ay:s.data.toList.take k=s.data.toList:=List.take_of_length_le (by simp;omega);obtain⟨c0,c1,c2,c3,f0,f1,f2,f3⟩:=four H.out.box;obtain⟨d0,d1,d2,d3,_,_,_,_⟩:=four H.out.res;obtain⟨_,_⟩:=one_cell H.out.cl;have aw:¬ (k:Int) < (s.size:Int):=(by omega);have aT:L≠w.heap.size:=(by have:=H.out.hL;omega);have aP:L≠w.heap.size+1:=(by have:=H.out.hL;omega);have az:=gH ay;clear ay ac hL hk
    as_aux_lemma=>
     go_wp2;go_region;go_wp2;refine bodyPost_ret (v:=.tuple #[.agg #[.int .i64 V.place,.slice a V.ps.length c,.string V.pl,.bool V.lg],.slice tq J.length tc,.int .i64 0]) (by simp [results,results27,go_sem,d0,d1,d2,d3]) rfl ?_;obtain⟨z1,z2,z3⟩:=H.out.last rfl (.int .i64 V.place) (.slice a V.ps.length c) (.string V.pl) (.bool V.lg);have T:=j.out;have uJ:=y.out;rw [az.out] at T uJ;subst T;exact⟨z1,fun h=>absurd (hg.symm.trans h) (by decide),fun _=>⟨a,c,tq,tc,J,rfl,z2,z3,uJ⟩⟩
end Go.Proofs.YtkcdcamophkdlaaGreatDoor.Ps
