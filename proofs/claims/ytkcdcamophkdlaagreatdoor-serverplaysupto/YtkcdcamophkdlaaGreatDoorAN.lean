import Derived.Test.YtkcdcamophkdlaaGreatDoorAC
set_option maxHeartbeats 1000000
set_option maxRecDepth 100000
open Go.Proofs.Tryz
namespace Go.Proofs.YtkcdcamophkdlaaGreatDoor.Tl
open Go.RowKit
variable {aj:List (List Int)} {k j B:Nat} {l:List Int} {w w0:World} {co:Option Addr} {its:List bn}
def Cv (l:List Int):Prop:=(∀ p∈l,dG p=true)∧l.Nodup
theorem QW (h:k < aj.length) (g:j < aj[k].length):∃ a,aj.flatten=((aj.take k).flatten++aj[k].take j)++aj[k][j]::a:=by
 refine⟨aj[k].drop (j+1)++(aj.drop (k+1)).flatten,?_⟩;have b:aj=aj.take k++aj[k]::aj.drop (k+1):=by rw [<-List.drop_eq_getElem_cons h,List.take_append_drop]
 have c:aj.flatten=(aj.take k).flatten++(aj[k]++(aj.drop (k+1)).flatten):=by
  have e:=congrArg List.flatten b;rw [List.flatten_append,List.flatten_cons] at e;exact e
 have d:aj[k]=aj[k].take j++aj[k][j]::aj[k].drop (j+1):=by rw [<-List.drop_eq_getElem_cons g,List.take_append_drop]
 have f:aj[k]++(aj.drop (k+1)).flatten=aj[k].take j++aj[k][j]::(aj[k].drop (j+1)++(aj.drop (k+1)).flatten):=by
  have e:=congrArg (·++(aj.drop (k+1)).flatten) d;simp only [List.append_assoc,List.cons_append] at e;exact e
 rw [c,f,List.append_assoc]
theorem acC {p:Int} (h:Cv l) (i:dG p=true) (g:p ∉ l):Cv (l++[p]):=by
 refine⟨fun q c=>?_,?_⟩
 ·rcases List.mem_append.1 c with c | c
  ·exact h.1 q c
  ·simp at c;rw [c];exact i
 ·rw [List.nodup_append];exact⟨h.2,by simp,fun a f b d=>by simp at d;subst d;exact fun e=>g (e ▸ f)⟩
theorem Xg (b:k < aj.length) (a:j < aj[k].length) (h:dG aj[k][j]=false):¬ eY aj:=fun c=>by
 have:=c.pane aj[k][j] (List.mem_flatten.2 ⟨aj[k],List.getElem_mem b,List.getElem_mem a⟩)
 rw [h] at this
 cases this
theorem Xh (b:k < aj.length) (a:j < aj[k].length) (h:aj[k][j]∈(aj.take k).flatten++aj[k].take j):¬ eY aj:=fun c=>by
 obtain⟨_,e⟩:=QW b a
 have:=c.once
 rw [e,List.nodup_append] at this
 exact this.2.2 _ h _ (by simp) rfl
theorem Iz (a:k < aj.length) (h:aj[k].length < 1∨3 < aj[k].length):¬ eY aj:=fun b=>by
 have:=b.kI _ (List.getElem_mem a)
 omega
@[reducible] def Dx (l:List Int):Array Value:=#[.bool (l.contains 0),.bool (l.contains 1),.bool (l.contains 2),.bool (l.contains 3),.bool (l.contains 4),.bool (l.contains 5)]
theorem afV (l:List Int) (m:Nat) (a:m < 6):(Dx l)[m]?=some (.bool (l.contains (m:Int))):=by
 have:m=0∨m=1∨m=2∨m=3∨m=4∨m=5:=by omega
 rcases this with rfl | rfl | rfl | rfl | rfl | rfl <;>rfl
theorem afW (l:List Int) (m:Nat) (a:m < 6):(Dx l).setIfInBounds m (.bool true)=Dx (l++[(m:Int)]):=by
 have:m=0∨m=1∨m=2∨m=3∨m=4∨m=5:=by omega
 rcases this with rfl | rfl | rfl | rfl | rfl | rfl <;>simp [Dx,List.contains_eq_mem]
structure GInv (w:World) (its:List bn) (co:Option Addr) (cap:Nat) (l:List Int) (wr:World):Prop where
 rd:aI wr co its
 box:wr.heap[w.heap.size]?=some (aT co its.length cap)
 seen:wr.heap[w.heap.size+1]?=some (.cells (Dx l) 126)
 below:Below w.heap.size w wr
 old:aI w co its
theorem aed {a:Option Addr} (p:bV w0 a l) (s:w0.heap.size<=B) (h:bV w a l) (j:Nat) (u:Value):bV (w.setCell ⟨B,j,none⟩ u) a l:=by
 rcases p with c | ⟨b,g,rfl,q⟩
 ·exact .inl c
 ·rcases h with c | ⟨r,o,e,d⟩
  ·exact .inl c
  ·simp only [Option.some.injEq,Addr.mk.injEq,and_true] at e;obtain⟨rfl,rfl⟩:=e;refine .inr ⟨b,g,rfl,fun i m=>?_⟩;have f:=World.block_lt_of_cell? _ _ (q i m);simp only at f;rw [World.cell?_setCell_other _ _ _ _ (by intro e;simp only [Addr.mk.injEq] at e;omega)];exact d i m
theorem Oz (m:aI w0 co its) (q:w0.heap.size<=B) (h:aI w co its) (j:Nat) (u:Value):aI (w.setCell ⟨B,j,none⟩ u) co its:=by
 refine⟨fun x f=>⟨aed (m.each x f).1 q (h.each x f).1 j u,(h.each x f).2⟩,?_⟩;rcases m.row with a | ⟨b,g,rfl,r⟩
 ·exact .inl a
 ·rcases h.row with a | ⟨s,p,e,c⟩
  ·exact .inl a
  ·simp only [Option.some.injEq,Addr.mk.injEq,and_true] at e;obtain⟨rfl,rfl⟩:=e;refine .inr ⟨b,g,rfl,fun i o=>?_⟩;have d:=World.block_lt_of_cell? _ _ (r i o);simp only at d;rw [World.cell?_setCell_other _ _ _ _ (by intro e;simp only [Addr.mk.injEq] at e;omega)];exact c i o
theorem GInv.put {cap:Nat} {wr:World} (h:GInv w its co cap l wr) (m:Nat) (a:m < 6):GInv w its co cap (l++[(m:Int)]) (wr.setCell ⟨w.heap.size+1,m,none⟩ (.bool true)):=by
 refine⟨Oz h.old (by omega) h.rd _ _,?_,?_,h.below.setCell (by simp) _,h.old⟩
 ·rw [Below.heap_setCell _ _ _ _ (by simp)];exact h.box
 ·have:=heap_setCell_same wr (w.heap.size+1) m _ _ (.bool true) h.seen;rw [this,afW l m a]
theorem jT (its:List bn) (co:Option Addr) (cap:Nat) (w:World) (hr:aI w co its) (hm:its.length<=5864062014805) (K:∀ x∈its,x.1.length<=17592186044416) (g:Bool) (hg:g=cK (ak its)):
  kA 60 #[tval co its.length cap] w (.bool g):=by
 have U:=gH hr;have HM:=gH K;have E:=gH hg;have T:=gH Az;clear hr K hg;obtain⟨_,_⟩:=one (aF (at_new w (aT co its.length cap)) (.cells (Dx []) 126));go_enter func60,ntmps60;go_wp2;go_loopw [11] (fun i wr=>∃ k:Nat,k<=its.length∧i=.int .i64 k∧GInv w its co cap ((ak its).take k).flatten wr∧Cv ((ak its).take k).flatten∧∀ j (hj:j < its.length),j < k->1<=its[j].1.length∧its[j].1.length<=3) (fun i _=>its.length - (intOf i).toNat)
 case atStart=>exact⟨0,Nat.zero_le _,rfl,⟨U.out.below (aO _ _ _),aF (at_new _ _) _,bK _ _ _,aO _ _ _,U.out⟩,⟨by simp,by simp⟩,fun j _ h=>by omega⟩
 case round=>
  obtain⟨k,_,rfl,f,t,y⟩:=hrel;obtain⟨_,_⟩:=one f.box;have C:=gH f;have S:Hid (Cv ((ak its).take k).flatten∧∀ j (hj:j < its.length),j < k->1<=its[j].1.length∧its[j].1.length<=3):=⟨t,y⟩;clear f t y;by_cases r:k < its.length
  ·obtain⟨b,O,rfl,P⟩:=C.out.rd.row.resolve_left (by intro h;subst h;simp at r);have V:=P k r;obtain⟨⟨a,R,Z⟩,N⟩:∃ x,x=its[k]:=⟨_,rfl⟩;rw [<-N] at V;have:wr.cell? ⟨b,O+k,none⟩=some (.slice R a.length Z):=V;have s:(a,R,Z)∈its:=(by rw [N];exact List.getElem_mem r);have Y:=HM.out _ s;have:Hid (bV w R a):=(U.out.each _ s).1;have HX:=gH N;have q:k < (ak its).length:=(by simpa using r);have D:Hid ((ak its)[k]=a):=(by show _=_;simp [<-N]);simp only at Y;clear P N s V;by_cases hs:a.length < 1
   ·have d:Hid (g=false):=by
     show g=_;rw [E.out];exact yV (Iz q (by rw [D.out];omega))
    have L:(a.length:Int) < 1:=(by omega);go_wp2;go_ret;exact⟨bD d.out.symm,C.out.below⟩
   ·by_cases ab:3 < a.length
    ·have d:Hid (g=false):=by
      show g=_;rw [E.out];exact yV (Iz q (by rw [D.out];omega))
     have L:(1:Int)<=(a.length:Int):=(by omega);have Nw:(3:Int) < (a.length:Int):=(by omega);go_wp2;go_ret;exact⟨bD d.out.symm,C.out.below⟩
    ·have L:(1:Int)<=(a.length:Int):=(by omega);have Nw:(a.length:Int)<=3:=(by omega);go_wp2;go_loopw [25] (fun i wr=>∃ j:Nat,j<=a.length∧i=.int .i64 j∧GInv w its (some ⟨b,O,none⟩) cap (((ak its).take k).flatten++a.take j) wr∧Cv (((ak its).take k).flatten++a.take j)) (fun i _=>a.length - (intOf i).toNat)
     case atStart=>exact⟨0,Nat.zero_le _,rfl,by simpa using C.out,by simpa using S.out.1⟩
     case round=>
      obtain⟨j,hj,rfl,f,t⟩:=hrel;obtain⟨_,_⟩:=one f.box;have z:=gH f;have F:=gH t;clear f t C;by_cases o:j < a.length
      ·have J:j < (ak its)[k].length:=(by rw [D.out];exact o);obtain⟨_,_,I,A⟩:=((z.out.rd.each (a,R,Z) (by rw [HX.out];exact List.getElem_mem r)).1).resolve_left (by intro h;simp only at h;subst h;simp at o);have h3:=A j o;obtain⟨p,X⟩:∃ p,p=a.getD j 0:=⟨_,rfl⟩;rw [<-X] at h3;have Cj:Hid (a[j]=p):=(by show _=_;rw [X];simp [o]);have G:Hid ((ak its)[k][j]=p):=by
        show _=_;rw [<-Cj.out];simp only [D.out]
       simp only at I A;subst I;have Nc:(j:Int) < (a.length:Int):=(by omega);clear A X;by_cases u:dG p=true
       ·obtain⟨m,rfl⟩:∃ m:Nat,p=m:=⟨p.toNat,by simp [dG] at u;omega⟩;have sO:m < 6:=(by simp [dG] at u;omega);have M:wr.cell? ⟨w.heap.size+1,m,none⟩=some (.bool ((((ak its).take k).flatten++a.take j).contains (m:Int))):=by
         simp only [World.cell?,z.out.seen];exact afV _ m sO
        have:wr.frozen? ⟨w.heap.size+1,m,none⟩=false:=frozen_of_row wr _ m _ _ z.out.seen;cases Q:(((ak its).take k).flatten++a.take j).contains (m:Int) with
        | true=>
         have d:Hid (g=false):=by
          show g=_;rw [E.out];refine yV (Xh q J ?_);rw [G.out,D.out];simpa using Q
         rw [Q] at M;go_wp2_with (go_at_call 68;refine(T.out _ _).mono ?_;rintro e w1 ⟨rfl,rfl⟩);go_ret;exact⟨bD d.out.symm,z.out.below⟩
        | false=>
         have HN:=gH Q;rw [Q] at M;go_wp2_with (go_at_call 68;refine(T.out _ _).mono ?_;rintro e w1 ⟨rfl,rfl⟩);go_roundw
         case rel=>
          have H:a.take (j+1)=a.take j++[(m:Int)]:=by
           rw [List.take_succ_eq_append_getElem o];rw [show a[j]=(m:Int) from Cj.out]
          refine⟨j+1,by omega,by go_num,?_,?_⟩
          ·rw [H, <-List.append_assoc];exact z.out.put m sO
          ·rw [H, <-List.append_assoc];exact acC F.out u (by simpa using HN.out)
         case measure=>simp [intOf];omega
       ·have Dg:dG p=false:=(by simpa using u);have d:Hid (g=false):=by
         show g=_;rw [E.out];exact yV (Xg q J (by rw [G.out];exact Dg))
        go_wp2_with (go_at_call 68;refine(T.out _ _).mono ?_;rintro e w1 ⟨rfl,rfl⟩);go_ret;exact⟨bD d.out.symm,z.out.below⟩
      ·have Nc:(a.length:Int)<=(j:Int):=(by omega);go_wp2;go_roundw
       case rel=>
        have H:((ak its).take (k+1)).flatten=((ak its).take k).flatten++a.take j:=by
         have e2:a.take j=a:=List.take_of_length_le (by omega);rw [List.take_succ_eq_append_getElem q,List.flatten_append,D.out,e2];simp
        refine⟨k+1,by omega,by go_num,?_,?_,?_⟩
        ·rw [H];exact z.out
        ·rw [H];exact F.out
        ·intro i f aa;by_cases e:i=k
         ·subst e;rw [<-HX.out];simp only;omega
         ·exact S.out.2 i f (by omega)
       case measure=>simp [intOf];omega
  ·have HK:Hid (k=its.length):=(by omega:k=its.length);have d:Hid (g=decide (0 < its.length)):=by
    show g=_;obtain⟨W,y⟩:=S.out;rw [HK.out,List.take_of_length_le (by simp)] at W;rw [E.out,Bool.eq_iff_iff,nG,decide_eq_true_eq];refine⟨fun h=>by simpa using h.some,fun h=>⟨by simpa using h,fun c P=>?_,W.1,W.2⟩⟩;obtain⟨i,f,rfl⟩:=List.getElem_of_mem P;simp only [List.getElem_map];exact y i (by simpa using f) (by rw [HK.out];simpa using f)
   go_wp2;go_ret;refine⟨bD ?_,C.out.below⟩;rw [d.out,Bool.eq_iff_iff]
theorem Gt {a n k:Int} (h:n < 1∨6 < n∨k < 0∨n<=k∨24 < a∨a < n+(n - 1)):cZ a n k=(0,0):=by
 unfold cZ;rw [if_pos h]
theorem below_drewN (w:World) (n:Nat):Below w.heap.size w (w.drewN n):=⟨rfl,rfl,rfl,Nat.le_refl _,fun _ _=>rfl⟩
theorem OU (b n k:Int) (w:World) (r:Int×Int) (i:r=cZ b n k):kA 61 #[.int .i64 b,.int .i64 n,.int .i64 k] w (.tuple #[.int .i64 r.1,.int .i64 r.2]):=by
 by_cases h:n < 1∨6 < n∨k < 0∨n<=k∨24 < b
 ·have c:Hid (r=(0,0)):=by
   show r=(0,0);rw [i,Gt (by omega)]
  clear i;rcases h with h | h | h | h | h
  all_goals
   go_enter func61,ntmps61;go_wp2
   all_goals
    refine bodyPost_ret (by simp [results,results61,go_sem];rfl) rfl ?_;rw [c.out]
    first | exact⟨rfl,Below.refl _ _⟩ | exact⟨rfl,below_drewN _ _⟩ | (rw [m.out];first | exact⟨rfl,below_drewN _ _⟩ | (rw [show M+k=M+R by omega];exact⟨rfl,below_drewN _ _⟩))
 ·have:1<=n:=(by omega);have:n<=6:=(by omega);have s:0<=k:=(by omega);have:k < n:=(by omega);have:b<=24:=(by omega);by_cases u:b < n+(n - 1)
  ·have c:Hid (r=(0,0)):=by
    show r=(0,0);rw [i,Gt (by omega)]
   clear i h;go_enter func61,ntmps61;go_wp2
   all_goals
    refine bodyPost_ret (by simp [results,results61,go_sem];rfl) rfl ?_;rw [c.out]
    first | exact⟨rfl,Below.refl _ _⟩ | exact⟨rfl,below_drewN _ _⟩ | (rw [m.out];first | exact⟨rfl,below_drewN _ _⟩ | (rw [show M+k=M+R by omega];exact⟨rfl,below_drewN _ _⟩))
  ·obtain⟨E,f⟩:∃ E,E=(b - (n - 1)) / n:=⟨_,rfl⟩;obtain⟨R,g⟩:∃ R,R=(b - (n - 1)) % n:=⟨_,rfl⟩;have:0<=E:=(by rw [f];exact Int.ediv_nonneg (by omega) (by omega));have:E<=24:=by
    rw [f];have:=Int.ediv_le_self (a:=b - (n - 1)) n (by omega);omega
   have:0<=R:=(by rw [g];exact Int.emod_nonneg _ (by omega));have:R < n:=(by rw [g];exact Int.emod_lt_of_pos _ (by omega));have t:(b - (n - 1)).tdiv n=E:=(by rw [f];exact Int.tdiv_eq_ediv_of_nonneg (by omega));have:(b - (n - 1)).tmod n=R:=(by rw [g];exact Int.tmod_eq_emod_of_nonneg (by omega));obtain⟨M,o⟩:∃ M,M=k*(E+1):=⟨_,rfl⟩;have:0<=M:=(by rw [o];exact Int.mul_nonneg s (by omega));have:M<=150:=by
    have p:k*(E+1)<=6*(E+1):=Int.mul_le_mul_of_nonneg_right (by omega) (by omega);omega
   have:IntKind.i64.wrap (k*(E+1))=M:=(by rw [<-o,IntKind.wrap_i64];omega);have c:Hid (r=(M+min k R,if k < R then E+1 else E)):=by
    show r=_;rw [i];unfold cZ;rw [if_neg (by omega), <-f, <-g,o]
   have:¬ n=0:=(by omega);have:(b - (n - 1)) / n=E:=f.symm;have:(b - (n - 1)) % n=R:=g.symm;have m:Hid (IntKind.i64.wrap ((IntKind.i64.wrap (b - (n - 1))).tdiv n)=E):=by
    show _=_;have p:IntKind.i64.wrap (b - (n - 1))=b - (n - 1):=(by rw [IntKind.wrap_i64];omega);rw [p,t,IntKind.wrap_i64];omega
   clear i h f g o;by_cases q:k < R
   ·have d:Hid (r=(M+k,E+1)):=by
     show r=_;rw [c.out,if_pos q,Int.min_eq_left (by omega)]
    clear c;go_enter func61,ntmps61;go_wp2;go_quiet (fail);go_wp2
    all_goals
     refine bodyPost_ret (by simp [results,results61,go_sem];rfl) rfl ?_;rw [d.out]
     first | exact⟨rfl,Below.refl _ _⟩ | exact⟨rfl,below_drewN _ _⟩ | (rw [m.out];first | exact⟨rfl,below_drewN _ _⟩ | (rw [show M+k=M+R by omega];exact⟨rfl,below_drewN _ _⟩))
   ·have d:Hid (r=(M+R,E)):=by
     show r=_;rw [c.out,if_neg q,Int.min_eq_right (by omega)]
    have:R<=k:=(by omega);clear c;go_enter func61,ntmps61;go_wp2;go_quiet (fail);go_wp2
    all_goals
     refine bodyPost_ret (by simp [results,results61,go_sem];rfl) rfl ?_;rw [d.out]
     first | exact⟨rfl,Below.refl _ _⟩ | exact⟨rfl,below_drewN _ _⟩ | (rw [m.out];first | exact⟨rfl,below_drewN _ _⟩ | (rw [show M+k=M+R by omega];exact⟨rfl,below_drewN _ _⟩))
variable {w w2:World} {its:List bn} {co:Option Addr} {cap:Nat}
@[reducible] def ng:Obj:=.cells #[.int .i64 0,.int .i64 0,.int .i64 0,.int .i64 0] 88
structure jA (w:World) (its:List bn) (co:Option Addr) (cap:Nat) (wx:World):Prop where
 box:wx.heap[w.heap.size]?=some (aT co its.length cap)
 res:wx.heap[w.heap.size+1]?=some (ng)
 rd:aI wx co its
 below:Below w.heap.size w wx
theorem jA.next {b:World} (h:jA w its co cap b) (a:Below b.heap.size b w2):jA w its co cap w2:=
 ⟨aG a h.box (dI h.box),aG a h.res (dI h.res),h.rd.below a,iG h.below a⟩
theorem Pg (a:aI w co its):jA w its co cap ((w.alloc (aT co its.length cap)).alloc (ng)):=
 ⟨aF (at_new w _) _,bK w _ _,a.below (aO _ _ _),aO _ _ _⟩
theorem qI {B:Nat} (h:Below w.heap.size w w2) (a:w.heap.size<=B) (u0 u1 u2 u3:Value):Below w.heap.size w ((((w2.setCell ⟨B,0,none⟩ u0).setCell ⟨B,1,none⟩ u1).setCell ⟨B,2,none⟩ u2).setCell ⟨B,3,none⟩ u3):=
 (((h.setCell a _).setCell a _).setCell a _).setCell a _
theorem Va (its:List bn) (co:Option Addr) (cap:Nat) (wide high p:Int) (w:World) (q:aI w co its) (F:its.length<=5864062014805) (m:∀ x∈its,x.1.length<=17592186044416) (h:cK (ak its)=false∨bL p (ak its)=none):
  kA 30 #[tval co its.length cap,.int .i64 wide,.int .i64 high,.int .i64 p] w (rval dx):=by
 obtain⟨r,o⟩:∃ r,r=bL p (ak its):=⟨_,rfl⟩;obtain⟨g,i⟩:∃ g,g=cK (ak its):=⟨_,rfl⟩;have D:Hid (∀ w,aI w co its->kA 59 #[tval co its.length cap,.int .i64 p] w (.tuple #[.int .i64 (fi r),.int .i64 (fj r),.bool r.isSome])):=fun w q=>by
  refine(yU its co cap p w q F m r o).mono ?_;rintro e K ⟨rfl,rfl⟩;exact⟨rfl,aM _ _⟩
 have H:Hid (∀ w,aI w co its->kA 60 #[tval co its.length cap] w (.bool g)):=fun w q=>jT its co cap w q F m g i;have f:Hid (jA w its co cap ((w.alloc (aT co its.length cap)).alloc (ng))):=Pg q;have E:g=false∨(g=true∧r.isSome=false):=by
  rcases h with h | h
  ·left;rw [i,h]
  ·cases J:g
   ·exact .inl rfl
   ·right;exact⟨rfl,by rw [o,h];rfl⟩
 clear q m o i h F;rcases E with rfl | ⟨rfl,I⟩
 ·go_enter func30,ntmps30
  go_wp2_with (first
   | (go_at_call 59;refine(D.out _ f.out.rd).mono ?_;rintro e G ⟨rfl,c⟩;have a:Hid (jA w its co cap G):=f.out.next c;obtain⟨s,t⟩:=one a.out.box;obtain⟨⟨u,y,z,A⟩,C⟩:=four a.out.res;clear c)
   | (go_at_call 60;refine(H.out _ a.out.rd).mono ?_;rintro e w2 ⟨rfl,d⟩;have b:Hid (jA w its co cap w2):=a.out.next d;clear s t u y z A C;obtain⟨s,t⟩:=one b.out.box;obtain⟨⟨u,y,z,A⟩,C⟩:=four b.out.res;clear d)
   | fail)
  refine bodyPost_ret (v:=rval dx) (by simp [results,results30,go_sem,dx, *]) rfl ?_;exact⟨rfl,qI b.out.below (by omega) _ _ _ _⟩
 ·rw [I] at D;clear I;go_enter func30,ntmps30
  go_wp2_with (first
   | (go_at_call 59;refine(D.out _ f.out.rd).mono ?_;rintro e G ⟨rfl,c⟩;have a:Hid (jA w its co cap G):=f.out.next c;obtain⟨s,t⟩:=one a.out.box;obtain⟨⟨u,y,z,A⟩,C⟩:=four a.out.res;clear c)
   | (go_at_call 60;refine(H.out _ a.out.rd).mono ?_;rintro e w2 ⟨rfl,d⟩;have b:Hid (jA w its co cap w2):=a.out.next d;clear s t u y z A C;obtain⟨s,t⟩:=one b.out.box;obtain⟨⟨u,y,z,A⟩,C⟩:=four b.out.res;clear d)
   | fail)
  refine bodyPost_ret (v:=rval dx) (by simp [results,results30,go_sem,dx, *]) rfl ?_;exact⟨rfl,qI b.out.below (by omega) _ _ _ _⟩
theorem ahC {R:Nat} {a c:World} {x b:Int} (h:jA w its co cap a) (i:a.heap[R]?=some (ng)) (m:w.heap.size+2<=R) (d:Below ((a.setCell ⟨R,1,none⟩ (.int .i64 x)).setCell ⟨R,3,none⟩ (.int .i64 b)).heap.size ((a.setCell ⟨R,1,none⟩ (.int .i64 x)).setCell ⟨R,3,none⟩ (.int .i64 b)) c):
  c.heap[R]?=some (fK ⟨0,x,0,b⟩)∧c.heap[w.heap.size+1]?=some (ng)∧Below w.heap.size w c:=by
 have o:=heap_setCell_same a R 1 _ _ (.int .i64 x) i;have f:=heap_setCell_same _ R 3 _ _ (.int .i64 b) o;have g:((a.setCell ⟨R,1,none⟩ (.int .i64 x)).setCell ⟨R,3,none⟩ (.int .i64 b)).heap[w.heap.size+1]?=some (ng):=by
  rw [Below.heap_setCell _ _ _ _ (by simp;omega),Below.heap_setCell _ _ _ _ (by simp;omega)];exact h.res
 refine⟨?_,aG d g (dI g),iG ((h.below.setCell (by simp;omega) _).setCell (by simp;omega) _) d⟩;have:=aG d f (dI f);simpa [fK,pz] using this
theorem ahG (its:List bn) (co:Option Addr) (cap:Nat) (wide high p:Int) (w:World) (z:aI w co its) (hm:its.length <= 5864062014805) (u:∀ x ∈ its, x.1.length <= 17592186044416) (O:cK (ak its) = true) (i j:Nat) (V:bL p (ak its) = some (i, j)) (o q:Int × Int) (S:o = cZ wide its.length i) (X:q = cZ high ((ak its).getD i []).length j) (r:Rc) (c:r = if o.2 = 0 ∨ q.2 = 0 then dx else ⟨q.1, o.1, q.2, o.2⟩):
    kC 30 #[tval co its.length cap, .int .i64 wide, .int .i64 high, .int .i64 p] w fun e d => e = .returned (rval r) ∧ Below w.heap.size w d := by
  have HF : Hid (∀ w, aI w co its -> kC 59 #[tval co its.length cap, .int .i64 p] w fun e d => e = .returned (.tuple #[.int .i64 i, .int .i64 j, .bool true]) ∧ Below w.heap.size w d) := fun w z => by
    refine (yU its co cap p w z hm u (some (i, j)) V.symm).mono ?_
    rintro e d ⟨rfl, rfl⟩
    exact ⟨rfl, aM _ _⟩
  have HG : Hid (∀ w, aI w co its -> kC 60 #[tval co its.length cap] w fun e d => e = .returned (.bool true) ∧ Below w.heap.size w d) := fun w z => jT its co cap w z hm u true O.symm
  have H : Hid (jA w its co cap ((w.alloc (aT co its.length cap)).alloc (ng))) := Pg z
  have hi : i < its.length := by obtain ⟨S, _⟩ := jI V; simpa using S
  obtain ⟨b, R, rfl, hc⟩ := z.row.resolve_left (by intro h; subst h; simp at hi)
  have m := hc i hi
  have Y : b < w.heap.size := World.block_lt_of_cell? _ _ m
  obtain ⟨⟨T, x2, x3⟩, hx⟩ : ∃ x, x = its[i] := ⟨_, rfl⟩
  rw [<- hx] at m
  have U : Hid (w.cell? ⟨b, R + i, none⟩ = some (.slice x2 T.length x3)) := m
  have Q : ((ak its).getD i []).length = T.length := by simp [hi, <- hx]
  rw [Q] at X
  have H1 : Hid (∀ W, kC 61 #[.int .i64 wide, .int .i64 its.length, .int .i64 i] W fun e d => e = .returned (.tuple #[.int .i64 o.1, .int .i64 o.2]) ∧ Below W.heap.size W d) := fun W => OU wide its.length i W o S
  have H2 : Hid (∀ W, kC 61 #[.int .i64 high, .int .i64 T.length, .int .i64 j] W fun e d => e = .returned (.tuple #[.int .i64 q.1, .int .i64 q.2]) ∧ Below W.heap.size W d) := fun W => OU high T.length j W q X
  have aa : (i : Int) < (its.length : Int) := by omega
  obtain ⟨x, G⟩ := o
  obtain ⟨y, P⟩ := q
  simp only at H1 H2 c
  clear z u O V hc m hx Q S X
  have Z : (G = 0 ∧ r = dx) ∨ ((G == 0) = false ∧ P = 0 ∧ r = dx) ∨ ((G == 0) = false ∧ (P == 0) = false ∧ r = ⟨y, x, P, G⟩) := by
    by_cases s : G = 0
    · left; exact ⟨s, by rw [c, if_pos (.inl s)]⟩
    · by_cases K : P = 0
      · right; left; exact ⟨by simp [s], K, by rw [c, if_pos (.inr K)]⟩
      · right; right; exact ⟨by simp [s], by simp [K], by rw [c, if_neg (by omega)]⟩
  clear c
  rcases Z with ⟨s, rfl⟩ | ⟨s, K, rfl⟩ | ⟨s, K, rfl⟩
  all_goals
    go_enter func30, ntmps30
    go_wp2_with (first
      | (go_at_call 59; refine (HF.out _ H.out.rd).mono ?_; rintro e w1 ⟨rfl, L⟩; have f : Hid (jA w its _ cap w1) := H.out.next L; obtain ⟨I, J⟩ := one f.out.box; obtain ⟨⟨A, C, D, E⟩, F⟩ := four f.out.res; clear L)
      | (go_at_call 60; refine (HG.out _ f.out.rd).mono ?_; rintro e w2 ⟨rfl, M⟩; have g : Hid (jA w its _ cap w2) := f.out.next M; clear I J A C D E F; obtain ⟨I, J⟩ := one (aF g.out.box (ng)); obtain ⟨⟨A, C, D, E⟩, F⟩ := four g.out.res; have hR : w.heap.size + 2 <= w2.heap.size := (by have := dI g.out.res; omega); have n1 : ¬ w2.heap.size = w.heap.size := (by omega); have n2 : ¬ w.heap.size = w2.heap.size := (by omega); have n3 : ¬ b = w2.heap.size := (by omega); have n4 : ¬ w2.heap.size = b := (by omega); have n5 : ¬ w.heap.size + 1 = w2.heap.size := (by omega); have n6 : ¬ w2.heap.size = w.heap.size + 1 := (by omega); clear M)
      | (go_at_call_of 61 (Value.int IntKind.i64 wide); refine (H1.out _).mono ?_; rintro e w3 ⟨rfl, t⟩; have a : Hid (jA w its _ cap w3 ∧ w3.heap[w2.heap.size]? = some (ng)) := ⟨g.out.next (iG (aM _ _) t), aG t (at_new _ _) (by simp)⟩; clear I J A C D E F t; obtain ⟨I, J⟩ := one a.out.1.box; obtain ⟨⟨A, C, D, E⟩, F⟩ := four a.out.2; have c1 := (a.out.1.below.cell (p := ⟨b, R + i, none⟩) Y).trans U.out)
      | (go_at_call_of 61 (Value.int IntKind.i64 high); refine (H2.out _).mono ?_; rintro e w4 ⟨rfl, N⟩; obtain ⟨f1, f2, f3⟩ := ahC a.out.1 a.out.2 hR N; have HE : Hid (Below w.heap.size w w4) := f3; clear I J A C D E F c1 N f3; obtain ⟨⟨A, C, D, E⟩, F⟩ := four f1; obtain ⟨⟨d3, d4, d5, d6⟩, d7⟩ := four f2; clear f1 f2)
      | fail)
    first
      | (refine bodyPost_ret (v := rval dx) (by simp [results, results30, go_sem, dx, *]) rfl ?_
         exact ⟨rfl, qI ((HE.out.setCell (by simp; omega) _).setCell (by simp; omega) _) (by omega) _ _ _ _⟩)
      | (refine bodyPost_ret (v := rval ⟨y, x, P, G⟩) (by simp [results, results30, go_sem, *]) rfl ?_
         exact ⟨rfl, qI ((HE.out.setCell (by simp; omega) _).setCell (by simp; omega) _) (by omega) _ _ _ _⟩)
theorem U7 (its:List bn) (co:Option Addr) (cap:Nat) (wide high p:Int) (w:World) (g:aI w co its) (f:its.length<=5864062014805) (b:∀ x∈its,x.1.length<=17592186044416) (r:Rc) (c:r=gW (ak its) wide high p):
  kA 30 #[tval co its.length cap,.int .i64 wide,.int .i64 high,.int .i64 p] w (rval r):=by
 cases a:cK (ak its) with
 | false=>
  have:r=dx:=(by rw [c];simp [gW,a]);subst this;exact Va its co cap wide high p w g f b (.inl a)
 | true=>
  cases d:bL p (ak its) with
  | none=>
   have:r=dx:=(by rw [c];simp [gW,a,d]);subst this;exact Va its co cap wide high p w g f b (.inr d)
  | some x=>
   obtain⟨i,j⟩:=x;refine ahG its co cap wide high p w g f b a i j d _ _ rfl rfl r ?_;rw [c];unfold gW;rw [if_neg (by simp [a]),d];simp only [ak,List.length_map]
variable {w:World} {base n sz:Nat} {e:TypeId} {v:Value} {xs:List Value}
@[reducible] def ints (l:List Int):List Value:=l.map (Value.int .i64)
theorem info3:(prog.info? 3).map (fun i=>(i.zero,i.size,i.bytes))=some (some (.int .i64 0),1,8):=by kernel_rfl
theorem zk:(prog.info? 38).map (fun i=>(i.zero,i.size,i.bytes))=some (some (.slice none 0 0),1,24):=by kernel_rfl
theorem SE (w:World) (a:Option Addr) (n c:Nat):(binOp .eql 38 (.slice a n c) (.slice none 0 0)).run prog w=.ok (.bool a.isNone) w:=Lib.run_eql_slice_nil w 38 3 a n c 0 0 underlying38
theorem mJ (b o j:Nat):(⟨b,o,none⟩:Addr).add j=⟨b,o+j,none⟩:=by unfold Addr.add;split <;>simp_all
theorem Jl (l:List Int):∀ v∈ints l,v.oneCell'=true:=by
 intro v a;obtain⟨_,_,rfl⟩:=List.mem_map.1 a
 rfl
theorem oG (h:w.ownsRow base e 1 v n xs):∃ a cap,v=.slice a n cap:=by
 rcases h.2 with ⟨rfl,c⟩ | ⟨g,cap,b,rfl,_⟩
 ·exact⟨none,0,by rw [c]⟩
 ·exact⟨_,_,rfl⟩
theorem TU {a:Addr} {l:List Int} (i:bV w (some a) l) (j:Nat) (u:Value) (d:(ints l)[j]?=some u):w.cell? (a.add j)=some u:=by
 have c:j < l.length:=by have:=(gL d).1;simpa using this
 rcases i with h | ⟨b,m,f,g⟩
 ·subst h;simp at c
 ·simp only [Option.some.injEq] at f;subst f;rw [mJ,g j c];simp [ints,c] at d;simp [c,d]
theorem EX (w:World):kD 16 #[.slice none 0 0] w (.slice none 0 0):=by
 have:=SE;go_enter func16,ntmps16;go_wp2;go_ret;exact⟨rfl,rfl⟩
theorem EY (a:Addr) (cap:Nat) (l:List Int) (w:World) (o:bV w (some a) l) (D:l.length<=17592186044416):
  kC 16 #[.slice (some a) l.length cap] w fun e p=>∃ m f,e=.returned (.slice m l.length f)∧p.ownsRow w.heap.size 3 1 (.slice m l.length f) l.length (ints l)∧Below w.heap.size w p:=by
 obtain⟨A,x,g,h,i⟩:=info_parts info3;have:=SE;have s:Hid (∀ j u,(ints l)[j]?=some u->(w.alloc (.cells #[] 3)).cell? (a.add j)=some u):=fun j u z=>TU (o.below (aM w _)) j u z;clear o;go_enter func16,ntmps16;go_wp2_with (first | (at_builtin;refine wpList_append_own _ rfl _ _ 38 rfl w.heap.size 3 A (.int .i64 0) 1 8 underlying38 x g h i rfl (by decide) _ 0 [] rfl (World.ownsRow_made w #[] 0 (Nat.le_refl _) (by decide) rfl) a l.length cap (ints l) rfl (by simp) s.out (Jl l) (by unfold maxLen;omega) (by omega) (by simp) ?_) | go_in);intro E C d b _;obtain⟨t,c,rfl⟩:=oG d;have q:Hid (Below w.heap.size w C):=((Below.refl _ _).alloc (Nat.le_refl _) _).grown b (by simp) (fun k y=>by simp [Value.ownBlock] at y;omega);have r:=gH d;clear d b;go_wp2;go_ret;exact⟨t,c,rfl,r.out,q.out⟩
theorem uD (x:bn) (w:World) (o:bV w x.2.1 x.1) (m:x.2.1=none->x.1=[]∧x.2.2=0) (i:x.1.length<=17592186044416):
  kC 16 #[.slice x.2.1 x.1.length x.2.2] w fun e c=>∃ d b,e=.returned (.slice d x.1.length b)∧c.ownsRow w.heap.size 3 1 (.slice d x.1.length b) x.1.length (ints x.1)∧Below w.heap.size w c:=by
 obtain⟨l,h,cap⟩:=x;cases h with
 | none=>
  obtain⟨f,g⟩:=m rfl;simp only at f g;subst f g;refine(EX w).mono ?_;rintro e c ⟨rfl,rfl⟩;exact⟨none,0,rfl,World.ownsRow_nil _ _ _ _,Below.refl _ _⟩
 | some a=>exact EY a cap l w o i
theorem kR {w':World} (h:w.ownsRow base e sz v n xs) (m:Below w.heap.size w w'):w'.ownsRow base e sz v n xs:=by
 refine⟨h.1,?_⟩;rcases h.2 with i | ⟨g,c,b,o,d,f,a⟩
 ·exact .inl i
 ·exact .inr ⟨g,c,b,o,d,aG m f (dI f),a⟩
theorem uS {B j:Nat} {u:Value} (h:w.ownsRow base e sz v n xs) (o:B < base):(w.setCell ⟨B,j,none⟩ u).ownsRow base e sz v n xs:=by
 refine⟨h.1,?_⟩;rcases h.2 with f | ⟨g,c,b,m,d,i,a⟩
 ·exact .inl f
 ·refine .inr ⟨g,c,b,m,d,?_,a⟩;rw [Below.heap_setCell _ _ _ _ (by simp;omega)];exact i
theorem xZ {a:Nat} (h:w.ownsRow base e sz v n xs) (o:a<=base):w.ownsRow a e sz v n xs:=by
 refine⟨h.1,?_⟩;rcases h.2 with f | ⟨g,c,d,m,i,b⟩
 ·exact .inl f
 ·exact .inr ⟨g,c,d,m,by omega,b⟩
theorem Gi {x:bn} (h:w.ownsRow base 3 1 (cv x) x.1.length (ints x.1)):bV w x.2.1 x.1∧(x.2.1=none->x.1=[]∧x.2.2=0):=by
 obtain⟨l,_,_⟩:=x;rcases h.2 with ⟨a,f⟩ | ⟨g,c,m,a,r,p,o,_,q,i⟩
 ·simp only [cv,Value.slice.injEq] at a f;obtain⟨rfl,_,rfl⟩:=a;have:l=[]:=List.length_eq_zero_iff.1 f;exact⟨.inl this,fun _=>⟨this,rfl⟩⟩
 ·simp only [cv,Value.slice.injEq] at a i q o;obtain⟨rfl,_,rfl⟩:=a;refine⟨.inr ⟨g,0,rfl,fun j b=>?_⟩,fun h=>by cases h⟩;have d:(ints l)[j]?=some (.int .i64 (l.getD j 0)):=(by simp only at b;simp [b]);rw [<-i,List.getElem?_take_of_lt (by simp only at b;omega)] at d;simp only [World.cell?,p,Nat.zero_add];simpa using d
structure Lr (w:World) (ia ib:List bn) (oa ob:Option Addr) (n ca cb:Nat) (wx:World):Prop where
 LM:wx.heap[w.heap.size]?=some (aT oa n ca)
 LP:wx.heap[w.heap.size+1]?=some (aT ob n cb)
 OA:aI wx oa ia
 OB:aI wx ob ib
 below:Below w.heap.size w wx
theorem afO (c g:List bn) (z A:Option Addr) (n E F:Nat) (w:World) (X:aI w z c) (Y:aI w A g) (r:ak g=ak c) (hn:n=c.length) (hm:n<=5864062014805) (t:∀ x∈c,x.1.length<=17592186044416):
  kA 14 #[tval z n E,tval A n F] w (.bool true):=by
 have D:Hid (Lr w c g z A n E F ((w.alloc (aT z n E)).alloc (aT A n F))):=⟨aF (at_new w _) _,bK w _ _,X.below (aO _ _ _),Y.below (aO _ _ _),aO _ _ _⟩;have M:Hid (ak g=ak c∧n=c.length):=⟨r,hn⟩;have HM:=gH t;clear X Y r hn t;obtain⟨S,T⟩:=one D.out.LM;obtain⟨U,V⟩:=one D.out.LP;go_enter func14,ntmps14;go_wp2;clear S T U V;go_loopw [16] (fun i wr=>∃ k:Nat,k<=n∧i=.int .i64 k∧Lr w c g z A n E F wr) (fun i _=>n - (intOf i).toNat)
 case atStart=>exact⟨0,Nat.zero_le _,rfl,D.out⟩
 case round=>
  obtain⟨k,_,rfl,Z⟩:=hrel;have a:=gH Z;clear Z D;obtain⟨S,T⟩:=one a.out.LM;obtain⟨U,V⟩:=one a.out.LP;by_cases ae:k < n
  ·have aa:(k:Int) < (n:Int):=(by omega);have d:k < c.length:=(by have:=M.out.2;omega);have f:k < g.length:=by
    have:=congrArg List.length M.out.1;simp only [ak,List.length_map] at this;omega
   obtain⟨b,R,rfl,r⟩:=a.out.OA.row.resolve_left (by intro h;subst h;simp at d);obtain⟨b',C,rfl,s⟩:=a.out.OB.row.resolve_left (by intro h;subst h;simp at f);have O:=r k d;have P:=s k f;obtain⟨⟨x1,I,J⟩,G⟩:∃ x,x=c[k]:=⟨_,rfl⟩;obtain⟨⟨o,K,L⟩,H⟩:∃ y,y=g[k]:=⟨_,rfl⟩;rw [<-G] at O;rw [<-H] at P;have Q:o=x1:=by
    have W:(ak g)[k]?=(ak c)[k]?:=(by rw [M.out.1]);simp only [ak,List.getElem?_map,List.getElem?_eq_getElem d,List.getElem?_eq_getElem f,Option.map_some,Option.some.injEq, <-G, <-H] at W;exact W
   subst Q;have p:(o,I,J)∈c:=(by rw [G];exact List.getElem_mem d);have u:(o,K,L)∈g:=(by rw [H];exact List.getElem_mem f);have N:Hid (∀ m,kC 36 #[.slice I o.length J,.slice K o.length L] (wr.drewN m) fun e w'=>e=.returned (.bool true)∧∃ q,w'=(wr.drewN m).drewN q):=fun m=>
    afN o I K J L (wr.drewN m) (bV.below (a.out.OA.each _ p).1 (below_drewN wr m)) (bV.below (a.out.OB.each _ u).1 (below_drewN wr m)) (HM.out _ p)
   have ab:wr.cell? ⟨b,R+k,none⟩=some (.slice I o.length J):=O;have ac:wr.cell? ⟨b',C+k,none⟩=some (.slice K o.length L):=P;clear r s G H p u O P d f;go_wp2_with fail;go_quiet ((go_at_call 36;exact Calls.quiet_of (N.out _)));go_wp2;go_roundw
   case rel=>exact⟨k+1,by omega,by go_num,a.out.LM,a.out.LP,a.out.OA.below (below_drewN _ _),a.out.OB.below (below_drewN _ _),iG a.out.below (below_drewN _ _)⟩
   case measure=>simp [intOf];omega
  ·have ad:(n:Int)<=(k:Int):=(by omega);go_wp2;go_ret;exact⟨rfl,a.out.below⟩
end Go.Proofs.YtkcdcamophkdlaaGreatDoor.Tl
