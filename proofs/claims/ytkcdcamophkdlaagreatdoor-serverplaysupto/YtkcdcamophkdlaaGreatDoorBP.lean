import Derived.Test.YtkcdcamophkdlaaGreatDoorBO
set_option maxHeartbeats 4000000
set_option maxRecDepth 100000
open Go.Proofs.Tryz
namespace Go.Proofs.YtkcdcamophkdlaaGreatDoor.Tl
open Go.RowKit
variable (its:List bn) (co:Option Addr) (cap:Nat) (p n:Int) (right:Bool) {w:World} {base:Nat} {v:Value} {o:Obj}
theorem Jz {b:World} {n:Nat} {k:List Value} {e:TypeId} (h:w.ownsRow base e 1 v n k) (d:base<=w.heap.size) {a:World} (c:Below base a w) (f:(w.alloc o).grownBy b v.ownBlock):Below base a b:=
 (c.alloc d o).grown f (by simp;omega) (fun j g=>uO h g)
theorem adi {V:Nat} {n:Int} (h:w.heap[V]?=some (.cells #[.int .i64 n] 3)) (a:base<=V):w.ownsRow base 3 1 (cv ([n],some ⟨V,0,none⟩,1)) 1 (ints [n]):=
 ⟨rfl,.inr ⟨V,1,_,rfl,a,h,Nat.le_refl _,by unfold maxLen;omega,rfl,rfl⟩⟩
theorem afl {its:List bn} {co:Option Addr} {cap O:Nat} {a:List bn} {x:bn} {wr:World} (h:jw w its co cap O (a++[x]) v wr) {b:Obj}:((wr.alloc o).alloc b).ownsRow (O+1) 38 1 v (a.length+1) ((a++[x]).map cv):=by
 have:=kR h.row (aO wr o b);simpa using this
theorem agB (w:World) (hr:aI w co its) (hm:its.length<=5864062014805) (aB:∀ x∈its,x.1.length<=17592186044416) (r:List (List Int)×Int) (aq:r=dP (ak its) p n right) (h1:cK (ak its)=true) (h2:dG n=true) (z j:Nat) (Y:bL p (ak its)=some (z,j)) (h4:aR (ak its) n=false):
  kC 24 #[tval co its.length cap,.int .i64 p,.int .i64 n,.bool right] w (vE w r):=by
 obtain⟨i0,aa,ah,ai,al⟩:=info_parts info3;obtain⟨i1,ab,ae,af,ag⟩:=info_parts zk;have ok:=(nG _).1 h1;have M:=CV h1;have jh:Hid (JInv w its co cap ((w.alloc (aT co its.length cap)).alloc (aT none 0 0))):=Jo hr;have HR:Hid (aI w co its):=hr;have HP:Hid (∀ w,kD 49 #[.int .i64 n] w (.bool true)):=fun w=>by have:=NK n w;rw [h2] at this;exact this
 have mG:Hid (∀ W,aI W co its->kA 48 #[tval co its.length cap] W (.bool true)):=fun W h=>Am its co cap W h hm aB true h1.symm;have kL:Hid (∀ W,aI W co its->kA 23 #[tval co its.length cap,.int .i64 p] W (.bool true)):=fun W h=>pU its co cap p W h hm M.2.1 true (by unfold aR;rw [Y];rfl);have wL:Hid (∀ W,aI W co its->kA 23 #[tval co its.length cap,.int .i64 n] W (.bool false)):=fun W h=>pU its co cap n W h hm M.2.1 false h4.symm;have HL:Hid (∀ k (hk:k < (ak its).length),(fI p n right (ak its)[k]).length<=3∧¬ (right=false∧z=k∧((ak its).getD z []).length=3)∨(right=false∧z=k∧((ak its).getD z []).length=3)∧(fI p n right (ak its)[k]).length=4):=fun k hk=>Yg ok Y hk;have Vy:Hid ((right=false∧((ak its).getD z []).length=3)->r=(ak its,5)):=by
  rintro⟨e1,e2⟩;rw [aq];simp only [dP,h1,h2,Y,h4,e1,e2];simp
 have KZ:Hid (¬ (right=false∧((ak its).getD z []).length=3)->r=(fF p n right (ak its),0)):=by
  intro hn;obtain⟨hi,_⟩:=jI Y;rw [aq];cases right with
  | true=>
   rw [ac7 ok Y];simp [dP,h1,h2,Y,h4]
  | false=>
   have h3:((ak its).getD z []).length≠3:=fun e=>hn ⟨rfl,e⟩;have hg:(ak its).getD z []=(ak its)[z]:=by
    rw [List.getD_eq_getElem?_getD,List.getElem?_eq_getElem hi]
    rfl
   rw [ac5 ok Y hi, <-hg];simp only [dP,h1,h2,Y,h4,h3];simp
 have FE:=M.1;have a9:z < its.length:=by obtain⟨q,_⟩:=jI Y;simpa using q
 have Ld:Hid (∀ x∈its,x.1.length<=3):=M.2.2;clear hr aB aq h1 h2 h4 Y M ok;go_enter func24,ntmps24
 go_wp2_with (first
  | (go_at_call 48;refine(mG.out _ jh.out.rd).mono ?_;rintro e w1 ⟨rfl,au⟩;have eX:Hid (JInv w its co cap w1):=jh.out.next au;clear au;obtain⟨H,I⟩:=one eX.out.box;obtain⟨a3,a4⟩:=one eX.out.res)
  | (go_at_call 49;refine(HP.out _).mono ?_;rintro e w2 ⟨rfl,rfl⟩)
  | (have _t:=dz;go_at_call 23;refine(wL.out _ dz.out.rd).mono ?_;rintro e f ⟨rfl,aw⟩;have nR:Hid (JInv w its co cap f):=dz.out.next aw;clear aw H I a3 a4;obtain⟨H,I⟩:=one (aF nR.out.box (Bq (.slice none 0 0))))
  | (go_at_call 23;refine(kL.out _ eX.out.rd).mono ?_;rintro e w3 ⟨rfl,av⟩;have dz:Hid (JInv w its co cap w3):=eX.out.next av;clear av H I a3 a4;obtain⟨H,I⟩:=one dz.out.box;obtain⟨a3,a4⟩:=one dz.out.res)
  | fail)
 have yF:Hid (jw w its co cap f.heap.size [] (.slice none 0 0) (f.alloc (Bq (.slice none 0 0)))):=nR.out.make HR.out;clear H I jh eX dz mG kL wL HP;go_loopw [38] (fun i wr=>∃ (k:Nat) (a:List bn) (v:Value),k<=its.length∧i=.int .i64 k∧jw w its co cap f.heap.size a v wr∧ak a=fF p n right ((ak its).take k)∧a.length<=2*k∧((right=false∧((ak its).getD z []).length=3)->k<=z)) (fun i _=>its.length - (intOf i).toNat)
 case atStart=>exact⟨0,[],_,Nat.zero_le _,rfl,yF.out,rfl,by simp,fun _=>Nat.zero_le _⟩
 case round=>
  obtain⟨k,a,v,hk,rfl,an,Fx,a7,aA⟩:=hrel;have zM:Hid ((right=false∧((ak its).getD z []).length=3)->k<=z):=aA;clear aA;have Z:Hid (jw w its co cap f.heap.size a v wr):=an;have HC:Hid (ak a=fF p n right ((ak its).take k)):=Fx;obtain⟨H,I⟩:=one Z.out.box;obtain⟨a3,a4⟩:=one Z.out.res;obtain⟨V,X⟩:=one Z.out.out;have a0:f.heap.size < wr.heap.size:=dI Z.out.out;clear an Fx yF;by_cases ac:k < its.length
  ·have aW:(k:Int) < (its.length:Int):=(by omega);obtain⟨b,C,rfl,hc⟩:=Z.out.rd.row.resolve_left (by intro h;subst h;simp at ac);have h0:=hc k ac;obtain⟨⟨g,x2,x3⟩,hx⟩:∃ x,x=its[k]:=⟨_,rfl⟩;rw [<-hx] at h0;have h1:wr.cell? ⟨b,C+k,none⟩=some (.slice x2 g.length x3):=h0;have N:(g,x2,x3)∈its:=(by rw [hx];exact List.getElem_mem ac);have aQ:=Ld.out _ N;have jM:Hid (bV wr x2 g):=(Z.out.rd.each _ N).1;have az:k < (ak its).length:=(by simpa using ac);have jO:Hid ((ak its)[k]=g):=(by show _=_;simp [<-hx]);simp only at aQ;clear hc h0 hx N;obtain⟨s,rfl⟩:∃ s,s=wr:=⟨_,rfl⟩;go_wp2;go_loopw [13,14,44] (fun aS aJ i wi=>∃ m:Nat,m<=g.length∧i=.int .i64 m∧aJ=.bool (decide (p∈g.take m))∧wi.ownsRow s.heap.size 3 1 aS (fI p n right (g.take m)).length (ints (fI p n right (g.take m)))∧Below s.heap.size s wi∧(fI p n right (g.take m)).length<=2*m) (fun _ _ i _=>g.length - (intOf i).toNat)
   case atStart=>exact⟨0,Nat.zero_le _,rfl,by simp,by simpa [fI] using World.ownsRow_nil _ _ _ _,Below.refl _ _,by simp [fI]⟩
   case round=>
    obtain⟨m,ba,rfl,rfl,O,am,aK⟩:=hrel;obtain⟨L,hL⟩:∃ L,L=fI p n right (g.take m):=⟨_,rfl⟩;rw [<-hL] at O aK;have l:Hid (wr.ownsRow s.heap.size 3 1 u13 L.length (ints L)∧Below s.heap.size s wr):=⟨O,am⟩;have uY:Hid (L=fI p n right (g.take m)):=hL;clear O am hL;by_cases ad:m < g.length
    ·have aX:(m:Int) < (g.length:Int):=(by omega);obtain⟨bl,ol,aL,ax⟩:=(bV.below jM.out l.out.2).resolve_left (by intro h;subst h;simp at ad);subst aL;have h3:=ax m ad;obtain⟨q,hq⟩:∃ q,q=g.getD m 0:=⟨_,rfl⟩;rw [<-hq] at h3;have HT:Hid (g.take (m+1)=g.take m++[q]):=by
      show _=_;rw [List.take_succ_eq_append_getElem ad,hq];simp [ad]
     clear ax hq;by_cases he:q=p
     ·subst he;cases right with
      | true=>
       have J:Hid (fI q n true (g.take (m+1))=L++[q]∧decide (q∈g.take (m+1))=true):=by
        refine⟨?_,?_⟩
        ·rw [HT.out,L8, <-uY.out,if_neg (by simp)]
        ·rw [HT.out];simp
       go_wp2_with (at_builtin;refine wpList_append_own _ rfl _ _ 38 rfl s.heap.size 3 i0 (.int .i64 0) 1 8 underlying38 aa ah ai al rfl (by decide) _ L.length (ints L) rfl (kR l.out.1 (aM _ _)) ⟨wr.heap.size,0,none⟩ 1 1 [.int .i64 q] rfl rfl (kN (at_new _ _)) (by intro u t;simp at t;subst t;rfl) (by unfold maxLen;omega) (by omega) (by have:=l.out.2.size;simp;omega) ?_);intro v5 w5 d A _;have S:Hid (w5.ownsRow s.heap.size 3 1 v5 (L.length+1) (ints L++[.int .i64 q])∧Below s.heap.size s w5):=⟨d,Jz l.out.1 l.out.2.size l.out.2 A⟩;clear d A;go_wp2;go_roundw
       case rel=>
        refine⟨m+1,by omega,by go_num,?_,?_,S.out.2,?_⟩
        ·rw [J.out.2]
        ·rw [J.out.1];simpa using S.out.1
        ·rw [J.out.1];simp;omega
       case measure=>simp [intOf];omega
      | false=>
       have J:Hid (fI q n false (g.take (m+1))=L++[q,n]∧decide (q∈g.take (m+1))=true):=by
        refine⟨?_,?_⟩
        ·rw [HT.out,L8, <-uY.out,if_pos ⟨rfl,rfl⟩]
        ·rw [HT.out];simp
       go_wp2_with (at_builtin;refine wpList_append_own _ rfl _ _ 38 rfl s.heap.size 3 i0 (.int .i64 0) 1 8 underlying38 aa ah ai al rfl (by decide) _ L.length (ints L) rfl (kR l.out.1 (aM _ _)) ⟨wr.heap.size,0,none⟩ 1 1 [.int .i64 q] rfl rfl (kN (at_new _ _)) (by intro u t;simp at t;subst t;rfl) (by unfold maxLen;omega) (by omega) (by have:=l.out.2.size;simp;omega) ?_);intro v5 w5 d A _;have S:Hid (w5.ownsRow s.heap.size 3 1 v5 (L.length+1) (ints L++[.int .i64 q])∧Below s.heap.size s w5):=⟨d,Jz l.out.1 l.out.2.size l.out.2 A⟩;clear d A;go_wp2_with (at_builtin;refine wpList_append_own _ rfl _ _ 38 rfl s.heap.size 3 i0 (.int .i64 0) 1 8 underlying38 aa ah ai al rfl (by decide) _ (L.length+1) (ints L++[.int .i64 q]) rfl (kR S.out.1 (aM _ _)) ⟨w5.heap.size,0,none⟩ 1 1 [.int .i64 n] rfl rfl (kN (at_new _ _)) (by intro u t;simp at t;subst t;rfl) (by unfold maxLen;omega) (by omega) (by have:=S.out.2.size;simp;omega) ?_);intro v6 w6 P ay _;have yK:Hid (w6.ownsRow s.heap.size 3 1 v6 (L.length+1+1) (ints L++[.int .i64 q,.int .i64 n])∧Below s.heap.size s w6):=⟨P,Jz S.out.1 S.out.2.size S.out.2 ay⟩;clear P ay;go_wp2;go_roundw
       case rel=>
        refine⟨m+1,by omega,by go_num,?_,?_,yK.out.2,?_⟩
        ·rw [J.out.2]
        ·rw [J.out.1];have:=yK.out.1;simpa using this
        ·rw [J.out.1];simp;omega
       case measure=>simp [intOf];omega
     ·have J:Hid (fI p n right (g.take (m+1))=L++[q]∧decide (p∈g.take (m+1))=decide (p∈g.take m)):=by
       refine⟨?_,?_⟩
       ·rw [HT.out,L8, <-uY.out,if_neg (fun h=>he h.1)]
       ·rw [HT.out,Bool.eq_iff_iff,decide_eq_true_eq,decide_eq_true_eq,List.mem_append,List.mem_singleton];exact⟨fun h=>h.resolve_right (fun e=>he e.symm),.inl⟩
      have a8:¬ q=p:=he;go_wp2_with (at_builtin;refine wpList_append_own _ rfl _ _ 38 rfl s.heap.size 3 i0 (.int .i64 0) 1 8 underlying38 aa ah ai al rfl (by decide) _ L.length (ints L) rfl (kR l.out.1 (aM _ _)) ⟨wr.heap.size,0,none⟩ 1 1 [.int .i64 q] rfl rfl (kN (at_new _ _)) (by intro u t;simp at t;subst t;rfl) (by unfold maxLen;omega) (by omega) (by have:=l.out.2.size;simp;omega) ?_);intro v5 w5 d A _;have S:Hid (w5.ownsRow s.heap.size 3 1 v5 (L.length+1) (ints L++[.int .i64 q])∧Below s.heap.size s w5):=⟨d,Jz l.out.1 l.out.2.size l.out.2 A⟩;clear d A;go_wp2;go_roundw
      case rel=>
       refine⟨m+1,by omega,by go_num,?_,?_,S.out.2,?_⟩
       ·rw [J.out.2]
       ·rw [J.out.1];simpa using S.out.1
       ·rw [J.out.1];simp;omega
      case measure=>simp [intOf];omega
    ·have aO:(g.length:Int)<=(m:Int):=(by omega);have CX:L=fI p n right g:=(by rw [uY.out,List.take_of_length_le (by omega)]);have B:decide (p∈g.take m)=decide (p∈g):=(by rw [List.take_of_length_le (by omega)]);rw [B];have G:Hid (jw w its (some ⟨b,C,none⟩) cap f.heap.size a v wr):=Z.out.next l.out.2;have ar:=oG l.out.1;obtain⟨D,c,rfl⟩:=ar;have K:=HL.out k az;rw [jO.out, <-CX] at K;have aE:Hid (L=fI p n right g):=CX;clear H I a3 a4 V X CX B;obtain⟨H,I⟩:=one G.out.box;obtain⟨a3,a4⟩:=one G.out.res;obtain⟨V,X⟩:=one G.out.out;rcases K with ⟨aY,aC⟩ | ⟨aN,aZ⟩
     ·have aU:((L.length:Nat):Int)<=3:=(by omega);have KQ:Hid ((right=false∧((ak its).getD z []).length=3)->k+1<=z):=by
       intro h;have h1:=zM.out h;have h2:z≠k:=fun e=>aC ⟨h.1,e,h.2⟩;omega
      have Cg:Hid (fF p n right ((ak its).take (k+1))=fF p n right ((ak its).take k)++L::(if right=true∧p∈g then [[n]] else [])):=by
       show _=_;rw [List.take_succ_eq_append_getElem az,ac8,jO.out, <-aE.out]
      clear aC;by_cases B:p∈g
      ·rw [decide_eq_true B];cases right with
       | true=>
        go_wp2_with (at_builtin;refine wpList_append_own _ rfl _ _ 28 rfl (f.heap.size+1) 38 i1 (.slice none 0 0) 1 24 underlying28 ab ae af ag rfl (by decide) _ a.length (a.map cv) rfl (kR G.out.row (aM _ _)) ⟨wr.heap.size,0,none⟩ 1 1 [.slice D L.length c] rfl rfl (kN (at_new _ _)) (by intro u t;simp at t;subst t;rfl) (by unfold maxLen;omega) (by omega) (by have:=l.out.2.size;simp;omega) ?_);intro v7 y T R _;have Q:=oG T;obtain⟨E,F,rfl⟩:=Q;have nS:Hid (jw w its (some ⟨b,C,none⟩) cap f.heap.size (a++[(L,D,c)]) (.slice E (a.length+1) F) (y.setCell ⟨f.heap.size,0,none⟩ (.slice E (a.length+1) F))):=G.out.push (L,D,c) (xZ l.out.1 (by omega)) T R;have U:=G.out.F4 R;clear H I a3 a4 V X;obtain⟨V,X⟩:=one U;have aD:f.heap.size < y.heap.size:=dI U;clear T R U;have z7:(y.setCell ⟨f.heap.size,0,none⟩ (.slice E (a.length+1) F)).heap.size=y.heap.size:=(by simp [World.setCell]);have aG:Hid (∀ o,((y.setCell ⟨f.heap.size,0,none⟩ (.slice E (a.length+1) F)).alloc o).heap[y.heap.size]?=some o):=fun o=>by
         have:=at_new (y.setCell ⟨f.heap.size,0,none⟩ (.slice E (a.length+1) F)) o;rw [z7] at this;exact this
        have aH:Hid (∀ o o',(((y.setCell ⟨f.heap.size,0,none⟩ (.slice E (a.length+1) F)).alloc o).alloc o').heap[y.heap.size+1]?=some o'):=fun o o'=>by
         have:=bK (y.setCell ⟨f.heap.size,0,none⟩ (.slice E (a.length+1) F)) o o';rw [z7] at this;exact this
        have jL:Hid (f.heap.size+1<=(y.setCell ⟨f.heap.size,0,none⟩ (.slice E (a.length+1) F)).heap.size):=(by show _<=_;rw [z7];omega);clear z7;go_wp2_with (at_builtin;refine wpList_append_own _ rfl _ _ 28 rfl (f.heap.size+1) 38 i1 (.slice none 0 0) 1 24 underlying28 ab ae af ag rfl (by decide) _ (a.length+1) ((a++[(L,D,c)]).map cv) rfl (afl nS.out) ⟨y.heap.size+1,0,none⟩ 1 1 [.slice (some ⟨y.heap.size,0,none⟩) 1 1] rfl rfl (kN (aH.out _ _)) (by intro u t;simp at t;subst t;rfl) (by unfold maxLen;omega) (by omega) (by have:=jL.out;simp;omega) ?_);intro v9 w9 Nl M7 _;have aP:=oG Nl;obtain⟨c9,k9,rfl⟩:=aP;have ap:(a++[(L,D,c)]).length=a.length+1:=(by simp);have PN:Hid (jw w its (some ⟨b,C,none⟩) cap f.heap.size (a++[(L,D,c)]) (.slice E (a.length+1) F) ((y.setCell ⟨f.heap.size,0,none⟩ (.slice E (a.length+1) F)).alloc (.cells #[.int .i64 n] 3))):=nS.out.next (aM _ _);have KR:Hid (jw w its (some ⟨b,C,none⟩) cap f.heap.size (a++[(L,D,c)]++[([n],some ⟨y.heap.size,0,none⟩,1)]) (.slice c9 (a.length+1+1) k9) (w9.setCell ⟨f.heap.size,0,none⟩ (.slice c9 (a.length+1+1) k9))):=
         PN.out.push ([n],some ⟨y.heap.size,0,none⟩,1) (adi (aG.out _) (by omega)) (by rw [ap,List.map_append,List.append_assoc];exact Nl) M7
        have q9:=PN.out.F4 M7;clear V X;obtain⟨V,X⟩:=one q9;clear Nl M7 q9 ap;go_wp2;go_roundw
        case rel=>
         refine⟨k+1,a++[(L,D,c)]++[([n],some ⟨y.heap.size,0,none⟩,1)],_,by omega,by go_num,KR.out,?_,by simp;omega,KQ.out⟩;rw [Cg.out,if_pos ⟨by first | rfl | trivial,B⟩, <-HC.out];simp [ak]
        case measure=>simp [intOf];omega
       | false=>
        go_wp2_with (at_builtin;refine wpList_append_own _ rfl _ _ 28 rfl (f.heap.size+1) 38 i1 (.slice none 0 0) 1 24 underlying28 ab ae af ag rfl (by decide) _ a.length (a.map cv) rfl (kR G.out.row (aM _ _)) ⟨wr.heap.size,0,none⟩ 1 1 [.slice D L.length c] rfl rfl (kN (at_new _ _)) (by intro u t;simp at t;subst t;rfl) (by unfold maxLen;omega) (by omega) (by have:=l.out.2.size;simp;omega) ?_);intro v7 y T R _;have Q:=oG T;obtain⟨E,F,rfl⟩:=Q;have nS:Hid (jw w its (some ⟨b,C,none⟩) cap f.heap.size (a++[(L,D,c)]) (.slice E (a.length+1) F) (y.setCell ⟨f.heap.size,0,none⟩ (.slice E (a.length+1) F))):=G.out.push (L,D,c) (xZ l.out.1 (by omega)) T R;have U:=G.out.F4 R;clear H I a3 a4 V X;obtain⟨V,X⟩:=one U;have aD:f.heap.size < y.heap.size:=dI U;clear T R U;go_wp2;go_roundw
        case rel=>
         refine⟨k+1,a++[(L,D,c)],_,by omega,by go_num,nS.out,?_,by simp;omega,KQ.out⟩;rw [Cg.out,if_neg (by first | (intro h;exact absurd h.1 (by decide)) | (intro h;exact B h.2)), <-HC.out];simp [ak]
        case measure=>simp [intOf];omega
      ·rw [decide_eq_false B];go_wp2_with (at_builtin;refine wpList_append_own _ rfl _ _ 28 rfl (f.heap.size+1) 38 i1 (.slice none 0 0) 1 24 underlying28 ab ae af ag rfl (by decide) _ a.length (a.map cv) rfl (kR G.out.row (aM _ _)) ⟨wr.heap.size,0,none⟩ 1 1 [.slice D L.length c] rfl rfl (kN (at_new _ _)) (by intro u t;simp at t;subst t;rfl) (by unfold maxLen;omega) (by omega) (by have:=l.out.2.size;simp;omega) ?_);intro v7 y T R _;have Q:=oG T;obtain⟨E,F,rfl⟩:=Q;have nS:Hid (jw w its (some ⟨b,C,none⟩) cap f.heap.size (a++[(L,D,c)]) (.slice E (a.length+1) F) (y.setCell ⟨f.heap.size,0,none⟩ (.slice E (a.length+1) F))):=G.out.push (L,D,c) (xZ l.out.1 (by omega)) T R;have U:=G.out.F4 R;clear H I a3 a4 V X;obtain⟨V,X⟩:=one U;have aD:f.heap.size < y.heap.size:=dI U;clear T R U;go_wp2;go_roundw
       case rel=>
        refine⟨k+1,a++[(L,D,c)],_,by omega,by go_num,nS.out,?_,by simp;omega,KQ.out⟩;rw [Cg.out,if_neg (by first | (intro h;exact absurd h.1 (by decide)) | (intro h;exact B h.2)), <-HC.out];simp [ak]
       case measure=>simp [intOf];omega
     ·obtain⟨e1,e2,e3⟩:=aN;have HZ:Hid (r=(ak its,5)):=Vy.out ⟨e1,e3⟩;have aV:(3:Int) < ((L.length:Nat):Int):=(by omega);subst e1;go_wp2;refine bodyPost_ret (v:=.tuple #[tval (some ⟨b,C,none⟩) its.length cap,.int .i64 5]) (by simp [results,results24,go_sem, *]) rfl ?_;exact yQ G.out.old G.out.below 5 r HZ.out
  ·have aO:(its.length:Int)<=(k:Int):=(by omega);have HZ:Hid (r=(ak a,0)):=by
    show r=_;have e:¬ (right=false∧((ak its).getD z []).length=3):=fun h=>(by have:=zM.out h;omega);rw [KZ.out e,HC.out,List.take_of_length_le (by simp;omega)]
   have ar:=oG Z.out.row;obtain⟨c2,k2,rfl⟩:=ar;go_wp2;refine bodyPost_ret (v:=.tuple #[tval c2 a.length k2,.int .i64 0]) (by simp [results,results24,go_sem, *]) rfl ?_;exact Z.out.fin r HZ.out
theorem agC (w:World) (f:aI w co its) (e:its.length<=5864062014805) (b:∀ x∈its,x.1.length<=17592186044416) (r:List (List Int)×Int) (c:r=dP (ak its) p n right):
  kC 24 #[tval co its.length cap,.int .i64 p,.int .i64 n,.bool right] w (vE w r):=by
 cases a:cK (ak its) with
 | false=>exact JU its co cap p n right w f e b r c (.inl a)
 | true=>
  cases d:dG n with
  | false=>exact JU its co cap p n right w f e b r c (.inr (.inl ⟨a,d⟩))
  | true=>
   cases g:bL p (ak its) with
   | none=>exact JU its co cap p n right w f e b r c (.inr (.inr (.inl ⟨a,d,g⟩)))
   | some x=>
    obtain⟨i,j⟩:=x;cases h:aR (ak its) n with
    | true=>exact JU its co cap p n right w f e b r c (.inr (.inr (.inr ⟨a,d,by unfold aR;rw [g];rfl,h⟩)))
    | false=>exact agB its co cap p n right w f e b r c a d i j g h
variable (its:List bn) (co:Option Addr) (cap:Nat) (p:Int) (w:World) {aj:List (List Int)} {i j:Nat}
theorem adf {w b:World} {base n:Nat} {v:Value} {k:List Value} {e:TypeId} (h:w.ownsRow base e 1 v n k) (d:base<=w.heap.size) {a:World} (c:Below base a w) {o:Obj} (f:(w.alloc o).grownBy b v.ownBlock):Below base a b:=
 (c.alloc d o).grown f (by simp;omega) (fun j g=>uO h g)
theorem acX {p:Int} (k:eY aj) (f:bL p aj=some (i,j)):aj.flatten.length=1↔((aj.getD i []).length=1∧aj.length=1):=by
 obtain⟨b,_,_⟩:=jI f;have g:aj.getD i []=aj[i]:=by
  rw [List.getD_eq_getElem?_getD,List.getElem?_eq_getElem b]
  rfl
 rw [g];have l:=Mt aj (fun c e=>(k.kI c e).1);constructor
 ·intro h;have a:aj.length=1:=by omega
  match aj,a with
  | [c],_=>
   have:i=0:=(by simp at b;omega);subst this;simpa using h
 ·rintro⟨a,d⟩
  match aj,d with
  | [c],_=>
   have:i=0:=(by simp at b;omega);subst this;simpa using a
theorem Sc {p:Int} (f:cK aj=true) (d:bL p aj=some (i,j)):dS aj p=if aj.flatten.length=1 then (aj,5) else (lJ p aj,0):=by
 have k:=(nG _).1 f;obtain⟨g,_,_⟩:=jI d;have c:=acX k d;have e:aj.getD i []=aj[i]:=by
  rw [List.getD_eq_getElem?_getD,List.getElem?_eq_getElem g]
  rfl
 have l:=ac3 k d g;unfold dS;rw [if_neg (by simp [f]),d];simp only;rw [e] at c ⊢;rw [l];by_cases a:aj[i].length=1
 ·by_cases b:aj.length=1
  ·rw [if_pos a,if_pos b,if_pos (c.2 ⟨a,b⟩)]
  ·rw [if_pos a,if_neg b,if_neg (fun h=>b (c.1 h).2),if_pos a]
 ·rw [if_neg a,if_neg (fun h=>a (c.1 h).1),if_neg a]
theorem NM (D:aI w co its) (s:its.length<=5864062014805) (f:∀ x∈its,x.1.length<=17592186044416) (r:List (List Int)×Int) (g:r=dS (ak its) p) (h:cK (ak its)=false∨(cK (ak its)=true∧bL p (ak its)=none)∨(cK (ak its)=true∧aR (ak its) p=true∧(ak its).flatten.length=1)):
  kC 25 #[tval co its.length cap,.int .i64 p] w (vE w r):=by
 have B:Hid (JInv w its co cap ((w.alloc (aT co its.length cap)).alloc (aT none 0 0))):=Jo D;have I:Hid (aI w co its):=D;rcases h with h | ⟨m,q⟩ | ⟨m,q,J⟩
 ·have k:Hid (r=(ak its,1)):=(by show r=_;rw [g];simp [dS,h]);have F:Hid (∀ W,aI W co its->kA 48 #[tval co its.length cap] W (.bool false)):=fun W E=>Am its co cap W E s f false h.symm;clear D f g h s;go_enter func25,ntmps25
  go_wp2_with (first
   | (go_at_call 48;refine(F.out _ B.out.rd).mono ?_;rintro e G ⟨rfl,a⟩;have b:Hid (JInv w its co cap G):=B.out.next a;clear a;obtain⟨t,u⟩:=one b.out.box;obtain⟨y,z⟩:=one b.out.res)
   | fail)
  refine bodyPost_ret (v:=.tuple #[tval co its.length cap,.int .i64 1]) (by simp [results,results25,go_sem, *]) rfl ?_;exact yQ I.out b.out.below 1 r k.out
 ·have k:Hid (r=(ak its,3)):=(by show r=_;rw [g];simp [dS,m,q]);have d:=CV m;have K:Hid (∀ W,aI W co its->kA 23 #[tval co its.length cap,.int .i64 p] W (.bool false)):=fun W h=>pU its co cap p W h s d.2.1 false (by unfold aR;rw [q];rfl);have F:Hid (∀ W,aI W co its->kA 48 #[tval co its.length cap] W (.bool true)):=fun W E=>Am its co cap W E s f true m.symm;clear D f g m s q d;go_enter func25,ntmps25
  go_wp2_with (first
   | (go_at_call 48;refine(F.out _ B.out.rd).mono ?_;rintro e G ⟨rfl,a⟩;have b:Hid (JInv w its co cap G):=B.out.next a;clear a;obtain⟨t,u⟩:=one b.out.box;obtain⟨y,z⟩:=one b.out.res)
   | (go_at_call 23;refine(K.out _ b.out.rd).mono ?_;rintro e M ⟨rfl,l⟩;have A:Hid (JInv w its co cap M):=b.out.next l;clear l t u y z;obtain⟨t,u⟩:=one A.out.box;obtain⟨y,z⟩:=one A.out.res)
   | fail)
  refine bodyPost_ret (v:=.tuple #[tval co its.length cap,.int .i64 3]) (by simp [results,results25,go_sem, *]) rfl ?_;exact yQ I.out A.out.below 3 r k.out
 ·have k:Hid (r=(ak its,5)):=by
   show r=_;rw [g];cases N:bL p (ak its) with
   | none=>unfold aR at q;rw [N] at q;cases q
   | some x=>rw [Sc m N,if_pos J]
  have d:=CV m;have K:Hid (∀ W,aI W co its->kA 23 #[tval co its.length cap,.int .i64 p] W (.bool true)):=fun W h=>pU its co cap p W h s d.2.1 true q.symm;have Q:Hid (∀ W,aI W co its->kC 26 #[tval co its.length cap] W fun e O=>∃ H c,e=.returned (.slice H 1 c)∧Below W.heap.size W O):=by
   intro W h;refine(EP its co cap W h s d.2.1 _ rfl).mono ?_;rintro e O ⟨H,c,rfl,_,P⟩;exact⟨H,c,by rw [J],P⟩
  have F:Hid (∀ W,aI W co its->kA 48 #[tval co its.length cap] W (.bool true)):=fun W E=>Am its co cap W E s f true m.symm;clear D f g m s q J d;go_enter func25,ntmps25
  go_wp2_with (first
   | (go_at_call 48;refine(F.out _ B.out.rd).mono ?_;rintro e G ⟨rfl,a⟩;have b:Hid (JInv w its co cap G):=B.out.next a;clear a;obtain⟨t,u⟩:=one b.out.box;obtain⟨y,z⟩:=one b.out.res)
   | (go_at_call 23;refine(K.out _ b.out.rd).mono ?_;rintro e M ⟨rfl,l⟩;have A:Hid (JInv w its co cap M):=b.out.next l;clear l t u y z;obtain⟨t,u⟩:=one A.out.box;obtain⟨y,z⟩:=one A.out.res)
   | (go_at_call 26;refine(Q.out _ A.out.rd).mono ?_;rintro e R ⟨H,c,rfl,C⟩;have L:Hid (JInv w its co cap R):=A.out.next C;clear C t u y z;obtain⟨t,u⟩:=one L.out.box;obtain⟨y,z⟩:=one L.out.res)
   | fail)
  refine bodyPost_ret (v:=.tuple #[tval co its.length cap,.int .i64 5]) (by simp [results,results25,go_sem, *]) rfl ?_;exact yQ I.out L.out.below 5 r k.out
theorem abB (hr:aI w co its) (hm:its.length<=5864062014805) (ad:∀ x∈its,x.1.length<=17592186044416) (r:List (List Int)×Int) (ae:r=dS (ak its) p) (U:cK (ak its)=true) (N:aR (ak its) p=true) (h4:(ak its).flatten.length≠1):
  kC 25 #[tval co its.length cap,.int .i64 p] w (vE w r):=by
 obtain⟨i0,al,aw,ax,ay⟩:=info_parts info3;obtain⟨i1,am,ar,au,av⟩:=info_parts zk;have l:=CV U;have jh:Hid (JInv w its co cap ((w.alloc (aT co its.length cap)).alloc (aT none 0 0))):=Jo hr;have HR:Hid (aI w co its):=hr;have mG:Hid (∀ W,aI W co its->kA 48 #[tval co its.length cap] W (.bool true)):=fun W h=>Am its co cap W h hm ad true U.symm;have kL:Hid (∀ W,aI W co its->kA 23 #[tval co its.length cap,.int .i64 p] W (.bool true)):=fun W h=>pU its co cap p W h hm l.2.1 true N.symm;obtain⟨F,hF⟩:∃ F,F=(ak its).flatten.length:=⟨_,rfl⟩;have af:(((F:Nat):Int)==1)=false:=by simp;omega
 have qO:Hid (∀ W,aI W co its->kC 26 #[tval co its.length cap] W fun e w'=>∃ D c,e=.returned (.slice D F c)∧Below W.heap.size W w'):=by
  intro W h;refine(EP its co cap W h hm l.2.1 _ rfl).mono ?_;rintro e w' ⟨D,c,rfl,_,hb⟩;exact⟨D,c,by rw [hF],hb⟩
 have KZ:Hid (r=(lJ p (ak its),0)):=by
  show r=_;rw [ae];cases hf:bL p (ak its) with
  | none=>unfold aR at N;rw [hf] at N;cases N
  | some x=>rw [Sc U hf,if_neg h4]
 have FE:=l.1;have Ld:Hid (∀ x∈its,x.1.length<=3):=l.2.2;clear hr ad ae U N h4 l hF;go_enter func25,ntmps25
 go_wp2_with (first
  | (go_at_call 48;refine(mG.out _ jh.out.rd).mono ?_;rintro e w1 ⟨rfl,Y⟩;have T:Hid (JInv w its co cap w1):=jh.out.next Y;clear Y;obtain⟨B,C⟩:=one T.out.box;obtain⟨K,M⟩:=one T.out.res)
  | (go_at_call 23;refine(kL.out _ T.out.rd).mono ?_;rintro e w3 ⟨rfl,Z⟩;have S:Hid (JInv w its co cap w3):=T.out.next Z;clear Z B C K M;obtain⟨B,C⟩:=one S.out.box;obtain⟨K,M⟩:=one S.out.res)
  | (go_at_call 26;refine(qO.out _ S.out.rd).mono ?_;rintro e z ⟨D,c,rfl,aa⟩;have nR:Hid (JInv w its co cap z):=S.out.next aa;clear aa B C K M;obtain⟨B,C⟩:=one (aF nR.out.box (Bq (.slice none 0 0))))
  | fail)
 have yF:Hid (jw w its co cap z.heap.size [] (.slice none 0 0) (z.alloc (Bq (.slice none 0 0)))):=nR.out.make HR.out;clear B C jh T S mG kL qO af;go_loopw [29] (fun i wr=>∃ (k:Nat) (a:List bn) (v:Value),k<=its.length∧i=.int .i64 k∧jw w its co cap z.heap.size a v wr∧ak a=lJ p ((ak its).take k)∧a.length<=k) (fun i _=>its.length - (intOf i).toNat)
 case atStart=>exact⟨0,[],_,Nat.zero_le _,rfl,yF.out,rfl,by simp⟩
 case round=>
  obtain⟨k,a,v,hk,rfl,J,Fx,aC⟩:=hrel;have A:Hid (jw w its co cap z.heap.size a v wr):=J;have HC:Hid (ak a=lJ p ((ak its).take k)):=Fx;obtain⟨B,C⟩:=one A.out.box;obtain⟨K,M⟩:=one A.out.res;obtain⟨a5,a6⟩:=one A.out.out;have aB:z.heap.size < wr.heap.size:=dI A.out.out;clear J Fx yF;by_cases G:k < its.length
  ·have az:(k:Int) < (its.length:Int):=(by omega);obtain⟨b,Q,rfl,hc⟩:=A.out.rd.row.resolve_left (by intro h;subst h;simp at G);have h0:=hc k G;obtain⟨⟨d,x2,x3⟩,hx⟩:∃ x,x=its[k]:=⟨_,rfl⟩;rw [<-hx] at h0;have U:wr.cell? ⟨b,Q+k,none⟩=some (.slice x2 d.length x3):=h0;have s:(d,x2,x3)∈its:=(by rw [hx];exact List.getElem_mem G);have aq:=Ld.out _ s;have jM:Hid (bV wr x2 d):=(A.out.rd.each _ s).1;have an:k < (ak its).length:=(by simpa using G);have jO:Hid ((ak its)[k]=d):=(by show _=_;simp [<-hx]);simp only at aq;clear hc h0 hx s;obtain⟨g,rfl⟩:∃ g,g=wr:=⟨_,rfl⟩;go_wp2;go_loopw [9,35] (fun v9 i wi=>∃ m:Nat,m<=d.length∧i=.int .i64 m∧wi.ownsRow g.heap.size 3 1 v9 (fu p (d.take m)).length (ints (fu p (d.take m)))∧Below g.heap.size g wi∧(fu p (d.take m)).length<=m) (fun _ i _=>d.length - (intOf i).toNat)
   case atStart=>exact⟨0,Nat.zero_le _,rfl,by simpa [fu] using World.ownsRow_nil _ _ _ _,Below.refl _ _,by simp [fu]⟩
   case round=>
    obtain⟨m,aE,rfl,t,I,ag⟩:=hrel;obtain⟨L,hL⟩:∃ L,L=fu p (d.take m):=⟨_,rfl⟩;rw [<-hL] at t ag;have f:Hid (wr.ownsRow g.heap.size 3 1 u9 L.length (ints L)∧Below g.heap.size g wr):=⟨t,I⟩;have uY:Hid (L=fu p (d.take m)):=hL;clear t I hL;by_cases H:m < d.length
    ·have aA:(m:Int) < (d.length:Int):=(by omega);obtain⟨bl,ol,ah,ab⟩:=(bV.below jM.out f.out.2).resolve_left (by intro h;subst h;simp at H);subst ah;have N:=ab m H;obtain⟨q,hq⟩:∃ q,q=d.getD m 0:=⟨_,rfl⟩;rw [<-hq] at N;have HT:Hid (d.take (m+1)=d.take m++[q]):=by
      show _=_;rw [List.take_succ_eq_append_getElem H,hq];simp [H]
     clear ab hq;by_cases he:q=p
     ·subst he;have R:Hid (fu q (d.take (m+1))=L):=by
       show _=_;rw [HT.out,Qv, <-uY.out,if_pos rfl,List.append_nil]
      go_wp2;go_roundw
      case rel=>
       refine⟨m+1,by omega,by go_num,?_,f.out.2,?_⟩
       ·rw [R.out];exact f.out.1
       ·rw [R.out];omega
      case measure=>simp [intOf];omega
     ·have R:Hid (fu p (d.take (m+1))=L++[q]):=by
       show _=_;rw [HT.out,Qv, <-uY.out,if_neg he]
      have aD:¬ q=p:=he;go_wp2_with (at_builtin;refine wpList_append_own _ rfl _ _ 38 rfl g.heap.size 3 i0 (.int .i64 0) 1 8 underlying38 al aw ax ay rfl (by decide) _ L.length (ints L) rfl (kR f.out.1 (aM _ _)) ⟨wr.heap.size,0,none⟩ 1 1 [.int .i64 q] rfl rfl (kN (at_new _ _)) (by intro u hu;simp at hu;subst hu;rfl) (by unfold maxLen;omega) (by omega) (by have:=f.out.2.size;simp;omega) ?_);intro v5 w5 y ac _;have lU:Hid (w5.ownsRow g.heap.size 3 1 v5 (L.length+1) (ints L++[.int .i64 q])∧Below g.heap.size g w5):=⟨y,adf f.out.1 f.out.2.size f.out.2 ac⟩;clear y ac;go_wp2;go_roundw
      case rel=>
       refine⟨m+1,by omega,by go_num,?_,lU.out.2,?_⟩
       ·rw [R.out];simpa using lU.out.1
       ·rw [R.out];simp;omega
      case measure=>simp [intOf];omega
    ·have ai:(d.length:Int)<=(m:Int):=(by omega);have CX:L=fu p d:=(by rw [uY.out,List.take_of_length_le (by omega)]);have P:Hid (jw w its (some ⟨b,Q,none⟩) cap z.heap.size a v wr):=A.out.next f.out.2;have O:=oG f.out.1;obtain⟨D,c,rfl⟩:=O;have Cg:Hid (lJ p ((ak its).take (k+1))=lJ p ((ak its).take k)++(if L=[] then [] else [L])):=by
      show _=_;rw [List.take_succ_eq_append_getElem an,ac4,jO.out, <-CX]
     clear B C K M a5 a6 CX;obtain⟨B,C⟩:=one P.out.box;obtain⟨K,M⟩:=one P.out.res;obtain⟨a5,a6⟩:=one P.out.out;by_cases E:L.length=0
     ·have X:L=[]:=List.length_eq_zero_iff.1 E;have V:((L.length:Nat):Int)<=0:=(by omega);have jG:Hid (L=[]):=X;clear X E;go_wp2;go_roundw
      case rel=>
       refine⟨k+1,a,v,by omega,by go_num,P.out,?_,by omega⟩;rw [Cg.out,if_pos jG.out,List.append_nil,HC.out]
      case measure=>simp [intOf];omega
     ·have V:(0:Int) < ((L.length:Nat):Int):=(by omega);have jG:Hid (L≠[]):=(by show L≠[];intro e;rw [e] at E;simp at E);go_wp2_with (at_builtin;refine wpList_append_own _ rfl _ _ 28 rfl (z.heap.size+1) 38 i1 (.slice none 0 0) 1 24 underlying28 am ar au av rfl (by decide) _ a.length (a.map cv) rfl (kR P.out.row (aM _ _)) ⟨wr.heap.size,0,none⟩ 1 1 [.slice D L.length c] rfl rfl (kN (at_new _ _)) (by intro u hu;simp at hu;subst hu;rfl) (by unfold maxLen;omega) (by omega) (by have:=f.out.2.size;simp;omega) ?_);intro v7 w7 nI jE _;have ap:=oG nI;obtain⟨c7,k7,rfl⟩:=ap;have nS:Hid (jw w its (some ⟨b,Q,none⟩) cap z.heap.size (a++[(L,D,c)]) (.slice c7 (a.length+1) k7) (w7.setCell ⟨z.heap.size,0,none⟩ (.slice c7 (a.length+1) k7))):=P.out.push (L,D,c) (xZ f.out.1 (by omega)) nI jE;have q7:=P.out.F4 jE;clear B C K M a5 a6;obtain⟨a5,a6⟩:=one q7;clear nI jE q7;go_wp2;go_roundw
      case rel=>
       refine⟨k+1,a++[(L,D,c)],_,by omega,by go_num,nS.out,?_,by simp;omega⟩;rw [Cg.out,if_neg jG.out, <-HC.out];simp [ak]
      case measure=>simp [intOf];omega
  ·have ai:(its.length:Int)<=(k:Int):=(by omega);have HZ:Hid (r=(ak a,0)):=by
    show r=_;rw [KZ.out,HC.out,List.take_of_length_le (by simp;omega)]
   have O:=oG A.out.row;obtain⟨c2,k2,rfl⟩:=O;go_wp2;refine bodyPost_ret (v:=.tuple #[tval c2 a.length k2,.int .i64 0]) (by simp [results,results25,go_sem, *]) rfl ?_;exact A.out.fin r HZ.out
theorem abC (e:aI w co its) (d:its.length<=5864062014805) (b:∀ x∈its,x.1.length<=17592186044416) (r:List (List Int)×Int) (c:r=dS (ak its) p):
  kC 25 #[tval co its.length cap,.int .i64 p] w (vE w r):=by
 cases a:cK (ak its) with
 | false=>exact NM its co cap p w e d b r c (.inl a)
 | true=>
  cases f:bL p (ak its) with
  | none=>exact NM its co cap p w e d b r c (.inr (.inl ⟨a,f⟩))
  | some x=>
   have h:aR (ak its) p=true:=(by unfold aR;rw [f];rfl);by_cases g:(ak its).flatten.length=1
   ·exact NM its co cap p w e d b r c (.inr (.inr ⟨a,h,g⟩))
   ·exact abB its co cap p w e d b r c a h g
end Go.Proofs.YtkcdcamophkdlaaGreatDoor.Tl
