import Derived.Test.YtkcdcamophkdlaaGreatDoorAJ
import Derived.Test.YtkcdcamophkdlaaGreatDoorAG
set_option maxHeartbeats 1600000
open Go.Proofs.Tryz
namespace Go.Proofs.YtkcdcamophkdlaaGreatDoor.Ps
open Go.RowKit
theorem Zy (f:PS) (ao:Option Addr) (cap:Nat) (s:ByteArray) (w:World) (U:Rd w ao f.ps) (hn:ao=none->f.ps.length=0∧cap=0) (hm:f.ps.length*8<=140737488355328) (hs:s.size<=1048576):
  kC 89 #[.agg #[.int .i64 f.place,.slice ao f.ps.length cap,.string f.pl,.bool f.lg],.string s] w fun e M=>Pv w f s e M:=by
 have HR:=gH U;have HN:=gH hn;clear U hn;go_enter func89,ntmps89;go_wp2_with fail;refine(uD ao cap f.ps _ (HR.out.below (((Below.refl _ _).alloc (Nat.le_refl _) _).alloc (by simp) _)) HN.out hm).mono ?_;rintro e w1 ⟨D,E,rfl,q,G⟩;have J:=aG G (aF (at_new w _) _) (by simp;omega);have Q:=aG G (bK w _ _) (by simp);obtain⟨a0,a1,a2,S,f0,f1,f2,f3⟩:=four J;have af:Below w.heap.size w w1:=(((Below.refl _ _).alloc (Nat.le_refl _) _).alloc (by simp) _).trans (G.mono (by simp;omega));have ae:w.heap.size+2<=w1.heap.size:=by have:=G.size;simp at this;omega
 simp only [World.size_alloc] at q;have C0:=Xn (u:=.slice D f.ps.length E) J;have C1:=cO (u:=.slice D f.ps.length E) (j:=1) (B:=w.heap.size) Q (by omega);have H:Own (w.heap.size+2) (w1.setCell ⟨w.heap.size,1,none⟩ (.slice D f.ps.length E)) D E f.ps:=rT q (fun e=>by have:=(qd q e).1;simp at this;omega) _;have RI:Below w.heap.size w (w1.setCell ⟨w.heap.size,1,none⟩ (.slice D f.ps.length E)):=af.setCell (Nat.le_refl _) _;have H1:Hid _:=C0;have H2:Hid _:=C1;have H3:Hid _:=H;have H4:Hid _:=RI;have K:Hid (w.heap.size+2<=(w1.setCell ⟨w.heap.size,1,none⟩ (.slice D f.ps.length E)).heap.size):=by show _<=_;simpa using ae
 clear G J Q af ae q C0 C1 H RI;go_wp2_with fail;refine(jT f D E _ (Own.rd H3.out) (by omega)).mono ?_;rintro e w2 ⟨rfl,n⟩;obtain⟨c0,c1,c2,T,g0,g1,g2,g3⟩:=four (aG n H1.out (by have:=K.out;omega));obtain⟨d0,d1,d2,d3,k0,k1,k2,k3⟩:=four (aG n H2.out (by have:=K.out;omega));clear a0 a1 a2 S f0 f1 f2 f3;cases hg:fD f
 ·have HB:Hid (Below w.heap.size w w2):=H4.out.trans (n.mono (by have:=K.out;omega));have HO:Hid (Own (w.heap.size+2) w2 D E f.ps):=uP H3.out (Below.nO n none) (by cases D <;>simp [blk]);clear n;go_wp2;refine bodyPost_ret (v:=.tuple #[.agg #[.int .i64 f.place,.slice D f.ps.length E,.string f.pl,.bool f.lg],.slice none 0 0,.int .i64 1]) (by simp [results,results89,go_sem,d0,d1,d2,d3]) rfl ?_;refine⟨?_,fun _=>⟨D,E,rfl,?_⟩,fun h=>absurd (hg.symm.trans h) (by decide)⟩
  ·exact(((HB.out.setCell (by simp) _).setCell (by simp) _).setCell (by simp) _).setCell (by simp) _
  ·refine Bc (base:=w.heap.size+2) ?_ (by omega)
   iterate 4 (refine rT ?_ (fun e=>by have:=(qd HO.out e).1;simp at this) _)
   exact HO.out
 ·have HG:Hid (GoodS f):=(IW f).1 hg;have HI:Hid (yA w.heap.size w w2 f [] D E none 0 []):=
   ⟨H4.out.trans (n.mono (by have:=K.out;omega)),by have:=K.out;have:=n.size;omega,aG n H1.out (by have:=K.out;omega),aG n H2.out (by have:=K.out;omega),
    uP H3.out (Below.nO n none) (by cases D <;>simp [blk]),⟨World.ownsRow_nil _ _ _ _,fun x hx=>absurd hx (by simp)⟩,rfl,fun x hx=>absurd hx (by simp)⟩
  clear n H1 H2 H3 H4 K c0 c1 c2 T g0 g1 g2 g3 d0 d1 d2 d3 k0 k1 k2 k3 HR HN;go_wp2;go_loopw [7,21] (fun t i wr=>∃ (k:Nat) (a:Option Addr) (c:Nat) (tq:Option Addr) (tc:Nat) (p:List Item),k<=s.size∧i=.int .i64 k∧t=.slice tq p.length tc∧yA w.heap.size w wr f (s.data.toList.take k) a c tq tc p) (fun _ i _=>s.size - (intOf i).toNat)
  case atStart=>exact⟨0,D,E,none,0,[],Nat.zero_le _,rfl,rfl,HI.out⟩
  case round=>
   obtain⟨k,a,c,tq,tc,p,_,rfl,rfl,C⟩:=hrel;have R:=gH C;obtain⟨y,A⟩:∃ y,y=dB f (s.data.toList.take k):=⟨_,rfl⟩;have J:=C.box;rw [<-A] at J;have HT:=gH A;have Q:=C.res;clear C A HI;obtain⟨c0,c1,c2,T,g0,g1,g2,g3⟩:=four J;obtain⟨d0,d1,d2,d3,k0,k1,k2,k3⟩:=four Q;have F:Hid _:=J;have ag:Hid _:=Q;clear J Q;by_cases P:k < s.size
   ·have aq:(k:Int) < (s.size:Int):=(by omega);have az:(0:Int)<=(k:Int):=(by omega);have HL:=gH P;have kV:Hid (GoodS y):=(by rw [HT.out];exact Fb f HG.out _);have o:Hid (Own (w.heap.size+2) wr a c y.ps):=(by rw [HT.out];exact R.out.own);have ar:w.heap.size+2<=wr.heap.size:=R.out.size;clear d0 d1 d2 d3 k0 k1 k2 k3;obtain⟨r,U⟩:∃ r,r=bF y (dA s[k]):=⟨_,rfl⟩;have Y:=gH U;have Z:Hid (∀ N:World,Own (w.heap.size+2) N a c y.ps->w.heap.size+2<=N.heap.size->kC 102 #[.agg #[.int .i64 y.place,.slice a y.ps.length c,.string y.pl,.bool y.lg],.int .i64 (IntKind.i64.wrap (s[k].toNat:Int))] N fun e M=>kZ (w.heap.size+2) N a r e M):=by
     intro N h1 h2;rw [Vl,U];exact agT (w.heap.size+2) c a y (dA s[k]) N h1 h2 kV.out (Qb s[k]) (Qa s[k])
    clear U;have ad:some w.heap.size≠blk a:=fun e=>(by have:=(qd o.out e.symm).1;omega);have m:some wr.heap.size≠blk a:=fun e=>(by have:=(qd o.out e.symm).2;omega);have z:some (wr.heap.size+1)≠blk a:=fun e=>(by have:=(qd o.out e.symm).2;omega);have au:w.heap.size < wr.heap.size:=(by omega);have av:w.heap.size < wr.heap.size+1:=(by omega);have aw:w.heap.size < wr.heap.size+1+1:=(by omega);have ax:wr.heap.size≠w.heap.size:=(by omega);have ay:wr.heap.size+1≠w.heap.size:=(by omega);go_wp2;go_cut [9,10] from 22 to 40 (fun s9 ap N=>Mid w.heap.size wr N a r s9 ap)
    case first=>
     go_region_held3 (fun M=>M.cell? ⟨w.heap.size,0,none⟩=some (.int .i64 y.place)∧M.cell? ⟨w.heap.size,1,none⟩=some (.slice a y.ps.length c)∧M.cell? ⟨w.heap.size,2,none⟩=some (.string y.pl)∧M.cell? ⟨w.heap.size,3,none⟩=some (.bool y.lg)) (first | go_keep | (simp [*,World.cell?_alloc_past]))
      ((go_at_call 102;refine(Calls.mono (Z.out _ ?_ ?_) ?_);(first | exact o.out | exact xU o.out | exact xU (iA o.out _) | exact iA (xU o.out) _ | exact xU (iA (iA o.out _) _) | exact iA (iA (xU o.out) _) _);(simp;omega);rintro e W ⟨S,aa,p3,eT,rfl,d⟩;have L:=Stepped.grown d;have V:=L.size;have q4:=bH L (by first | exact F.out | exact aF F.out _ | exact aF (aF F.out _) _) ad;obtain⟨_,_,_,_,_,_,_,_⟩:=four q4;clear q4;(first | (have q5:=bH L (aF (at_new wr _) _) m;have q6:=bH L (bK wr _ _) z;obtain⟨i0,i1,i2,i3,j0,j1,j2,j3⟩:=four q5;obtain⟨l0,l1,l2,l3,t0,t1,t2,t3⟩:=four q6;have z2:wr.heap.size+1 < W.heap.size:=(by simp at V;omega);have z3:wr.heap.size < W.heap.size:=(by omega);clear q5 q6) | (have q5:=bH L (at_new wr _) m;obtain⟨i0,i1,i2,i3,j0,j1,j2,j3⟩:=four q5;have z2:wr.heap.size < W.heap.size:=(by simp at V;omega);have z3:wr.heap.size < W.heap.size+1:=(by omega);clear q5) | skip);clear L;have z0:w.heap.size < W.heap.size:=(by simp at V;omega);have z1:w.heap.size < W.heap.size+1:=(by omega);clear V;dsimp only))
     all_goals (go_wp2_with fail;go_meet)
     ·exact ab2 d
     ·exact ab3 d
     ·exact Sk d m
     ·exact NQ d m z
     ·exact midD d m
     ·exact NR d m z
     ·exact Sk d m
     ·exact NQ d m z
     ·exact NQ d m z
     ·exact midD d m
     ·exact NR d m z
     ·exact NR d m z
    case rest=>
     obtain⟨g9,ac,S,T,p3,eT,rfl,rfl,_,_,rF,MV,A⟩:=hcut;obtain⟨c0,c1,c2,aa,g0,g1,g2,g3⟩:=four (bH A.grown F.out ad);obtain⟨e0,e1,e2,e3,f0,f1,f2,f3⟩:=four rF;obtain⟨l0,l1,l2,l3,t0,t1,t2,t3⟩:=four MV;have HP:=gH (adj R.out A);have fP:=gH R.out.says;have vv:Hid (r=bF (dB f (s.data.toList.take k)) (dA s[k])):=(by rw [<-HT.out];exact Y.out);have n9:g9≠w.heap.size:=(by omega);have an:ac≠w.heap.size:=(by omega);have Kq:Hid (((((wc.setCell ⟨w.heap.size,0,none⟩ (.int .i64 r.1.place)).setCell ⟨w.heap.size,1,none⟩ (.slice S r.1.ps.length T)).setCell ⟨w.heap.size,2,none⟩ (.string r.1.pl)).setCell ⟨w.heap.size,3,none⟩ (.bool r.1.lg)).heap[ac]?=some (.cells #[.int .i64 r.2.kind,.int .i64 r.2.b,.slice p3 r.2.ps.length eT,.string r.2.pl] 82 (0,0))):=Bb MV an _ _ _ _;have GU:Hid (p.length<=1048576):=by
      have h1:=congrArg List.length fP.out;have h2:=QK f (s.data.toList.take k);simp only [List.length_map,List.length_take] at h1 h2;show p.length<=1048576;omega
     have gP:=gH (Gx s k P);clear A rF MV Z R HT Y F ag o kV;go_wp2_with fail;refine(ahe _ _ _ _ _ _ _).mono ?_;rintro e w5 ⟨rfl,O⟩;have HQ:=gH (HP.out.later O);have X:=aG O Kq.out (gQ Kq.out).1;obtain⟨q0,L,V,q3,v0,v1,v2,v3⟩:=four X;clear O X HP Kq c0 c1 c2 aa g0 g1 g2 g3 e0 e1 e2 e3 f0 f1 f2 f3 l0 l1 l2 l3 t0 t1 t2 t3;by_cases g:r.2.kind=0
     ·have ah:(r.2.kind !=0)=false:=(by simp [g]);have HK:=gH g;clear g;go_wp2;go_roundw
      case rel=>exact⟨k+1,S,T,tq,tc,p,by omega,by go_num,rfl,by rw [gP.out];exact afb vv.out fP.out HK.out HQ.out⟩
      case measure=>simp [intOf];omega
     ·have ah:(r.2.kind !=0)=true:=(by simp [g]);have HK:=gH g;have Hw:=gH HQ.out.told.row;have al:w.heap.size+2<=w5.heap.size:=HQ.out.size;obtain⟨am,hi,ai,aj,ak⟩:=info_parts info37;clear g;go_wp2_with (first | (at_builtin;refine wpList_append_lies _ rfl _ _ 78 rfl (w.heap.size+2) 82 am _ 4 56 underlying78 hi ai aj ak rfl (by decide) _ p.length (qY p) rfl (Hw.out.alloc _) ⟨w5.heap.size,0,none⟩ 1 1 (cellsOf (r.2,p3,eT)) rfl rfl ?d1 ?d2 (by decide) ?d3 ?d4 ?d5 (w5.heap.size+1) ?d6 ?_) | go_in)
      case d1=>exact World.news_of_block (at_new w5 _)
      case d2=>intro u hu;simp [cellsOf] at hu;rcases hu with h | h | h | h <;>subst h <;>rfl
      case d3=>have:=GU.out;unfold maxLen;omega
      case d4=>have:=GU.out;omega
      case d5=>simp;omega
      case d6=>simp
      ·intro g' ab w6 I qE _ _;rw [Oo] at qE;have HF:=gH (afc vv.out fP.out HK.out HQ.out I qE);clear I qE Hw al q0 L V q3 v0 v1 v2 v3;go_wp2;go_roundw
       case rel=>exact⟨k+1,S,T,some ⟨g',0,none⟩,ab,p++[(r.2,p3,eT)],by omega,by go_num,by simp,by rw [gP.out];exact HF.out⟩
       case measure=>simp [intOf];omega
   ·clear g0 g1 g2 g3;go_wp2;exact bodyPost_ret (v:=.tuple #[.agg #[.int .i64 y.place,.slice a y.ps.length c,.string y.pl,.bool y.lg],.slice tq p.length tc,.int .i64 0]) (by simp [results,results89,go_sem,d0,d1,d2,d3]) rfl
     (Zz R.out P hg HT.out _ _ _ _)
end Go.Proofs.YtkcdcamophkdlaaGreatDoor.Ps
namespace Go.Proofs.YtkcdcamophkdlaaGreatDoor
open Go.RowKit
variable {base:Nat} {w:World}
def rX (x:Ps.Item):wH:=(iY x.1,x.2.1,x.2.2)
theorem adg {a:Option Addr} {cap:Nat} {l:List Int} (h:Ps.Own base w a cap l):bV w a l:=by
 rcases h.2 with ⟨_,f⟩ | ⟨g,c,e,d,_,i,n,_,o,m⟩
 ·exact .inl (List.length_eq_zero_iff.1 f)
 ·simp only [Value.slice.injEq] at d;refine .inr ⟨g,0,d.1,fun j k=>?_⟩;rw [Nat.zero_add,cell_of_row w g j _ _ _ i];have b:(Ps.ints l)[j]?=some (.int .i64 (l.getD j 0)):=(by simp [Ps.ints,k]);rw [<-m,List.getElem?_take_of_lt (by omega)] at b;simpa using b
theorem WL (a:List Ps.Item) (k j:Nat) (b:k < a.length) (d:j < 4):(Ps.qY a)[k*4+j]?=(Ps.cellsOf a[k])[j]?:=by
 induction a generalizing k with
 | nil=>simp at b
 | cons x r ih=>
  have e:Ps.qY (x::r)=Ps.cellsOf x++Ps.qY r:=rfl;have c:(Ps.cellsOf x).length=4:=rfl;rw [e];cases k with
  | zero=>
   rw [Nat.zero_mul,Nat.zero_add,List.getElem?_append_left (by omega)]
   rfl
  | succ k=>
   rw [List.getElem?_append_right (by omega),c,show (k+1)*4+j - 4=k*4+j by omega,ih k (by simpa using b)]
   rfl
theorem UQ {i:Option Addr} {u:Nat} {a:List Ps.Item} (h:Ps.Told base w i u a):yN w i (a.map rX):=by
 refine⟨fun x s=>?_,?_⟩
 ·obtain⟨y,t,rfl⟩:=List.mem_map.1 s;exact adg (h.each y t)
 ·rcases h.row.2 with ⟨_,n⟩ | ⟨g,c,m,f,_,o,v,_,z,r⟩
  ·exact .inl (by rw [List.length_eq_zero_iff.1 n];rfl)
  ·simp only [Value.slice.injEq] at f;refine .inr ⟨g,0,f.1,fun k q=>?_⟩;have d:k < a.length:=(by simpa using q);have b:∀ j,j < 4->w.cell? ⟨g,0+k*4+j,none⟩=(Ps.cellsOf a[k])[j]?:=fun j p=>by
    rw [cell_of_row w g (0+k*4+j) _ _ _ o,Nat.zero_add, <-WL a k j d p, <-r,List.getElem?_take_of_lt (by omega)];simp
   have e:(a.map rX)[k]=rX a[k]:=(by simp);rw [e];exact⟨b 0 (by omega),b 1 (by omega),b 2 (by omega),b 3 (by omega)⟩
theorem UN {a:List Ps.Item} {b:List Ps.Ev} (h:a.map (·.1)=b):(a.map rX).map (·.1)=b.map iY:=by
 rw [<-h];simp [rX]
end Go.Proofs.YtkcdcamophkdlaaGreatDoor
namespace Go.Proofs.YtkcdcamophkdlaaGreatDoor.Ps
variable (l:List UInt8)
def Sm (s:PS):Prop:=s.ps.length<=4∧s.pl.size<=48
def SmE (e:Ev):Prop:=e.ps.length<=4∧e.pl.size<=48
theorem agu (s:PS) (b:Int) (h:Sm s):Sm (bF s b).1∧SmE (bF s b).2:=by
 obtain⟨_,_⟩:=h;unfold bF jl eB og ku kH
 repeat' split
 all_goals refine⟨⟨?_,?_⟩,⟨?_,?_⟩⟩
 all_goals first
  | assumption
  | decide
  | (dsimp only;decide)
  | (simp [zm,ByteArray.size_push];done)
  | (simp [zm,ByteArray.size_push];omega)
theorem UE:∀ s,Sm s->∀ e∈bR s l,SmE e:=by
 induction l with
 | nil=>intro s _ e b;simp [bR] at b
 | cons c r ih=>
  intro s h e b;obtain⟨d,f⟩:=agu s (dA c) h;simp only [bR,List.mem_append] at b;rcases b with a | a
  ·unfold one at a;split at a
   ·simp at a
   ·rw [List.mem_singleton] at a;rw [a];exact f
  ·exact ih _ d e a
theorem QL:∀ s,(bR s l).length<=l.length:=by
 induction l with
 | nil=>intro s;simp [bR]
 | cons c r ih=>
  intro s;have:(one (bF s (dA c)).2).length<=1:=by
   unfold one;split <;>simp
  have:=ih (bF s (dA c)).1;simp only [bR,List.length_append,List.length_cons];omega
end Go.Proofs.YtkcdcamophkdlaaGreatDoor.Ps
