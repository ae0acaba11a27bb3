import Derived.Test.YtkcdcamophkdlaaGreatDoorAN
import Derived.Laws.CopyOwn
import Derived.Lib.AppendZerosOnto
import Derived.Lib.Overlaps
set_option maxHeartbeats 2000000
set_option maxRecDepth 100000
open Go.Proofs.Tryz
namespace Go.Proofs.YtkcdcamophkdlaaGreatDoor.Tl
open Go.RowKit
variable {w:World} {its:List bn} {g base n c:Nat} {e:TypeId} {xs:List Value}
structure Cp (its:List bn) (g:Nat) (w:World):Prop where
 row:w.heap[g]?=some (.cells (its.map cv).toArray 38)
 own:∀ x∈its,w.ownsRow (g+1) 3 1 (cv x) x.1.length (ints x.1)
 apart:∀ j k (hj:j < its.length) (hk:k < its.length),j < k->∀ a b,its[j].2.1=some a->its[k].2.1=some b->a.block < b.block
theorem Dq {sz:Nat} {a:Addr} (h:w.ownsRow base e sz (.slice (some a) n c) n xs):base<=a.block∧a.block < w.heap.size:=by
 rcases h.2 with ⟨d,_⟩ | ⟨g,cap,f,d,k,l,_⟩
 ·cases d
 ·simp only [Value.slice.injEq,Option.some.injEq] at d;obtain⟨rfl,_,_⟩:=d;exact⟨k,dI l⟩
theorem Cp.below {w':World} (h:Cp its g w) (a:Below w.heap.size w w'):Cp its g w':=
 ⟨aG a h.row (dI h.row),fun x d=>kR (h.own x d) a,h.apart⟩
theorem Cp.set {B j:Nat} {u:Value} (h:Cp its g w) (d:B < g):Cp its g (w.setCell ⟨B,j,none⟩ u):=
 ⟨by rw [Below.heap_setCell _ _ _ _ (by simp;omega)];exact h.row,fun x a=>uS (h.own x a) (by omega),h.apart⟩
theorem Cp.rd (h:Cp its g w):aI w (some ⟨g,0,none⟩) its:=by
 refine⟨fun x d=>Gi (h.own x d),.inr ⟨g,0,rfl,fun k a=>?_⟩⟩;simp only [World.cell?,h.row];simp [a]
structure j5 (w:World) (its:List bn) (co:Option Addr) (cap T k:Nat) (done:List bn) (wr:World):Prop where
 far:w.heap.size+3<=T
 len:done.length=k
 same:ak done=(ak its).take k
 row:wr.heap[w.heap.size+2]?=some (.cells (done.map cv++List.replicate (its.length - k) (Value.slice none 0 0)).toArray 38)
 own:∀ x∈done,wr.ownsRow (T+1) 3 1 (cv x) x.1.length (ints x.1)
 apart:∀ j k (hj:j < done.length) (hk:k < done.length),j < k->∀ a b,done[j].2.1=some a->done[k].2.1=some b->a.block < b.block
 box:wr.heap[w.heap.size]?=some (aT co its.length cap)
 res:wr.heap[w.heap.size+1]?=some (aT none 0 0)
 GA:wr.heap[T]?=some (aT (some ⟨w.heap.size+2,0,none⟩) its.length its.length)
 below:Below w.heap.size w wr
theorem XY {co:Option Addr} {cap T k:Nat} {d:List bn} {wr y:World} (h:j5 w its co cap T k d wr) (E:k < its.length) {z:Option Addr} (B:y.ownsRow wr.heap.size 3 1 (.slice z its[k].1.length c) its[k].1.length (ints its[k].1)) (m:Below wr.heap.size wr y):
  j5 w its co cap T (k+1) (d++[(its[k].1,z,c)]) (y.setCell ⟨w.heap.size+2,k,none⟩ (.slice z its[k].1.length c)):=by
 have:T < wr.heap.size:=dI h.GA;have:=h.far;have r:=aG m h.row (by omega);refine⟨h.far,by simp [h.len],?_,?_,?_,?_,?_,?_,?_,?_⟩
 ·rw [List.take_succ_eq_append_getElem (by simpa using E)];simp [ak, <-h.same]
 ·rw [heap_setCell_same y (w.heap.size+2) k _ _ _ r];have C:its.length - k=(its.length - (k+1))+1:=(by omega);rw [C,List.replicate_succ];have F:(d.map cv).length=k:=(by simp [h.len]);simp only [List.map_append,List.map_cons,List.map_nil,List.append_assoc,List.cons_append,List.nil_append];congr 1;congr 1;apply Array.ext';simp only [Array.toList_setIfInBounds];rw [List.set_append_right _ _ (by omega)];simp [F]
 ·intro x o;rcases List.mem_append.1 o with o | o
  ·exact uS (kR (h.own x o) m) (by omega)
  ·simp at o;subst o;exact uS (xZ B (by omega)) (by omega)
 ·intro i j G D p a b s l;have:j<=d.length:=(by simp at D;omega);by_cases e:j=d.length
  ·subst e;have f:i < d.length:=p;rw [List.getElem_append_left f] at s;simp at l;have A:=h.own d[i] (List.getElem_mem f);unfold cv at A;rw [s] at A;have:=(Dq A).2;rw [l] at B;have:=(Dq B).1;omega
  ·have q:j < d.length:=(by omega);have f:i < d.length:=(by omega);rw [List.getElem_append_left f] at s;rw [List.getElem_append_left q] at l;exact h.apart i j f q p a b s l
 ·rw [Below.heap_setCell _ _ _ _ (by simp)];exact aG m h.box (by omega)
 ·rw [Below.heap_setCell _ _ _ _ (by simp)];exact aG m h.res (by omega)
 ·rw [Below.heap_setCell _ _ _ _ (by simp;omega)];exact aG m h.GA (by omega)
 ·exact(iG h.below m).setCell (by simp) _
theorem abZ (n:Nat):(madeCells #[Value.slice none 0 0] n).toList=List.replicate n (.slice none 0 0):=by
 refine List.ext_getElem? fun k=>?_;simp only [madeCells,Array.toList_map,Array.toList_range,List.getElem?_map,List.getElem?_replicate];by_cases h:k < n
 ·simp [h,Nat.mod_one]
 ·simp [h]
theorem aci (l:List Value) (m k:Nat) (v:Value) (a:l.length=k) (d:0 < m):(l++List.replicate m v).toArray[k]?=some v:=by
 rw [List.getElem?_toArray,List.getElem?_append_right (by omega),a];simp [d]
theorem afg (h:w.ownsRow base e 1 (.slice (some ⟨g,0,none⟩) n n) n xs):w.heap[g]?=some (.cells xs.toArray e):=by
 rcases h.2 with ⟨a,_⟩ | ⟨m,cap,d,a,o,f,p,_,k,l⟩
 ·cases a
 ·simp only [Value.slice.injEq,Option.some.injEq,Addr.mk.injEq,and_true,true_and] at a;obtain⟨rfl,rfl⟩:=a;rw [f];have:d.toList=xs:=(by rw [<-l,List.take_of_length_le (by simp [k])]);rw [<-this]
def Vs (w:World) (aj:List (List Int)) (e:Ending) (w':World):Prop:=
 ∃ g aP,e=.returned (tval (some ⟨g,0,none⟩) aP.length aP.length)∧ak aP=aj∧w.heap.size<=g∧Cp aP g w'∧Below w.heap.size w w'
theorem Yl (its:List bn) (co:Option Addr) (cap:Nat) (w:World) (V:aI w co its) (hm:its.length<=5864062014805) (G:∀ x∈its,x.1.length<=17592186044416):
  kC 67 #[tval co its.length cap] w (Vs w (ak its)):=by
 obtain⟨i0,f,J,K,L⟩:=info_parts zk;have HR:=gH V;have HM:=gH G;clear V G;go_enter func67,ntmps67;go_wp2_with (first | (at_make;refine wpList_make_full _ rfl _ _ 28 rfl w.heap.size 38 i0 (.slice none 0 0) 1 underlying28 f J K .i64 .i64 _ _ its.length rfl rfl rfl rfl (by rw [L];omega) (by unfold maxLen;omega) (by simp;omega) ?_) | fail);intro B l y;rw [abZ] at l;have m:=afg l;have H:w.heap.size+3<=B.heap.size:=by have:=dI m;omega
 have N:B.heap[w.heap.size]?=some (aT co its.length cap):=by rw [World.grownBy.block y w.heap.size (by simp;omega) (by simp)];exact aF (at_new w _) _
 have Y:B.heap[w.heap.size+1]?=some (aT none 0 0):=by rw [World.grownBy.block y (w.heap.size+1) (by simp) (by simp)];exact bK w _ _
 have F:Below w.heap.size w B:=(aO w (aT co its.length cap) (aT none 0 0)).trans ⟨y.os,y.tape,y.output,y.size,fun k hk=>y.block k (by simp;omega) (by simp)⟩;obtain⟨y1,z1⟩:=one (aF N (aT (some ⟨w.heap.size+1+1,0,none⟩) its.length its.length));have O:Hid (j5 w its co cap B.heap.size 0 [] (B.alloc (aT (some ⟨w.heap.size+1+1,0,none⟩) its.length its.length))):=
  ⟨H,rfl,by simp [ak],by simpa using aF m _,fun x z=>by simp at z,fun j k hj=>by simp at hj,aF N _,aF Y _,at_new _ _,F.alloc (by omega) _⟩
 clear l y m N Y F;go_wp2;go_loopw [14] (fun i wr=>∃ (k:Nat) (a:List bn),k<=its.length∧i=.int .i64 k∧j5 w its co cap B.heap.size k a wr) (fun i _=>its.length - (intOf i).toNat)
 case atStart=>exact⟨0,[],Nat.zero_le _,rfl,O.out⟩
 case round=>
  obtain⟨k,a,hk,rfl,f⟩:=hrel;obtain⟨x1,x2⟩:=one f.box;obtain⟨x3,x4⟩:=one f.res;obtain⟨x5,x6⟩:=one f.GA;have A:=gH f;clear O y1 z1;by_cases o:k < its.length
  ·have q:=HR.out.below f.below;obtain⟨b,M,rfl,S⟩:=q.row.resolve_left (by intro h;subst h;simp at o);have R:wr.cell? ⟨b,M+k,none⟩=some (.slice its[k].2.1 its[k].1.length its[k].2.2):=S k o;obtain⟨x,z⟩:∃ x,x=its[k]:=⟨_,rfl⟩;have d:x∈its:=(by rw [z];exact List.getElem_mem o);have fq:Hid (∀ W,Below wr.heap.size wr W->kC 16 #[.slice x.2.1 x.1.length x.2.2] W fun e w'=>∃ P r,e=.returned (.slice P x.1.length r)∧w'.ownsRow W.heap.size 3 1 (.slice P x.1.length r) x.1.length (ints x.1)∧Below W.heap.size W w'):=fun W hW=>uD x W ((q.each x d).1.below hW) (q.each x d).2 (HM.out x d);have I:wr.cell? ⟨w.heap.size+2,k,none⟩=some (.slice none 0 0):=by
    simp only [World.cell?,f.row];exact aci _ _ _ _ (by simp [f.len]) (by omega)
   rw [<-z] at R;have HX:=gH z;have:(k:Int) < (its.length:Int):=(by omega);clear S q f z d;go_wp2_with fail;go_region_with ((go_at_call 16;refine(fq.out _ ((Below.refl _ _).drew)).mono ?_;rintro e C ⟨ao,c,rfl,U,E⟩;have D:Below wr.heap.size wr C:=((Below.refl wr.heap.size wr).drew).trans E;have Z:Hid (C.ownsRow wr.heap.size 3 1 (.slice ao x.1.length c) x.1.length (ints x.1)∧Below wr.heap.size wr C):=⟨U,D⟩;obtain⟨_,_⟩:=one (aG D A.out.GA (dI A.out.GA));have:C.cell? ⟨w.heap.size+2,k,none⟩=some (.slice none 0 0):=(D.cell (p:=⟨w.heap.size+2,k,none⟩) (dI A.out.row)).trans I;have:C.frozen? ⟨w.heap.size+2,k,none⟩=false:=frozen_of_row C _ k _ _ (aG D A.out.row (dI A.out.row));clear U E D x1 x2 x3 x4 x5 x6 R))
   all_goals (
    go_wp2
    go_roundw
    case rel=>
     obtain⟨Q,f2⟩:=Z.out
     rw [HX.out] at Q ⊢
     exact⟨k+1,_,by omega,by go_num,XY A.out o Q f2⟩
    case measure=>(simp [intOf];omega))
  ·have:(its.length:Int)<=(k:Int):=(by omega);have HK:Hid (k=its.length):=(by omega:k=its.length);clear f;go_wp2;refine bodyPost_ret (v:=tval (some ⟨w.heap.size+2,0,none⟩) its.length its.length) (by simp [results,results67,go_sem, *]) rfl ?_;have s:=A.out;rw [HK.out] at s;have hl:a.length=its.length:=(by rw [s.len]);have:=s.far;refine⟨w.heap.size+2,a,by rw [hl],?_,by omega,⟨?_,?_,s.apart⟩,?_⟩
   ·rw [s.same,List.take_of_length_le (by simp)]
   ·rw [Below.heap_setCell _ _ _ _ (by simp),s.row];simp
   ·intro x z;exact uS (xZ (s.own x z) (by omega)) (by omega)
   ·exact s.below.setCell (by simp) _
variable (base g n cap i vb:Nat) (xs:List Value) (X:Value) {w w':World} {e:TypeId} {c:Nat}
theorem Dp {base sz n:Nat} {a:Addr} {xs:List Value} (h:w.ownsRow base e sz (.slice (some a) n c) n xs):n<=c:=by
 rcases h.2 with ⟨d,_⟩ | ⟨g,cap,f,d,l,m,k,_⟩
 ·cases d
 ·simp only [Value.slice.injEq,Option.some.injEq] at d;obtain⟨rfl,_,rfl⟩:=d;exact k
theorem xS {base g n:Nat} {xs:List Value} (h:w.ownsRow base e 1 (.slice (some ⟨g,0,none⟩) n c) n xs) (j:Nat) (u:Value) (d:xs[j]?=some u):w.cell? ⟨g,j,none⟩=some u:=by
 have:j < xs.length:=(gL d).1;rcases h.2 with ⟨a,_⟩ | ⟨m,cap,f,a,o,k,p,_,q,l⟩
 ·cases a
 ·simp only [Value.slice.injEq,Option.some.injEq,Addr.mk.injEq,and_true,true_and] at a;obtain⟨rfl,rfl⟩:=a;have:=h.1;rw [<-l,List.getElem?_take_of_lt (by omega)] at d;simp only [World.cell?,k];simpa using d
theorem UF {α:Type} (Z xs:List α) (i:Nat) (X:α) (k:i<=xs.length) (f:Z.take i=xs.take i) (l:xs.length+1<=Z.length):
  (splice (splice Z i [X]) (i+1) (xs.drop i)).take (xs.length+1)=bZ xs i X∧(splice (splice Z i [X]) (i+1) (xs.drop i)).length=Z.length:=by
 have a:(splice Z i [X]).length=Z.length:=length_splice _ _ _ (by simp;omega);have d:(splice Z i [X]).take (i+1)=xs.take i++[X]:=by
  unfold splice;rw [f, <-List.append_assoc,List.take_append_of_le_length (by simp;omega),List.take_of_length_le (by simp;omega)]
 obtain⟨Y,h⟩:∃ Y,Y=splice Z i [X]:=⟨_,rfl⟩;rw [<-h] at d a ⊢;refine⟨?_,by rw [length_splice _ _ _ (by rw [List.length_drop];omega)];exact a⟩;unfold splice;rw [d, <-List.append_assoc,List.take_append_of_le_length (by simp;omega),List.take_of_length_le (by simp;omega)];simp [bZ]
theorem yX (w:World) (b:Nat) (cs:Array Value):w.grownBy (w.setRow b cs) (some b):=
 ⟨rfl,rfl,rfl,by simp [World.setRow],fun k _ a=>setRow_other w b k cs (fun e=>a (by rw [e]))⟩
theorem eP (w:World) (a:Option Nat):w.grownBy w a:=⟨rfl,rfl,rfl,Nat.le_refl _,fun _ _ _=>rfl⟩
theorem jD {a b c:World} {d:Option Nat} (h:a.grownBy b d) (k:b.grownBy c d):a.grownBy c d:=
 ⟨k.os.trans h.os,k.tape.trans h.tape,k.output.trans h.output,Nat.le_trans h.size k.size,fun i l f=>(k.block i (Nat.lt_of_lt_of_le l h.size) f).trans (h.block i l f)⟩
theorem below_grown (h:Below w.heap.size w w') (a:Option Nat):w.grownBy w' a:=
 ⟨h.os,h.tape,h.output,h.size,fun k d _=>h.block k d⟩
theorem rD {b B:Nat} (a:w.grownBy w' (some b)) (d:B<=w.heap.size) (f:B<=b):Below B w w':=
 ⟨a.os,a.tape,a.output,a.size,fun k h=>a.block k (by omega) (by simp;omega)⟩
theorem Dv (W:World) (x T e:TypeId) (A:prog.underlying T=some (.slice e)) (r:(prog.info? e).map (·.size)=some 1) (g h a k:Nat) (q:Addr) (d l:Nat) (f:List Value) (s:W.heap[g]?=some (.cells f.toArray e (0,0))) (cs:List Value) (z:cs.length=Nat.min d a) (o:∀ j v,cs[j]?=some v->W.cell? (q.add j)=some v) (m:h+cs.length<=f.length) (y:∀ v∈cs,v.oneCell'=true):
  ∃ p,(Builtin.copy_ #[T,T] x #[.slice (some ⟨g,h,none⟩) a k,.slice (some q) d l]).run prog W=.ok (goInt cs.length) p∧p.heap[g]?=some (.cells (splice f h cs).toArray e (0,0))∧W.grownBy p (some g):=by
 refine⟨_,run_copy_row (P:=prog) W T T x e g h a k q d l f.toArray e cs A r s z o (by simpa using m) y,?_,yX _ _ _⟩;simpa [splice] using setRow_heap W g _ _ e _ s
theorem kN {vb:Nat} {X:Value} {t:TypeId} (h:w.heap[vb]?=some (.cells #[X] t)) (j:Nat) (u:Value) (a:([X]:List Value)[j]?=some u):w.cell? ((⟨vb,0,none⟩:Addr).add j)=some u:=by
 have d:j=0:=by
  have:=(gL a).1;simpa using this
 subst d;simp only [List.getElem?_cons_zero,Option.some.injEq] at a;subst a;rw [mJ];exact cell_of_row _ _ 0 _ t _ h
theorem RG:(prog.info? 38).map (·.size)=some 1:=by kernel_rfl
theorem abm (w:World) (a:w.ownsRow base 38 1 (.slice (some ⟨g,0,none⟩) n cap) n xs) (D:n<=1048576) (q:w.heap[vb]?=some (.cells #[X] 38)) (A:X.oneCell'=true) (f:base<=w.heap.size):
  kC 69 #[.slice (some ⟨g,0,none⟩) n cap,.int .i64 n,.slice (some ⟨vb,0,none⟩) 1 1] w fun z w'=>∃ k,z=.returned k∧w'.ownsRow base 38 1 k (n+1) (xs++[X])∧w.grownBy w' (some g):=by
 obtain⟨C,B,l,m,o⟩:=info_parts zk;have y:=gH (kN q);have x:=gH a;have:n<=cap:=Dp a;clear a q;go_enter func69,ntmps69;go_wp2_with (at_builtin;refine wpList_append_own _ rfl _ _ 28 rfl base 38 C (.slice none 0 0) 1 24 underlying28 B l m o rfl (by decide) _ n xs rfl x.out ⟨vb,0,none⟩ 1 1 [X] rfl rfl y.out (by intro u p;simp at p;subst p;exact A) (by unfold maxLen;omega) (by omega) f ?_)
 all_goals
  intro k r d h _;have s:Hid (r.ownsRow base 38 1 k (n+1) (xs++[X])∧w.grownBy r (some g)):=⟨d,h⟩;clear d h;go_wp2;go_ret;exact⟨k,rfl,s.out⟩
theorem abo (w:World) (a:w.ownsRow base 38 1 (.slice (some ⟨g,0,none⟩) n cap) n xs) (hn:n<=1048576) (ai:i < n) (q:cap < n+1) (J:w.heap[vb]?=some (.cells #[X] 38)) (hX:X.oneCell'=true) (h1:∀ v∈xs,v.oneCell'=true) (p:base<=w.heap.size):
  kC 69 #[.slice (some ⟨g,0,none⟩) n cap,.int .i64 i,.slice (some ⟨vb,0,none⟩) 1 1] w fun en w'=>∃ v',en=.returned v'∧w'.ownsRow base 38 1 v' (n+1) (bZ xs i X)∧w.grownBy w' (some g):=by
 obtain⟨i0,hi,K,V,x⟩:=info_parts zk;have s:xs.length=n:=by have:=a.1;omega
 have aj:n<=cap:=Dp a;have f:∀ j u,xs[j]?=some u->w.cell? ⟨g,j,none⟩=some u:=xS a;have S:g < w.heap.size:=(Dq a).2;have U:vb < w.heap.size:=dI J;obtain⟨G,M⟩:∃ G,G=grownCap w (n+1) cap 38:=⟨_,rfl⟩;have R:n+1<=G:=by rw [M];exact grownCap_ge w _ _ _
 have Fp:G<=maxLen:=by rw [M];exact grownCap_le_maxLen w _ _ _ (by unfold maxLen;omega)
 have aa:G<=9223372036854775807:=by unfold maxLen at Fp;omega
 have o:(Builtin.firstCells i0.size i (.slice (some ⟨g,0,none⟩) i cap)).run prog w.drew=.ok (xs.take i).toArray w.drew:=by
  rw [V]
  exact run_firstCells_some w.drew 1 i ⟨g,0,none⟩ i cap (xs.take i) (by rw [List.length_take];omega) (fun j v A=>by
   rw [mJ,Nat.zero_add]
   rw [List.getElem?_take] at A
   split at A
   ·exact f j v A
   ·cases A)
 have r:i+(n+1 - i)=n+1:=by omega
 have F:(n:Int)+1 - (i:Int)=((n+1 - i:Nat):Int):=by omega
 obtain⟨Z,N⟩:∃ Z:List Value,Z=xs.take i++(Builtin.zeroCells (Value.slice none 0 0).cells (n+1 - i)).toList++(Builtin.zeroCells (Value.slice none 0 0).cells (G - (n+1))).toList:=⟨_,rfl⟩;have yZ:Z.length=G:=by
  rw [N];simp [Builtin.zeroCells,Value.cells,s];omega
 have K4:Hid (∀ Y,(Builtin.append_ #[28,3] Y #[.slice (some ⟨g,0,none⟩) i cap,.int .i64 ((n:Int)+1 - (i:Int))]).run prog w=.ok (.slice (some ⟨w.heap.size,0,none⟩) (n+1) G) (w.drew.alloc (.cells Z.toArray 38))):=fun Y=>by
  have h:=Lib.run_append_grow_zeros w 28 3 Y 38 i0 _ .i64 .i64 underlying28 underlying3 hi K (some ⟨g,0,none⟩) i cap (xs.take i) o (n+1 - i) (by omega) (by omega) (by omega) (by omega) (by rw [x];omega) (by rw [x,r];exact growslice_fits q (by omega));rw [r, <-M] at h;have e:Z.toArray=(xs.take i).toArray++Builtin.zeroCells (Value.slice none 0 0).cells (n+1 - i)++Builtin.zeroCells (Value.slice none 0 0).cells (G - (n+1)):=by
   rw [N];apply Array.ext';simp
  rw [F,h,e]
 have HV:Hid (∀ W:World,(∀ k,k < w.heap.size->W.heap[k]?=w.heap[k]?)->∀ j u,[X][j]?=some u->W.cell? ((⟨vb,0,none⟩:Addr).add j)=some u):=fun W z=>kN (by rw [z vb U];exact J);have O:Hid (∀ W:World,(∀ k,k < w.heap.size->W.heap[k]?=w.heap[k]?)->∀ j u,(xs.drop i)[j]?=some u->W.cell? ((⟨g,i,none⟩:Addr).add j)=some u):=fun W z j u A=>by
  rw [mJ];have h2:=f (i+j) u (by rwa [List.getElem?_drop] at A);simp only [World.cell?] at h2 ⊢;rw [z g S];exact h2
 obtain⟨D,C⟩:∃ D,D=xs.drop i:=⟨_,rfl⟩;have Q:D.length=n - i:=by rw [C,List.length_drop,s]
 have B:Hid (∀ v∈D,v.oneCell'=true):=fun v J=>h1 v (List.mem_of_mem_drop (C ▸ J));rw [<-C] at O;have D9:Hid (∀ W:World,W.heap[w.heap.size]?=some (.cells (splice (splice Z i [X]) (i+1) D).toArray 38 (0,0))->W.ownsRow base 38 1 (.slice (some ⟨w.heap.size,0,none⟩) (n+1) G) (n+1) (bZ xs i X)):=fun W z=>by
  have Fq:Z.take i=xs.take i:=by
   rw [N,List.append_assoc,List.take_append_of_le_length (by rw [List.length_take];omega),List.take_of_length_le (by rw [List.length_take];omega)]
  obtain⟨e1,e2⟩:=UF Z xs i X (by omega) Fq (by omega);rw [C] at z;exact⟨by simp [bZ];omega,.inr ⟨w.heap.size,G,_,rfl,p,z,R,Fp,by simp [e2,yZ],by simp only [Nat.mul_one];rw [s] at e1;exact e1⟩⟩
 have Rx:i<=n:=by omega
 have ab:¬ ((i:Int)=(n:Int)):=by omega
 have ag:(cap:Int) < (n:Int)+1:=by omega
 have ah:¬ cap=i:=by omega
 have ae:¬ G=i:=by omega
 have ad:¬ G=i+1:=by omega
 have ac:(i:Int)<=(cap:Int):=by omega
 have al:IntKind.i64.wrap ((i:Int)+1)=(i:Int)+1:=by rw [IntKind.wrap_i64];omega
 have d:(0:Int)<=(i:Int)+1:=by omega
 have ak:((i:Int)+1).toNat=i+1:=by omega
 have af:(i:Int)<=(n:Int):=by omega
 clear a J o r F M N C K x hi f;obtain⟨y,l⟩:∃ y,y=(w.alloc (.cells Z.toArray 38)).drew:=⟨_,rfl⟩;have m:Below w.heap.size w y:=by rw [l];exact(aM _ _).drew
 have H:y.heap[w.heap.size]?=some (.cells Z.toArray 38 (0,0)):=by rw [l];exact at_new w _
 obtain⟨P,r1,g1,q1⟩:=Dv y 3 28 38 underlying28 RG w.heap.size i (n+1 - i) (G - i) ⟨vb,0,none⟩ 1 1 Z H [X] (by simp only [List.length_cons,List.length_nil,Nat.min_def];split <;>omega) (HV.out y m.block) (by simp;omega) (by intro u hu;simp at hu;subst hu;exact hX);have d:Below w.heap.size w P:=m.trans (rD q1 m.size (Nat.le_refl _));have I:(splice Z i [X]).length=G:=by rw [length_splice _ _ _ (by simp;omega)];exact yZ
 obtain⟨L,_,g2,q2⟩:=Dv P.drew 3 28 38 underlying28 RG w.heap.size (i+1) (n - i) (G - (i+1)) ⟨g,i,none⟩ (n - i) (cap - i) _ g1 D (by rw [Q];simp only [Nat.min_def];split <;>omega) (O.out P.drew d.block) (by rw [I];omega) B.out;have E:Below w.heap.size w L:=d.drew.trans (rD q2 (by have:=d.size;exact this) (Nat.le_refl _));have HE:Hid (L.ownsRow base 38 1 (.slice (some ⟨w.heap.size,0,none⟩) (n+1) G) (n+1) (bZ xs i X)∧w.grownBy L (some g)):=⟨D9.out L g2,below_grown E _⟩;rw [l] at r1;simp only [List.length_cons,List.length_nil,Nat.zero_add] at r1;clear l m H g1 q1 d I g2 q2 E D9 HV O B;go_enter func69,ntmps69;go_wp2_with (at_builtin;refine Lib.wpList_append_run _ rfl _ _ _ _ rfl _ _ rfl rfl _ _ (K4.out _) ?_);go_region
 all_goals
  go_wp2;go_ret;exact⟨_,rfl,HE.out⟩
theorem hszI:(prog.info? 3).map (·.size)=some 1:=by kernel_rfl
theorem abl (w:World) (a:w.ownsRow base 3 1 (.slice (some ⟨g,0,none⟩) n cap) n xs) (D:n<=1048576) (q:w.heap[vb]?=some (.cells #[X] 3)) (A:X.oneCell'=true) (f:base<=w.heap.size):
  kC 70 #[.slice (some ⟨g,0,none⟩) n cap,.int .i64 n,.slice (some ⟨vb,0,none⟩) 1 1] w fun z w'=>∃ k,z=.returned k∧w'.ownsRow base 3 1 k (n+1) (xs++[X])∧w.grownBy w' (some g):=by
 obtain⟨C,B,l,m,o⟩:=info_parts info3;have y:=gH (kN q);have x:=gH a;have:n<=cap:=Dp a;clear a q;go_enter func70,ntmps70;go_wp2_with (at_builtin;refine wpList_append_own _ rfl _ _ 38 rfl base 3 C (.int .i64 0) 1 8 underlying38 B l m o rfl (by decide) _ n xs rfl x.out ⟨vb,0,none⟩ 1 1 [X] rfl rfl y.out (by intro u p;simp at p;subst p;exact A) (by unfold maxLen;omega) (by omega) f ?_)
 all_goals
  intro k r d h _;have s:Hid (r.ownsRow base 3 1 k (n+1) (xs++[X])∧w.grownBy r (some g)):=⟨d,h⟩;clear d h;go_wp2;go_ret;exact⟨k,rfl,s.out⟩
theorem abn (w:World) (a:w.ownsRow base 3 1 (.slice (some ⟨g,0,none⟩) n cap) n xs) (hn:n<=1048576) (ai:i < n) (q:cap < n+1) (J:w.heap[vb]?=some (.cells #[X] 3)) (hX:X.oneCell'=true) (h1:∀ v∈xs,v.oneCell'=true) (p:base<=w.heap.size):
  kC 70 #[.slice (some ⟨g,0,none⟩) n cap,.int .i64 i,.slice (some ⟨vb,0,none⟩) 1 1] w fun en w'=>∃ v',en=.returned v'∧w'.ownsRow base 3 1 v' (n+1) (bZ xs i X)∧w.grownBy w' (some g):=by
 obtain⟨i0,hi,K,V,x⟩:=info_parts info3;have s:xs.length=n:=by have:=a.1;omega
 have aj:n<=cap:=Dp a;have f:∀ j u,xs[j]?=some u->w.cell? ⟨g,j,none⟩=some u:=xS a;have S:g < w.heap.size:=(Dq a).2;have U:vb < w.heap.size:=dI J;obtain⟨G,M⟩:∃ G,G=grownCap w (n+1) cap 3:=⟨_,rfl⟩;have R:n+1<=G:=by rw [M];exact grownCap_ge w _ _ _
 have Fp:G<=maxLen:=by rw [M];exact grownCap_le_maxLen w _ _ _ (by unfold maxLen;omega)
 have aa:G<=9223372036854775807:=by unfold maxLen at Fp;omega
 have o:(Builtin.firstCells i0.size i (.slice (some ⟨g,0,none⟩) i cap)).run prog w.drew=.ok (xs.take i).toArray w.drew:=by
  rw [V]
  exact run_firstCells_some w.drew 1 i ⟨g,0,none⟩ i cap (xs.take i) (by rw [List.length_take];omega) (fun j v A=>by
   rw [mJ,Nat.zero_add]
   rw [List.getElem?_take] at A
   split at A
   ·exact f j v A
   ·cases A)
 have r:i+(n+1 - i)=n+1:=by omega
 have F:(n:Int)+1 - (i:Int)=((n+1 - i:Nat):Int):=by omega
 obtain⟨Z,N⟩:∃ Z:List Value,Z=xs.take i++(Builtin.zeroCells (Value.int .i64 0).cells (n+1 - i)).toList++(Builtin.zeroCells (Value.int .i64 0).cells (G - (n+1))).toList:=⟨_,rfl⟩;have yZ:Z.length=G:=by
  rw [N];simp [Builtin.zeroCells,Value.cells,s];omega
 have K4:Hid (∀ Y,(Builtin.append_ #[38,3] Y #[.slice (some ⟨g,0,none⟩) i cap,.int .i64 ((n:Int)+1 - (i:Int))]).run prog w=.ok (.slice (some ⟨w.heap.size,0,none⟩) (n+1) G) (w.drew.alloc (.cells Z.toArray 3))):=fun Y=>by
  have h:=Lib.run_append_grow_zeros w 38 3 Y 3 i0 _ .i64 .i64 underlying38 underlying3 hi K (some ⟨g,0,none⟩) i cap (xs.take i) o (n+1 - i) (by omega) (by omega) (by omega) (by omega) (by rw [x];omega) (by rw [x,r];exact growslice_fits q (by omega));rw [r, <-M] at h;have e:Z.toArray=(xs.take i).toArray++Builtin.zeroCells (Value.int .i64 0).cells (n+1 - i)++Builtin.zeroCells (Value.int .i64 0).cells (G - (n+1)):=by
   rw [N];apply Array.ext';simp
  rw [F,h,e]
 have HV:Hid (∀ W:World,(∀ k,k < w.heap.size->W.heap[k]?=w.heap[k]?)->∀ j u,[X][j]?=some u->W.cell? ((⟨vb,0,none⟩:Addr).add j)=some u):=fun W z=>kN (by rw [z vb U];exact J);have O:Hid (∀ W:World,(∀ k,k < w.heap.size->W.heap[k]?=w.heap[k]?)->∀ j u,(xs.drop i)[j]?=some u->W.cell? ((⟨g,i,none⟩:Addr).add j)=some u):=fun W z j u A=>by
  rw [mJ];have h2:=f (i+j) u (by rwa [List.getElem?_drop] at A);simp only [World.cell?] at h2 ⊢;rw [z g S];exact h2
 obtain⟨D,C⟩:∃ D,D=xs.drop i:=⟨_,rfl⟩;have Q:D.length=n - i:=by rw [C,List.length_drop,s]
 have B:Hid (∀ v∈D,v.oneCell'=true):=fun v J=>h1 v (List.mem_of_mem_drop (C ▸ J));rw [<-C] at O;have D9:Hid (∀ W:World,W.heap[w.heap.size]?=some (.cells (splice (splice Z i [X]) (i+1) D).toArray 3 (0,0))->W.ownsRow base 3 1 (.slice (some ⟨w.heap.size,0,none⟩) (n+1) G) (n+1) (bZ xs i X)):=fun W z=>by
  have Fq:Z.take i=xs.take i:=by
   rw [N,List.append_assoc,List.take_append_of_le_length (by rw [List.length_take];omega),List.take_of_length_le (by rw [List.length_take];omega)]
  obtain⟨e1,e2⟩:=UF Z xs i X (by omega) Fq (by omega);rw [C] at z;exact⟨by simp [bZ];omega,.inr ⟨w.heap.size,G,_,rfl,p,z,R,Fp,by simp [e2,yZ],by simp only [Nat.mul_one];rw [s] at e1;exact e1⟩⟩
 have Rx:i<=n:=by omega
 have ab:¬ ((i:Int)=(n:Int)):=by omega
 have ag:(cap:Int) < (n:Int)+1:=by omega
 have ah:¬ cap=i:=by omega
 have ae:¬ G=i:=by omega
 have ad:¬ G=i+1:=by omega
 have ac:(i:Int)<=(cap:Int):=by omega
 have al:IntKind.i64.wrap ((i:Int)+1)=(i:Int)+1:=by rw [IntKind.wrap_i64];omega
 have d:(0:Int)<=(i:Int)+1:=by omega
 have ak:((i:Int)+1).toNat=i+1:=by omega
 have af:(i:Int)<=(n:Int):=by omega
 clear a J o r F M N C K x hi f;obtain⟨y,l⟩:∃ y,y=(w.alloc (.cells Z.toArray 3)).drew:=⟨_,rfl⟩;have m:Below w.heap.size w y:=by rw [l];exact(aM _ _).drew
 have H:y.heap[w.heap.size]?=some (.cells Z.toArray 3 (0,0)):=by rw [l];exact at_new w _
 obtain⟨P,r1,g1,q1⟩:=Dv y 3 38 3 underlying38 hszI w.heap.size i (n+1 - i) (G - i) ⟨vb,0,none⟩ 1 1 Z H [X] (by simp only [List.length_cons,List.length_nil,Nat.min_def];split <;>omega) (HV.out y m.block) (by simp;omega) (by intro u hu;simp at hu;subst hu;exact hX);have d:Below w.heap.size w P:=m.trans (rD q1 m.size (Nat.le_refl _));have I:(splice Z i [X]).length=G:=by rw [length_splice _ _ _ (by simp;omega)];exact yZ
 obtain⟨L,_,g2,q2⟩:=Dv P.drew 3 38 3 underlying38 hszI w.heap.size (i+1) (n - i) (G - (i+1)) ⟨g,i,none⟩ (n - i) (cap - i) _ g1 D (by rw [Q];simp only [Nat.min_def];split <;>omega) (O.out P.drew d.block) (by rw [I];omega) B.out;have E:Below w.heap.size w L:=d.drew.trans (rD q2 (by have:=d.size;exact this) (Nat.le_refl _));have HE:Hid (L.ownsRow base 3 1 (.slice (some ⟨w.heap.size,0,none⟩) (n+1) G) (n+1) (bZ xs i X)∧w.grownBy L (some g)):=⟨D9.out L g2,below_grown E _⟩;rw [l] at r1;simp only [List.length_cons,List.length_nil,Nat.zero_add] at r1;clear l m H g1 q1 d I g2 q2 E D9 HV O B;go_enter func70,ntmps70;go_wp2_with (at_builtin;refine Lib.wpList_append_run _ rfl _ _ _ _ rfl _ _ rfl rfl _ _ (K4.out _) ?_);go_region
 all_goals
  go_wp2;go_ret;exact⟨_,rfl,HE.out⟩
variable (base g n cap i vb:Nat) (xs:List Value) (X:Value) (w:World)
theorem agA {α:Type} (Z xs:List α) (i:Nat) (X:α) (m:i<=xs.length) (l:Z.take xs.length=xs) (o:xs.length+1<=Z.length):
  (splice (splice Z (i+1) (xs.drop i)) i [X]).take (xs.length+1)=bZ xs i X∧(splice (splice Z (i+1) (xs.drop i)) i [X]).length=Z.length:=by
 have a:(splice Z (i+1) (xs.drop i)).length=Z.length:=length_splice _ _ _ (by simp;omega);have d:(splice Z (i+1) (xs.drop i)).take i=xs.take i:=by
  unfold splice;rw [List.take_append_of_le_length (by simp;omega),List.take_take, <-l,List.take_take];congr 1;omega
 have f:(splice Z (i+1) (xs.drop i)).drop (i+1)=xs.drop i++Z.drop (i+1+(xs.drop i).length):=by
  unfold splice;rw [List.drop_append_of_le_length (by simp;omega),List.drop_eq_nil_of_le (by simp;omega)];simp
 obtain⟨Y,k⟩:∃ Y,Y=splice Z (i+1) (xs.drop i):=⟨_,rfl⟩;rw [<-k] at d f a ⊢;refine⟨?_,by rw [length_splice _ _ _ (by simp;omega)];exact a⟩;unfold splice;rw [d];simp only [List.length_cons,List.length_nil,Nat.zero_add];rw [f];have h:xs.take i++([X]++(xs.drop i++Z.drop (i+1+(xs.drop i).length)))=bZ xs i X++Z.drop (i+1+(xs.drop i).length):=by simp [bZ]
 rw [h,List.take_append_of_le_length (by simp [bZ];omega),List.take_of_length_le (by simp [bZ];omega)]
theorem JA {w:World} {base g n:Nat} {e:TypeId} {c:Nat} {xs:List Value} (h:w.ownsRow base e 1 (.slice (some ⟨g,0,none⟩) n c) n xs):∃ a:List Value,w.heap[g]?=some (.cells a.toArray e (0,0))∧a.length=c∧a.take n=xs∧base<=g∧c<=maxLen:=by
 rcases h.2 with ⟨d,_⟩ | ⟨p,cap,a,d,f,k,q,l,m,o⟩
 ·cases d
 ·simp only [Value.slice.injEq,Option.some.injEq,Addr.mk.injEq,and_true,true_and] at d;obtain⟨rfl,rfl⟩:=d;exact⟨a.toList,by simpa using k,by simp [m],by simpa using o,f,l⟩
theorem abp (a:w.ownsRow base 3 1 (.slice (some ⟨g,0,none⟩) n cap) n xs) (hn:n<=1048576) (aa:i < n) (o:n+1<=cap) (h:w.heap[vb]?=some (.cells #[X] 3)) (J:vb≠g) (Y:X.oneCell'=true) (W:∀ v∈xs,v.oneCell'=true):
  kC 70 #[.slice (some ⟨g,0,none⟩) n cap,.int .i64 i,.slice (some ⟨vb,0,none⟩) 1 1] w fun V w'=>∃ R,V=.returned R∧w'.ownsRow base 3 1 R (n+1) (bZ xs i X)∧w.grownBy w' (some g):=by
 have p:xs.length=n:=by have:=a.1;omega
 have f:∀ j u,xs[j]?=some u->w.cell? ⟨g,j,none⟩=some u:=xS a;obtain⟨d,E,l,x,s,m⟩:=JA a;have:cap<=9223372036854775807:=by unfold maxLen at m;omega
 have F:∀ H B,(callFunc 85 #[.slice (some ⟨vb,0,none⟩) 1 1,.slice (some ⟨g,i+1,none⟩) H B]).run prog w=.ok (.value (.bool false)) w:=fun H B=>by
  obtain⟨_,Z,_,G,_⟩:=info_parts info3
  rw [run_callFunc_extern func85 (by kernel_rfl) (by kernel_rfl) (by kernel_rfl) (e:=Extern.SlicesOverlaps.overlaps #[38,38] #[4]) (by kernel_rfl),
   Lib.run_overlaps_apart w 38 4 3 underlying38 1 (fun w=>by simp [Go.sizeOf,typeInfo,Z,G]) ⟨vb,0,none⟩ ⟨g,i+1,none⟩ 1 1 H B J 3 3 1 d.length (by simp [World.shape?,h]) (by simp [World.shape?,E]) (by omega) (frozen_of_row w vb 0 _ _ h) (frozen_of_row w vb 1 _ _ h)]
  rfl
 obtain⟨D,r⟩:∃ D,D=xs.drop i:=⟨_,rfl⟩;have k:D.length=n - i:=by rw [r,List.length_drop,p]
 have K:∀ j u,D[j]?=some u->w.drew.cell? ((⟨g,i,none⟩:Addr).add j)=some u:=fun j u O=>by
  rw [mJ];rw [r,List.getElem?_drop] at O;exact f (i+j) u O
 obtain⟨A,_,N,q⟩:=Dv w.drew 3 38 3 underlying38 hszI g (i+1) (n - i) (cap - (i+1)) ⟨g,i,none⟩ (n+1 - i) (cap - i) d E D (by rw [k];simp only [Nat.min_def];split <;>omega) K (by rw [k];omega) (fun v h=>W v (List.mem_of_mem_drop (r ▸ h)));have z:A.heap[vb]?=some (.cells #[X] 3):=by rw [q.block vb (dI h) (by simpa using J)];exact h
 have y:(splice d (i+1) D).length=cap:=by rw [length_splice _ _ _ (by rw [k];omega)];exact l
 obtain⟨L,r2,C,Q⟩:=Dv A 3 38 3 underlying38 hszI g i (n+1 - i) (cap - i) ⟨vb,0,none⟩ 1 1 _ N [X] (by simp only [List.length_cons,List.length_nil,Nat.min_def];split <;>omega) (kN z) (by rw [y];simp;omega) (by intro u P;simp at P;subst P;exact Y);have S:Hid (L.ownsRow base 3 1 (.slice (some ⟨g,0,none⟩) (n+1) cap) (n+1) (bZ xs i X)∧w.grownBy L (some g)):=by
  obtain⟨M,U⟩:=agA d xs i X (by omega) (by rw [p];exact x) (by omega);rw [r] at C;refine⟨⟨by simp [bZ];omega,.inr ⟨g,cap,_,rfl,s,C,o,m,by simp [U,l],by simp only [Nat.mul_one];rw [p] at M;exact M⟩⟩,?_⟩;have I:w.grownBy A (some g):=⟨q.os,q.tape,q.output,q.size,q.block⟩;exact jD I Q
 simp only [List.length_cons,List.length_nil,Nat.zero_add] at r2;have:i<=n:=by omega
 have:¬ ((i:Int)=(n:Int)):=by omega
 have:(n:Int)+1<=(cap:Int):=by omega
 have:¬ cap=i:=by omega
 have:¬ cap=i+1:=by omega
 have:IntKind.i64.wrap ((i:Int)+1)=(i:Int)+1:=by rw [IntKind.wrap_i64];omega
 have:(0:Int)<=(i:Int)+1:=by omega
 have:((i:Int)+1).toNat=i+1:=by omega
 have:(i:Int)<=(n:Int)+1:=by omega
 have:(i:Int)<=(n:Int):=by omega
 clear a h E l x s m f K N q z y C Q r;go_enter func70,ntmps70;go_wp2_with (simp only [F]);go_region
 all_goals
  go_wp2;go_ret;exact⟨_,rfl,S.out⟩
theorem abj (a:w.ownsRow base 3 1 (.slice (some ⟨g,0,none⟩) n cap) n xs) (k:n<=1048576) (x:i<=n) (l:w.heap[vb]?=some (.cells #[X] 3)) (q:vb≠g) (f:X.oneCell'=true) (o:∀ v∈xs,v.oneCell'=true) (d:base<=w.heap.size):
  kC 70 #[.slice (some ⟨g,0,none⟩) n cap,.int .i64 i,.slice (some ⟨vb,0,none⟩) 1 1] w fun r w'=>∃ p,r=.returned p∧w'.ownsRow base 3 1 p (n+1) (bZ xs i X)∧w.grownBy w' (some g):=by
 by_cases h:i=n
 ·subst h;have m:xs.length=i:=(by have:=a.1;omega);have e:bZ xs i X=xs++[X]:=(by rw [<-m];simp [bZ]);rw [e];exact abl base g i cap vb xs X w a k l f d
 ·by_cases s:cap < n+1
  ·exact abn base g n cap i vb xs X w a k (by omega) s l f o d
  ·exact abp base g n cap i vb xs X w a k (by omega) (by omega) l q f o
theorem abk (d:w.ownsRow base 38 1 (.slice (some ⟨g,0,none⟩) n n) n xs) (l:n<=1048576) (r:i<=n) (m:w.heap[vb]?=some (.cells #[X] 38)) (k:X.oneCell'=true) (q:∀ v∈xs,v.oneCell'=true) (a:base<=w.heap.size):
  kC 69 #[.slice (some ⟨g,0,none⟩) n n,.int .i64 i,.slice (some ⟨vb,0,none⟩) 1 1] w fun p w'=>∃ o,p=.returned o∧w'.ownsRow base 38 1 o (n+1) (bZ xs i X)∧w.grownBy w' (some g):=by
 by_cases h:i=n
 ·subst h;have f:xs.length=i:=(by have:=d.1;omega);have e:bZ xs i X=xs++[X]:=(by rw [<-f];simp [bZ]);rw [e];exact abm base g i i vb xs X w d l m k a
 ·exact abo base g n n i vb xs X w d l (by omega) (by omega) m k q a
variable {w w' wx:World} {g base n sz cap T j b:Nat} {its aP:List bn} {e t:TypeId} {co:Option Addr} {xs:List Value} {c c':Array Value} {v u:Value}
theorem NI {α β:Type} (f:α->β) (l:List α) (i:Nat) (x:α):bZ (l.map f) i (f x)=(bZ l i x).map f:=by
 simp [bZ]
theorem kS {B:Nat} (h:w.ownsRow base e sz v n xs) (m:w.heap[B]?=some (.cells c t (0,0))) (o:t≠e):(w.setCell ⟨B,j,none⟩ u).ownsRow base e sz v n xs:=by
 refine⟨h.1,?_⟩;rcases h.2 with l | ⟨g,c',f,p,k,d,a⟩
 ·exact .inl l
 ·refine .inr ⟨g,c',f,p,k,?_,a⟩;rw [Below.heap_setCell _ _ _ _ (by intro e;simp only at e;subst e;rw [m] at d;simp at d;exact o d.2)];exact d
theorem JL (h:w.ownsRow base e sz v n xs) (p:w.grownBy w' (some g)) (o:w.heap[g]?=some (.cells c t (0,0))) (q:t≠e):w'.ownsRow base e sz v n xs:=by
 refine⟨h.1,?_⟩;rcases h.2 with m | ⟨l,c',f,r,k,a,d⟩
 ·exact .inl m
 ·refine .inr ⟨l,c',f,r,k,?_,d⟩;rw [p.block l (dI a) (by intro e;simp only [Option.some.injEq] at e;subst e;rw [o] at a;simp at a;exact q a.2)];exact a
theorem afh (h:w.ownsRow base e sz v n xs) (p:w.grownBy w' (some g)) (k:v.ownBlock≠some g):w'.ownsRow base e sz v n xs:=by
 refine⟨h.1,?_⟩;rcases h.2 with o | ⟨l,c',d,rfl,f,m,a⟩
 ·exact .inl o
 ·exact .inr ⟨l,c',d,rfl,f,by rw [p.block l (dI m) (by simpa [Value.ownBlock] using k)];exact m,a⟩
theorem Ao (d:w.grownBy w' (some g)) (f:w.heap[g]?=some (.cells c e (0,0))) (a:w.heap[b]?=some (.cells c' t (0,0))) (h:t≠e):w'.heap[b]?=some (.cells c' t (0,0)):=by
 rw [d.block b (dI a) (by intro x;simp only [Option.some.injEq] at x;subst x;rw [f] at a;simp at a;exact h a.2.symm)];exact a
theorem af7 (d:w.heap[g]?=some (.cells c e (0,0))) (a:w.heap[b]?=some (.cells c' t (0,0))) (f:t≠e):(w.setCell ⟨g,j,none⟩ u).heap[b]?=some (.cells c' t (0,0)):=by
 rw [Below.heap_setCell _ _ _ _ (by intro x;simp only at x;subst x;rw [d] at a;simp at a;exact f a.2.symm)];exact a
theorem Ox {c:Nat} (h:w.ownsRow base 38 1 (.slice co n c) n (its.map cv)) (p:∀ x∈its,∃ b,w.ownsRow b 3 1 (cv x) x.1.length (ints x.1)):n=its.length∧aI w co its:=by
 have a:n=its.length:=by have:=h.1;simp at this;omega
 refine⟨a,fun x y=>by obtain⟨b,f⟩:=p x y;exact Gi f,?_⟩;rcases h.2 with ⟨_,o⟩ | ⟨g,cap,m,l,f,q,z,_,A,s⟩
 ·left;rw [o] at a;exact List.length_eq_zero_iff.1 a.symm
 ·right;simp only [Value.slice.injEq] at l;refine⟨g,0,l.1,fun k r=>?_⟩;have d:(its.map cv)[k]?=some (cv its[k]):=(by simp [r]);rw [<-s,List.getElem?_take_of_lt (by omega)] at d;simp only [World.cell?,q,Nat.zero_add];simpa using d
structure dK (w:World) (co:Option Addr) (its:List bn):Prop where
 outer:∀ a,co=some a->∃ c,w.heap[a.block]?=some (.cells c 38 (0,0))
 inner:∀ x∈its,∀ a,x.2.1=some a->∃ c,w.heap[a.block]?=some (.cells c 3 (0,0))
theorem Gj {c:Nat} {l:Option Addr} (h:w.ownsRow base e sz (.slice l n c) n xs) (a:Addr) (f:l=some a):∃ c,w.heap[a.block]?=some (.cells c e (0,0)):=by
 rcases h.2 with ⟨d,_⟩ | ⟨g,cap,k,d,_,m,_⟩
 ·simp only [Value.slice.injEq] at d;rw [d.1] at f;cases f
 ·simp only [Value.slice.injEq] at d;rw [d.1] at f;cases f;exact⟨k,m⟩
theorem Oy {c:Nat} (h:w.ownsRow base 38 1 (.slice co n c) n (its.map cv)) (f:∀ x∈its,∃ b,w.ownsRow b 3 1 (cv x) x.1.length (ints x.1)):n=its.length∧(aI w co its∧dK w co its):=
 ⟨(Ox h f).1,(Ox h f).2,fun a d=>Gj h a d,fun x l a d=>by obtain⟨b,k⟩:=f x l;exact Gj k a d⟩
theorem Cp.Ow (h:Cp its g w):aI w (some ⟨g,0,none⟩) its∧dK w (some ⟨g,0,none⟩) its:=
 ⟨h.rd,fun a d=>by cases d;exact⟨_,h.row⟩,fun x f a d=>Gj (h.own x f) a d⟩
def jy (w:World) (r:List (List Int)×Int) (e:Ending) (w':World):Prop:=
 ∃ Ah cap' aP,e=.returned (.tuple #[tval Ah aP.length cap',.int .i64 r.2])∧ak aP=r.1∧(aI w' Ah aP∧dK w' Ah aP)∧Below w.heap.size w w'
structure dH (w:World) (its:List bn) (co:Option Addr) (cap g:Nat) (aP:List bn) (T:Nat) (wx:World):Prop where
 aj:ak aP=ak its
 box:wx.heap[w.heap.size]?=some (aT co its.length cap)
 res:wx.heap[w.heap.size+1]?=some (aT none 0 0)
 eG:wx.heap[T]?=some (aT (some ⟨g,0,none⟩) its.length its.length)
 cp:Cp aP g wx
 rd:aI wx co its
 far:w.heap.size+2<=g∧w.heap.size+2<=T
 below:Below w.heap.size w wx
theorem dH.len (h:dH w its co cap g aP T wx):aP.length=its.length:=by
 have:=congrArg List.length h.aj;simpa using this
theorem dH.next {d:World} (h:dH w its co cap g aP T wx) (a:Below wx.heap.size wx d):dH w its co cap g aP T d:=
 ⟨h.aj,aG a h.box (dI h.box),aG a h.res (dI h.res),aG a h.eG (dI h.eG),h.cp.below a,h.rd.below a,h.far,iG h.below a⟩
theorem tF {a:World} (m:aI w co its) (k:ak aP=ak its) (l:((w.alloc (aT co its.length cap)).alloc (aT none 0 0)).heap.size<=g) (h:Cp aP g a) (f:Below ((w.alloc (aT co its.length cap)).alloc (aT none 0 0)).heap.size ((w.alloc (aT co its.length cap)).alloc (aT none 0 0)) a):
  dH w its co cap g aP a.heap.size (a.alloc (aT (some ⟨g,0,none⟩) its.length its.length)):=by
 have p:aP.length=its.length:=by
  have:=congrArg List.length k;simpa using this
 have d:Below w.heap.size w a:=iG (aO w _ _) f;have o:w.heap.size+2<=a.heap.size:=by have:=f.size;simp at this;omega
 refine⟨k,aF (aG f (aF (at_new w _) _) (by simp;omega)) _,aF (aG f (bK w _ _) (by simp)) _,at_new _ _,h.below (aM _ _),(m.below d).below (aM _ _),⟨by simpa using l,o⟩,iG d (aM _ _)⟩
theorem dH.same (h:dH w its co cap g aP T wx) (q:Int) (r:List (List Int)×Int) (a:r=(ak its,q)):
  jy w r (.returned (.tuple #[tval (some ⟨g,0,none⟩) its.length its.length,.int .i64 q])) (wx.setCell ⟨w.heap.size+1,0,none⟩ (.slice (some ⟨g,0,none⟩) its.length its.length)):=by
 subst a;have:=h.far;exact⟨some ⟨g,0,none⟩,its.length,aP,by rw [h.len],h.aj,(h.cp.set (by omega)).Ow,h.below.setCell (by simp) _⟩
end Go.Proofs.YtkcdcamophkdlaaGreatDoor.Tl
