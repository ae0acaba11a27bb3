import Derived.Test.YtkcdcamophkdlaaGreatDoorAP
set_option maxHeartbeats 4000000
set_option maxRecDepth 100000
open Go.Proofs.Tryz
namespace Go.Proofs.YtkcdcamophkdlaaGreatDoor.Tl
open Go.RowKit
variable {w wx:World} {its aP:List bn} {co:Option Addr} {cap g T:Nat}
theorem dH.row (h:dH w its co cap g aP T wx) (b:its.length<=1048576):wx.ownsRow (w.heap.size+2) 38 1 (.slice (some ⟨g,0,none⟩) its.length its.length) its.length (aP.map cv):=by
 have a:=h.len;refine⟨by simp [a],.inr ⟨g,its.length,_,rfl,h.far.1,h.cp.row,Nat.le_refl _,by unfold maxLen;omega,by simp [a],?_⟩⟩;rw [List.take_of_length_le (by simp [a])]
theorem Dn {α:Type} [DecidableEq α]:∀ (l m:List α),l.Nodup->(∀ x∈l,x∈m)->l.length<=m.length
 | [],_,_,_=>Nat.zero_le _
 | x::r,m,hn,hs=>by
  have c:=hs x (by simp)
  rw [List.nodup_cons] at hn
  have:=Dn r (m.erase x) hn.2 (fun y d=>(List.mem_erase_of_ne (a:=y) (b:=x) (by intro e;subst e;exact hn.1 d)).2 (hs y (by simp [d])))
  have:=List.length_erase_of_mem c
  have:0 < m.length:=List.length_pos_of_mem c
  simp only [List.length_cons]
  omega
theorem Mt:∀ (a:List (List Int)),(∀ c∈a,1<=c.length)->a.length<=a.flatten.length
 | [],_=>Nat.le_refl _
 | c::r,h=>by
  have:=h c (by simp)
  have:=Mt r (fun d b=>h d (by simp [b]))
  simp only [List.length_cons,List.flatten_cons,List.length_append]
  omega
theorem sM {a:List (List Int)} (h:eY a):a.length<=6:=by
 have f:=Mt a (fun c d=>(h.kI c d).1)
 have b:=Dn a.flatten [0,1,2,3,4,5] h.once (fun p e=>by
  have:=h.pane p e
  simp only [dG,decide_eq_true_eq] at this
  have:p=0∨p=1∨p=2∨p=3∨p=4∨p=5:=by omega
  simpa using this)
 simp only [List.length_cons,List.length_nil] at b;omega
theorem QA (its:List bn):∀ v∈its.map cv,v.oneCell'=true:=by
 intro v a;obtain⟨_,_,rfl⟩:=List.mem_map.1 a
 rfl
theorem adh {V:Nat} {n:Int} (h:w.heap[V]?=some (.cells #[.int .i64 n] 3)):w.ownsRow 0 3 1 (cv ([n],some ⟨V,0,none⟩,1)) 1 (ints [n]):=
 ⟨rfl,.inr ⟨V,1,_,rfl,Nat.zero_le _,h,Nat.le_refl _,by unfold maxLen;omega,rfl,rfl⟩⟩
theorem vY:(30:TypeId)≠38:=by decide
theorem vZ:(30:TypeId)≠3:=by decide
theorem Dl:(38:TypeId)≠3:=by decide
theorem ab1 {α:Type} {l:List α} {i:Nat} {x y:α} (h:y∈bZ l i x):y∈l∨y=x:=by
 unfold bZ at h;rcases List.mem_append.1 h with h | h
 ·exact .inl (List.mem_of_mem_take h)
 ·rcases List.mem_cons.1 h with h | h
  ·exact .inr h
  ·exact .inl (List.mem_of_mem_drop h)
theorem agJ (h:dH w its co cap g aP T wx) (u:its.length<=1048576) (i:Nat) (B:i+1<=its.length) (n:Int):
  kC 69 #[.slice (some ⟨g,0,none⟩) its.length its.length,.int .i64 ((i:Int)+1),.slice (some ⟨wx.heap.size+1,0,none⟩) 1 1] ((wx.alloc (.cells #[.int .i64 n] 3)).alloc (.cells #[.slice (some ⟨wx.heap.size,0,none⟩) 1 1] 38)) fun e j=>
   ∃ f d,e=.returned (.slice f (its.length+1) d)∧j.heap[w.heap.size+1]?=some (aT none 0 0)∧j.heap[T]?=some (aT (some ⟨g,0,none⟩) its.length its.length)∧
    jy w (bZ (ak its) (i+1) [n],0) (.returned (.tuple #[tval f (its.length+1) d,.int .i64 0])) ((j.setCell ⟨T,0,none⟩ (.slice f (its.length+1) d)).setCell ⟨w.heap.size+1,0,none⟩ (.slice f (its.length+1) d)):=by
 have D:=h.far;have A:Below wx.heap.size wx ((wx.alloc (.cells #[.int .i64 n] 3)).alloc (.cells #[.slice (some ⟨wx.heap.size,0,none⟩) 1 1] 38)):=aO _ _ _;have b:=h.next A;have q:=bK wx (.cells #[.int .i64 n] 3) (.cells #[.slice (some ⟨wx.heap.size,0,none⟩) 1 1] 38);have o:=aF (at_new wx (.cells #[.int .i64 n] 3)) (.cells #[.slice (some ⟨wx.heap.size,0,none⟩) 1 1] 38);have l:=abk (w.heap.size+2) g its.length (i+1) (wx.heap.size+1) (aP.map cv) (.slice (some ⟨wx.heap.size,0,none⟩) 1 1) _ (b.row u) u B q rfl (QA aP) (by have:=dI h.eG;simp;omega);rw [show ((i+1:Nat):Int)=(i:Int)+1 by omega] at l;refine l.mono ?_;rintro e j ⟨E,rfl,a,k⟩;obtain⟨f,d,rfl⟩:=oG a;have v:=Ao k b.cp.row b.res vY;have m:=Ao k b.cp.row b.eG vY;refine⟨f,d,rfl,v,m,f,d,bZ aP (i+1) ([n],some ⟨wx.heap.size,0,none⟩,1),?_,?_,?_,?_⟩
 ·have C:(bZ aP (i+1) ([n],some ⟨wx.heap.size,0,none⟩,1)).length=its.length+1:=by
   have:=h.len;simp [bZ];omega
  rw [C]
 ·simp only [ak];have y:=NI (fun x:bn=>x.1) aP (i+1) ([n],some ⟨wx.heap.size,0,none⟩,1);rw [<-y];have:=h.aj;simp only [ak] at this;rw [this]
 ·have z:bZ (aP.map cv) (i+1) (.slice (some ⟨wx.heap.size,0,none⟩) 1 1)=(bZ aP (i+1) ([n],some ⟨wx.heap.size,0,none⟩,1)).map cv:=NI cv aP (i+1) ([n],some ⟨wx.heap.size,0,none⟩,1);rw [z] at a;have s:(j.setCell ⟨T,0,none⟩ (.slice f (its.length+1) d)).heap[w.heap.size+1]?=some (aT none 0 0):=by
   rw [Below.heap_setCell _ _ _ _ (by simp;omega)];exact v
  refine(Oy (base:=w.heap.size+2) (n:=its.length+1) (c:=d) (kS (kS a m vY) s vY) (fun x t=>?_)).2;rcases ab1 t with t | rfl
  ·exact⟨_,kS (kS (JL (b.cp.own x t) k b.cp.row Dl) m vZ) s vZ⟩
  ·exact⟨_,kS (kS (JL (adh o) k b.cp.row Dl) m vZ) s vZ⟩
 ·have r:Below w.heap.size w j:=b.below.trans (rD k b.below.size (by omega));exact(r.setCell (by simp;omega) _).setCell (by simp) _
theorem dH.col (h:dH w its co cap g aP T wx) (i:Nat) (b:i < its.length):∃ x,aP[i]?=some x∧x.1=(ak its).getD i []∧wx.cell? ⟨g,i,none⟩=some (.slice x.2.1 x.1.length x.2.2)∧wx.frozen? ⟨g,i,none⟩=false:=by
 have:=h.len;have a:i < aP.length:=by omega
 refine⟨aP[i],by simp [a],?_,?_,frozen_of_row wx g i _ _ h.cp.row⟩
 ·rw [<-h.aj];simp [a]
 ·simp only [World.cell?,h.cp.row];simp [a]
theorem abt (l:List Int) (i:Nat) (n:Int):bZ (ints l) i (.int .i64 n)=ints (bZ l i n):=NI (Value.int .i64) l i n
theorem Tf {base:Nat} {x:bn} (h:w.ownsRow base 3 1 (cv x) x.1.length (ints x.1)) (i:x.1≠[]):∃ b,x.2.1=some ⟨b,0,none⟩∧base<=b:=by
 rcases h.2 with ⟨_,e⟩ | ⟨g,c,d,a,f,_⟩
 ·exact absurd (List.length_eq_zero_iff.1 e) i
 ·simp only [cv,Value.slice.injEq] at a;exact⟨g,a.1,f⟩
theorem Ur {w':World} (h:dH w its co cap g aP T wx) (N:its.length<=1048576) (i:Nat) (M:i < its.length) (x:bn) (G:aP[i]?=some x) (b:Nat) (q:x.2.1=some ⟨b,0,none⟩) (t:wx.grownBy w' (some b)) (l:List Int) (d:Option Addr) (c:Nat) (base:Nat) (v:w'.ownsRow base 3 1 (.slice d l.length c) l.length (ints l)):
  w'.heap[w.heap.size+1]?=some (aT none 0 0)∧w'.heap[T]?=some (aT (some ⟨g,0,none⟩) its.length its.length)∧w'.cell? ⟨g,i,none⟩=some (.slice x.2.1 x.1.length x.2.2)∧w'.frozen? ⟨g,i,none⟩=false∧
   jy w ((ak its).set i l,0) (.returned (.tuple #[tval (some ⟨g,0,none⟩) its.length its.length,.int .i64 0])) ((w'.setCell ⟨g,i,none⟩ (.slice d l.length c)).setCell ⟨w.heap.size+1,0,none⟩ (.slice (some ⟨g,0,none⟩) its.length its.length)):=by
 have L:=h.far;have z:=h.len;have j:i < aP.length:=by omega
 obtain rfl:aP[i]=x:=by simpa [j] using G
 have r:=h.cp.own aP[i] (List.getElem_mem j);unfold cv at r;rw [q] at r;obtain⟨_,f,_,_,_,_⟩:=JA r;have s:=Ao t f h.cp.row Dl;have E:=Ao t f h.res vZ;have I:=Ao t f h.eG vZ;have m:w'.cell? ⟨g,i,none⟩=some (cv aP[i]):=by
  simp only [World.cell?,s];simp [j]
 refine⟨E,I,m,frozen_of_row w' g i _ _ s,some ⟨g,0,none⟩,its.length,aP.set i (l,d,c),by simp [z],?_,?_,?_⟩
 ·have:=h.aj;simp only [ak] at this ⊢;rw [List.map_set,this]
 ·have D:(w'.setCell ⟨g,i,none⟩ (.slice d l.length c)).heap[w.heap.size+1]?=some (aT none 0 0):=af7 s E vY;have J:(w'.setCell ⟨g,i,none⟩ (.slice d l.length c)).heap[g]?=some (.cells ((aP.set i (l,d,c)).map cv).toArray 38):=by
   rw [heap_setCell_same w' g i _ _ _ s];congr 1;congr 1;apply Array.ext';simp [List.map_set]
  have K:(w'.setCell ⟨g,i,none⟩ (.slice d l.length c)).ownsRow 0 38 1 (.slice (some ⟨g,0,none⟩) its.length its.length) its.length ((aP.set i (l,d,c)).map cv):=
   ⟨by simp [z],.inr ⟨g,its.length,_,rfl,Nat.zero_le _,J,Nat.le_refl _,by unfold maxLen;omega,by simp [z],by rw [List.take_of_length_le (by simp [z])]⟩⟩
  refine(Oy (kS K D vY) (fun y H=>?_)).2;obtain⟨k,F,rfl⟩:=List.getElem_of_mem H;have o:k < aP.length:=(by simpa using F);by_cases e:i=k
  ·subst e;have A:(aP.set i (l,d,c))[i]=(l,d,c):=(by simp);rw [A];exact⟨base,kS (kS v s Dl) D vZ⟩
  ·have A:(aP.set i (l,d,c))[k]=aP[k]:=(by simp [e]);rw [A];refine⟨_,kS (kS (afh (h.cp.own aP[k] (List.getElem_mem o)) t ?_) s Dl) D vZ⟩;unfold cv;cases u:aP[k].2.1 with
   | none=>simp [Value.ownBlock]
   | some a=>
    simp only [Value.ownBlock,ne_eq,Option.some.injEq];rcases Nat.lt_or_gt_of_ne e with B | B
    ·have:=h.cp.apart i k j o B _ _ q u;simp only at this;omega
    ·have:=h.cp.apart k i o j B _ _ u q;simp only at this;omega
 ·have C:Below w.heap.size w w':=h.below.trans (rD t h.below.size (by omega));exact(C.setCell (by simp;omega) _).setCell (by simp) _
theorem agI (h:dH w its co cap g aP T wx) (I:its.length<=1048576) (i:Nat) (H:i < its.length) (x:bn) (v:aP[i]?=some x) (y:x.1.length<=1048576) (j:Nat) (u:j+1<=x.1.length) (n:Int) (W:World) (V:Nat) (q:Int) (J:q=(j:Int)+1) (A:Below wx.heap.size wx W) (C:W.heap[V]?=some (.cells #[.int .i64 n] 3)) (D:wx.heap.size<=V):
  kC 70 #[.slice x.2.1 x.1.length x.2.2,.int .i64 q,.slice (some ⟨V,0,none⟩) 1 1] W fun e d=>
   ∃ k l,e=.returned (.slice k (x.1.length+1) l)∧(d.cell? ⟨w.heap.size+1,0,none⟩=some (.slice none 0 0)∧d.frozen? ⟨w.heap.size+1,0,none⟩=false)∧d.cell? ⟨T,0,none⟩=some (.slice (some ⟨g,0,none⟩) its.length its.length)∧d.cell? ⟨g,i,none⟩=some (.slice x.2.1 x.1.length x.2.2)∧d.frozen? ⟨g,i,none⟩=false∧
    jy w ((ak its).set i (bZ x.1 (j+1) n),0) (.returned (.tuple #[tval (some ⟨g,0,none⟩) its.length its.length,.int .i64 0])) ((d.setCell ⟨g,i,none⟩ (.slice k (x.1.length+1) l)).setCell ⟨w.heap.size+1,0,none⟩ (.slice (some ⟨g,0,none⟩) its.length its.length)):=by
 subst J;have z:=h.next A;have o:=z.cp.own x (List.mem_of_getElem? v);obtain⟨b,c,G⟩:=Tf o (by intro e;rw [e] at u;simp at u);have s:=o;unfold cv at s;rw [c] at s ⊢;have E:b < wx.heap.size:=by
  have t:=h.cp.own x (List.mem_of_getElem? v);unfold cv at t;rw [c] at t;exact(Dq t).2
 have r:=abj (g+1) b x.1.length x.2.2 (j+1) V (ints x.1) (.int .i64 n) W s y u C (by omega) rfl (Jl _) (by have:=A.size;omega);rw [show ((j+1:Nat):Int)=(j:Int)+1 by omega] at r;refine r.mono ?_;rintro e d ⟨M,rfl,a,F⟩;obtain⟨k,l,rfl⟩:=oG a;have m:(bZ x.1 (j+1) n).length=x.1.length+1:=by simp [bZ];omega
 rw [abt] at a;have f:d.ownsRow (g+1) 3 1 (.slice k (bZ x.1 (j+1) n).length l) (bZ x.1 (j+1) n).length (ints (bZ x.1 (j+1) n)):=by rw [m];exact a
 have:=Ur z I i H x v b c F (bZ x.1 (j+1) n) k l (g+1) f;rw [m,c] at this;obtain⟨B,K,L⟩:=this;exact⟨k,l,rfl,⟨(one B).1,(one B).2 0⟩,(one K).1,L⟩
variable (its:List bn) (co:Option Addr) (cap:Nat) (p n:Int) (right:Bool) (w:World)
theorem sI (k:aI w co its) (j:its.length<=5864062014805) (b:∀ x∈its,x.1.length<=17592186044416):
  kC 67 #[tval co its.length cap] w fun e c=>∃ g aP,e=.returned (tval (some ⟨g,0,none⟩) its.length its.length)∧ak aP=ak its∧w.heap.size<=g∧Cp aP g c∧Below w.heap.size w c:=by
 refine(Yl its co cap w k j b).mono ?_;rintro e c ⟨g,aP,rfl,d,h,a,f⟩;have i:aP.length=its.length:=by
  have:=congrArg List.length d;simpa using this
 exact⟨g,aP,by rw [i],d,h,a,f⟩
theorem xD (d:aI w co its) (c:its.length<=5864062014805) (a:∀ x∈its,x.1.length<=17592186044416) (r:Option (Nat×Nat)) (b:r=bL p (ak its)):
  kA 59 #[tval co its.length cap,.int .i64 p] w (.tuple #[.int .i64 (fi r),.int .i64 (fj r),.bool r.isSome]):=by
 refine(yU its co cap p w d c a r b).mono ?_;rintro _ _ ⟨rfl,rfl⟩;exact⟨rfl,aM _ _⟩
theorem agE (l:aI w co its) (B:its.length<=5864062014805) (c:∀ x∈its,x.1.length<=17592186044416) (r:List (List Int)×Int) (i:r=dP (ak its) p n right) (b:cK (ak its)=false):
  kC 39 #[tval co its.length cap,.int .i64 p,.int .i64 n,.bool right] w (jy w r):=by
 have F:=gH l;have D:Hid (∀ W,Below w.heap.size w W->kC 67 #[tval co its.length cap] W fun e C=>∃ g aP,e=.returned (tval (some ⟨g,0,none⟩) its.length its.length)∧ak aP=ak its∧W.heap.size<=g∧Cp aP g C∧Below W.heap.size W C):=fun W k=>sI its co cap W (l.below k) B c;have E:Hid (∀ W,aI W co its->kA 60 #[tval co its.length cap] W (.bool false)):=fun W k=>jT its co cap W k B c false b.symm;have j:Hid (r=(ak its,1)):=by show r=_;rw [i];simp [dP,b]
 clear l c i b;go_enter func39,ntmps39
 go_wp2_with (first
  | (go_at_call 67;refine(D.out _ (aO _ _ _)).mono ?_;rintro e G ⟨g,aP,rfl,z,A,h,y⟩;have d:=gH (tF F.out z A h y);obtain⟨m,o⟩:=one d.out.box;obtain⟨q,s⟩:=one d.out.res;obtain⟨t,u⟩:=one d.out.eG;clear z A h y)
  | (go_at_call 60;refine(E.out _ d.out.rd).mono ?_;rintro e H ⟨rfl,f⟩;have a:=gH (d.out.next f);clear f m o q s t u;obtain⟨m,o⟩:=one a.out.box;obtain⟨q,s⟩:=one a.out.res;obtain⟨t,u⟩:=one a.out.eG)
  | fail)
 refine bodyPost_ret (v:=.tuple #[tval (some ⟨g,0,none⟩) its.length its.length,.int .i64 1]) (by simp [results,results39,go_sem, *]) rfl ?_;exact a.out.same 1 r j.out
theorem agL (m:aI w co its) (C:its.length<=5864062014805) (b:∀ x∈its,x.1.length<=17592186044416) (r:List (List Int)×Int) (j:r=dP (ak its) p n right) (i:cK (ak its)=true) (c:dG n=false):
  kC 39 #[tval co its.length cap,.int .i64 p,.int .i64 n,.bool right] w (jy w r):=by
 have G:=gH m;have E:Hid (∀ W,Below w.heap.size w W->kC 67 #[tval co its.length cap] W fun e D=>∃ g aP,e=.returned (tval (some ⟨g,0,none⟩) its.length its.length)∧ak aP=ak its∧W.heap.size<=g∧Cp aP g D∧Below W.heap.size W D):=fun W l=>sI its co cap W (m.below l) C b;have F:Hid (∀ W,aI W co its->kA 60 #[tval co its.length cap] W (.bool true)):=fun W l=>jT its co cap W l C b true i.symm;have H:Hid (∀ W,kD 68 #[.int .i64 n] W (.bool false)):=fun W=>by have:=Az n W;rw [c] at this;exact this
 have k:Hid (r=(ak its,1)):=by show r=_;rw [j];simp [dP,c]
 clear m b j i c;go_enter func39,ntmps39
 go_wp2_with (first
  | (go_at_call 67;refine(E.out _ (aO _ _ _)).mono ?_;rintro e I ⟨g,aP,rfl,A,B,h,z⟩;have d:=gH (tF G.out A B h z);obtain⟨o,q⟩:=one d.out.box;obtain⟨s,t⟩:=one d.out.res;obtain⟨u,y⟩:=one d.out.eG;clear A B h z)
  | (go_at_call 60;refine(F.out _ d.out.rd).mono ?_;rintro e J ⟨rfl,f⟩;have a:=gH (d.out.next f);clear f o q s t u y;obtain⟨o,q⟩:=one a.out.box;obtain⟨s,t⟩:=one a.out.res;obtain⟨u,y⟩:=one a.out.eG)
  | (go_at_call 68;refine(H.out _).mono ?_;rintro e K ⟨rfl,rfl⟩)
  | fail)
 refine bodyPost_ret (v:=.tuple #[tval (some ⟨g,0,none⟩) its.length its.length,.int .i64 1]) (by simp [results,results39,go_sem, *]) rfl ?_;exact a.out.same 1 r k.out
theorem agK (C:aI w co its) (B:its.length<=5864062014805) (b:∀ x∈its,x.1.length<=17592186044416) (r:List (List Int)×Int) (l:r=dP (ak its) p n right) (c:cK (ak its)=true) (d:dG n=true) (A:bL p (ak its)=none):
  kC 39 #[tval co its.length cap,.int .i64 p,.int .i64 n,.bool right] w (jy w r):=by
 have K:=gH C;have H:Hid (∀ W,Below w.heap.size w W->kC 67 #[tval co its.length cap] W fun e G=>∃ g aP,e=.returned (tval (some ⟨g,0,none⟩) its.length its.length)∧ak aP=ak its∧W.heap.size<=g∧Cp aP g G∧Below W.heap.size W G):=fun W h=>sI its co cap W (C.below h) B b;have J:Hid (∀ W,aI W co its->kA 60 #[tval co its.length cap] W (.bool true)):=fun W h=>jT its co cap W h B b true c.symm;have L:Hid (∀ W,kD 68 #[.int .i64 n] W (.bool true)):=fun W=>by have:=Az n W;rw [d] at this;exact this
 have I:Hid (∀ W,aI W co its->kA 59 #[tval co its.length cap,.int .i64 p] W (.tuple #[.int .i64 0,.int .i64 0,.bool false])):=fun W h=>xD its co cap p W h B b (none) A.symm;have z:Hid (r=(ak its,3)):=by show r=_;rw [l];simp [dP,c,d,A]
 clear C b l c d A;go_enter func39,ntmps39
 go_wp2_with (first
  | (go_at_call 67;refine(H.out _ (aO _ _ _)).mono ?_;rintro e M ⟨g,aP,rfl,E,F,k,D⟩;have f:=gH (tF K.out E F k D);obtain⟨m,o⟩:=one f.out.box;obtain⟨q,s⟩:=one f.out.res;obtain⟨t,u⟩:=one f.out.eG;clear E F k D)
  | (go_at_call 60;refine(J.out _ f.out.rd).mono ?_;rintro e N ⟨rfl,i⟩;have a:=gH (f.out.next i);clear i m o q s t u;obtain⟨m,o⟩:=one a.out.box;obtain⟨q,s⟩:=one a.out.res;obtain⟨t,u⟩:=one a.out.eG)
  | (go_at_call 68;refine(L.out _).mono ?_;rintro e O ⟨rfl,rfl⟩)
  | (go_at_call 59;refine(I.out _ a.out.rd).mono ?_;rintro e P ⟨rfl,j⟩;have y:=gH (a.out.next j);clear j m o q s t u;obtain⟨m,o⟩:=one y.out.box;obtain⟨q,s⟩:=one y.out.res;obtain⟨t,u⟩:=one y.out.eG)
  | fail)
 refine bodyPost_ret (v:=.tuple #[tval (some ⟨g,0,none⟩) its.length its.length,.int .i64 3]) (by simp [results,results39,go_sem, *]) rfl ?_;exact y.out.same 3 r z.out
theorem agN (G:aI w co its) (D:its.length<=5864062014805) (b:∀ x∈its,x.1.length<=17592186044416) (r:List (List Int)×Int) (B:r=dP (ak its) p n right) (d:cK (ak its)=true) (f:dG n=true) (i j:Nat) (F:bL p (ak its)=some (i,j)) (H:aR (ak its) n=true):
  kC 39 #[tval co its.length cap,.int .i64 p,.int .i64 n,.bool right] w (jy w r):=by
 have Q:=gH G;have M:Hid (∀ W,Below w.heap.size w W->kC 67 #[tval co its.length cap] W fun e L=>∃ g aP,e=.returned (tval (some ⟨g,0,none⟩) its.length its.length)∧ak aP=ak its∧W.heap.size<=g∧Cp aP g L∧Below W.heap.size W L):=fun W c=>sI its co cap W (G.below c) D b;have O:Hid (∀ W,aI W co its->kA 60 #[tval co its.length cap] W (.bool true)):=fun W c=>jT its co cap W c D b true d.symm;have R:Hid (∀ W,kD 68 #[.int .i64 n] W (.bool true)):=fun W=>by have:=Az n W;rw [f] at this;exact this
 have N:Hid (∀ W,aI W co its->kA 59 #[tval co its.length cap,.int .i64 p] W (.tuple #[.int .i64 i,.int .i64 j,.bool true])):=fun W c=>xD its co cap p W c D b (some (i,j)) F.symm;have P:Hid (∀ W,aI W co its->kA 66 #[tval co its.length cap,.int .i64 n] W (.bool true)):=fun W c=>vT its co cap n W c D b true H.symm;have E:Hid (r=(ak its,4)):=by show r=_;rw [B];simp [dP,d,f,F,H]
 clear G b B d f F H;go_enter func39,ntmps39
 go_wp2_with (first
  | (go_at_call 67;refine(M.out _ (aO _ _ _)).mono ?_;rintro e S ⟨g,aP,rfl,J,K,A,I⟩;have s:=gH (tF Q.out J K A I);obtain⟨h,k⟩:=one s.out.box;obtain⟨l,m⟩:=one s.out.res;obtain⟨o,q⟩:=one s.out.eG;clear J K A I)
  | (go_at_call 60;refine(O.out _ s.out.rd).mono ?_;rintro e U ⟨rfl,u⟩;have a:=gH (s.out.next u);clear u h k l m o q;obtain⟨h,k⟩:=one a.out.box;obtain⟨l,m⟩:=one a.out.res;obtain⟨o,q⟩:=one a.out.eG)
  | (go_at_call 68;refine(R.out _).mono ?_;rintro e V ⟨rfl,rfl⟩)
  | (go_at_call 59;refine(N.out _ a.out.rd).mono ?_;rintro e X ⟨rfl,y⟩;have t:=gH (a.out.next y);clear y h k l m o q;obtain⟨h,k⟩:=one t.out.box;obtain⟨l,m⟩:=one t.out.res;obtain⟨o,q⟩:=one t.out.eG)
  | (go_at_call 66;refine(P.out _ t.out.rd).mono ?_;rintro e Y ⟨rfl,z⟩;have C:=gH (t.out.next z);clear z h k l m o q;obtain⟨h,k⟩:=one C.out.box;obtain⟨l,m⟩:=one C.out.res;obtain⟨o,q⟩:=one C.out.eG)
  | fail)
 refine bodyPost_ret (v:=.tuple #[tval (some ⟨g,0,none⟩) its.length its.length,.int .i64 4]) (by simp [results,results39,go_sem, *]) rfl ?_;exact C.out.same 4 r E.out
variable (its:List bn) (co:Option Addr) (cap:Nat) (p n:Int) (right:Bool) (w:World)
theorem OZ (I:aI w co its) (G:its.length<=5864062014805) (b:∀ x∈its,x.1.length<=17592186044416) (r:List (List Int)×Int) (D:r=dP (ak its) p n right) (c:cK (ak its)=true) (s:dG n=true) (i j:Nat) (F:bL p (ak its)=some (i,j)) (J:aR (ak its) n=false) (E:right=true):
  kC 39 #[tval co its.length cap,.int .i64 p,.int .i64 n,.bool right] w (jy w r):=by
 have Y:=gH I;have R:Hid (∀ W,Below w.heap.size w W->kC 67 #[tval co its.length cap] W fun e P=>∃ g aP,e=.returned (tval (some ⟨g,0,none⟩) its.length its.length)∧ak aP=ak its∧W.heap.size<=g∧Cp aP g P∧Below W.heap.size W P):=fun W q=>sI its co cap W (I.below q) G b;have sO:its.length<=1048576:=by have:=sM ((nG _).1 c);simp only [ak,List.length_map] at this;omega
 have hi:i < its.length:=by obtain⟨h1,_⟩:=jI F;simpa using h1
 have V:Hid (∀ W,aI W co its->kA 60 #[tval co its.length cap] W (.bool true)):=fun W q=>jT its co cap W q G b true c.symm;have sj:Hid (∀ W,kD 68 #[.int .i64 n] W (.bool true)):=fun W=>by have:=Az n W;rw [s] at this;exact this
 have U:Hid (∀ W,aI W co its->kA 59 #[tval co its.length cap,.int .i64 p] W (.tuple #[.int .i64 i,.int .i64 j,.bool true])):=fun W q=>xD its co cap p W q G b (some (i,j)) F.symm;have X:Hid (∀ W,aI W co its->kA 66 #[tval co its.length cap,.int .i64 n] W (.bool false)):=fun W q=>vT its co cap n W q G b false J.symm;have H:Hid (r=(bZ (ak its) (i+1) [n],0)):=by show r=_;rw [D];simp [dP,c,s,F,J,E]
 subst E;clear I b D c s F J;go_enter func39,ntmps39
 go_wp2_with (first
  | (go_at_call 67;refine(R.out _ (aO _ _ _)).mono ?_;rintro e Q ⟨g,aP,rfl,N,O,C,M⟩;have u:=gH (tF Y.out N O C M);obtain⟨m,o⟩:=one u.out.box;obtain⟨d,f⟩:=one u.out.res;obtain⟨h,k⟩:=one u.out.eG;clear N O C M)
  | (go_at_call 60;refine(V.out _ u.out.rd).mono ?_;rintro e w2 ⟨rfl,z⟩;have a:=gH (u.out.next z);clear z m o d f h k;obtain⟨m,o⟩:=one a.out.box;obtain⟨d,f⟩:=one a.out.res;obtain⟨h,k⟩:=one a.out.eG)
  | (go_at_call 68;refine(sj.out _).mono ?_;rintro e w3 ⟨rfl,rfl⟩)
  | (go_at_call 59;refine(U.out _ a.out.rd).mono ?_;rintro e w4 ⟨rfl,A⟩;have y:=gH (a.out.next A);clear A m o d f h k;obtain⟨m,o⟩:=one y.out.box;obtain⟨d,f⟩:=one y.out.res;obtain⟨h,k⟩:=one y.out.eG)
  | (go_at_call 66;refine(X.out _ y.out.rd).mono ?_;rintro e w5 ⟨rfl,B⟩;have t:=gH (y.out.next B);clear B m o d f h k;obtain⟨m,o⟩:=one t.out.box;obtain⟨d,f⟩:=one t.out.res;obtain⟨h,k⟩:=one t.out.eG)
  | (go_at_call 69;refine(agJ t.out sO i hi n).mono ?_;rintro e w6 ⟨Z,c',rfl,K,L,l⟩;have S:=gH l;clear l m o d f h k;obtain⟨d,f⟩:=one K;obtain⟨h,k⟩:=one L;have aa:¬ Q.heap.size=w.heap.size+1:=(by have:=t.out.far;omega);have ab:¬ w.heap.size+1=Q.heap.size:=(by have:=t.out.far;omega);clear K L)
  | fail)
 refine bodyPost_ret (v:=.tuple #[tval Z (its.length+1) c',.int .i64 0]) (by simp [results,results39,go_sem, *]) rfl ?_;rw [H.out];exact S.out
theorem agH (M:aI w co its) (K:its.length<=5864062014805) (b:∀ x∈its,x.1.length<=17592186044416) (r:List (List Int)×Int) (F:r=dP (ak its) p n right) (c:cK (ak its)=true) (h:dG n=true) (i j:Nat) (J:bL p (ak its)=some (i,j)) (O:aR (ak its) n=false) (G:right=false) (f:((ak its).getD i []).length=3):
  kC 39 #[tval co its.length cap,.int .i64 p,.int .i64 n,.bool right] w (jy w r):=by
 have Z:=gH M;have U:Hid (∀ W,Below w.heap.size w W->kC 67 #[tval co its.length cap] W fun e S=>∃ g aP,e=.returned (tval (some ⟨g,0,none⟩) its.length its.length)∧ak aP=ak its∧W.heap.size<=g∧Cp aP g S∧Below W.heap.size W S):=fun W d=>sI its co cap W (M.below d) K b;have sO:its.length<=1048576:=by have:=sM ((nG _).1 c);simp only [ak,List.length_map] at this;omega
 have hi:i < its.length:=by obtain⟨h1,_⟩:=jI J;simpa using h1
 have X:Hid (∀ W,aI W co its->kA 60 #[tval co its.length cap] W (.bool true)):=fun W d=>jT its co cap W d K b true c.symm;have sj:Hid (∀ W,kD 68 #[.int .i64 n] W (.bool true)):=fun W=>by have:=Az n W;rw [h] at this;exact this
 have V:Hid (∀ W,aI W co its->kA 59 #[tval co its.length cap,.int .i64 p] W (.tuple #[.int .i64 i,.int .i64 j,.bool true])):=fun W d=>xD its co cap p W d K b (some (i,j)) J.symm;have Y:Hid (∀ W,aI W co its->kA 66 #[tval co its.length cap,.int .i64 n] W (.bool false)):=fun W d=>vT its co cap n W d K b false O.symm;have L:Hid (r=(ak its,5)):=by show r=_;rw [F];simp only [dP,c,h,J,O,G,f];simp
 have t:=gH f;subst G;clear M b F c h J O f;go_enter func39,ntmps39
 go_wp2_with (first
  | (go_at_call 67;refine(U.out _ (aO _ _ _)).mono ?_;rintro e w1 ⟨g,aP,rfl,Q,R,D,P⟩;have u:=gH (tF Z.out Q R D P);obtain⟨k,l⟩:=one u.out.box;obtain⟨m,o⟩:=one u.out.res;obtain⟨q,s⟩:=one u.out.eG;clear Q R D P)
  | (go_at_call 60;refine(X.out _ u.out.rd).mono ?_;rintro e w2 ⟨rfl,A⟩;have a:=gH (u.out.next A);clear A k l m o q s;obtain⟨k,l⟩:=one a.out.box;obtain⟨m,o⟩:=one a.out.res;obtain⟨q,s⟩:=one a.out.eG)
  | (go_at_call 68;refine(sj.out _).mono ?_;rintro e w3 ⟨rfl,rfl⟩)
  | (go_at_call 59;refine(V.out _ a.out.rd).mono ?_;rintro e w4 ⟨rfl,B⟩;have y:=gH (a.out.next B);clear B k l m o q s;obtain⟨k,l⟩:=one y.out.box;obtain⟨m,o⟩:=one y.out.res;obtain⟨q,s⟩:=one y.out.eG)
  | (go_at_call 66;refine(Y.out _ y.out.rd).mono ?_;rintro e w5 ⟨rfl,C⟩;have z:=gH (y.out.next C);clear C k l m o q s;obtain⟨k,l⟩:=one z.out.box;obtain⟨m,o⟩:=one z.out.res;obtain⟨q,s⟩:=one z.out.eG;obtain⟨⟨x1,x2,x3⟩,N,H,I,aa⟩:=z.out.col i hi;have E:x1.length=3:=(congrArg List.length H).trans t.out;simp only at I;rw [E] at I;clear N H E)
  | fail)
 refine bodyPost_ret (v:=.tuple #[tval (some ⟨g,0,none⟩) its.length its.length,.int .i64 5]) (by simp [results,results39,go_sem, *]) rfl ?_;exact z.out.same 5 r L.out
theorem agG (U:aI w co its) (O:its.length<=5864062014805) (f:∀ x∈its,x.1.length<=17592186044416) (r:List (List Int)×Int) (K:r=dP (ak its) p n right) (d:cK (ak its)=true) (A:dG n=true) (i j:Nat) (E:bL p (ak its)=some (i,j)) (Z:aR (ak its) n=false) (L:right=false) (z:((ak its).getD i []).length≠3):
  kC 39 #[tval co its.length cap,.int .i64 p,.int .i64 n,.bool right] w (jy w r):=by
 have HR:=gH U;have HC:Hid (∀ W,Below w.heap.size w W->kC 67 #[tval co its.length cap] W fun e w'=>∃ g aP,e=.returned (tval (some ⟨g,0,none⟩) its.length its.length)∧ak aP=ak its∧W.heap.size<=g∧Cp aP g w'∧Below W.heap.size W w'):=fun W y=>sI its co cap W (U.below y) O f;have sO:its.length<=1048576:=by have:=sM ((nG _).1 d);simp only [ak,List.length_map] at this;omega
 have hi:i < its.length:=by obtain⟨u,_⟩:=jI E;simpa using u
 have HG:Hid (∀ W,aI W co its->kA 60 #[tval co its.length cap] W (.bool true)):=fun W y=>jT its co cap W y O f true d.symm;have sj:Hid (∀ W,kD 68 #[.int .i64 n] W (.bool true)):=fun W=>by have:=Az n W;rw [A] at this;exact this
 have HF:Hid (∀ W,aI W co its->kA 59 #[tval co its.length cap,.int .i64 p] W (.tuple #[.int .i64 i,.int .i64 j,.bool true])):=fun W y=>xD its co cap p W y O f (some (i,j)) E.symm;have HH:Hid (∀ W,aI W co its->kA 66 #[tval co its.length cap,.int .i64 n] W (.bool false)):=fun W y=>vT its co cap n W y O f false Z.symm;have R:Hid (r=((ak its).set i (bZ ((ak its).getD i []) (j+1) n),0)):=by show r=_;rw [K];simp only [dP,d,A,E,Z,L,z];simp
 have h:=gH z;have Q:Hid (j+1<=((ak its).getD i []).length):=by
  show _<=_;obtain⟨u,h2,_⟩:=jI E;simp only [List.getD_eq_getElem?_getD,List.getElem?_eq_getElem u,Option.getD_some];omega
 have S:Hid (((ak its).getD i []).length<=3):=by
  show _<=_;obtain⟨u,_⟩:=jI E;simp only [List.getD_eq_getElem?_getD,List.getElem?_eq_getElem u,Option.getD_some];exact(((nG _).1 d).kI _ (List.getElem_mem u)).2
 have aa:(i:Int) < (its.length:Int):=by omega
 have ab:j<=3:=by have u:=Q.out;have h2:=S.out;omega
 subst L;clear U f K d A E Z z;go_enter func39,ntmps39
 go_wp2_with (first
  | (go_at_call 67;refine(HC.out _ (aO _ _ _)).mono ?_;rintro e P ⟨g,aP,rfl,hc,hg,J,hb⟩;have D:=gH (tF HR.out hc hg J hb);obtain⟨m,o⟩:=one D.out.box;obtain⟨q,s⟩:=one D.out.res;obtain⟨k,t⟩:=one D.out.eG;clear hc hg J hb)
  | (go_at_call 60;refine(HG.out _ D.out.rd).mono ?_;rintro e w2 ⟨rfl,G⟩;have a:=gH (D.out.next G);clear G m o q s k t;obtain⟨m,o⟩:=one a.out.box;obtain⟨q,s⟩:=one a.out.res;obtain⟨k,t⟩:=one a.out.eG)
  | (go_at_call 68;refine(sj.out _).mono ?_;rintro e w3 ⟨rfl,rfl⟩)
  | (go_at_call 59;refine(HF.out _ a.out.rd).mono ?_;rintro e w4 ⟨rfl,H⟩;have F:=gH (a.out.next H);clear H m o q s k t;obtain⟨m,o⟩:=one F.out.box;obtain⟨q,s⟩:=one F.out.res;obtain⟨k,t⟩:=one F.out.eG)
  | (go_at_call 66;refine(HH.out _ F.out.rd).mono ?_;rintro e w5 ⟨rfl,I⟩;have c:=gH (F.out.next I);clear I m o q s k t;obtain⟨m,o⟩:=one c.out.box;obtain⟨q,s⟩:=one c.out.res;obtain⟨k,t⟩:=one c.out.eG;obtain⟨⟨C,x2,x3⟩,M,b,B,V⟩:=c.out.col i hi;simp only at B b;have ac:¬ (C.length:Int)=3:=(by have:=h.out;rw [<-b] at this;omega);have N:Hid (aP[i]?=some (C,x2,x3)∧j+1<=C.length∧C.length<=1048576∧C=(ak its).getD i []):=⟨M,(by have:=Q.out;rw [<-b] at this;omega),(by have:=S.out;rw [<-b] at this;omega),b⟩;have X:(w5.alloc (.cells #[.int .i64 n] 3)).cell? ⟨g,i,none⟩=some (.slice x2 C.length x3):=((aM _ _).cell (p:=⟨g,i,none⟩) (dI c.out.cp.row)).trans B;have Y:(w5.alloc (.cells #[.int .i64 n] 3)).cell? ⟨P.heap.size,0,none⟩=some (.slice (some ⟨g,0,none⟩) its.length its.length):=((aM _ _).cell (p:=⟨P.heap.size,0,none⟩) (dI c.out.eG)).trans k;have ad:¬ g=w.heap.size+1:=(by have:=c.out.far;omega);have ae:¬ w.heap.size+1=g:=(by have:=c.out.far;omega);have Db:¬ g=P.heap.size:=(by intro e;have q1:=c.out.cp.row;rw [e,c.out.eG] at q1;simp at q1);have Jc:¬ P.heap.size=g:=(fun e=>Db e.symm);clear M b)
  | fail)
 clear HC HG sj HF HH HR h Q S D a F;go_region_with ((go_at_call 70;refine(agI c.out sO i hi (C,x2,x3) N.out.1 N.out.2.2.1 j N.out.2.1 n _ _ _ (by first | rfl | (rw [IntKind.wrap_i64];omega)) ((aM _ _).drew) (at_new _ _) (Nat.le_refl _)).mono ?_;rintro e w6 ⟨aK,c',rfl,⟨c1,c5⟩,c2,c3,c4,l⟩;have HE:=gH l;clear l m o q s k t B V X Y))
 all_goals (
  go_wp2
  refine bodyPost_ret (v:=.tuple #[tval (some ⟨g,0,none⟩) its.length its.length,.int .i64 0]) (by simp [results,results39,go_sem, *]) rfl ?_
  have hx:=N.out.2.2.2
  rw [R.out, <-hx]
  exact HE.out)
theorem agD (f:aI w co its) (e:its.length<=5864062014805) (c:∀ x∈its,x.1.length<=17592186044416) (r:List (List Int)×Int) (a:r=dP (ak its) p n right):
  kC 39 #[tval co its.length cap,.int .i64 p,.int .i64 n,.bool right] w (jy w r):=by
 cases b:cK (ak its) with
 | false=>exact agE its co cap p n right w f e c r a b
 | true=>
  cases d:dG n with
  | false=>exact agL its co cap p n right w f e c r a b d
  | true=>
   cases h:bL p (ak its) with
   | none=>exact agK its co cap p n right w f e c r a b d h
   | some x=>
    obtain⟨i,j⟩:=x;cases m:aR (ak its) n with
    | true=>exact agN its co cap p n right w f e c r a b d i j h m
    | false=>
     cases l:right with
     | true=>rw [l] at a;exact OZ its co cap p n true w f e c r a b d i j h m rfl
     | false=>
      rw [l] at a;by_cases k:((ak its).getD i []).length=3
      ·exact agH its co cap p n false w f e c r a b d i j h m rfl k
      ·exact agG its co cap p n false w f e c r a b d i j h m rfl k
end Go.Proofs.YtkcdcamophkdlaaGreatDoor.Tl
