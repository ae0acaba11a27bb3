import Derived.Test.YtkcdcamophkdlaaGreatDoorAD
import Derived.Deep.AppendLies
set_option maxHeartbeats 400000
set_option maxRecDepth 100000
open Go.Proofs.Tryz
namespace Go.Proofs.YtkcdcamophkdlaaGreatDoor.Ps
open Go.RowKit
variable (base g n k cap:Nat) (a0:Option Addr) (ps:List Int) (dN:Int) (pl:ByteArray) (lg:Bool) (b:Int) (w:World)
theorem info3:(prog.info? 3).map (fun i=>(i.zero,i.size,i.bytes))=some (some (.int .i64 0),1,8):=by kernel_rfl
theorem QB {base:Nat} {w:World} {g cap k:Nat} {ps:List Int} {dN b y:Int} {pl:ByteArray} {lg:Bool} {o1 o2 o3:Obj} (h:Own base w (some ⟨g,0,none⟩) cap ps) (e:ps.length=k+1) (hF:eB ⟨dN,ps,pl,lg⟩ b=(⟨dN,ps.set k y,pl,lg⟩,bC)):
  kZ base w (some ⟨g,0,none⟩) (eB ⟨dN,ps,pl,lg⟩ b) (.returned (.tuple #[.agg #[.int .i64 dN,.slice (some ⟨g,0,none⟩) (k+1) cap,.string pl,.bool lg],.agg #[.int .i64 0,.int .i64 0,.slice none 0 0,.string ⟨#[]⟩]]))
   ((((w.setCell ⟨g,k,none⟩ (.int .i64 y)).alloc o1).alloc o2).alloc o3).drew:=by
 rw [hF];obtain⟨a,d⟩:=Tg h k y;exact⟨some ⟨g,0,none⟩,cap,none,0,by simp [e,bC],xU (iA (iA (iA a _) _) _),kP _ _,om (bB (bB (bB d _) _) _),.inr (.inl rfl),.inl rfl⟩
theorem X7 (a:Own base w (some ⟨g,0,none⟩) cap ps) (d:ps.length=k+1) (s:0<=ps.getD k 0∧ps.getD k 0<=999) (j:48<=b) (m:b<=57) (t:k < 4):
  kC 123 #[.agg #[.int .i64 dN,.slice (some ⟨g,0,none⟩) (k+1) cap,.string pl,.bool lg],.int .i64 b] w fun e w'=>kZ base w (some ⟨g,0,none⟩) (eB ⟨dN,ps,pl,lg⟩ b) e w':=by
 have r:=xS a k (by omega);have:w.frozen? ⟨g,k,none⟩=false:=World.ownsRow.frozenAt a k;have i:Hid (eB ⟨dN,ps,pl,lg⟩ b=(⟨dN,ps.set k (min (10*ps.getD k 0+b - 48) 999),pl,lg⟩,bC)):=by
  show eB _ b=_;simp [eB,j,m,zm,d]
 have q:=gH a;have p:=gH d;obtain⟨x,f⟩:∃ x,x=ps.getD k 0:=⟨_,rfl⟩;rw [<-f] at r s i;obtain⟨_,_⟩:=s;clear a d f;have:g < w.heap.size:=World.block_lt_of_cell? w _ r;have:g < w.heap.size+1:=by omega
 have:g < w.heap.size+1+1:=by omega
 have:w.heap.size≠g:=by omega
 have:(k:Int) < (k:Int)+1:=by omega
 go_enter func123,ntmps123;go_wp2;go_region
 all_goals go_wp2
 all_goals refine bodyPost_ret (v:=.tuple #[.agg #[.int .i64 dN,.slice (some ⟨g,0,none⟩) (k+1) cap,.string pl,.bool lg],.agg #[.int .i64 0,.int .i64 0,.slice none 0 0,.string ⟨#[]⟩]]) (by simp [results,results123,go_sem]) rfl ?_
 ·have h:999 < 10*x+b - 48:=(by assumption);exact QB q.out p.out (by rw [i.out,Int.min_eq_right (by omega)])
 ·have h:10*x+b - 48<=999:=(by assumption);exact QB q.out p.out (by rw [i.out,Int.min_eq_left (by omega)])
theorem Yc (m:Own base w (some ⟨g,0,none⟩) cap ps) (p:ps.length=k+1) (t:base<=w.heap.size) (hk:k < 3):
  kC 123 #[.agg #[.int .i64 dN,.slice (some ⟨g,0,none⟩) (k+1) cap,.string pl,.bool lg],.int .i64 59] w fun e w'=>kZ base w (some ⟨g,0,none⟩) (eB ⟨dN,ps,pl,lg⟩ 59) e w':=by
 obtain⟨i0,hi,y,z,A⟩:=info_parts info3;have P:Hid (eB ⟨dN,ps,pl,lg⟩ 59=(⟨dN,ps++[0],pl,lg⟩,bC)):=by
  show eB _ _=_;have:ps.length < 4:=(by omega);simp [eB,this]
 have d:w.ownsRow base 3 1 (.slice (some ⟨g,0,none⟩) (k+1) cap) (k+1) (ints ps):=by rw [<-p];exact m
 have B:=gH p;have aa:(k:Int)+1 < 4:=by omega
 clear m p;go_enter func123,ntmps123;go_wp2_with (first | (at_builtin;refine wpList_append_lies _ rfl _ _ 38 rfl base 3 i0 (.int .i64 0) 1 8 underlying38 hi y z A rfl (by decide) _ (k+1) (ints ps) rfl ((((d.alloc _).alloc _).alloc _).alloc _) ⟨w.heap.size+1+1+1,0,none⟩ 1 1 [.int .i64 0] rfl rfl ?c1 ?c2 (by decide) ?c3 ?c4 ?c5 (w.heap.size+1+1+1+1) ?c6 ?_) | go_in)
 case c1=>
  intro j u s
  match j,s with
  | 0,s=>simp at s;subst s;simp [Addr.add,go_sem]
 case c2=>intro u K;simp at K;subst K;rfl
 case c3=>unfold maxLen;omega
 case c4=>omega
 case c5=>simp;omega
 case c6=>simp
 ·intro q f w1 i a r ab;have x:g < w.heap.size:=(World.ownsRow.lt d g rfl).2;have L:=four (bH a (aF (aF (aF (at_new w _) _) _) _) (by simp [Value.ownBlock];omega));have M:=four (bH a (aF (aF (bK w _ _) _) _) (by simp [Value.ownBlock];omega));have N:=four (bH a (aF (kM w _ _ _) _) (by simp [Value.ownBlock];omega));obtain⟨a0,S,T,U,Z,f1,f2,f3⟩:=L;obtain⟨C,D,E,F,V,W,X,Y⟩:=M;obtain⟨G,H,I,J,j0,j1,j2,j3⟩:=N;have Q:Hid (w.grownBy w1 (some g)):=jD (bB (bB (bB (World.grownBy_alloc w _ _) _) _) _) a;have R:Hid (Own base w1 (some ⟨q,0,none⟩) f (ps++[0])):=by
   have e:(ps++[0]).length=k+1+1:=(by simp [B.out]);show w1.ownsRow _ _ _ _ _ _;rw [e];simpa [ints] using i
  have O:Hid (q=g∨q=w.heap.size+4):=by
   rcases r with h | h
   ·left;simpa [Value.ownBlock] using h.symm
   ·right;omega
  have HN:=gH x;clear i a r d;go_wp2;refine bodyPost_ret (v:=.tuple #[.agg #[.int .i64 dN,.slice (some ⟨q,0,none⟩) (k+1+1) f,.string pl,.bool lg],.agg #[.int .i64 0,.int .i64 0,.slice none 0 0,.string ⟨#[]⟩]]) (by simp [results,results123,go_sem,C,D,E,F,G,H,I,J]) rfl ?_;clear a0 S T U C D E F G H I J Z f1 f2 f3 V W X Y j0 j1 j2 j3;rw [P.out];have hA:=O.out;have hl:=B.out;refine⟨some ⟨q,0,none⟩,f,none,0,by simp [hl,bC],?_,kP _ _,?_,?_,.inl rfl⟩
  ·iterate 9 (refine rT ?_ (by simp [blk];omega) _)
   exact R.out
  ·iterate 9 (refine oq ?_ (by simp;try omega) _)
   exact Q.out
  ·rcases hA with h | h
   ·exact .inr (.inl (by simp [blk,h]))
   ·exact .inr (.inr ⟨q,rfl,by omega⟩)
theorem F7 {base:Nat} {w w':World} {a0:Option Addr} {r:PS×Ev} {a:Int} (e:r=(⟨a,[],⟨#[]⟩,false⟩,bC)) (d:Below w.heap.size w w'):
  kZ base w a0 r (.returned (.tuple #[.agg #[.int .i64 a,.slice none 0 0,.string ⟨#[]⟩,.bool false],.agg #[.int .i64 0,.int .i64 0,.slice none 0 0,.string ⟨#[]⟩]])) w':=by
 subst e;exact xA rfl rfl rfl d
theorem X9 (a:Own base w (some ⟨g,0,none⟩) cap ps) (d:ps.length=k+1) (f:64<=b) (h:b<=126):
  kC 123 #[.agg #[.int .i64 dN,.slice (some ⟨g,0,none⟩) (k+1) cap,.string pl,.bool lg],.int .i64 b] w fun e w'=>kZ base w (some ⟨g,0,none⟩) (eB ⟨dN,ps,pl,lg⟩ b) e w':=by
 have i:Hid (eB ⟨dN,ps,pl,lg⟩ b=(ground,⟨3,b,ps,⟨#[]⟩⟩)):=by
  show eB _ _=_;have p:¬ (48<=b∧b<=57):=(by omega);have q:¬ b=59:=(by omega);simp [eB,p,q,f,h]
 have:(b==59)=false:=by simp;omega
 have:57 < b:=by omega
 have:48<=b:=by omega
 have m:=gH a;have j:=gH d;clear a d;go_enter func123,ntmps123;go_wp2;go_region;go_wp2;refine bodyPost_ret (v:=.tuple #[.agg #[.int .i64 0,.slice none 0 0,.string ⟨#[]⟩,.bool false],.agg #[.int .i64 3,.int .i64 b,.slice (some ⟨g,0,none⟩) (k+1) cap,.string ⟨#[]⟩]]) (by simp [results,results123,go_sem]) rfl ?_;rw [i.out];have r:=j.out;exact⟨none,0,some ⟨g,0,none⟩,cap,by simp [r,ground],kP _ _,xU (iA (iA (iA m.out _) _) _),om (bB (bB (World.grownBy_alloc w _ _) _) _),.inl rfl,.inr ⟨rfl,rfl⟩⟩
theorem X8:
  kC 123 #[.agg #[.int .i64 dN,.slice a0 n cap,.string pl,.bool lg],.int .i64 27] w fun e w'=>kZ base w a0 (eB ⟨dN,ps,pl,lg⟩ 27) e w':=by
 go_enter func123,ntmps123;go_wp2;exact bodyPost_ret (v:=.tuple #[.agg #[.int .i64 1,.slice none 0 0,.string ⟨#[]⟩,.bool false],.agg #[.int .i64 0,.int .i64 0,.slice none 0 0,.string ⟨#[]⟩]]) (by simp [results,results123,go_sem]) rfl
  (F7 rfl ((((Below.refl _ _).alloc (Nat.le_refl _) _).alloc (by simp) _).alloc (by simp;omega) _))
theorem Ya (h:n=ps.length) (f:4<=n):
  kC 123 #[.agg #[.int .i64 dN,.slice a0 n cap,.string pl,.bool lg],.int .i64 59] w fun e w'=>kZ base w a0 (eB ⟨dN,ps,pl,lg⟩ 59) e w':=by
 have a:Hid (eB ⟨dN,ps,pl,lg⟩ 59=(ground,bC)):=by
  show eB _ _=_;have d:¬ ps.length < 4:=(by omega);simp [eB,d]
 clear h;have:¬ (n:Int) < 4:=by omega
 clear f;go_enter func123,ntmps123;go_wp2;exact bodyPost_ret (v:=.tuple #[.agg #[.int .i64 0,.slice none 0 0,.string ⟨#[]⟩,.bool false],.agg #[.int .i64 0,.int .i64 0,.slice none 0 0,.string ⟨#[]⟩]]) (by simp [results,results123,go_sem]) rfl
  (F7 a.out ((((Below.refl _ _).alloc (Nat.le_refl _) _).alloc (by simp) _).alloc (by simp;omega) _))
theorem Yb (a:b≠27) (f:b≠59) (m:b < 48∨(57 < b∧b < 64)∨126 < b):
  kC 123 #[.agg #[.int .i64 dN,.slice a0 n cap,.string pl,.bool lg],.int .i64 b] w fun e w'=>kZ base w a0 (eB ⟨dN,ps,pl,lg⟩ b) e w':=by
 have d:Hid (eB ⟨dN,ps,pl,lg⟩ b=(ground,bC)):=by
  show eB _ _=_;have i:¬ (48<=b∧b<=57):=(by omega);have j:¬ (64<=b∧b<=126):=(by omega);simp [eB,i,j,a,f]
 have:(b==59)=false:=by simpa using f
 have:(b==27)=false:=by simpa using a
 clear a f;rcases m with h | h | h
 ·go_enter func123,ntmps123;go_wp2;exact bodyPost_ret (v:=.tuple #[.agg #[.int .i64 0,.slice none 0 0,.string ⟨#[]⟩,.bool false],.agg #[.int .i64 0,.int .i64 0,.slice none 0 0,.string ⟨#[]⟩]]) (by simp [results,results123,go_sem]) rfl
   (F7 d.out ((((Below.refl _ _).alloc (Nat.le_refl _) _).alloc (by simp) _).alloc (by simp;omega) _))
 ·obtain⟨i,j⟩:=h;go_enter func123,ntmps123;go_wp2;exact bodyPost_ret (v:=.tuple #[.agg #[.int .i64 0,.slice none 0 0,.string ⟨#[]⟩,.bool false],.agg #[.int .i64 0,.int .i64 0,.slice none 0 0,.string ⟨#[]⟩]]) (by simp [results,results123,go_sem]) rfl
   (F7 d.out ((((Below.refl _ _).alloc (Nat.le_refl _) _).alloc (by simp) _).alloc (by simp;omega) _))
 ·go_enter func123,ntmps123;go_wp2;exact bodyPost_ret (v:=.tuple #[.agg #[.int .i64 0,.slice none 0 0,.string ⟨#[]⟩,.bool false],.agg #[.int .i64 0,.int .i64 0,.slice none 0 0,.string ⟨#[]⟩]]) (by simp [results,results123,go_sem]) rfl
   (F7 d.out ((((Below.refl _ _).alloc (Nat.le_refl _) _).alloc (by simp) _).alloc (by simp;omega) _))
theorem aa5 (ao:Option Addr) (ps:List Int) (dN:Int) (pl:ByteArray) (lg:Bool) (b:Int) (w:World) (a:Own base w ao cap ps) (d:base<=w.heap.size) (i:0 < ps.length) (r:ps.length<=4) (s:∀ x∈ps,0<=x∧x<=999):
  kC 123 #[.agg #[.int .i64 dN,.slice ao ps.length cap,.string pl,.bool lg],.int .i64 b] w fun e w'=>kZ base w ao (eB ⟨dN,ps,pl,lg⟩ b) e w':=by
 obtain⟨k,f⟩:∃ k,ps.length=k+1:=⟨ps.length - 1,by omega⟩;obtain⟨g,rfl,_,_⟩:=Oq a i;have j:0<=ps.getD k 0∧ps.getD k 0<=999:=by
  have:k < ps.length:=(by omega);rw [List.getD_eq_getElem?_getD,List.getElem?_eq_getElem this];exact s _ (List.getElem_mem this)
 by_cases m:48<=b∧b<=57
 ·rw [f];exact X7 base g k cap ps dN pl lg b w a f j m.1 m.2 (by omega)
 ·by_cases p:b=59
  ·subst p;by_cases h:ps.length < 4
   ·rw [f];exact Yc base g k cap ps dN pl lg w a f d (by omega)
   ·exact Ya base _ cap _ ps dN pl lg w rfl (by omega)
  ·by_cases h:64<=b∧b<=126
   ·rw [f];exact X9 base g k cap ps dN pl lg b w a f h.1 h.2
   ·by_cases q:b=27
    ·subst q;exact X8 base _ cap _ ps dN pl lg w
    ·exact Yb base _ cap _ ps dN pl lg b w q p (by omega)
variable (base cap:Nat) (ao:Option Addr) (ps:List Int) (pl:ByteArray) (lg:Bool) (b:Int) {w w' w1:World} {l:List Int} {row:Option Nat} {c:Nat}
structure GoodS (s:PS):Prop where
 lo:0<=s.place
 hi:s.place<=4
 len:s.ps.length<=4
 some':s.place=2↔0 < s.ps.length
 nums:∀ x∈s.ps,0<=x∧x<=999
 size:s.pl.size<=48
 empty:s.place≠3->s.place≠4->s.pl=⟨#[]⟩∧s.lg=false
theorem uP {base:Nat} {ao:Option Addr} {cap:Nat} (h:Own base w ao cap l) (e:w.grownBy w' row) (d:blk ao=none∨blk ao≠row):Own base w' ao cap l:=by
 refine World.ownsRow.kept h e ?_;cases ao with
 | none=>exact .inl rfl
 | some a=>simpa [Value.ownBlock,blk] using d
theorem qd {base:Nat} {ao:Option Addr} {cap:Nat} (h:Own base w ao cap l) {g:Nat} (d:blk ao=some g):base<=g∧g < w.heap.size:=by
 refine World.ownsRow.lt h g ?_;cases ao with
 | none=>simp [blk] at d
 | some a=>simpa [Value.ownBlock,blk] using d
theorem Gv {base:Nat} {ao:Option Addr} {cap:Nat} {r:PS×Ev} {a:Option Addr} {p:Option Addr} {t:Nat} {o1 o2 o3:Obj} (i:Own base w ao cap l) (h:Stepped base (((w.alloc o1).alloc o2).alloc o3) ao r a c p t w1) (u0 u1 u2 u3 u4 u5 u6 u7:Value):
  Stepped base w ao r a c p t ((((((((w1.setCell ⟨w.heap.size+1,0,none⟩ u0).setCell ⟨w.heap.size+1,1,none⟩ u1).setCell ⟨w.heap.size+1,2,none⟩ u2).setCell ⟨w.heap.size+1,3,none⟩ u3).setCell ⟨w.heap.size+1+1,0,none⟩ u4).setCell ⟨w.heap.size+1+1,1,none⟩ u5).setCell ⟨w.heap.size+1+1,2,none⟩ u6).setCell ⟨w.heap.size+1+1,3,none⟩ u7):=by
 obtain⟨u,v,x,m,q⟩:=h;have s:∀ g,blk ao=some g->g < w.heap.size:=fun g d=>(qd i d).2;have y:∀ g,blk a=some g->g < w.heap.size∨w.heap.size+3<=g:=by
  intro g d;rcases m with e | e | ⟨j,e,f⟩
  ·rw [d] at e;cases e
  ·exact .inl (s g (e ▸ d))
  ·rw [d] at e;cases e;right;simpa using f
 have z:∀ g,blk p=some g->g < w.heap.size:=by
  intro g d;rcases q with e | ⟨e,_⟩
  ·subst e;simp [blk] at d
  ·exact s g (e ▸ d)
 refine⟨?_,?_,?_,?_,q⟩
 ·iterate 8 (refine rT ?_ (fun e=>by have:=y _ e;simp at this;omega) _)
  exact u
 ·iterate 8 (refine rT ?_ (fun e=>by have:=z _ e;simp at this;omega) _)
  exact v
 ·iterate 8 (refine oq ?_ (by simp;try omega) _)
  exact jD (bB (bB (World.grownBy_alloc w _ _) _) _) x
 ·rcases m with e | e | ⟨j,e,f⟩
  ·exact .inl e
  ·exact .inr (.inl e)
  ·exact .inr (.inr ⟨j,e,by simp at f;omega⟩)
theorem boxes {base:Nat} {ao:Option Addr} {cap:Nat} (d:Own base w ao cap l) {v x y:TypeId} {z A B C j m p q r s t u:Value} (i:(((w.alloc (.cells #[z,A,B,C] v)).alloc (.cells #[j,m,p,q] x)).alloc (.cells #[r,s,t,u] y)).grownBy w1 row) (f:row=blk ao∨row=none):
  (w1.cell? ⟨w.heap.size+1,0,none⟩=some j∧w1.cell? ⟨w.heap.size+1,1,none⟩=some m∧w1.cell? ⟨w.heap.size+1,2,none⟩=some p∧w1.cell? ⟨w.heap.size+1,3,none⟩=some q∧
  w1.frozen? ⟨w.heap.size+1,0,none⟩=false∧w1.frozen? ⟨w.heap.size+1,1,none⟩=false∧w1.frozen? ⟨w.heap.size+1,2,none⟩=false∧w1.frozen? ⟨w.heap.size+1,3,none⟩=false)∧
  (w1.cell? ⟨w.heap.size+1+1,0,none⟩=some r∧w1.cell? ⟨w.heap.size+1+1,1,none⟩=some s∧w1.cell? ⟨w.heap.size+1+1,2,none⟩=some t∧w1.cell? ⟨w.heap.size+1+1,3,none⟩=some u∧
  w1.frozen? ⟨w.heap.size+1+1,0,none⟩=false∧w1.frozen? ⟨w.heap.size+1+1,1,none⟩=false∧w1.frozen? ⟨w.heap.size+1+1,2,none⟩=false∧w1.frozen? ⟨w.heap.size+1+1,3,none⟩=false):=by
 have a:∀ k,w.heap.size<=k->some k≠row:=by
  intro k D e;rcases f with h | h
  ·rw [h] at e;have:=(qd d e.symm).2;omega
  ·rw [h] at e;cases e
 exact⟨four (bH i (aF (bK w _ _) _) (a _ (by omega))),four (bH i (kM w _ _ _) (a _ (by omega)))⟩
theorem agV (w:World) (d:Own base w ao cap ps) (h:base<=w.heap.size):
  kC 102 #[.agg #[.int .i64 1,.slice ao ps.length cap,.string pl,.bool lg],.int .i64 b] w fun e w'=>kZ base w ao (bF ⟨1,ps,pl,lg⟩ b) e w':=by
 have i:=gH d;clear d;go_enter func102,ntmps102;go_wp2_with fail;refine(Zx base ao b _ (by simp;omega)).mono ?_;rintro e _ ⟨a,c,p,j,rfl,f⟩;obtain⟨⟨q,r,s,t,_,_,_,_⟩,⟨u,x,y,z,_,_,_,_⟩⟩:=boxes i.out f.grown (.inl rfl);have m:Hid _:=Gv i.out f;clear f;go_wp2;exact bodyPost_ret (v:=.tuple #[.agg #[.int .i64 (jl b).1.place,.slice a (jl b).1.ps.length c,.string (jl b).1.pl,.bool (jl b).1.lg],.agg #[.int .i64 (jl b).2.kind,.int .i64 (jl b).2.b,.slice p (jl b).2.ps.length j,.string (jl b).2.pl]])
  (by simp [results,results102,go_sem,q,r,s,t,u,x,y,z]) rfl ⟨a,c,p,j,rfl,m.out _ _ _ _ _ _ _ _⟩
theorem agW (w:World) (d:Own base w ao cap ps) (_hbase:base<=w.heap.size):
  kC 102 #[.agg #[.int .i64 0,.slice ao ps.length cap,.string pl,.bool lg],.int .i64 b] w fun e w'=>kZ base w ao (bF ⟨0,ps,pl,lg⟩ b) e w':=by
 have h:=gH d;clear d;go_enter func102,ntmps102;go_wp2_with fail;refine(acT base ao b _).mono ?_;rintro e _ ⟨a,c,p,i,rfl,f⟩;obtain⟨⟨m,q,r,s,_,_,_,_⟩,⟨t,u,x,y,_,_,_,_⟩⟩:=boxes h.out f.grown (.inl rfl);have j:Hid _:=Gv h.out f;clear f;go_wp2;exact bodyPost_ret (v:=.tuple #[.agg #[.int .i64 (ku b).1.place,.slice a (ku b).1.ps.length c,.string (ku b).1.pl,.bool (ku b).1.lg],.agg #[.int .i64 (ku b).2.kind,.int .i64 (ku b).2.b,.slice p (ku b).2.ps.length i,.string (ku b).2.pl]])
  (by simp [results,results102,go_sem,m,q,r,s,t,u,x,y]) rfl ⟨a,c,p,i,rfl,j.out _ _ _ _ _ _ _ _⟩
theorem step_end (w:World) (d:Own base w ao cap ps) (_hbase:base<=w.heap.size):
  kC 102 #[.agg #[.int .i64 4,.slice ao ps.length cap,.string pl,.bool lg],.int .i64 b] w fun e w'=>kZ base w ao (bF ⟨4,ps,pl,lg⟩ b) e w':=by
 have h:=gH d;clear d;go_enter func102,ntmps102;go_wp2_with fail;refine(Zq base ao ps.length cap 4 ps pl lg b _).mono ?_;rintro e _ ⟨a,c,p,i,rfl,f⟩;obtain⟨⟨m,q,r,s,_,_,_,_⟩,⟨t,u,x,y,_,_,_,_⟩⟩:=boxes h.out f.grown (.inl rfl);have j:Hid _:=Gv h.out f;clear f;go_wp2;exact bodyPost_ret (v:=.tuple #[.agg #[.int .i64 (og ⟨4,ps,pl,lg⟩ b).1.place,.slice a (og ⟨4,ps,pl,lg⟩ b).1.ps.length c,.string (og ⟨4,ps,pl,lg⟩ b).1.pl,.bool (og ⟨4,ps,pl,lg⟩ b).1.lg],.agg #[.int .i64 (og ⟨4,ps,pl,lg⟩ b).2.kind,.int .i64 (og ⟨4,ps,pl,lg⟩ b).2.b,.slice p (og ⟨4,ps,pl,lg⟩ b).2.ps.length i,.string (og ⟨4,ps,pl,lg⟩ b).2.pl]])
  (by simp [results,results102,go_sem,m,q,r,s,t,u,x,y]) rfl ⟨a,c,p,i,rfl,j.out _ _ _ _ _ _ _ _⟩
theorem agU (w:World) (d:Own base w ao cap ps) (i:base<=w.heap.size) (j:0 < ps.length) (m:ps.length<=4) (D:∀ x∈ps,0<=x∧x<=999):
  kC 102 #[.agg #[.int .i64 2,.slice ao ps.length cap,.string pl,.bool lg],.int .i64 b] w fun e w'=>kZ base w ao (bF ⟨2,ps,pl,lg⟩ b) e w':=by
 have h:=gH d;clear d;go_enter func102,ntmps102;go_wp2_with fail;refine(aa5 base cap ao ps 2 pl lg b _ (iA (iA (iA h.out _) _) _) (by simp;omega) j m D).mono ?_;rintro e _ ⟨a,c,p,q,rfl,f⟩;obtain⟨⟨s,t,u,y,_,_,_,_⟩,⟨z,A,B,C,_,_,_,_⟩⟩:=boxes h.out f.grown (.inl rfl);have r:Hid _:=Gv h.out f;clear f;go_wp2;exact bodyPost_ret (v:=.tuple #[.agg #[.int .i64 (eB ⟨2,ps,pl,lg⟩ b).1.place,.slice a (eB ⟨2,ps,pl,lg⟩ b).1.ps.length c,.string (eB ⟨2,ps,pl,lg⟩ b).1.pl,.bool (eB ⟨2,ps,pl,lg⟩ b).1.lg],.agg #[.int .i64 (eB ⟨2,ps,pl,lg⟩ b).2.kind,.int .i64 (eB ⟨2,ps,pl,lg⟩ b).2.b,.slice p (eB ⟨2,ps,pl,lg⟩ b).2.ps.length q,.string (eB ⟨2,ps,pl,lg⟩ b).2.pl]])
  (by simp [results,results102,go_sem,s,t,u,y,z,A,B,C]) rfl ⟨a,c,p,q,rfl,r.out _ _ _ _ _ _ _ _⟩
theorem adB {base:Nat} {a0 ao:Option Addr} {cap:Nat} {ps:List Int} {r:PS} (a:Own base w a0 cap ps) (h:(ao=a0∧c=cap∧r.ps=ps)∨(ao=none∧c=0∧r.ps=[])) (d:Below w.heap.size w w'):Stepped base w a0 (r,bC) ao c none 0 w':=by
 rcases h with ⟨rfl,rfl,h⟩ | ⟨rfl,rfl,h⟩
 ·refine⟨?_,kP _ _,Below.nO d _,.inr (.inl rfl),.inl rfl⟩;show Own base w' ao c r.ps;rw [h];exact uP a (Below.nO d none) (by cases ao <;>simp [blk])
 ·refine⟨?_,kP _ _,Below.nO d _,.inl rfl,.inl rfl⟩;show Own base w' none 0 r.ps;rw [h];exact kP _ _
theorem agX (w:World) (f:Own base w ao cap ps) (q:pl.size<=48) (m:0<=b) (p:b<=255):
  kC 102 #[.agg #[.int .i64 3,.slice ao ps.length cap,.string pl,.bool lg],.int .i64 b] w fun e w'=>kZ base w ao (bF ⟨3,ps,pl,lg⟩ b) e w':=by
 have j:=gH f;clear f;go_enter func102,ntmps102;go_wp2_with fail;refine(aa6 ao cap 3 ps pl lg b _ q m p).mono ?_;rintro e _ ⟨a,c,rfl,i,d⟩;have h:=adB (iA (iA (iA j.out _) _) _) i d;obtain⟨⟨s,t,u,x,_,_,_,_⟩,⟨y,z,A,B,_,_,_,_⟩⟩:=boxes j.out h.grown (.inl rfl);have r:Hid _:=Gv j.out h;clear h i d;go_wp2;exact bodyPost_ret (v:=.tuple #[.agg #[.int .i64 (kH ⟨3,ps,pl,lg⟩ b).place,.slice a (kH ⟨3,ps,pl,lg⟩ b).ps.length c,.string (kH ⟨3,ps,pl,lg⟩ b).pl,.bool (kH ⟨3,ps,pl,lg⟩ b).lg],.agg #[.int .i64 0,.int .i64 0,.slice none 0 0,.string ⟨#[]⟩]])
  (by simp [results,results102,go_sem,s,t,u,x,y,z,A,B]) rfl ⟨a,c,none,0,rfl,r.out _ _ _ _ _ _ _ _⟩
theorem agT (s:PS) (b:Int) (w:World) (d:Own base w ao cap s.ps) (f:base<=w.heap.size) (x:GoodS s) (i:0<=b) (j:b<=255):
  kC 102 #[.agg #[.int .i64 s.place,.slice ao s.ps.length cap,.string s.pl,.bool s.lg],.int .i64 b] w fun e w'=>kZ base w ao (bF s b) e w':=by
 obtain⟨a,ps,pl,lg⟩:=s;obtain⟨t,u,m,p,q,r,v⟩:=x;simp only at t u m p q r v d ⊢;have:a=0∨a=1∨a=2∨a=3∨a=4:=by omega
 rcases this with h | h | h | h | h <;>subst h
 ·exact agW base cap ao ps pl lg b w d f
 ·exact agV base cap ao ps pl lg b w d f
 ·exact agU base cap ao ps pl lg b w d f (p.1 rfl) m q
 ·exact agX base cap ao ps pl lg b w d r i j
 ·exact step_end base cap ao ps pl lg b w d f
variable {w:World} {ao:Option Addr} {l:List Int}
def Rd (w:World) (ao:Option Addr) (l:List Int):Prop:=l=[]∨∃ b off,ao=some ⟨b,off,none⟩∧∀ j,j < l.length->w.cell? ⟨b,off+j,none⟩=some (.int .i64 (l.getD j 0))
theorem Rd.below {w':World} (h:Rd w ao l) (e:Below w.heap.size w w'):Rd w' ao l:=by
 rcases h with h | ⟨b,a,d,f⟩
 ·exact .inl h
 ·refine .inr ⟨b,a,d,fun j i=>?_⟩;have:=f j i;rw [e.cell (p:=⟨b,a+j,none⟩) (World.block_lt_of_cell? _ _ this)];exact this
theorem Own.rd {base:Nat} {cap:Nat} (h:Own base w ao cap l):Rd w ao l:=by
 by_cases d:0 < l.length
 ·obtain⟨g,rfl,_,_⟩:=Oq h d;exact .inr ⟨g,0,rfl,fun j a=>by rw [Nat.zero_add];exact xS h j a⟩
 ·exact .inl (List.length_eq_zero_iff.1 (by omega))
def uN (x:Int):Bool:=decide (0<=x∧x<=999)
def mW (l:List Int):Bool:=l.all uN
def oF (s:PS):Bool:=(decide (s.place=2)==decide (0 < s.ps.length)) && decide (s.ps.length<=4) && mW s.ps
def sU (s:PS):Bool:=if s.place=3∨s.place=4 then decide (s.pl.size<=48) else (s.pl.toList.isEmpty && !s.lg)
def sZ (s:PS):Bool:=decide (0<=s.place∧s.place<=4)
def fD (s:PS):Bool:=sZ s && oF s && sU s
theorem SG (l:List Int) (k:Nat) (a:k < l.length):mW (l.take (k+1))=(mW (l.take k) && uN (l.getD k 0)):=by
 unfold mW;rw [List.take_succ_eq_append_getElem a,List.all_append];simp [a]
theorem bD {a b:Bool} (h:a=b):Ending.returned (.bool a)=.returned (.bool b):=by rw [h]
theorem Tn (s:PS) (h:¬(s.place==2)=decide (0 < s.ps.length)):false=oF s:=by
 have:(s.place==2)=decide (s.place=2):=by rw [Bool.eq_iff_iff];simp
 rw [this] at h;simp [oF,h]
theorem adn (s:PS) (h:(4:Int) < (s.ps.length:Int)):false=oF s:=by
 have:¬ s.ps.length<=4:=by omega
 simp [oF,this]
theorem Tp (s:PS) (h:(s.place==2)=decide (0 < s.ps.length)) (a:(s.ps.length:Int)<=4):oF s=mW s.ps:=by
 have e:(s.place==2)=decide (s.place=2):=by rw [Bool.eq_iff_iff];simp
 have:s.ps.length<=4:=by omega
 rw [e] at h;simp [oF,this,h]
theorem Jv (l:List Int) (k:Nat) (a:k < l.length) (h:uN (l.getD k 0)=false):mW l=false:=by
 unfold mW;rw [List.all_eq_false];refine⟨l[k],List.getElem_mem a,?_⟩;simp [a] at h;simp [h]
theorem aam (s:PS) (ao:Option Addr) (cap:Nat) (w:World) (y:Rd w ao s.ps) (C:s.ps.length<=9223372036854775807):
  kA 120 #[.agg #[.int .i64 s.place,.slice ao s.ps.length cap,.string s.pl,.bool s.lg]] w (.bool (oF s)):=by
 obtain⟨a,ps,pl,lg⟩:=s;simp only at y C ⊢;rcases y with rfl | ⟨b,j,rfl,v⟩
 ·cases h:(a==2)
  ·go_enter func120,ntmps120;go_wp2;go_loop [22] (fun i=>i=.int .i64 0) (fun _=>0)
   case atStart=>rfl
   case round=>
    subst hrel;go_wp2;go_ret;refine⟨bD ?_,(Below.refl _ _).alloc (Nat.le_refl _) _⟩;rw [Tp _ (by simpa using h) (by simp)]
    rfl
  ·go_enter func120,ntmps120;go_wp2;go_ret;exact⟨bD (Tn _ (by simp [h])),(Below.refl _ _).alloc (Nat.le_refl _) _⟩
 ·have A:=gH v;clear v;go_enter func120,ntmps120;go_wp2
  ·go_ret;have h:(4:Int) < ps.length:=(by assumption);exact⟨bD (adn _ h),(Below.refl _ _).alloc (Nat.le_refl _) _⟩
  ·have u:(a==2)=decide (0 < ps.length):=(by assumption);have B:(ps.length:Int)<=4:=(by assumption);have m:Hid (oF ⟨a,ps,pl,lg⟩=mW ps):=Tp ⟨a,ps,pl,lg⟩ u B;go_loop [22] (fun i=>∃ k:Nat,k<=ps.length∧i=.int .i64 k∧mW (ps.take k)=true) (fun i=>ps.length - (intOf i).toNat)
   case atStart=>exact⟨0,Nat.zero_le _,rfl,rfl⟩
   case round=>
    obtain⟨k,_,rfl,z⟩:=hrel;have t:=gH z;clear z;by_cases f:k < ps.length
    ·have d:=A.out k f;have q:b < w.heap.size:=World.block_lt_of_cell? w _ d;have e:(w.alloc (.cells #[.int .i64 a,.slice (some ⟨b,j,none⟩) ps.length cap,.string pl,.bool lg] 40)).cell? ⟨b,j+k,none⟩=some (.int .i64 (ps.getD k 0)):=(by rw [World.cell?_alloc_past _ _ _ q];exact d);obtain⟨x,r⟩:∃ x,x=ps.getD k 0:=⟨_,rfl⟩;rw [<-r] at e;have p:=gH r;have:(k:Int) < (ps.length:Int):=(by omega);clear d r u;by_cases D:x < 0
     ·go_wp2;go_ret;refine⟨bD ?_,(Below.refl _ _).alloc (Nat.le_refl _) _⟩;rw [m.out];exact(Jv ps k f (by rw [<-p.out];simp [uN];omega)).symm
     ·by_cases E:999 < x
      ·go_wp2;go_ret;refine⟨bD ?_,(Below.refl _ _).alloc (Nat.le_refl _) _⟩;rw [m.out];exact(Jv ps k f (by rw [<-p.out];simp [uN];omega)).symm
      ·go_wp2;go_round
       case rel=>exact⟨k+1,by omega,by go_num,by rw [SG ps k f,t.out, <-p.out];simp [uN];omega⟩
       case measure=>simp [intOf];omega
    ·go_wp2;go_ret;refine⟨bD ?_,(Below.refl _ _).alloc (Nat.le_refl _) _⟩;rw [m.out, <-t.out,List.take_of_length_le (by omega)]
  ·go_ret;have h:¬ (a==2)=decide (0 < ps.length):=(by assumption);exact⟨bD (Tn _ h),(Below.refl _ _).alloc (Nat.le_refl _) _⟩
theorem aao (s:PS) (ao:Option Addr) (n cap:Nat) (w:World):
  kA 121 #[.agg #[.int .i64 s.place,.slice ao n cap,.string s.pl,.bool s.lg]] w (.bool (sU s)):=by
 obtain⟨a,_,pl,lg⟩:=s;simp only;go_enter func121,ntmps121;go_wp2
 ·go_ret;have h:a=3:=(by assumption);refine⟨bD ?_,(Below.refl _ _).alloc (Nat.le_refl _) _⟩;simp [sU,h];omega
 ·go_ret;have h:(a==3)=true∨(a==4)=true:=(by assumption);refine⟨bD ?_,(Below.refl _ _).alloc (Nat.le_refl _) _⟩;simp at h;simp [sU,h];omega
 ·go_ret;have h:(a==3)=false∧(a==4)=false:=(by assumption);have d:pl.toList=[]:=(by assumption);refine⟨bD ?_,(Below.refl _ _).alloc (Nat.le_refl _) _⟩;simp at h;simp [sU,h,d]
 ·go_ret;have h:(a==3)=false∧(a==4)=false:=(by assumption);have d:¬ pl.toList=[]:=(by assumption);refine⟨bD ?_,(Below.refl _ _).alloc (Nat.le_refl _) _⟩;simp at h;simp [sU,h,d]
variable {w:World} {o:Obj}
theorem aG {w':World} {B b:Nat} (d:Below B w w') (h:w.heap[b]?=some o) (a:b < B):w'.heap[b]?=some o:=by
 rw [d.block b a];exact h
theorem vO {w1:World} (a:Below (w.alloc o).heap.size (w.alloc o) w1):Below w.heap.size w w1:=
 ((Below.refl _ _).alloc (Nat.le_refl _) _).trans (a.mono (by simp))
theorem jT (s:PS) (ao:Option Addr) (cap:Nat) (w:World) (r:Rd w ao s.ps) (u:s.ps.length<=9223372036854775807):
  kA 101 #[.agg #[.int .i64 s.place,.slice ao s.ps.length cap,.string s.pl,.bool s.lg]] w (.bool (fD s)):=by
 have t:=gH r;clear r;by_cases m:0<=s.place
 ·by_cases p:s.place<=4
  ·have q:sZ s=true:=(by simp [sZ,m,p]);have f:=gH q;clear q;go_enter func101,ntmps101;go_wp2_with (first | (go_at_call 119;go_in) | fail);refine(aam s ao cap _ (t.out.below ((Below.refl _ _).alloc (Nat.le_refl _) _)) u).mono ?_;rintro e _ ⟨rfl,d⟩;obtain⟨_,_,_,_,_,_,_,_⟩:=four (aG d (at_new w _) (by simp));have i:=gH (vO d);clear d;cases a:oF s
   ·go_wp2;go_ret;exact⟨bD (by simp [fD,a]),i.out⟩
   ·go_wp2_with fail;refine(aao s ao s.ps.length cap _).mono ?_;rintro e _ ⟨rfl,h⟩;have j:=gH (i.out.trans (h.mono i.out.size));clear h;go_wp2;go_ret;exact⟨bD (by simp [fD,a,f.out]),j.out⟩
  ·have f:Hid (fD s=false):=(by show fD s=false;simp [fD,sZ,p]);have:4 < s.place:=(by omega);go_enter func101,ntmps101;go_wp2;go_ret;exact⟨bD f.out.symm,(Below.refl _ _).alloc (Nat.le_refl _) _⟩
 ·have f:Hid (fD s=false):=(by show fD s=false;simp [fD,sZ,m]);have:s.place < 0:=(by omega);go_enter func101,ntmps101;go_wp2;go_ret;exact⟨bD f.out.symm,(Below.refl _ _).alloc (Nat.le_refl _) _⟩
theorem SA (w:World) (a:Option Addr) (n c:Nat):(binOp .eql 38 (.slice a n c) (.slice none 0 0)).run prog w=.ok (.bool a.isNone) w:=Lib.run_eql_slice_nil w 38 3 a n c 0 0 underlying38
theorem EX (w:World):kD 16 #[.slice none 0 0] w (.slice none 0 0):=by
 have:=SA;go_enter func16,ntmps16;go_wp2;go_ret;exact⟨rfl,rfl⟩
theorem JB {base:Nat} {v:Value} {l:List Int} (h:w.ownsRow base 3 1 v l.length (ints l)):∃ ao cap,v=.slice ao l.length cap∧Own base w ao cap l:=by
 rcases h.2 with ⟨rfl,a⟩ | ⟨g,cap,d,rfl,_⟩
 ·exact⟨none,0,by rw [a],by unfold Own;rw [a] at h ⊢;exact h⟩
 ·exact⟨_,_,rfl,h⟩
theorem EY (a:Addr) (cap:Nat) (l:List Int) (w:World) (A:Rd w (some a) l) (I:l.length*8<=140737488355328):
  kC 16 #[.slice (some a) l.length cap] w fun e w'=>∃ x f,e=.returned (.slice x l.length f)∧Own w.heap.size w' x f l∧Below w.heap.size w w':=by
 obtain⟨H,F,s,t,v⟩:=info_parts info3;have J:=SA;have D:Hid (∀ j u,(ints l)[j]?=some u->(w.alloc (.cells #[] 3)).cell? (a.add j)=some u):=by
  intro j u r;have q:=A.below ((Below.refl _ _).alloc (Nat.le_refl _) (.cells #[] 3));have p:j < l.length:=(by have:=(gL r).1;simpa [ints] using this);rcases q with h | ⟨b,m,y,E⟩
  ·subst h;simp at p
  ·simp only [Option.some.injEq] at y;subst y;have e:(⟨b,m,none⟩:Addr).add j=⟨b,m+j,none⟩:=(by unfold Addr.add;split <;>simp_all);rw [e,E j p];simp [ints,p] at r;simp [p,r]
 clear A;go_enter func16,ntmps16;go_wp2_with (first | (at_builtin;refine wpList_append_own _ rfl _ _ 38 rfl w.heap.size 3 H (.int .i64 0) 1 8 underlying38 F s t v rfl (by decide) _ 0 [] rfl (World.ownsRow_made w #[] 0 (Nat.le_refl _) (by decide) rfl) a l.length cap (ints l) rfl (by simp [ints]) D.out (by simp [ints];intros;rfl) (by unfold maxLen;omega) (by omega) (by simp) ?_) | go_in);intro K w1 i d _;obtain⟨ao,c,rfl,z⟩:=JB i;clear i;have B:Hid (Below w.heap.size w w1):=((Below.refl _ _).alloc (Nat.le_refl _) _).grown d (by simp) (fun k G=>by simp [Value.ownBlock] at G;omega);have C:=gH z;clear z d;go_wp2;go_ret;exact⟨ao,c,rfl,C.out,B.out⟩
theorem uD (ao:Option Addr) (cap:Nat) (l:List Int) (w:World) (m:Rd w ao l) (j:ao=none->l.length=0∧cap=0) (i:l.length*8<=140737488355328):
  kC 16 #[.slice ao l.length cap] w fun e w'=>∃ f d,e=.returned (.slice f l.length d)∧Own w.heap.size w' f d l∧Below w.heap.size w w':=by
 cases ao with
 | none=>
  obtain⟨h,rfl⟩:=j rfl;obtain rfl:=List.length_eq_zero_iff.1 h;refine(EX w).mono ?_;rintro e w' ⟨rfl,rfl⟩;exact⟨none,0,rfl,kP _ _,Below.refl _ _⟩
 | some a=>exact EY a cap l w m i
end Go.Proofs.YtkcdcamophkdlaaGreatDoor.Ps
