import Derived.Test.YtkcdcamophkdlaaGreatDoorAA
import Derived.Test.YtkcdcamophkdlaaGreatDoorRows
import Derived.WalkSpells
import Derived.WalkLawsBesides
import Derived.Handy
import Derived.Deep.QuietTactic
set_option maxHeartbeats 400000
open Go.Proofs.Tryz
namespace Go.Proofs.YtkcdcamophkdlaaGreatDoor.Tl
variable {p:Int} {aj:List (List Int)} {j i:Nat} {c:List Int}
def dG (p:Int):Bool:=decide (0<=p∧p < 6)
def idx (p:Int):List Int->Option Nat
 | []=>none
 | x::r=>if x=p then some 0 else (idx p r).map (·+1)
def zi (p:Int) (c:List Int):Int:=match idx p c with
 | some j=>(j:Int)
 | none=> -1
def bL (p:Int):List (List Int)->Option (Nat×Nat)
 | []=>none
 | c::r=>match idx p c with
  | some j=>some (0,j)
  | none=>(bL p r).map fun x=>(x.1+1,x.2)
def aR (aj:List (List Int)) (p:Int):Bool:=(bL p aj).isSome
def cK (aj:List (List Int)):Bool:=decide (0 < aj.length∧(∀ c∈aj,1<=c.length∧c.length<=3)∧(∀ p∈aj.flatten,dG p=true)∧aj.flatten.Nodup)
structure eY (aj:List (List Int)):Prop where
 some:0 < aj.length
 kI:∀ c∈aj,1<=c.length∧c.length<=3
 pane:∀ p∈aj.flatten,dG p=true
 once:aj.flatten.Nodup
theorem nG (aj:List (List Int)):cK aj=true↔eY aj:=by
 unfold cK;rw [decide_eq_true_eq];exact⟨fun⟨a,b,c,d⟩=>⟨a,b,c,d⟩,fun⟨a,b,c,d⟩=>⟨a,b,c,d⟩⟩
theorem yV (h:¬ eY aj):cK aj=false:=by
 cases e:cK aj
 ·rfl
 ·exact absurd ((nG aj).1 e) h
def bZ {α:Type} (l:List α) (i:Nat) (x:α):List α:=l.take i++x::l.drop i
def dP (aj:List (List Int)) (p n:Int) (right:Bool):List (List Int)×Int:=
 if cK aj=false∨dG n=false then (aj,1) else
 match bL p aj with
 | none=>(aj,3)
 | some (i,j)=>
  if aR aj n then (aj,4) else
  if right then (bZ aj (i+1) [n],0) else
  if (aj.getD i []).length=3 then (aj,5) else (aj.set i (bZ (aj.getD i []) (j+1) n),0)
def dS (aj:List (List Int)) (p:Int):List (List Int)×Int:=
 if cK aj=false then (aj,1) else
 match bL p aj with
 | none=>(aj,3)
 | some (i,j)=>
  if (aj.getD i []).length=1 then (if aj.length=1 then (aj,5) else (aj.eraseIdx i,0)) else (aj.set i ((aj.getD i []).eraseIdx j),0)
def cZ (length n k:Int):Int×Int:=
 if n < 1∨6 < n∨k < 0∨n<=k∨24 < length∨length < n+(n - 1) then (0,0) else
 (k*((length - (n - 1)) / n+1)+min k ((length - (n - 1)) % n),if k < (length - (n - 1)) % n then (length - (n - 1)) / n+1 else (length - (n - 1)) / n)
structure Rc where
 row:Int
 col:Int
 high:Int
 wide:Int
def dx:Rc:=⟨0,0,0,0⟩
def gW (aj:List (List Int)) (wide high p:Int):Rc:=
 if cK aj=false then dx else
 match bL p aj with
 | none=>dx
 | some (i,j)=>
  if (cZ wide aj.length i).2=0∨(cZ high (aj.getD i []).length j).2=0 then dx else
  ⟨(cZ high (aj.getD i []).length j).1,(cZ wide aj.length i).1,(cZ high (aj.getD i []).length j).2,(cZ wide aj.length i).2⟩
theorem RO (h:idx p c=some j):∃ e:j < c.length,c[j]=p:=by
 induction c generalizing j with
 | nil=>simp [idx] at h
 | cons x r ih=>
  unfold idx at h;split at h
  ·simp only [Option.some.injEq] at h;subst h;exact⟨by simp,by assumption⟩
  ·cases a:idx p r with
   | none=>simp [a] at h
   | some k=>
    simp only [a,Option.map_some,Option.some.injEq] at h;subst h;obtain⟨_,d⟩:=ih a;exact⟨by simp;omega,by simpa using d⟩
theorem ND:idx p c=none↔p ∉ c:=by
 induction c with
 | nil=>simp [idx]
 | cons x r ih=>
  unfold idx;split
  ·simp_all
  ·rename_i h;simp only [Option.map_eq_none_iff,ih,List.mem_cons,not_or];exact⟨fun a=>⟨fun e=>h e.symm,a⟩,fun a=>a.2⟩
theorem RN (f:j < c.length) (a:c[j]=p) (e:∀ i (g:i < j),c[i]≠p):idx p c=some j:=by
 induction c generalizing j with
 | nil=>simp at f
 | cons x r ih=>
  unfold idx;cases j with
  | zero=>simp at a;simp [a]
  | succ j=>
   have d:=e 0 (by omega);simp only [List.getElem_cons_zero] at d;rw [if_neg d,ih (j:=j) (by simpa using f) (by simpa using a) (fun i g=>by have:=e (i+1) (by omega);simpa using this)]
   rfl
theorem aa4 (d:∀ i (a:i < c.length),c[i]≠p):idx p c=none:=by
 rw [ND];intro h;obtain⟨i,a,e⟩:=List.getElem_of_mem h;exact d i a e
theorem QO {k:Nat} (f:k < aj.length) (a:idx p aj[k]=some j) (e:∀ i (g:i < k),idx p aj[i]=none):bL p aj=some (k,j):=by
 induction aj generalizing k with
 | nil=>simp at f
 | cons c r ih=>
  unfold bL;cases k with
  | zero=>simp at a;simp [a]
  | succ k=>
   have d:=e 0 (by omega);simp only [List.getElem_cons_zero] at d;rw [d,ih (k:=k) (by simpa using f) (by simpa using a) (fun i g=>by have:=e (i+1) (by omega);simpa using this)]
   rfl
theorem ZC (d:∀ i (e:i < aj.length),idx p aj[i]=none):bL p aj=none:=by
 induction aj with
 | nil=>rfl
 | cons c r ih=>
  have a:=d 0 (by simp);simp only [List.getElem_cons_zero] at a;unfold bL;rw [a,ih (fun i e=>by have:=d (i+1) (by simpa using e);simpa using this)]
  rfl
theorem ZE (h:bL p aj=some (i,j)):∃ f:i < aj.length,idx p aj[i]=some j:=by
 induction aj generalizing i with
 | nil=>simp [bL] at h
 | cons c r ih=>
  unfold bL at h;cases a:idx p c with
  | some k=>
   simp only [a,Option.some.injEq,Prod.mk.injEq] at h;obtain⟨rfl,rfl⟩:=h;exact⟨by simp,by simpa using a⟩
  | none=>
   simp only [a] at h;cases d:bL p r with
   | none=>simp [d] at h
   | some x=>
    simp only [d,Option.map_some,Option.some.injEq,Prod.mk.injEq] at h;obtain⟨rfl,rfl⟩:=h;obtain⟨_,e⟩:=ih d;exact⟨by simp;omega,by simpa using e⟩
theorem jI (h:bL p aj=some (i,j)):∃ (a:i < aj.length) (d:j < aj[i].length),aj[i][j]=p:=by
 obtain⟨a,e⟩:=ZE h;obtain⟨d,f⟩:=RO e;exact⟨a,d,f⟩
theorem QS:bL p aj=none↔p ∉ aj.flatten:=by
 induction aj with
 | nil=>simp [bL]
 | cons c r ih=>
  unfold bL;cases a:idx p c with
  | some k=>
   obtain⟨d,e⟩:=RO a;simp only [List.flatten_cons,List.mem_append,not_or,reduceCtorEq,false_iff,not_and];intro h;exact absurd (e ▸ List.getElem_mem d) h
  | none=>
   rw [ND] at a;simp only [Option.map_eq_none_iff,ih,List.flatten_cons,List.mem_append,not_or,a,not_false_eq_true,true_and]
theorem qC:aR aj p=true↔p∈aj.flatten:=by
 unfold aR;cases h:bL p aj with
 | none=>simp [QS.1 h]
 | some x=>
  simp only [Option.isSome_some,true_iff];cases Classical.em (p∈aj.flatten) with
  | inl h=>exact h
  | inr h2=>rw [QS.2 h2] at h;cases h
variable (L:Int) (aj:List (List Int)) (n:Nat) (wide high p:Int)
theorem OX {a n k:Int} (h:n < 1∨6 < n∨k < 0∨n<=k∨24 < a∨a < n+(n - 1)):cZ a n k=(0,0):=by
 unfold cZ;rw [if_pos h]
def inB (L n k:Nat):Bool:=decide (cZ L (n+1) k=(0,0)) || decide (0<=(cZ L (n+1) k).1∧1<=(cZ L (n+1) k).2∧(cZ L (n+1) k).1+(cZ L (n+1) k).2<=L)
def apB (L n i j:Nat):Bool:=decide (j<=i) || decide ((cZ L (n+1) i).2=0) || decide ((cZ L (n+1) j).2=0) || decide ((cZ L (n+1) i).1+(cZ L (n+1) i).2 < (cZ L (n+1) j).1)
theorem all_in:((List.range 25).all fun L=>(List.range 6).all fun n=>(List.range (n+1)).all fun k=>inB L n k)=true:=by decide+kernel
theorem WM:((List.range 25).all fun L=>(List.range 6).all fun n=>(List.range (n+1)).all fun i=>(List.range (n+1)).all fun j=>apB L n i j)=true:=by decide+kernel
theorem OW (k:Nat) (e:0<=L) (d:L < 25):cZ L n k=(0,0)∨(0<=(cZ L n k).1∧1<=(cZ L n k).2∧(cZ L n k).1+(cZ L n k).2<=L):=by
 by_cases h:(n:Int) < 1∨6 < (n:Int)∨(k:Int) < 0∨(n:Int)<=k∨24 < L∨L < n+(n - 1)
 ·exact .inl (OX h)
 ·obtain⟨L,rfl⟩:∃ m:Nat,L=m:=⟨L.toNat,by omega⟩;obtain⟨n,rfl⟩:∃ m:Nat,n=m+1:=⟨n - 1,by omega⟩;have a:=all_in;rw [List.all_eq_true] at a;have a:=a L (List.mem_range.2 (by omega));rw [List.all_eq_true] at a;have a:=a n (List.mem_range.2 (by omega));rw [List.all_eq_true] at a;have a:=a k (List.mem_range.2 (by omega));unfold inB at a;rw [Bool.or_eq_true,decide_eq_true_eq,decide_eq_true_eq] at a;exact a
theorem JO (i j:Nat) (f:0<=L) (d:L < 25) (e:i < j):(cZ L n i).2=0∨(cZ L n j).2=0∨(cZ L n i).1+(cZ L n i).2 < (cZ L n j).1:=by
 by_cases h:(n:Int) < 1∨6 < (n:Int)∨(j:Int) < 0∨(n:Int)<=j∨24 < L∨L < n+(n - 1)
 ·right;left;rw [OX h]
 ·obtain⟨L,rfl⟩:∃ m:Nat,L=m:=⟨L.toNat,by omega⟩;obtain⟨n,rfl⟩:∃ m:Nat,n=m+1:=⟨n - 1,by omega⟩;have a:=WM;rw [List.all_eq_true] at a;have a:=a L (List.mem_range.2 (by omega));rw [List.all_eq_true] at a;have a:=a n (List.mem_range.2 (by omega));rw [List.all_eq_true] at a;have a:=a i (List.mem_range.2 (by omega));rw [List.all_eq_true] at a;have a:=a j (List.mem_range.2 (by omega));unfold apB at a;simp only [Bool.or_eq_true,decide_eq_true_eq] at a;rcases a with ((a | a) | a) | a
  ·omega
  ·exact .inl a
  ·exact .inr (.inl a)
  ·exact .inr (.inr a)
def gJ (r:Rc) (row col:Int):Prop:=r.row<=row∧row < r.row+r.high∧r.col<=col∧col < r.col+r.wide
theorem GD:gW aj wide high p=dx∨∃ i j,bL p aj=some (i,j)∧(cZ wide aj.length i).2≠0∧(cZ high (aj.getD i []).length j).2≠0∧
  gW aj wide high p=⟨(cZ high (aj.getD i []).length j).1,(cZ wide aj.length i).1,(cZ high (aj.getD i []).length j).2,(cZ wide aj.length i).2⟩:=by
 unfold gW;by_cases a:cK aj=false
 ·left;rw [if_pos a]
 ·rw [if_neg a];cases d:bL p aj with
  | none=>left;rfl
  | some x=>
   obtain⟨i,j⟩:=x;simp only;by_cases h:(cZ wide aj.length i).2=0∨(cZ high (aj.getD i []).length j).2=0
   ·left;rw [if_pos h]
   ·right;rw [if_neg h];exact⟨i,j,rfl,fun e=>h (.inl e),fun e=>h (.inr e),rfl⟩
theorem U9 (l:0<=wide) (d:wide < 25) (k:0<=high) (m:high < 25) (r:Rc) (a:r=gW aj wide high p):
  (0<=r.row∧0<=r.col∧0<=r.high∧0<=r.wide∧r.row+r.high<=high∧r.col+r.wide<=wide)∧((r.high=0∧r.wide=0)∨(0 < r.high∧0 < r.wide∧aR aj p=true)):=by
 rcases GD aj wide high p with h | ⟨i,j,v,f,g,h⟩
 ·rw [h] at a;subst a;simp [dx,l,k]
 ·rw [h] at a;subst a;rcases OW wide aj.length i l d with e | ⟨o,y,q⟩
  ·rw [e] at f;exact absurd rfl f
  ·rcases OW high (aj.getD i []).length j k m with e | ⟨s,z,u⟩
   ·rw [e] at g;exact absurd rfl g
   ·simp only;exact⟨⟨s,o,by omega,by omega,u,q⟩,.inr ⟨by omega,by omega,by unfold aR;rw [v];rfl⟩⟩
theorem ahF (q f a:Int) (D:0<=wide) (d:wide < 25) (C:0<=high) (v:high < 25) (r:p≠q) (g:gJ (gW aj wide high p) f a) (k:gJ (gW aj wide high q) f a):False:=by
 rcases GD aj wide high p with h | ⟨i,j,F,y,z,h⟩
 ·rw [h] at g;simp [gJ,dx] at g;omega
 ·rcases GD aj wide high q with m | ⟨s,u,o,A,B,m⟩
  ·rw [m] at k;simp [gJ,dx] at k;omega
  ·rw [h] at g;rw [m] at k;simp only [gJ] at g k;by_cases e:i=s
   ·subst e;have G:j≠u:=by
     intro e;subst e;obtain⟨_,_,E⟩:=jI F;obtain⟨_,_,l⟩:=jI o;exact r (E.symm.trans l)
    rcases Nat.lt_or_gt_of_ne G with e | e
    ·rcases JO high (aj.getD i []).length j u C v e with c | c | c
     ·exact z c
     ·exact B c
     ·omega
    ·rcases JO high (aj.getD i []).length u j C v e with c | c | c
     ·exact B c
     ·exact z c
     ·omega
   ·rcases Nat.lt_or_gt_of_ne e with e | e
    ·rcases JO wide aj.length i s D d e with c | c | c
     ·exact y c
     ·exact A c
     ·omega
    ·rcases JO wide aj.length s i D d e with c | c | c
     ·exact A c
     ·exact y c
     ·omega
open Go.RowKit
variable {w w':World} {b:Nat} {c0:Value} {t:TypeId} {x:Obj}
@[reducible] def tval (co:Option Addr) (n cap:Nat):Value:=.agg #[.slice co n cap]
@[reducible] def aT (co:Option Addr) (n cap:Nat):Obj:=.cells #[.slice co n cap] 30
@[reducible] def pz (r:Rc):Array Value:=#[.int .i64 r.row,.int .i64 r.col,.int .i64 r.high,.int .i64 r.wide]
@[reducible] def rval (r:Rc):Value:=.agg (pz r)
@[reducible] def fK (r:Rc):Obj:=.cells (pz r) 88
def bV (w:World) (ao:Option Addr) (l:List Int):Prop:=l=[]∨∃ b off,ao=some ⟨b,off,none⟩∧∀ j,j < l.length->w.cell? ⟨b,off+j,none⟩=some (.int .i64 (l.getD j 0))
theorem bV.below {e:Option Addr} {l:List Int} (h:bV w e l) (k:Below w.heap.size w w'):bV w' e l:=by
 rcases h with h | ⟨b,a,g,m⟩
 ·exact .inl h
 ·refine .inr ⟨b,a,g,fun j o=>?_⟩;have f:=m j o;have d:=World.block_lt_of_cell? _ _ f;exact(k.cell (p:=⟨b,a+j,none⟩) d).trans f
abbrev bn:=List Int×Option Addr×Nat
@[reducible] def cv (x:bn):Value:=.slice x.2.1 x.1.length x.2.2
@[reducible] def ak (its:List bn):List (List Int):=its.map (·.1)
structure aI (w:World) (co:Option Addr) (its:List bn):Prop where
 each:∀ x∈its,bV w x.2.1 x.1∧(x.2.1=none->x.1=[]∧x.2.2=0)
 row:its=[]∨∃ b off,co=some ⟨b,off,none⟩∧∀ k (hk:k < its.length),w.cell? ⟨b,off+k,none⟩=some (cv its[k])
theorem aI.below {co:Option Addr} {its:List bn} (h:aI w co its) (f:Below w.heap.size w w'):aI w' co its:=by
 refine⟨fun x g=>⟨(h.each x g).1.below f,(h.each x g).2⟩,?_⟩;rcases h.row with h | ⟨b,a,l,m⟩
 ·exact .inl h
 ·refine .inr ⟨b,a,l,fun k o=>?_⟩;have e:=m k o;have d:=World.block_lt_of_cell? _ _ e;exact(f.cell (p:=⟨b,a+k,none⟩) d).trans e
theorem one (h:w.heap[b]?=some (.cells #[c0] t (0,0))):w.cell? ⟨b,0,none⟩=some c0∧(∀ j,w.frozen? ⟨b,j,none⟩=false):=
 ⟨cell_of_row w b 0 _ t _ h,fun j=>frozen_of_row w b j _ t h⟩
theorem four {a d e:Value} (h:w.heap[b]?=some (.cells #[c0,a,d,e] t (0,0))):
  (w.cell? ⟨b,0,none⟩=some c0∧w.cell? ⟨b,1,none⟩=some a∧w.cell? ⟨b,2,none⟩=some d∧w.cell? ⟨b,3,none⟩=some e)∧(∀ j,w.frozen? ⟨b,j,none⟩=false):=
 ⟨⟨cell_of_row w b 0 _ t _ h,cell_of_row w b 1 _ t _ h,cell_of_row w b 2 _ t _ h,cell_of_row w b 3 _ t _ h⟩,fun j=>frozen_of_row w b j _ t h⟩
theorem at_new (w:World) (o:Obj):(w.alloc o).heap[w.heap.size]?=some o:=heap_alloc_new w o
theorem aF (h:w.heap[b]?=some x) (o:Obj):(w.alloc o).heap[b]?=some x:=by
 rw [Below.heap_alloc w o b (gQ h).1];exact h
theorem bK (w:World) (o1 o2:Obj):((w.alloc o1).alloc o2).heap[w.heap.size+1]?=some o2:=by
 have:=at_new (w.alloc o1) o2;simpa using this
theorem dI (h:w.heap[b]?=some x):b < w.heap.size:=(gQ h).1
theorem bD {a b:Bool} (h:a=b):Ending.returned (.bool a)=.returned (.bool b):=by rw [h]
theorem uR {a b:Int} (h:a=b):Ending.returned (.int .i64 a)=.returned (.int .i64 b):=by rw [h]
theorem aM (w:World) (o:Obj):Below w.heap.size w (w.alloc o):=(Below.refl _ _).alloc (Nat.le_refl _) _
theorem aO (w:World) (o a:Obj):Below w.heap.size w ((w.alloc o).alloc a):=(aM w o).alloc (by simp) _
theorem aG {B:Nat} {o:Obj} (d:Below B w w') (h:w.heap[b]?=some o) (a:b < B):w'.heap[b]?=some o:=by
 rw [d.block b a];exact h
theorem iG {a d:World} (h:Below w.heap.size w a) (e:Below a.heap.size a d):Below w.heap.size w d:=h.trans (e.mono h.size)
theorem info_parts {P:Program} {e:TypeId} {z:Value} {f a:Nat} (h:(P.info? e).map (fun i=>(i.zero,i.size,i.bytes))=some (some z,f,a)):∃ i,P.info? e=some i∧i.zero=some z∧i.size=f∧i.bytes=a:=by
 cases d:P.info? e with
 | none=>simp [d] at h
 | some i=>simp only [d,Option.map_some,Option.some.injEq,Prod.mk.injEq] at h;exact⟨i,rfl,h.1,h.2.1,h.2.2⟩
theorem Az (p:Int) (w:World):kD 68 #[.int .i64 p] w (.bool (dG p)):=by
 by_cases a:0<=p
 ·go_enter func68,ntmps68;go_wp2;go_ret;exact⟨bD (by simp [dG,a]),rfl⟩
 ·have:p < 0:=(by omega);go_enter func68,ntmps68;go_wp2;go_ret;exact⟨bD (by simp [dG];omega),rfl⟩
variable (its:List bn) (co:Option Addr) (cap:Nat) (p:Int) (w:World)
def intOf:Value->Int
 | .int _ i=>i
 | _=>0
theorem aa8 (c:List Int) (o:Option Addr) (cap:Nat) (p:Int) (w:World) (v:bV w o c) (B:c.length<=17592186044416):
  kD 79 #[.slice o c.length cap,.int .i64 p] w (.int .i64 (zi p c)):=by
 have z:=gH v;clear v;go_enter func79,ntmps79;go_wp2;go_loopw [8] (fun i wr=>∃ k:Nat,k<=c.length∧i=.int .i64 k∧wr=w∧∀ j (u:j < c.length),j < k->c[j]≠p) (fun i _=>c.length - (intOf i).toNat)
 case atStart=>exact⟨0,Nat.zero_le _,rfl,rfl,fun j _ h=>by omega⟩
 case round=>
  obtain⟨k,_,rfl,rfl,q⟩:=hrel;have d:=gH q;clear q;by_cases a:k < c.length
  ·obtain⟨_,_,rfl,r⟩:=z.out.resolve_left (by intro h;subst h;simp at a);have A:=r k a;obtain⟨x,l⟩:∃ x,x=c.getD k 0:=⟨_,rfl⟩;rw [<-l] at A;have m:Hid (c[k]=x):=(by show c[k]=x;rw [l];simp [a]);clear r l;by_cases s:p=x
   ·have f:Hid (idx p c=some k):=RN a (by rw [m.out,s]) (fun i g=>d.out i (by omega) g);go_wp2;go_ret;exact⟨uR (by unfold zi;rw [f.out]),rfl⟩
   ·have y:Hid (c[k]≠p):=(by show c[k]≠p;rw [m.out];exact fun e=>s e.symm);go_wp2;go_roundw
    case rel=>exact⟨k+1,by omega,by go_num,by first | rfl | trivial,fun j u h=>if e:j=k then by subst e;exact y.out else d.out j u (by omega)⟩
    case measure=>simp [intOf];omega
  ·have f:Hid (idx p c=none):=aa4 (fun i g=>d.out i g (by omega));go_wp2;go_ret;exact⟨uR (by unfold zi;rw [f.out]),rfl⟩
def fi (r:Option (Nat×Nat)):Int:=match r with
 | some x=>(x.1:Int)
 | none=>0
def fj (r:Option (Nat×Nat)):Int:=match r with
 | some x=>(x.2:Int)
 | none=>0
theorem yU (F:aI w co its) (K:its.length<=5864062014805) (m:∀ x∈its,x.1.length<=17592186044416) (r:Option (Nat×Nat)) (o:r=bL p (ak its)):
  kC 59 #[tval co its.length cap,.int .i64 p] w fun e w'=>e=.returned (.tuple #[.int .i64 (fi r),.int .i64 (fj r),.bool r.isSome])∧w'=w.alloc (aT co its.length cap):=by
 have A:Hid (aI (w.alloc (aT co its.length cap)) co its):=F.below (aM _ _);have H:=gH m;have l:=gH o;obtain⟨_,_⟩:=one (at_new w (aT co its.length cap));clear F m o;go_enter func59,ntmps59;go_wp2;go_loopw [13] (fun i wr=>∃ k:Nat,k<=its.length∧i=.int .i64 k∧wr=w.alloc (aT co its.length cap)∧∀ j (E:j < its.length),j < k->idx p its[j].1=none) (fun i _=>its.length - (intOf i).toNat)
 case atStart=>exact⟨0,Nat.zero_le _,rfl,rfl,fun j _ h=>by omega⟩
 case round=>
  obtain⟨k,_,rfl,rfl,C⟩:=hrel;have u:=gH C;clear C;by_cases d:k < its.length
  ·obtain⟨b,y,rfl,D⟩:=A.out.row.resolve_left (by intro h;subst h;simp at d);have I:=D k d;obtain⟨x,q⟩:∃ x,x=its[k]:=⟨_,rfl⟩;rw [<-q] at I;have a:x∈its:=(by rw [q];exact List.getElem_mem d);have s:Hid (∀ w',w'=w.alloc (aT (some ⟨b,y,none⟩) its.length cap)->kC 79 #[.slice x.2.1 x.1.length x.2.2,.int .i64 p] w' fun e z=>e=.returned (.int .i64 (zi p x.1))∧z=w'):=by
    rintro w' rfl;exact aa8 x.1 x.2.1 x.2.2 p _ (A.out.each x a).1 (H.out x a)
   have B:=gH q;clear D q a;cases g:idx p x.1 with
   | some j=>
    have f:zi p x.1=(j:Int):=(by unfold zi;rw [g]);have v:Hid (r=some (k,j)):=by
     show r=_;rw [l.out];refine QO (by simpa using d) ?_ (fun i f=>?_)
     ·simp only [List.getElem_map, <-B.out];exact g
     ·simp only [List.getElem_map];exact u.out i (by omega) f
    rw [f] at s;clear g;go_wp2_with (go_at_call 79;refine(s.out _ rfl).mono ?_;rintro e J ⟨rfl,rfl⟩);refine bodyPost_ret (by simp [results,results59,go_sem];rfl) rfl ?_;rw [v.out];exact⟨rfl,rfl⟩
   | none=>
    have f:zi p x.1= -1:=(by unfold zi;rw [g]);have G:Hid (idx p its[k].1=none):=(by show _=_;rw [<-B.out];exact g);rw [f] at s;clear g;go_wp2_with (go_at_call 79;refine(s.out _ rfl).mono ?_;rintro e J ⟨rfl,rfl⟩);go_roundw
    case rel=>exact⟨k+1,by omega,by go_num,by first | rfl | trivial,fun j E h=>if e:j=k then by subst e;exact G.out else u.out j E (by omega)⟩
    case measure=>simp [intOf];omega
  ·have v:Hid (r=none):=by
    show r=_;rw [l.out];refine ZC fun i f=>?_;simp only [List.getElem_map];exact u.out i (by simpa using f) (by simp at f;omega)
   go_wp2;refine bodyPost_ret (by simp [results,results59,go_sem];rfl) rfl ?_;rw [v.out];exact⟨rfl,rfl⟩
theorem vT (f:aI w co its) (k:its.length<=5864062014805) (d:∀ x∈its,x.1.length<=17592186044416) (h:Bool) (g:h=aR (ak its) p):
  kA 66 #[tval co its.length cap,.int .i64 p] w (.bool h):=by
 obtain⟨r,a⟩:∃ r,r=bL p (ak its):=⟨_,rfl⟩;have m:Hid (h=r.isSome):=by show h=_;rw [g,a];rfl
 obtain⟨_,_⟩:=one (at_new w (aT co its.length cap));have l:Hid (∀ w,aI w co its->kC 59 #[tval co its.length cap,.int .i64 p] w fun e w'=>e=.returned (.tuple #[.int .i64 (fi r),.int .i64 (fj r),.bool r.isSome])∧w'=w.alloc (aT co its.length cap)):=fun w f=>yU its co cap p w f k d r a;have o:Hid (aI (w.alloc (aT co its.length cap)) co its):=f.below (aM _ _);clear f k d a g;go_enter func66,ntmps66;go_wp2_with (go_at_call 59;refine(l.out _ o.out).mono ?_;rintro e _ ⟨rfl,rfl⟩);go_ret;exact⟨bD m.out.symm,aO _ _ _⟩
theorem afN (l:List Int) (o q:Option Addr) (y z:Nat) (w:World) (r:bV w o l) (s:bV w q l) (C:l.length<=17592186044416):
  kC 36 #[.slice o l.length y,.slice q l.length z] w fun e w'=>e=.returned (.bool true)∧∃ m,w'=w.drewN m:=by
 have f:=gH r;have g:=gH s;clear r s;go_enter func36,ntmps36;go_wp2;go_loopw [13] (fun i wr=>∃ k m:Nat,k<=l.length∧i=.int .i64 k∧wr=w.drewN m) (fun i _=>l.length - (intOf i).toNat)
 case atStart=>exact⟨0,0,Nat.zero_le _,rfl,rfl⟩
 case round=>
  obtain⟨k,m,_,rfl,rfl⟩:=hrel;by_cases a:k < l.length
  ·obtain⟨_,_,rfl,u⟩:=f.out.resolve_left (by intro h;subst h;simp at a);obtain⟨_,_,rfl,d⟩:=g.out.resolve_left (by intro h;subst h;simp at a);have A:=u k a;have B:=d k a;obtain⟨x,v⟩:∃ x,x=l.getD k 0:=⟨_,rfl⟩;rw [<-v] at A B;have:(k:Int) < (l.length:Int):=(by omega);clear u d v f g;go_wp2_with fail;go_quiet (fail);go_wp2;go_roundw
   case rel=>exact⟨k+1,_,by omega,by go_num,rfl⟩
   case measure=>simp [intOf];omega
  ·have:(l.length:Int)<=(k:Int):=(by omega);go_wp2;go_ret;exact⟨rfl,m,rfl⟩
end Go.Proofs.YtkcdcamophkdlaaGreatDoor.Tl
