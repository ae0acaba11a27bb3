/- Several texts in one, each as it was: TMach, TApart0, TBase, TFind. -/
import Derived.Test.YtjikokfjnbhngaaGreatDoorRows
import Derived.WalkKit
import Derived.WalkSpells
import Derived.WalkLawsBesides
import Derived.Handy
import Derived.OwnWalk
import Derived.Deep.RegionWith
import Derived.Deep.Quiet

/- The plain machine of panes in columns: what is good, where a pane is, how a length is shared, what a split and a kill make. -/
namespace Go.Proofs.YtjikokfjnbhngaaGreatDoor.Tl
def paneB (p:Int):Bool:=decide (0≤p∧p < 6)
def idx (p:Int):List Int→Option Nat
 | []=>none
 | x::r=>if x=p then some 0 else (idx p r).map (·+1)
def idxI (p:Int) (c:List Int):Int:=match idx p c with
 | some j=>(j:Int)
 | none=> -1
def findT (p:Int):List (List Int)→Option (Nat×Nat)
 | []=>none
 | c::r=>match idx p c with
  | some j=>some (0,j)
  | none=>(findT p r).map fun x=>(x.1+1,x.2)
def hasT (cols:List (List Int)) (p:Int):Bool:=(findT p cols).isSome
def goodT (cols:List (List Int)):Bool:=decide (0 < cols.length∧(∀ c∈cols,1≤c.length∧c.length≤3)∧(∀ p∈cols.flatten,paneB p=true)∧cols.flatten.Nodup)
structure OkT (cols:List (List Int)):Prop where
 some:0 < cols.length
 tall:∀ c∈cols,1≤c.length∧c.length≤3
 pane:∀ p∈cols.flatten,paneB p=true
 once:cols.flatten.Nodup
theorem goodT_iff (cols:List (List Int)):goodT cols=true↔OkT cols:=by
 unfold goodT
 rw [decide_eq_true_eq]
 exact⟨fun⟨a,b,c,d⟩=>⟨a,b,c,d⟩,fun⟨a,b,c,d⟩=>⟨a,b,c,d⟩⟩
theorem goodT_not {cols:List (List Int)} (h:¬ OkT cols):goodT cols=false:=by
 cases e:goodT cols
 ·rfl
 ·exact absurd ((goodT_iff cols).1 e) h
def insL {α:Type} (l:List α) (i:Nat) (x:α):List α:=l.take i++x::l.drop i
def splitT (cols:List (List Int)) (p n:Int) (right:Bool):List (List Int)×Int:=
 if goodT cols=false∨paneB n=false then (cols,1) else
 match findT p cols with
 | none=>(cols,3)
 | some (i,j)=>
  if hasT cols n then (cols,4) else
  if right then (insL cols (i+1) [n],0) else
  if (cols.getD i []).length=3 then (cols,5) else (cols.set i (insL (cols.getD i []) (j+1) n),0)
def killT (cols:List (List Int)) (p:Int):List (List Int)×Int:=
 if goodT cols=false then (cols,1) else
 match findT p cols with
 | none=>(cols,3)
 | some (i,j)=>
  if (cols.getD i []).length=1 then (if cols.length=1 then (cols,5) else (cols.eraseIdx i,0)) else (cols.set i ((cols.getD i []).eraseIdx j),0)
def shareT (length n k:Int):Int×Int:=
 if n < 1∨6 < n∨k < 0∨n≤k∨24 < length∨length < n+(n - 1) then (0,0) else
 (k*((length - (n - 1)) / n+1)+min k ((length - (n - 1)) % n),if k < (length - (n - 1)) % n then (length - (n - 1)) / n+1 else (length - (n - 1)) / n)
structure Rc where
 row:Int
 col:Int
 high:Int
 wide:Int
def noRc:Rc:=⟨0,0,0,0⟩
def whereT (cols:List (List Int)) (wide high p:Int):Rc:=
 if goodT cols=false then noRc else
 match findT p cols with
 | none=>noRc
 | some (i,j)=>
  if (shareT wide cols.length i).2=0∨(shareT high (cols.getD i []).length j).2=0 then noRc else
  ⟨(shareT high (cols.getD i []).length j).1,(shareT wide cols.length i).1,(shareT high (cols.getD i []).length j).2,(shareT wide cols.length i).2⟩
theorem idx_some {p:Int} {c:List Int} {j:Nat} (h:idx p c=some j):∃ hj:j < c.length,c[j]=p:=by
 induction c generalizing j with
 | nil=>simp [idx] at h
 | cons x r ih=>
  unfold idx at h
  split at h
  ·simp only [Option.some.injEq] at h;subst h;exact⟨by simp,by assumption⟩
  ·cases hr:idx p r with
   | none=>simp [hr] at h
   | some k=>
    simp only [hr,Option.map_some,Option.some.injEq] at h
    subst h
    obtain⟨h1,h2⟩:=ih hr
    exact⟨by simp;omega,by simpa using h2⟩
theorem idx_none {p:Int} {c:List Int}:idx p c=none↔p ∉ c:=by
 induction c with
 | nil=>simp [idx]
 | cons x r ih=>
  unfold idx
  split
  ·simp_all
  ·rename_i h
   simp only [Option.map_eq_none_iff,ih,List.mem_cons,not_or]
   exact⟨fun h2=>⟨fun e=>h e.symm,h2⟩,fun h2=>h2.2⟩
theorem idx_at {p:Int} {c:List Int} {j:Nat} (hj:j < c.length) (he:c[j]=p) (hb:∀ i (hi:i < j),c[i]≠p):idx p c=some j:=by
 induction c generalizing j with
 | nil=>simp at hj
 | cons x r ih=>
  unfold idx
  cases j with
  | zero=>simp at he;simp [he]
  | succ j=>
   have h0:=hb 0 (by omega)
   simp only [List.getElem_cons_zero] at h0
   rw [if_neg h0,ih (j:=j) (by simpa using hj) (by simpa using he) (fun i hi=>by have:=hb (i+1) (by omega);simpa using this)]
   rfl
theorem idx_end {p:Int} {c:List Int} (hb:∀ i (hi:i < c.length),c[i]≠p):idx p c=none:=by
 rw [idx_none]
 intro h
 obtain⟨i,hi,e⟩:=List.getElem_of_mem h
 exact hb i hi e
theorem findT_at {p:Int} {cols:List (List Int)} {k j:Nat} (hk:k < cols.length) (he:idx p cols[k]=some j) (hb:∀ i (hi:i < k),idx p cols[i]=none):findT p cols=some (k,j):=by
 induction cols generalizing k with
 | nil=>simp at hk
 | cons c r ih=>
  unfold findT
  cases k with
  | zero=>simp at he;simp [he]
  | succ k=>
   have h0:=hb 0 (by omega)
   simp only [List.getElem_cons_zero] at h0
   rw [h0,ih (k:=k) (by simpa using hk) (by simpa using he) (fun i hi=>by have:=hb (i+1) (by omega);simpa using this)]
   rfl
theorem findT_end {p:Int} {cols:List (List Int)} (hb:∀ i (hi:i < cols.length),idx p cols[i]=none):findT p cols=none:=by
 induction cols with
 | nil=>rfl
 | cons c r ih=>
  have h0:=hb 0 (by simp)
  simp only [List.getElem_cons_zero] at h0
  unfold findT
  rw [h0,ih (fun i hi=>by have:=hb (i+1) (by simpa using hi);simpa using this)]
  rfl
theorem findT_some {p:Int} {cols:List (List Int)} {i j:Nat} (h:findT p cols=some (i,j)):∃ hi:i < cols.length,idx p cols[i]=some j:=by
 induction cols generalizing i with
 | nil=>simp [findT] at h
 | cons c r ih=>
  unfold findT at h
  cases hc:idx p c with
  | some k=>
   simp only [hc,Option.some.injEq,Prod.mk.injEq] at h
   obtain⟨rfl,rfl⟩:=h
   exact⟨by simp,by simpa using hc⟩
  | none=>
   simp only [hc] at h
   cases hr:findT p r with
   | none=>simp [hr] at h
   | some x=>
    simp only [hr,Option.map_some,Option.some.injEq,Prod.mk.injEq] at h
    obtain⟨rfl,rfl⟩:=h
    obtain⟨h1,h2⟩:=ih hr
    exact⟨by simp;omega,by simpa using h2⟩
theorem findT_get {p:Int} {cols:List (List Int)} {i j:Nat} (h:findT p cols=some (i,j)):∃ (hi:i < cols.length) (hj:j < cols[i].length),cols[i][j]=p:=by
 obtain⟨hi,h1⟩:=findT_some h
 obtain⟨hj,h2⟩:=idx_some h1
 exact⟨hi,hj,h2⟩
theorem findT_none {p:Int} {cols:List (List Int)}:findT p cols=none↔p ∉ cols.flatten:=by
 induction cols with
 | nil=>simp [findT]
 | cons c r ih=>
  unfold findT
  cases hc:idx p c with
  | some k=>
   obtain⟨hk,e⟩:=idx_some hc
   simp only [List.flatten_cons,List.mem_append,not_or,reduceCtorEq,false_iff,not_and]
   intro h
   exact absurd (e ▸ List.getElem_mem hk) h
  | none=>
   rw [idx_none] at hc
   simp only [Option.map_eq_none_iff,ih,List.flatten_cons,List.mem_append,not_or,hc,not_false_eq_true,true_and]
theorem hasT_iff {p:Int} {cols:List (List Int)}:hasT cols p=true↔p∈cols.flatten:=by
 unfold hasT
 cases h:findT p cols with
 | none=>simp [findT_none.1 h]
 | some x=>
  simp only [Option.isSome_some,true_iff]
  cases Classical.em (p∈cols.flatten) with
  | inl h=>exact h
  | inr h2=>rw [findT_none.2 h2] at h;cases h
end Go.Proofs.YtjikokfjnbhngaaGreatDoor.Tl

/- Places lie within, and apart: of the plain machine. -/
namespace Go.Proofs.YtjikokfjnbhngaaGreatDoor.Tl
theorem share_no {length n k:Int} (h:n < 1∨6 < n∨k < 0∨n≤k∨24 < length∨length < n+(n - 1)):shareT length n k=(0,0):=by
 unfold shareT
 rw [if_pos h]
def inB (L n k:Nat):Bool:=decide (shareT L (n+1) k=(0,0)) || decide (0≤(shareT L (n+1) k).1∧1≤(shareT L (n+1) k).2∧(shareT L (n+1) k).1+(shareT L (n+1) k).2≤L)
def apB (L n i j:Nat):Bool:=decide (j≤i) || decide ((shareT L (n+1) i).2=0) || decide ((shareT L (n+1) j).2=0) || decide ((shareT L (n+1) i).1+(shareT L (n+1) i).2 < (shareT L (n+1) j).1)
theorem all_in:((List.range 25).all fun L=>(List.range 6).all fun n=>(List.range (n+1)).all fun k=>inB L n k)=true:=by decide+kernel
theorem all_ap:((List.range 25).all fun L=>(List.range 6).all fun n=>(List.range (n+1)).all fun i=>(List.range (n+1)).all fun j=>apB L n i j)=true:=by decide+kernel
theorem share_in (L:Int) (n k:Nat) (hL:0≤L) (hL2:L < 25):shareT L n k=(0,0)∨(0≤(shareT L n k).1∧1≤(shareT L n k).2∧(shareT L n k).1+(shareT L n k).2≤L):=by
 by_cases h:(n:Int) < 1∨6 < (n:Int)∨(k:Int) < 0∨(n:Int)≤k∨24 < L∨L < n+(n - 1)
 ·exact .inl (share_no h)
 ·obtain⟨L,rfl⟩:∃ m:Nat,L=m:=⟨L.toNat,by omega⟩
  obtain⟨n,rfl⟩:∃ m:Nat,n=m+1:=⟨n - 1,by omega⟩
  have h1:=all_in
  rw [List.all_eq_true] at h1
  have h1:=h1 L (List.mem_range.2 (by omega))
  rw [List.all_eq_true] at h1
  have h1:=h1 n (List.mem_range.2 (by omega))
  rw [List.all_eq_true] at h1
  have h1:=h1 k (List.mem_range.2 (by omega))
  unfold inB at h1
  rw [Bool.or_eq_true,decide_eq_true_eq,decide_eq_true_eq] at h1
  exact h1
theorem share_apart (L:Int) (n i j:Nat) (hL:0≤L) (hL2:L < 25) (hij:i < j):(shareT L n i).2=0∨(shareT L n j).2=0∨(shareT L n i).1+(shareT L n i).2 < (shareT L n j).1:=by
 by_cases h:(n:Int) < 1∨6 < (n:Int)∨(j:Int) < 0∨(n:Int)≤j∨24 < L∨L < n+(n - 1)
 ·right;left
  rw [share_no h]
 ·obtain⟨L,rfl⟩:∃ m:Nat,L=m:=⟨L.toNat,by omega⟩
  obtain⟨n,rfl⟩:∃ m:Nat,n=m+1:=⟨n - 1,by omega⟩
  have h1:=all_ap
  rw [List.all_eq_true] at h1
  have h1:=h1 L (List.mem_range.2 (by omega))
  rw [List.all_eq_true] at h1
  have h1:=h1 n (List.mem_range.2 (by omega))
  rw [List.all_eq_true] at h1
  have h1:=h1 i (List.mem_range.2 (by omega))
  rw [List.all_eq_true] at h1
  have h1:=h1 j (List.mem_range.2 (by omega))
  unfold apB at h1
  simp only [Bool.or_eq_true,decide_eq_true_eq] at h1
  rcases h1 with ((h1 | h1) | h1) | h1
  ·omega
  ·exact .inl h1
  ·exact .inr (.inl h1)
  ·exact .inr (.inr h1)
def inR (r:Rc) (row col:Int):Prop:=r.row≤row∧row < r.row+r.high∧r.col≤col∧col < r.col+r.wide
theorem where_cases (cols:List (List Int)) (wide high p:Int):whereT cols wide high p=noRc∨∃ i j,findT p cols=some (i,j)∧(shareT wide cols.length i).2≠0∧(shareT high (cols.getD i []).length j).2≠0∧
  whereT cols wide high p=⟨(shareT high (cols.getD i []).length j).1,(shareT wide cols.length i).1,(shareT high (cols.getD i []).length j).2,(shareT wide cols.length i).2⟩:=by
 unfold whereT
 by_cases hg:goodT cols=false
 ·left;rw [if_pos hg]
 ·rw [if_neg hg]
  cases hf:findT p cols with
  | none=>left;rfl
  | some x=>
   obtain⟨i,j⟩:=x
   simp only
   by_cases h:(shareT wide cols.length i).2=0∨(shareT high (cols.getD i []).length j).2=0
   ·left;rw [if_pos h]
   ·right
    rw [if_neg h]
    exact⟨i,j,rfl,fun e=>h (.inl e),fun e=>h (.inr e),rfl⟩
theorem where_in (cols:List (List Int)) (wide high p:Int) (hw:0≤wide) (hw2:wide < 25) (hh:0≤high) (hh2:high < 25) (r:Rc) (hr:r=whereT cols wide high p):
  (0≤r.row∧0≤r.col∧0≤r.high∧0≤r.wide∧r.row+r.high≤high∧r.col+r.wide≤wide)∧((r.high=0∧r.wide=0)∨(0 < r.high∧0 < r.wide∧hasT cols p=true)):=by
 rcases where_cases cols wide high p with h | ⟨i,j,hf,h1,h2,h⟩
 ·rw [h] at hr
  subst hr
  simp [noRc,hw,hh]
 ·rw [h] at hr
  subst hr
  rcases share_in wide cols.length i hw hw2 with e | ⟨e1,e2,e3⟩
  ·rw [e] at h1;exact absurd rfl h1
  ·rcases share_in high (cols.getD i []).length j hh hh2 with e | ⟨f1,f2,f3⟩
   ·rw [e] at h2;exact absurd rfl h2
   ·simp only
    exact⟨⟨f1,e1,by omega,by omega,f3,e3⟩,.inr ⟨by omega,by omega,by unfold hasT;rw [hf];rfl⟩⟩
theorem where_apart (cols:List (List Int)) (wide high p q row col:Int) (hw:0≤wide) (hw2:wide < 25) (hh:0≤high) (hh2:high < 25) (hpq:p≠q) (h1:inR (whereT cols wide high p) row col) (h2:inR (whereT cols wide high q) row col):False:=by
 rcases where_cases cols wide high p with h | ⟨i,j,hf,a1,a2,h⟩
 ·rw [h] at h1;simp [inR,noRc] at h1;omega
 ·rcases where_cases cols wide high q with h' | ⟨i',j',hf',b1,b2,h'⟩
  ·rw [h'] at h2;simp [inR,noRc] at h2;omega
  ·rw [h] at h1
   rw [h'] at h2
   simp only [inR] at h1 h2
   by_cases e:i=i'
   ·subst e
    have hj:j≠j':=by
     intro e
     subst e
     obtain⟨g1,g2,g3⟩:=findT_get hf
     obtain⟨g1',g2',g3'⟩:=findT_get hf'
     exact hpq (g3.symm.trans g3')
    rcases Nat.lt_or_gt_of_ne hj with e | e
    ·rcases share_apart high (cols.getD i []).length j j' hh hh2 e with c | c | c
     ·exact a2 c
     ·exact b2 c
     ·omega
    ·rcases share_apart high (cols.getD i []).length j' j hh hh2 e with c | c | c
     ·exact b2 c
     ·exact a2 c
     ·omega
   ·rcases Nat.lt_or_gt_of_ne e with e | e
    ·rcases share_apart wide cols.length i i' hw hw2 e with c | c | c
     ·exact a1 c
     ·exact b1 c
     ·omega
    ·rcases share_apart wide cols.length i' i hw hw2 e with c | c | c
     ·exact b1 c
     ·exact a1 c
     ·omega
end Go.Proofs.YtjikokfjnbhngaaGreatDoor.Tl

/- Words for panes in memory: a list of lists that is read; small contracts. -/
namespace Go.Proofs.YtjikokfjnbhngaaGreatDoor.Tl
open Go.RowKit
@[reducible] def tval (co:Option Addr) (n cap:Nat):Value:=.agg #[.slice co n cap]
@[reducible] def tbox (co:Option Addr) (n cap:Nat):Obj:=.cells #[.slice co n cap] 55
@[reducible] def rcells (r:Rc):Array Value:=#[.int .i64 r.row,.int .i64 r.col,.int .i64 r.high,.int .i64 r.wide]
@[reducible] def rval (r:Rc):Value:=.agg (rcells r)
@[reducible] def rbox (r:Rc):Obj:=.cells (rcells r) 63
def RdL (w:World) (ao:Option Addr) (l:List Int):Prop:=l=[]∨∃ b off,ao=some ⟨b,off,none⟩∧∀ j,j < l.length→w.cell? ⟨b,off+j,none⟩=some (.int .i64 (l.getD j 0))
theorem RdL.below {w w':World} {ao:Option Addr} {l:List Int} (h:RdL w ao l) (hb:Below w.heap.size w w'):RdL w' ao l:=by
 rcases h with h | ⟨b,off,ha,hc⟩
 ·exact .inl h
 ·refine .inr ⟨b,off,ha,fun j hj=>?_⟩
  have h0:=hc j hj
  have hlt:=World.block_lt_of_cell? _ _ h0
  exact(hb.cell (p:=⟨b,off+j,none⟩) hlt).trans h0
abbrev CIt:=List Int×Option Addr×Nat
@[reducible] def cv (x:CIt):Value:=.slice x.2.1 x.1.length x.2.2
@[reducible] def colsOf (its:List CIt):List (List Int):=its.map (·.1)
structure RdT (w:World) (co:Option Addr) (its:List CIt):Prop where
 each:∀ x∈its,RdL w x.2.1 x.1∧(x.2.1=none→x.1=[]∧x.2.2=0)
 row:its=[]∨∃ b off,co=some ⟨b,off,none⟩∧∀ k (hk:k < its.length),w.cell? ⟨b,off+k,none⟩=some (cv its[k])
theorem RdT.below {w w':World} {co:Option Addr} {its:List CIt} (h:RdT w co its) (hb:Below w.heap.size w w'):RdT w' co its:=by
 refine⟨fun x hx=>⟨(h.each x hx).1.below hb,(h.each x hx).2⟩,?_⟩
 rcases h.row with h | ⟨b,off,ha,hc⟩
 ·exact .inl h
 ·refine .inr ⟨b,off,ha,fun k hk=>?_⟩
  have h0:=hc k hk
  have hlt:=World.block_lt_of_cell? _ _ h0
  exact(hb.cell (p:=⟨b,off+k,none⟩) hlt).trans h0
theorem one {w:World} {b:Nat} {c0:Value} {t:TypeId} (h:w.heap[b]?=some (.cells #[c0] t (0,0))):w.cell? ⟨b,0,none⟩=some c0∧(∀ j,w.frozen? ⟨b,j,none⟩=false):=
 ⟨cell_of_row w b 0 _ t _ h,fun j=>frozen_of_row w b j _ t h⟩
theorem four {w:World} {b:Nat} {c0 c1 c2 c3:Value} {t:TypeId} (h:w.heap[b]?=some (.cells #[c0,c1,c2,c3] t (0,0))):
  (w.cell? ⟨b,0,none⟩=some c0∧w.cell? ⟨b,1,none⟩=some c1∧w.cell? ⟨b,2,none⟩=some c2∧w.cell? ⟨b,3,none⟩=some c3)∧(∀ j,w.frozen? ⟨b,j,none⟩=false):=
 ⟨⟨cell_of_row w b 0 _ t _ h,cell_of_row w b 1 _ t _ h,cell_of_row w b 2 _ t _ h,cell_of_row w b 3 _ t _ h⟩,fun j=>frozen_of_row w b j _ t h⟩
theorem at_new (w:World) (o:Obj):(w.alloc o).heap[w.heap.size]?=some o:=heap_alloc_new w o
theorem at_old {w:World} {b:Nat} {x:Obj} (h:w.heap[b]?=some x) (o:Obj):(w.alloc o).heap[b]?=some x:=by
 rw [Below.heap_alloc w o b (Array.getElem?_eq_some_iff.1 h).1];exact h
theorem at_new1 (w:World) (o1 o2:Obj):((w.alloc o1).alloc o2).heap[w.heap.size+1]?=some o2:=by
 have:=at_new (w.alloc o1) o2
 simpa using this
theorem at_lt {w:World} {b:Nat} {x:Obj} (h:w.heap[b]?=some x):b < w.heap.size:=(Array.getElem?_eq_some_iff.1 h).1
theorem ret_bool {a b:Bool} (h:a=b):Ending.returned (.bool a)=.returned (.bool b):=by rw [h]
theorem ret_int {a b:Int} (h:a=b):Ending.returned (.int .i64 a)=.returned (.int .i64 b):=by rw [h]
theorem below1 (w:World) (o:Obj):Below w.heap.size w (w.alloc o):=(Below.refl _ _).alloc (Nat.le_refl _) _
theorem below2 (w:World) (o o':Obj):Below w.heap.size w ((w.alloc o).alloc o'):=(below1 w o).alloc (by simp) _
theorem below_block {w w':World} {B b:Nat} {o:Obj} (hb:Below B w w') (h:w.heap[b]?=some o) (hB:b < B):w'.heap[b]?=some o:=by
 rw [hb.block b hB];exact h
theorem below_to {w w1 w2:World} (h:Below w.heap.size w w1) (h2:Below w1.heap.size w1 w2):Below w.heap.size w w2:=h.trans (h2.mono h.size)
theorem info_parts {P:Program} {e:TypeId} {z:Value} {sz by_:Nat} (h:(P.info? e).map (fun i=>(i.zero,i.size,i.bytes))=some (some z,sz,by_)):∃ i,P.info? e=some i∧i.zero=some z∧i.size=sz∧i.bytes=by_:=by
 cases hq:P.info? e with
 | none=>simp [hq] at h
 | some i=>simp only [hq,Option.map_some,Option.some.injEq,Prod.mk.injEq] at h;exact⟨i,rfl,h.1,h.2.1,h.2.2⟩
theorem isPane_any (p:Int) (w:World):Calls Tryz.prog 56 #[.int .i64 p] w fun e w'=>e=.returned (.bool (paneB p))∧w'=w:=by
 by_cases h1:0≤p
 ·go_enter Tryz.func56,Tryz.ntmps56
  go_wp2
  go_ret
  exact⟨ret_bool (by simp [paneB,h1]),rfl⟩
 ·have h1':p < 0:=by omega
  go_enter Tryz.func56,Tryz.ntmps56
  go_wp2
  go_ret
  exact⟨ret_bool (by simp [paneB];omega),rfl⟩
end Go.Proofs.YtjikokfjnbhngaaGreatDoor.Tl

/- Where a pane is. -/
namespace Go.Proofs.YtjikokfjnbhngaaGreatDoor.Tl
open Go.RowKit
def intOf:Value→Int
 | .int _ i=>i
 | _=>0
set_option maxHeartbeats 400000 in
theorem index_any (c:List Int) (ao:Option Addr) (cap:Nat) (p:Int) (w:World) (hr:RdL w ao c) (hm:c.length≤17592186044416):
  Calls Tryz.prog 81 #[.slice ao c.length cap,.int .i64 p] w fun e w'=>e=.returned (.int .i64 (idxI p c))∧w'=w:=by
 have HR:Hid (RdL w ao c):=hr
 clear hr
 go_enter Tryz.func81,Tryz.ntmps81
 go_wp2
 go_loopw [8] (fun i wr=>∃ k:Nat,k≤c.length∧i=.int .i64 k∧wr=w∧∀ j (hj:j < c.length),j < k→c[j]≠p) (fun i _=>c.length - (intOf i).toNat)
 case atStart=>exact⟨0,Nat.zero_le _,rfl,rfl,fun j _ h=>by omega⟩
 case round=>
  obtain⟨k,hk,rfl,rfl,hb⟩:=hrel
  have HB:Hid (∀ j (hj:j < c.length),j < k→c[j]≠p):=hb
  clear hb
  by_cases hlt:k < c.length
  ·obtain⟨b,off,rfl,hc⟩:=HR.out.resolve_left (by intro h;subst h;simp at hlt)
   have h1:=hc k hlt
   obtain⟨x,hx⟩:∃ x,x=c.getD k 0:=⟨_,rfl⟩
   rw [←hx] at h1
   have HX:Hid (c[k]=x):=by show c[k]=x;rw [hx];simp [hlt]
   clear hc hx
   by_cases he:p=x
   ·have HI:Hid (idx p c=some k):=idx_at hlt (by rw [HX.out,he]) (fun i hi=>HB.out i (by omega) hi)
    go_wp2
    go_ret
    exact⟨ret_int (by unfold idxI;rw [HI.out]),rfl⟩
   ·have HE:Hid (c[k]≠p):=by show c[k]≠p;rw [HX.out];exact fun e=>he e.symm
    go_wp2
    go_roundw
    case rel=>exact⟨k+1,by omega,by go_num,by first | rfl | trivial,fun j hj h=>if e:j=k then by subst e;exact HE.out else HB.out j hj (by omega)⟩
    case measure=>simp [intOf];omega
  ·have HI:Hid (idx p c=none):=idx_end (fun i hi=>HB.out i hi (by omega))
   go_wp2
   go_ret
   exact⟨ret_int (by unfold idxI;rw [HI.out]),rfl⟩
def fi (r:Option (Nat×Nat)):Int:=match r with
 | some x=>(x.1:Int)
 | none=>0
def fj (r:Option (Nat×Nat)):Int:=match r with
 | some x=>(x.2:Int)
 | none=>0
set_option maxHeartbeats 400000 in
theorem find_any (its:List CIt) (co:Option Addr) (cap:Nat) (p:Int) (w:World) (hr:RdT w co its) (hm:its.length≤5864062014805) (hm2:∀ x∈its,x.1.length≤17592186044416) (r:Option (Nat×Nat)) (hr0:r=findT p (colsOf its)):
  Calls Tryz.prog 50 #[tval co its.length cap,.int .i64 p] w fun e w'=>e=.returned (.tuple #[.int .i64 (fi r),.int .i64 (fj r),.bool r.isSome])∧w'=w.alloc (tbox co its.length cap):=by
 have HR:Hid (RdT (w.alloc (tbox co its.length cap)) co its):=hr.below (below1 _ _)
 have HM:Hid (∀ x∈its,x.1.length≤17592186044416):=hm2
 have HR0:Hid (r=findT p (colsOf its)):=hr0
 obtain⟨b0,z0⟩:=one (at_new w (tbox co its.length cap))
 clear hr hm2 hr0
 go_enter Tryz.func50,Tryz.ntmps50
 go_wp2
 go_loopw [13] (fun i wr=>∃ k:Nat,k≤its.length∧i=.int .i64 k∧wr=w.alloc (tbox co its.length cap)∧∀ j (hj:j < its.length),j < k→idx p its[j].1=none) (fun i _=>its.length - (intOf i).toNat)
 case atStart=>exact⟨0,Nat.zero_le _,rfl,rfl,fun j _ h=>by omega⟩
 case round=>
  obtain⟨k,hk,rfl,rfl,hb⟩:=hrel
  have HB:Hid (∀ j (hj:j < its.length),j < k→idx p its[j].1=none):=hb
  clear hb
  by_cases hlt:k < its.length
  ·obtain⟨b,off,rfl,hc⟩:=HR.out.row.resolve_left (by intro h;subst h;simp at hlt)
   have h1:=hc k hlt
   obtain⟨x,hx⟩:∃ x,x=its[k]:=⟨_,rfl⟩
   rw [←hx] at h1
   have hmem:x∈its:=by rw [hx];exact List.getElem_mem hlt
   have HIX:Hid (∀ w',w'=w.alloc (tbox (some ⟨b,off,none⟩) its.length cap)→Calls Tryz.prog 81 #[.slice x.2.1 x.1.length x.2.2,.int .i64 p] w' fun e w''=>e=.returned (.int .i64 (idxI p x.1))∧w''=w'):=by
    rintro w' rfl
    exact index_any x.1 x.2.1 x.2.2 p _ (HR.out.each x hmem).1 (HM.out x hmem)
   have HX:Hid (x=its[k]):=hx
   clear hc hx hmem
   cases he:idx p x.1 with
   | some j=>
    have hi:idxI p x.1=(j:Int):=by unfold idxI;rw [he]
    have HF:Hid (r=some (k,j)):=by
     show r=_
     rw [HR0.out]
     refine findT_at (by simpa using hlt) ?_ (fun i hi=>?_)
     ·simp only [List.getElem_map, ←HX.out];exact he
     ·simp only [List.getElem_map];exact HB.out i (by omega) hi
    rw [hi] at HIX
    clear he
    go_wp2_with (go_at_call 81;refine(HIX.out _ rfl).mono ?_;rintro e w1 ⟨rfl,rfl⟩)
    refine bodyPost_ret (by simp [results,Tryz.results50,go_sem];rfl) rfl ?_
    rw [HF.out]
    exact⟨rfl,rfl⟩
   | none=>
    have hi:idxI p x.1= -1:=by unfold idxI;rw [he]
    have HE:Hid (idx p its[k].1=none):=by show _=_;rw [←HX.out];exact he
    rw [hi] at HIX
    clear he
    go_wp2_with (go_at_call 81;refine(HIX.out _ rfl).mono ?_;rintro e w1 ⟨rfl,rfl⟩)
    go_roundw
    case rel=>exact⟨k+1,by omega,by go_num,by first | rfl | trivial,fun j hj h=>if e:j=k then by subst e;exact HE.out else HB.out j hj (by omega)⟩
    case measure=>simp [intOf];omega
  ·have HF:Hid (r=none):=by
    show r=_
    rw [HR0.out]
    refine findT_end fun i hi=>?_
    simp only [List.getElem_map]
    exact HB.out i (by simpa using hi) (by simp at hi;omega)
   go_wp2
   refine bodyPost_ret (by simp [results,Tryz.results50,go_sem];rfl) rfl ?_
   rw [HF.out]
   exact⟨rfl,rfl⟩
theorem has_any (its:List CIt) (co:Option Addr) (cap:Nat) (p:Int) (w:World) (hr:RdT w co its) (hm:its.length≤5864062014805) (hm2:∀ x∈its,x.1.length≤17592186044416) (h:Bool) (hh:h=hasT (colsOf its) p):
  Calls Tryz.prog 32 #[tval co its.length cap,.int .i64 p] w fun e w'=>e=.returned (.bool h)∧Below w.heap.size w w':=by
 obtain⟨r,hr0⟩:∃ r,r=findT p (colsOf its):=⟨_,rfl⟩
 have HH:Hid (h=r.isSome):=by show h=_;rw [hh,hr0];rfl
 obtain⟨b0,z0⟩:=one (at_new w (tbox co its.length cap))
 have HF:Hid (∀ w,RdT w co its→Calls Tryz.prog 50 #[tval co its.length cap,.int .i64 p] w fun e w'=>e=.returned (.tuple #[.int .i64 (fi r),.int .i64 (fj r),.bool r.isSome])∧w'=w.alloc (tbox co its.length cap)):=fun w hr=>find_any its co cap p w hr hm hm2 r hr0
 have HR:Hid (RdT (w.alloc (tbox co its.length cap)) co its):=hr.below (below1 _ _)
 clear hr hm hm2 hr0 hh
 go_enter Tryz.func32,Tryz.ntmps32
 go_wp2_with (go_at_call 50;refine(HF.out _ HR.out).mono ?_;rintro e w1 ⟨rfl,rfl⟩)
 go_ret
 exact⟨ret_bool HH.out.symm,below2 _ _ _⟩
end Go.Proofs.YtjikokfjnbhngaaGreatDoor.Tl
