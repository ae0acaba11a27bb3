/- Several texts in one, each as it was: TDel, TSp2, TKill. -/
import Derived.Test.YtjikokfjnbhngaaGreatDoorMTCopy
import Derived.Deep.RegionLaw
import Derived.Test.YtjikokfjnbhngaaGreatDoorMTSp1

/- What 'slices.Delete' of one element makes of a list of one's own. -/
namespace Go.Proofs.YtjikokfjnbhngaaGreatDoor.Tl
open Go.RowKit
theorem splice_cons {α:Type} (L:List α) (o:Nat) (v:α) (r:List α) (h:o < L.length):splice L o (v::r)=splice (L.set o v) (o+1) r:=by
 unfold splice
 have e1:(L.set o v).take (o+1)=L.take o++[v]:=by
  rw [List.take_succ_eq_append_getElem (by simpa using h)]
  simp [List.take_set_of_le]
 have e2:(L.set o v).drop (o+1+r.length)=L.drop (o+(r.length+1)):=by
  rw [List.drop_set_of_lt (by omega)]
  congr 1
  omega
 rw [e1,e2]
 simp
theorem setCells_heap (b:Nat) (e:TypeId):∀ (vs:List Value) (o:Nat) (w:World) (cur:List Value),w.heap[b]?=some (.cells cur.toArray e (0,0))→o+vs.length≤cur.length→(w.setCells b o vs).heap[b]?=some (.cells (splice cur o vs).toArray e (0,0))
 | [],o,w,cur,h,_=>by simpa [World.setCells,splice] using h
 | v::r,o,w,cur,h,hl=>by
  rw [World.setCells,splice_cons cur o v r (by simp at hl;omega)]
  refine setCells_heap b e r (o+1) _ _ ?_ (by simp at hl ⊢;omega)
  rw [heap_setCell_same w b o _ _ v h]
  simp
theorem setCells_grown (b:Nat):∀ (vs:List Value) (o:Nat) (w:World),w.grownBy (w.setCells b o vs) (some b)
 | [],_,w=>grown_refl w _
 | v::r,o,w=>by
  rw [World.setCells]
  refine grown_trans ?_ (setCells_grown b r (o+1) _)
  exact⟨rfl,rfl,rfl,by simp [World.setCell],fun k _ hk=>Below.heap_setCell _ _ _ _ (fun e=>hk (by rw [e]))⟩
theorem del_eq {α:Type} (xs Z:List α) (i:Nat) (z:α) (n:Nat) (hn:xs.length=n) (hi:i < n) (hZ:Z.take n=xs) (hZl:n≤Z.length):
  (splice (splice Z i (xs.drop (i+1))) (n - 1) [z]).take (n - 1)=xs.eraseIdx i∧(splice (splice Z i (xs.drop (i+1))) (n - 1) [z]).length=Z.length:=by
 have hl1:(splice Z i (xs.drop (i+1))).length=Z.length:=length_splice _ _ _ (by simp;omega)
 refine⟨?_,by rw [length_splice _ _ _ (by simp;omega)];exact hl1⟩
 have e1:(splice (splice Z i (xs.drop (i+1))) (n - 1) [z]).take (n - 1)=(splice Z i (xs.drop (i+1))).take (n - 1):=by
  unfold splice
  rw [List.take_append_of_le_length (by simp;omega),List.take_take,Nat.min_self]
 rw [e1]
 unfold splice
 have e2:Z.take i=xs.take i:=by rw [←hZ,List.take_take];congr 1;omega
 rw [e2, ←List.append_assoc,List.take_append_of_le_length (by simp;omega),List.take_of_length_le (by simp;omega),List.eraseIdx_eq_take_drop_succ]
theorem run_clearI (W:World) (g d c:Nat) (cur:List Value) (hg:W.heap[g]?=some (.cells cur.toArray 3 (0,0))) (hd:d < cur.length):
  ∃ W1,(Builtin.clear_ #[35] 0 #[.slice (some ⟨g,d,none⟩) 1 c]).run Tryz.prog W=.ok (.tuple #[]) W1∧W1.heap[g]?=some (.cells (splice cur d [(.int .i64 0)]).toArray 3 (0,0))∧W.grownBy W1 (some g):=by
 obtain⟨i0,hi,hz0,hz1,hz2⟩:=info_parts info3
 have hst:=run_storeCells_at Tryz.prog g d 3 [(.int .i64 0)] 0 cur.toArray W hg (by simp;omega) (by intro v hv;simp at hv;subst hv;rfl)
 simp only [Nat.add_zero] at hst
 refine⟨_,?_,?_,grown_setRow _ _ (splice cur d [(.int .i64 0)]).toArray⟩
 ·have hv:(zeroValue 3).run Tryz.prog W=.ok (.int .i64 0) W:=by simp [zeroValue,typeInfo,hi,hz0]
  have hzc:(Builtin.zeroCells #[(.int .i64 0)] 1).toList=[(.int .i64 0)]:=by simp [Builtin.zeroCells,Array.range]
  simp [Builtin.clear_,run_underlying Tryz.underlying35,hv,Value.cells,hzc,hst,splice]
 ·simpa [splice] using setRow_heap W g _ _ 3 _ hg
set_option maxHeartbeats 2000000 in
set_option maxRecDepth 100000 in
theorem del_anyI (base g n cap i:Nat) (xs:List Value) (w:World) (hown:w.ownsRow base 3 1 (.slice (some ⟨g,0,none⟩) n cap) n xs) (hn:n≤1048576) (hin:i < n) (h1:∀ v∈xs,v.oneCell'=true):
  Calls Tryz.prog 112 #[.slice (some ⟨g,0,none⟩) n cap,.int .i64 i,.int .i64 ((i:Int)+1)] w fun en w'=>en=.returned (.slice (some ⟨g,0,none⟩) (n - 1) cap)∧w'.ownsRow base 3 1 (.slice (some ⟨g,0,none⟩) (n - 1) cap) (n - 1) (xs.eraseIdx i)∧w.grownBy w' (some g):=by
 obtain⟨i0,hi,hz0,hz1,hz2⟩:=info_parts info3
 have hxl:xs.length=n:=by have:=hown.1;omega
 have hnc:n≤cap:=own_cap hown
 have hsrc:∀ j u,xs[j]?=some u→w.cell? ⟨g,j,none⟩=some u:=own_cell hown
 obtain⟨cur,hg,hcl,hct,hbg,hcm⟩:=own_row hown
 have hc63:cap≤9223372036854775807:=by unfold maxLen at hcm;omega
 obtain⟨D,hD⟩:∃ D,D=xs.drop (i+1):=⟨_,rfl⟩
 have hDl:D.length=n - (i+1):=by rw [hD,List.length_drop,hxl]
 have hl1:(splice cur i D).length=cap:=by rw [length_splice _ _ _ (by rw [hDl];omega)];exact hcl
 have g1:(w.drew.setCells g i D).heap[g]?=some (.cells (splice cur i D).toArray 3 (0,0)):=setCells_heap g 3 D i w.drew cur hg (by rw [hDl];omega)
 have q1:w.grownBy (w.drew.setCells g i D) (some g):=by
  have:=setCells_grown g D i w.drew
  exact⟨this.os,this.tape,this.output,this.size,this.block⟩
 obtain⟨W2,r2,g2,q2⟩:=run_clearI (w.drew.setCells g i D) g (n - 1) (cap - (n - 1)) _ g1 (by rw [hl1];omega)
 have HE:Hid (W2.ownsRow base 3 1 (.slice (some ⟨g,0,none⟩) (n - 1) cap) (n - 1) (xs.eraseIdx i)∧w.grownBy W2 (some g)):=by
  obtain⟨e1,e2⟩:=del_eq xs cur i ((.int .i64 0):Value) n hxl hin hct (by omega)
  rw [hD] at g2
  refine⟨⟨by rw [List.length_eraseIdx];simp [hxl,hin],.inr ⟨g,cap,_,rfl,hbg,g2,by omega,hcm,by simp [e2,hcl],by simpa using e1⟩⟩,grown_trans q1 q2⟩
 have HS1:Hid (D.length=(n - (i+1))*1):=by show _=_;rw [hDl];simp
 have HS2:Hid (∀ A:Addr,(0 < D.length→A=⟨g,i+1,none⟩)→∀ j u,D[j]?=some u→w.drew.cell? (A.add j)=some u):=fun A hA j u hj=>by
  have hj0:j < D.length:=(List.getElem?_eq_some_iff.1 hj).1
  rw [hA (by omega),add_at]
  rw [hD,List.getElem?_drop] at hj
  exact hsrc _ u hj
 have HS3:Hid (∀ u∈D,u.oneCell'=true):=fun u hu=>h1 u (List.mem_of_mem_drop (hD ▸ hu))
 have HS4:Hid (∀ j,j < D.length→(w.drew.cell? ⟨g,0+i*1+j,none⟩).isSome=true∧w.drew.frozen? ⟨g,0+i*1+j,none⟩=false):=fun j hj=>by
  refine⟨?_,frozen_of_row w.drew g _ _ _ hg⟩
  have hlt:i+j < xs.length:=by omega
  have:=hsrc (i+j) xs[i+j] (by simp [hlt])
  have e:w.drew.cell? ⟨g,0+i*1+j,none⟩=some xs[i+j]:=by rw [show 0+i*1+j=i+j by omega];exact this
  rw [e]
  rfl
 have hwr:IntKind.i64.wrap ((i:Int)+1)=(i:Int)+1:=by rw [IntKind.wrap_i64];omega
 have hp0:(0:Int)≤(i:Int)+1:=by omega
 have hp1:(i:Int)+1≤(n:Int):=by omega
 have hp2:((i:Int)+1).toNat=i+1:=by omega
 have hp3:¬ ((i:Int)=(i:Int)+1):=by omega
 have hp4:(i:Int)≤(i:Int)+1:=by omega
 have hp5:¬ n=i:=by omega
 have hp6:i+(n - (i+1))=n - 1:=by omega
 have hp7:¬ cap=n - 1:=by omega
 have hp8:(i:Int)≤(n:Int):=by omega
 have hp9:(i:Int)≤(cap:Int):=by omega
 have hp10:n - (n - 1)=1:=by omega
 have hp11:((n - 1:Nat):Int)≤(n:Int):=by omega
 have hp12:(n:Int)≤(cap:Int):=by omega
 clear hown hg hcl hct hbg hcm hsrc hl1 g1 q1 g2 q2 hD h1
 by_cases hci:cap=i+1
 ·obtain rfl:n=i+1:=by omega
  subst hci
  obtain rfl:D=[]:=List.eq_nil_of_length_eq_zero (by omega)
  have e1:i+1 - (i+1 - 1)=1:=by omega
  have e2:i+1 - 1=i:=by omega
  rw [e1] at r2
  rw [e2] at r2 HE ⊢
  have r3:(Builtin.clear_ #[35] 0 #[.slice (some ⟨g,i,none⟩) 1 1]).run Tryz.prog (w.drew.setCells g i [])=.ok (.tuple #[]) W2:=r2
  clear r2 hp0 hp1 hp2 hp3 hp4 hp5 hp6 hp7 hp8 hp9 hp10 hp11 hp12 e1 e2 hwr HS1 HS2 HS4 hDl
  have hwr:IntKind.i64.wrap ((i:Int)+1)=(i:Int)+1:=by rw [IntKind.wrap_i64];omega
  have hp2:((i:Int)+1).toNat=i+1:=by omega
  have hp0:(0:Int)≤(i:Int)+1:=by omega
  have hp9:(i:Int)≤(i:Int)+1:=by omega
  go_enter Tryz.func112,Tryz.ntmps112
  go_wp2_with fail
  go_region_law (refine step_append_room rfl (.tmp 22) (.tmp 25) 35 rfl 3 i0 1 Tryz.underlying35 hi hz1 g 0 i (i+1) (by simp [Act.eval,Act.put]) ⟨g,0,none⟩ 0 0 [] (by simp [Act.eval,Act.put]) rfl (by simp) (by simp) (by omega) (by simp) ?_)
  go_wp2
  go_ret
  exact⟨rfl,HE.out⟩
 ·go_enter Tryz.func112,Tryz.ntmps112
  go_wp2_with fail
  go_region_law (refine step_append_room rfl (.tmp 22) (.tmp 25) 35 rfl 3 i0 1 Tryz.underlying35 hi hz1 g 0 i cap (by simp [Act.eval,Act.put]) ⟨g,i+1,none⟩ (n - (i+1)) (cap - (i+1)) D (by simp [Act.eval,Act.put]) HS1.out (HS2.out _ (fun _=>rfl)) HS3.out (by omega) HS4.out ?_)
  go_wp2
  go_ret
  exact⟨rfl,HE.out⟩
theorem run_clearL (W:World) (g d c:Nat) (cur:List Value) (hg:W.heap[g]?=some (.cells cur.toArray 35 (0,0))) (hd:d < cur.length):
  ∃ W1,(Builtin.clear_ #[53] 0 #[.slice (some ⟨g,d,none⟩) 1 c]).run Tryz.prog W=.ok (.tuple #[]) W1∧W1.heap[g]?=some (.cells (splice cur d [(.slice none 0 0)]).toArray 35 (0,0))∧W.grownBy W1 (some g):=by
 obtain⟨i0,hi,hz0,hz1,hz2⟩:=info_parts infoL
 have hst:=run_storeCells_at Tryz.prog g d 35 [(.slice none 0 0)] 0 cur.toArray W hg (by simp;omega) (by intro v hv;simp at hv;subst hv;rfl)
 simp only [Nat.add_zero] at hst
 refine⟨_,?_,?_,grown_setRow _ _ (splice cur d [(.slice none 0 0)]).toArray⟩
 ·have hv:(zeroValue 35).run Tryz.prog W=.ok (.slice none 0 0) W:=by simp [zeroValue,typeInfo,hi,hz0]
  have hzc:(Builtin.zeroCells #[(.slice none 0 0)] 1).toList=[(.slice none 0 0)]:=by simp [Builtin.zeroCells,Array.range]
  simp [Builtin.clear_,run_underlying Tryz.underlying53,hv,Value.cells,hzc,hst,splice]
 ·simpa [splice] using setRow_heap W g _ _ 35 _ hg
set_option maxHeartbeats 2000000 in
set_option maxRecDepth 100000 in
theorem del_anyL (base g n cap i:Nat) (xs:List Value) (w:World) (hown:w.ownsRow base 35 1 (.slice (some ⟨g,0,none⟩) n cap) n xs) (hn:n≤1048576) (hin:i < n) (h1:∀ v∈xs,v.oneCell'=true):
  Calls Tryz.prog 111 #[.slice (some ⟨g,0,none⟩) n cap,.int .i64 i,.int .i64 ((i:Int)+1)] w fun en w'=>en=.returned (.slice (some ⟨g,0,none⟩) (n - 1) cap)∧w'.ownsRow base 35 1 (.slice (some ⟨g,0,none⟩) (n - 1) cap) (n - 1) (xs.eraseIdx i)∧w.grownBy w' (some g):=by
 obtain⟨i0,hi,hz0,hz1,hz2⟩:=info_parts infoL
 have hxl:xs.length=n:=by have:=hown.1;omega
 have hnc:n≤cap:=own_cap hown
 have hsrc:∀ j u,xs[j]?=some u→w.cell? ⟨g,j,none⟩=some u:=own_cell hown
 obtain⟨cur,hg,hcl,hct,hbg,hcm⟩:=own_row hown
 have hc63:cap≤9223372036854775807:=by unfold maxLen at hcm;omega
 obtain⟨D,hD⟩:∃ D,D=xs.drop (i+1):=⟨_,rfl⟩
 have hDl:D.length=n - (i+1):=by rw [hD,List.length_drop,hxl]
 have hl1:(splice cur i D).length=cap:=by rw [length_splice _ _ _ (by rw [hDl];omega)];exact hcl
 have g1:(w.drew.setCells g i D).heap[g]?=some (.cells (splice cur i D).toArray 35 (0,0)):=setCells_heap g 35 D i w.drew cur hg (by rw [hDl];omega)
 have q1:w.grownBy (w.drew.setCells g i D) (some g):=by
  have:=setCells_grown g D i w.drew
  exact⟨this.os,this.tape,this.output,this.size,this.block⟩
 obtain⟨W2,r2,g2,q2⟩:=run_clearL (w.drew.setCells g i D) g (n - 1) (cap - (n - 1)) _ g1 (by rw [hl1];omega)
 have HE:Hid (W2.ownsRow base 35 1 (.slice (some ⟨g,0,none⟩) (n - 1) cap) (n - 1) (xs.eraseIdx i)∧w.grownBy W2 (some g)):=by
  obtain⟨e1,e2⟩:=del_eq xs cur i ((.slice none 0 0):Value) n hxl hin hct (by omega)
  rw [hD] at g2
  refine⟨⟨by rw [List.length_eraseIdx];simp [hxl,hin],.inr ⟨g,cap,_,rfl,hbg,g2,by omega,hcm,by simp [e2,hcl],by simpa using e1⟩⟩,grown_trans q1 q2⟩
 have HS1:Hid (D.length=(n - (i+1))*1):=by show _=_;rw [hDl];simp
 have HS2:Hid (∀ A:Addr,(0 < D.length→A=⟨g,i+1,none⟩)→∀ j u,D[j]?=some u→w.drew.cell? (A.add j)=some u):=fun A hA j u hj=>by
  have hj0:j < D.length:=(List.getElem?_eq_some_iff.1 hj).1
  rw [hA (by omega),add_at]
  rw [hD,List.getElem?_drop] at hj
  exact hsrc _ u hj
 have HS3:Hid (∀ u∈D,u.oneCell'=true):=fun u hu=>h1 u (List.mem_of_mem_drop (hD ▸ hu))
 have HS4:Hid (∀ j,j < D.length→(w.drew.cell? ⟨g,0+i*1+j,none⟩).isSome=true∧w.drew.frozen? ⟨g,0+i*1+j,none⟩=false):=fun j hj=>by
  refine⟨?_,frozen_of_row w.drew g _ _ _ hg⟩
  have hlt:i+j < xs.length:=by omega
  have:=hsrc (i+j) xs[i+j] (by simp [hlt])
  have e:w.drew.cell? ⟨g,0+i*1+j,none⟩=some xs[i+j]:=by rw [show 0+i*1+j=i+j by omega];exact this
  rw [e]
  rfl
 have hwr:IntKind.i64.wrap ((i:Int)+1)=(i:Int)+1:=by rw [IntKind.wrap_i64];omega
 have hp0:(0:Int)≤(i:Int)+1:=by omega
 have hp1:(i:Int)+1≤(n:Int):=by omega
 have hp2:((i:Int)+1).toNat=i+1:=by omega
 have hp3:¬ ((i:Int)=(i:Int)+1):=by omega
 have hp4:(i:Int)≤(i:Int)+1:=by omega
 have hp5:¬ n=i:=by omega
 have hp6:i+(n - (i+1))=n - 1:=by omega
 have hp7:¬ cap=n - 1:=by omega
 have hp8:(i:Int)≤(n:Int):=by omega
 have hp9:(i:Int)≤(cap:Int):=by omega
 have hp10:n - (n - 1)=1:=by omega
 have hp11:((n - 1:Nat):Int)≤(n:Int):=by omega
 have hp12:(n:Int)≤(cap:Int):=by omega
 clear hown hg hcl hct hbg hcm hsrc hl1 g1 q1 g2 q2 hD h1
 by_cases hci:cap=i+1
 ·obtain rfl:n=i+1:=by omega
  subst hci
  obtain rfl:D=[]:=List.eq_nil_of_length_eq_zero (by omega)
  have e1:i+1 - (i+1 - 1)=1:=by omega
  have e2:i+1 - 1=i:=by omega
  rw [e1] at r2
  rw [e2] at r2 HE ⊢
  have r3:(Builtin.clear_ #[53] 0 #[.slice (some ⟨g,i,none⟩) 1 1]).run Tryz.prog (w.drew.setCells g i [])=.ok (.tuple #[]) W2:=r2
  clear r2 hp0 hp1 hp2 hp3 hp4 hp5 hp6 hp7 hp8 hp9 hp10 hp11 hp12 e1 e2 hwr HS1 HS2 HS4 hDl
  have hwr:IntKind.i64.wrap ((i:Int)+1)=(i:Int)+1:=by rw [IntKind.wrap_i64];omega
  have hp2:((i:Int)+1).toNat=i+1:=by omega
  have hp0:(0:Int)≤(i:Int)+1:=by omega
  have hp9:(i:Int)≤(i:Int)+1:=by omega
  go_enter Tryz.func111,Tryz.ntmps111
  go_wp2_with fail
  go_region_law (refine step_append_room rfl (.tmp 22) (.tmp 25) 53 rfl 35 i0 1 Tryz.underlying53 hi hz1 g 0 i (i+1) (by simp [Act.eval,Act.put]) ⟨g,0,none⟩ 0 0 [] (by simp [Act.eval,Act.put]) rfl (by simp) (by simp) (by omega) (by simp) ?_)
  go_wp2
  go_ret
  exact⟨rfl,HE.out⟩
 ·go_enter Tryz.func111,Tryz.ntmps111
  go_wp2_with fail
  go_region_law (refine step_append_room rfl (.tmp 22) (.tmp 25) 53 rfl 35 i0 1 Tryz.underlying53 hi hz1 g 0 i cap (by simp [Act.eval,Act.put]) ⟨g,i+1,none⟩ (n - (i+1)) (cap - (i+1)) D (by simp [Act.eval,Act.put]) HS1.out (HS2.out _ (fun _=>rfl)) HS3.out (by omega) HS4.out ?_)
  go_wp2
  go_ret
  exact⟨rfl,HE.out⟩
end Go.Proofs.YtjikokfjnbhngaaGreatDoor.Tl

/- What the deletions of 'Kill' end with. -/
namespace Go.Proofs.YtjikokfjnbhngaaGreatDoor.Tl
open Go.RowKit
theorem erase_map {α β:Type} (f:α→β) (l:List α) (i:Nat):(l.map f).eraseIdx i=(l.eraseIdx i).map f:=by
 rw [List.eraseIdx_eq_take_drop_succ,List.eraseIdx_eq_take_drop_succ]
 simp
theorem ints_del (l:List Int) (i:Nat):(ints l).eraseIdx i=ints (l.eraseIdx i):=erase_map _ l i
theorem mem_del {α:Type} {l:List α} {i:Nat} {y:α} (h:y∈l.eraseIdx i):y∈l:=List.mem_of_mem_eraseIdx h
theorem kill_delL {w:World} {its:List CIt} {co:Option Addr} {cap g:Nat} {its':List CIt} {T:Nat} {wx:World} (h:SInv w its co cap g its' T wx) (hm:its.length≤1048576) (i:Nat) (hi:i < its.length):
  Calls Tryz.prog 111 #[.slice (some ⟨g,0,none⟩) its.length its.length,.int .i64 i,.int .i64 ((i:Int)+1)] wx fun e w'=>
   e=.returned (.slice (some ⟨g,0,none⟩) (its.length - 1) its.length)∧w'.heap[w.heap.size+1]?=some (tbox none 0 0)∧w'.heap[T]?=some (tbox (some ⟨g,0,none⟩) its.length its.length)∧
    SpEndT w ((colsOf its).eraseIdx i,0) (.returned (.tuple #[tval (some ⟨g,0,none⟩) (its.length - 1) its.length,.int .i64 0])) ((w'.setCell ⟨T,0,none⟩ (.slice (some ⟨g,0,none⟩) (its.length - 1) its.length)).setCell ⟨w.heap.size+1,0,none⟩ (.slice (some ⟨g,0,none⟩) (its.length - 1) its.length)):=by
 have hf:=h.far
 have hl:=h.len
 refine(del_anyL (w.heap.size+2) g its.length its.length i (its'.map cv) wx (h.row hm) hm hi (cv_one its')).mono ?_
 rintro e w' ⟨rfl,hown,hg⟩
 have q2:=grown_at hg h.cp.row h.res ne41
 have q3:=grown_at hg h.cp.row h.to2 ne41
 have hle:(its'.eraseIdx i).length=its.length - 1:=by rw [List.length_eraseIdx];simp [hl,hi]
 refine⟨rfl,q2,q3,some ⟨g,0,none⟩,its.length,its'.eraseIdx i,by rw [hle],?_,?_,?_⟩
 ·have:=h.cols
  simp only [colsOf] at this ⊢
  rw [←this,erase_map]
 ·rw [erase_map] at hown
  have hq:(w'.setCell ⟨T,0,none⟩ (.slice (some ⟨g,0,none⟩) (its.length - 1) its.length)).heap[w.heap.size+1]?=some (tbox none 0 0):=by
   rw [Below.heap_setCell _ _ _ _ (by simp;omega)];exact q2
  refine(rdT_ownT (row_setT (row_setT hown q3 ne41) hq ne41) (fun x hx=>?_)).2
  exact⟨_,row_setT (row_setT (row_grownT (h.cp.own x (mem_del hx)) hg h.cp.row ne283) q3 ne413) hq ne413⟩
 ·have hb3:Below w.heap.size w w':=h.below.trans (grown_below hg h.below.size (by omega))
  exact(hb3.setCell (by simp;omega) _).setCell (by simp) _
theorem kill_delI {w:World} {its:List CIt} {co:Option Addr} {cap g:Nat} {its':List CIt} {T:Nat} {wx:World} (h:SInv w its co cap g its' T wx) (hm:its.length≤1048576) (i:Nat) (hi:i < its.length) (x:CIt) (hx:its'[i]?=some x) (hxm:x.1.length≤1048576) (j:Nat) (hj:j < x.1.length) (W:World) (q:Int) (hq:q=(j:Int)+1) (hb:Below wx.heap.size wx W):
  Calls Tryz.prog 112 #[.slice x.2.1 x.1.length x.2.2,.int .i64 j,.int .i64 q] W fun e w'=>
   e=.returned (.slice x.2.1 (x.1.length - 1) x.2.2)∧(w'.cell? ⟨w.heap.size+1,0,none⟩=some (.slice none 0 0)∧w'.frozen? ⟨w.heap.size+1,0,none⟩=false)∧w'.cell? ⟨T,0,none⟩=some (.slice (some ⟨g,0,none⟩) its.length its.length)∧w'.cell? ⟨g,i,none⟩=some (.slice x.2.1 x.1.length x.2.2)∧w'.frozen? ⟨g,i,none⟩=false∧
    SpEndT w ((colsOf its).set i (x.1.eraseIdx j),0) (.returned (.tuple #[tval (some ⟨g,0,none⟩) its.length its.length,.int .i64 0])) ((w'.setCell ⟨g,i,none⟩ (.slice x.2.1 (x.1.length - 1) x.2.2)).setCell ⟨w.heap.size+1,0,none⟩ (.slice (some ⟨g,0,none⟩) its.length its.length)):=by
 subst hq
 have h2:=h.next hb
 have hxo:=h2.cp.own x (List.mem_of_getElem? hx)
 obtain⟨b,hxb,hgb⟩:=own_some hxo (by intro e;rw [e] at hj;simp at hj)
 have hxo':=hxo
 unfold cv at hxo'
 rw [hxb] at hxo'
 have hll:(x.1.eraseIdx j).length=x.1.length - 1:=by rw [List.length_eraseIdx];simp [hj]
 have key:=del_anyI (g+1) b x.1.length x.2.2 j (ints x.1) W hxo' hxm hj (ints_one _)
 rw [←hxb] at key
 refine key.mono ?_
 rintro e w' ⟨rfl,hown,hg⟩
 rw [ints_del] at hown
 have hown':w'.ownsRow (g+1) 3 1 (.slice x.2.1 (x.1.eraseIdx j).length x.2.2) (x.1.eraseIdx j).length (ints (x.1.eraseIdx j)):=by rw [hll];exact hown
 have:=set_end h2 hm i hi x hx b hxb hg (x.1.eraseIdx j) x.2.1 x.2.2 (g+1) hown'
 rw [hll] at this
 obtain⟨t1,t2,t3⟩:=this
 exact⟨rfl,⟨(one t1).1,(one t1).2 0⟩,(one t2).1,t3⟩
end Go.Proofs.YtjikokfjnbhngaaGreatDoor.Tl

/- What 'Kill' makes of panes. -/
namespace Go.Proofs.YtjikokfjnbhngaaGreatDoor.Tl
open Go.RowKit
set_option maxHeartbeats 4000000 in
set_option maxRecDepth 100000 in
theorem kill_bad (its:List CIt) (co:Option Addr) (cap:Nat) (p:Int) (w:World) (hr:RdT w co its) (hm:its.length≤5864062014805) (hm2:∀ x∈its,x.1.length≤17592186044416) (r:List (List Int)×Int) (hrr:r=killT (colsOf its) p) (hgd:goodT (colsOf its)=false):
  Calls Tryz.prog 89 #[tval co its.length cap,.int .i64 p] w (SpEndT w r):=by
 have HR:Hid (RdT w co its):=hr
 have HC:Hid (∀ W,Below w.heap.size w W→Calls Tryz.prog 86 #[tval co its.length cap] W fun e w'=>∃ g its',e=.returned (tval (some ⟨g,0,none⟩) its.length its.length)∧colsOf its'=colsOf its∧W.heap.size≤g∧Cp its' g w'∧Below W.heap.size W w'):=fun W hW=>copied2 its co cap W (hr.below hW) hm hm2
 have HG:Hid (∀ W,RdT W co its→Calls Tryz.prog 31 #[tval co its.length cap] W fun e w'=>e=.returned (.bool false)∧Below W.heap.size W w'):=fun W hW=>good_any its co cap W hW hm hm2 false hgd.symm
 have HRR:Hid (r=(colsOf its,1)):=by show r=_;rw [hrr];simp [killT,hgd]
 clear hr hm2 hrr hgd
 go_enter Tryz.func89,Tryz.ntmps89
 go_wp2_with (first
  | (go_at_call 86;refine(HC.out _ (below2 _ _ _)).mono ?_;rintro e w1 ⟨g,its',rfl,hc,hg,hcp,hb⟩;have HS:Hid (SInv w its co cap g its' w1.heap.size (w1.alloc (tbox (some ⟨g,0,none⟩) its.length its.length))):=sinv_start HR.out hc hg hcp hb;obtain⟨a1,a2⟩:=one HS.out.box;obtain⟨a3,a4⟩:=one HS.out.res;obtain⟨a5,a6⟩:=one HS.out.to2;clear hc hg hcp hb)
  | (go_at_call 31;refine(HG.out _ HS.out.rd).mono ?_;rintro e w2 ⟨rfl,hb2⟩;have HS2:Hid (SInv w its co cap g its' w1.heap.size w2):=HS.out.next hb2;clear hb2 a1 a2 a3 a4 a5 a6;obtain⟨a1,a2⟩:=one HS2.out.box;obtain⟨a3,a4⟩:=one HS2.out.res;obtain⟨a5,a6⟩:=one HS2.out.to2)
  | fail)
 refine bodyPost_ret (v:=.tuple #[tval (some ⟨g,0,none⟩) its.length its.length,.int .i64 1]) (by simp [results,Tryz.results89,go_sem, *]) rfl ?_
 exact HS2.out.same 1 r HRR.out
set_option maxHeartbeats 4000000 in
set_option maxRecDepth 100000 in
theorem kill_none (its:List CIt) (co:Option Addr) (cap:Nat) (p:Int) (w:World) (hr:RdT w co its) (hm:its.length≤5864062014805) (hm2:∀ x∈its,x.1.length≤17592186044416) (r:List (List Int)×Int) (hrr:r=killT (colsOf its) p) (hgd:goodT (colsOf its)=true) (hfd:findT p (colsOf its)=none):
  Calls Tryz.prog 89 #[tval co its.length cap,.int .i64 p] w (SpEndT w r):=by
 have HR:Hid (RdT w co its):=hr
 have HC:Hid (∀ W,Below w.heap.size w W→Calls Tryz.prog 86 #[tval co its.length cap] W fun e w'=>∃ g its',e=.returned (tval (some ⟨g,0,none⟩) its.length its.length)∧colsOf its'=colsOf its∧W.heap.size≤g∧Cp its' g w'∧Below W.heap.size W w'):=fun W hW=>copied2 its co cap W (hr.below hW) hm hm2
 have HG:Hid (∀ W,RdT W co its→Calls Tryz.prog 31 #[tval co its.length cap] W fun e w'=>e=.returned (.bool true)∧Below W.heap.size W w'):=fun W hW=>good_any its co cap W hW hm hm2 true hgd.symm
 have HF:Hid (∀ W,RdT W co its→Calls Tryz.prog 50 #[tval co its.length cap,.int .i64 p] W fun e w'=>e=.returned (.tuple #[.int .i64 0,.int .i64 0,.bool false])∧Below W.heap.size W w'):=fun W hW=>find2 its co cap p W hW hm hm2 (none) hfd.symm
 have HRR:Hid (r=(colsOf its,3)):=by show r=_;rw [hrr];simp [killT,hgd,hfd]
 clear hr hm2 hrr hgd hfd
 go_enter Tryz.func89,Tryz.ntmps89
 go_wp2_with (first
  | (go_at_call 86;refine(HC.out _ (below2 _ _ _)).mono ?_;rintro e w1 ⟨g,its',rfl,hc,hg,hcp,hb⟩;have HS:Hid (SInv w its co cap g its' w1.heap.size (w1.alloc (tbox (some ⟨g,0,none⟩) its.length its.length))):=sinv_start HR.out hc hg hcp hb;obtain⟨a1,a2⟩:=one HS.out.box;obtain⟨a3,a4⟩:=one HS.out.res;obtain⟨a5,a6⟩:=one HS.out.to2;clear hc hg hcp hb)
  | (go_at_call 31;refine(HG.out _ HS.out.rd).mono ?_;rintro e w2 ⟨rfl,hb2⟩;have HS2:Hid (SInv w its co cap g its' w1.heap.size w2):=HS.out.next hb2;clear hb2 a1 a2 a3 a4 a5 a6;obtain⟨a1,a2⟩:=one HS2.out.box;obtain⟨a3,a4⟩:=one HS2.out.res;obtain⟨a5,a6⟩:=one HS2.out.to2)
  | (go_at_call 50;refine(HF.out _ HS2.out.rd).mono ?_;rintro e w4 ⟨rfl,hb4⟩;have HS3:Hid (SInv w its co cap g its' w1.heap.size w4):=HS2.out.next hb4;clear hb4 a1 a2 a3 a4 a5 a6;obtain⟨a1,a2⟩:=one HS3.out.box;obtain⟨a3,a4⟩:=one HS3.out.res;obtain⟨a5,a6⟩:=one HS3.out.to2)
  | fail)
 refine bodyPost_ret (v:=.tuple #[tval (some ⟨g,0,none⟩) its.length its.length,.int .i64 3]) (by simp [results,Tryz.results89,go_sem, *]) rfl ?_
 exact HS3.out.same 3 r HRR.out
set_option maxHeartbeats 4000000 in
set_option maxRecDepth 100000 in
theorem kill_only (its:List CIt) (co:Option Addr) (cap:Nat) (p:Int) (w:World) (hr:RdT w co its) (hm:its.length≤5864062014805) (hm2:∀ x∈its,x.1.length≤17592186044416) (r:List (List Int)×Int) (hrr:r=killT (colsOf its) p) (hgd:goodT (colsOf its)=true) (i j:Nat) (hfd:findT p (colsOf its)=some (i,j)) (hln:((colsOf its).getD i []).length=1) (hon:its.length=1):
  Calls Tryz.prog 89 #[tval co its.length cap,.int .i64 p] w (SpEndT w r):=by
 have HR:Hid (RdT w co its):=hr
 have HC:Hid (∀ W,Below w.heap.size w W→Calls Tryz.prog 86 #[tval co its.length cap] W fun e w'=>∃ g its',e=.returned (tval (some ⟨g,0,none⟩) its.length its.length)∧colsOf its'=colsOf its∧W.heap.size≤g∧Cp its' g w'∧Below W.heap.size W w'):=fun W hW=>copied2 its co cap W (hr.below hW) hm hm2
 have hm6:its.length≤1048576:=by have:=good_len ((goodT_iff _).1 hgd);simp only [colsOf,List.length_map] at this;omega
 have hi:i < its.length:=by obtain⟨h1,_⟩:=findT_get hfd;simpa using h1
 have hi':(i:Int) < (its.length:Int):=by omega
 have HG:Hid (∀ W,RdT W co its→Calls Tryz.prog 31 #[tval co its.length cap] W fun e w'=>e=.returned (.bool true)∧Below W.heap.size W w'):=fun W hW=>good_any its co cap W hW hm hm2 true hgd.symm
 have HF:Hid (∀ W,RdT W co its→Calls Tryz.prog 50 #[tval co its.length cap,.int .i64 p] W fun e w'=>e=.returned (.tuple #[.int .i64 i,.int .i64 j,.bool true])∧Below W.heap.size W w'):=fun W hW=>find2 its co cap p W hW hm hm2 (some (i,j)) hfd.symm
 have HRR:Hid (r=(colsOf its,5)):=by show r=_;rw [hrr];simp only [killT,hgd,hfd,hln];simp [hon]
 have HLEN:Hid (((colsOf its).getD i []).length=1):=hln
 have hon':(((its.length:Nat):Int)==1)=true:=by simp [hon]
 clear hr hm2 hrr hgd hfd hln hon
 go_enter Tryz.func89,Tryz.ntmps89
 go_wp2_with (first
  | (go_at_call 86;refine(HC.out _ (below2 _ _ _)).mono ?_;rintro e w1 ⟨g,its',rfl,hc,hg,hcp,hb⟩;have HS:Hid (SInv w its co cap g its' w1.heap.size (w1.alloc (tbox (some ⟨g,0,none⟩) its.length its.length))):=sinv_start HR.out hc hg hcp hb;obtain⟨a1,a2⟩:=one HS.out.box;obtain⟨a3,a4⟩:=one HS.out.res;obtain⟨a5,a6⟩:=one HS.out.to2;clear hc hg hcp hb)
  | (go_at_call 31;refine(HG.out _ HS.out.rd).mono ?_;rintro e w2 ⟨rfl,hb2⟩;have HS2:Hid (SInv w its co cap g its' w1.heap.size w2):=HS.out.next hb2;clear hb2 a1 a2 a3 a4 a5 a6;obtain⟨a1,a2⟩:=one HS2.out.box;obtain⟨a3,a4⟩:=one HS2.out.res;obtain⟨a5,a6⟩:=one HS2.out.to2)
  | (go_at_call 50;refine(HF.out _ HS2.out.rd).mono ?_;rintro e w4 ⟨rfl,hb4⟩;have HS3:Hid (SInv w its co cap g its' w1.heap.size w4):=HS2.out.next hb4;clear hb4 a1 a2 a3 a4 a5 a6;obtain⟨a1,a2⟩:=one HS3.out.box;obtain⟨a3,a4⟩:=one HS3.out.res;obtain⟨a5,a6⟩:=one HS3.out.to2;obtain⟨⟨x1,x2,x3⟩,hx1,hx2,hx3,hx4⟩:=HS3.out.col i hi;have hl3:x1.length=1:=(congrArg List.length hx2).trans HLEN.out;simp only at hx3;rw [hl3] at hx3;have hn1:¬ w1.heap.size=w.heap.size+1:=(by have:=HS3.out.far;omega);have hn2:¬ w.heap.size+1=w1.heap.size:=(by have:=HS3.out.far;omega);clear hx1 hx2 hl3)
  | fail)
 refine bodyPost_ret (v:=.tuple #[tval (some ⟨g,0,none⟩) its.length its.length,.int .i64 5]) (by simp [results,Tryz.results89,go_sem, *]) rfl ?_
 exact HS3.out.same 5 r HRR.out
set_option maxHeartbeats 4000000 in
set_option maxRecDepth 100000 in
theorem kill_column (its:List CIt) (co:Option Addr) (cap:Nat) (p:Int) (w:World) (hr:RdT w co its) (hm:its.length≤5864062014805) (hm2:∀ x∈its,x.1.length≤17592186044416) (r:List (List Int)×Int) (hrr:r=killT (colsOf its) p) (hgd:goodT (colsOf its)=true) (i j:Nat) (hfd:findT p (colsOf its)=some (i,j)) (hln:((colsOf its).getD i []).length=1) (hon:its.length≠1):
  Calls Tryz.prog 89 #[tval co its.length cap,.int .i64 p] w (SpEndT w r):=by
 have HR:Hid (RdT w co its):=hr
 have HC:Hid (∀ W,Below w.heap.size w W→Calls Tryz.prog 86 #[tval co its.length cap] W fun e w'=>∃ g its',e=.returned (tval (some ⟨g,0,none⟩) its.length its.length)∧colsOf its'=colsOf its∧W.heap.size≤g∧Cp its' g w'∧Below W.heap.size W w'):=fun W hW=>copied2 its co cap W (hr.below hW) hm hm2
 have hm6:its.length≤1048576:=by have:=good_len ((goodT_iff _).1 hgd);simp only [colsOf,List.length_map] at this;omega
 have hi:i < its.length:=by obtain⟨h1,_⟩:=findT_get hfd;simpa using h1
 have hi':(i:Int) < (its.length:Int):=by omega
 have HG:Hid (∀ W,RdT W co its→Calls Tryz.prog 31 #[tval co its.length cap] W fun e w'=>e=.returned (.bool true)∧Below W.heap.size W w'):=fun W hW=>good_any its co cap W hW hm hm2 true hgd.symm
 have HF:Hid (∀ W,RdT W co its→Calls Tryz.prog 50 #[tval co its.length cap,.int .i64 p] W fun e w'=>e=.returned (.tuple #[.int .i64 i,.int .i64 j,.bool true])∧Below W.heap.size W w'):=fun W hW=>find2 its co cap p W hW hm hm2 (some (i,j)) hfd.symm
 have HRR:Hid (r=((colsOf its).eraseIdx i,0)):=by show r=_;rw [hrr];simp only [killT,hgd,hfd,hln];simp [hon]
 have HLEN:Hid (((colsOf its).getD i []).length=1):=hln
 have hon':¬ ((its.length:Nat):Int)=1:=by omega
 clear hr hm2 hrr hgd hfd hln
 go_enter Tryz.func89,Tryz.ntmps89
 go_wp2_with (first
  | (go_at_call 86;refine(HC.out _ (below2 _ _ _)).mono ?_;rintro e w1 ⟨g,its',rfl,hc,hg,hcp,hb⟩;have HS:Hid (SInv w its co cap g its' w1.heap.size (w1.alloc (tbox (some ⟨g,0,none⟩) its.length its.length))):=sinv_start HR.out hc hg hcp hb;obtain⟨a1,a2⟩:=one HS.out.box;obtain⟨a3,a4⟩:=one HS.out.res;obtain⟨a5,a6⟩:=one HS.out.to2;clear hc hg hcp hb)
  | (go_at_call 31;refine(HG.out _ HS.out.rd).mono ?_;rintro e w2 ⟨rfl,hb2⟩;have HS2:Hid (SInv w its co cap g its' w1.heap.size w2):=HS.out.next hb2;clear hb2 a1 a2 a3 a4 a5 a6;obtain⟨a1,a2⟩:=one HS2.out.box;obtain⟨a3,a4⟩:=one HS2.out.res;obtain⟨a5,a6⟩:=one HS2.out.to2)
  | (go_at_call 50;refine(HF.out _ HS2.out.rd).mono ?_;rintro e w4 ⟨rfl,hb4⟩;have HS3:Hid (SInv w its co cap g its' w1.heap.size w4):=HS2.out.next hb4;clear hb4 a1 a2 a3 a4 a5 a6;obtain⟨a1,a2⟩:=one HS3.out.box;obtain⟨a3,a4⟩:=one HS3.out.res;obtain⟨a5,a6⟩:=one HS3.out.to2;obtain⟨⟨x1,x2,x3⟩,hx1,hx2,hx3,hx4⟩:=HS3.out.col i hi;have hl3:x1.length=1:=(congrArg List.length hx2).trans HLEN.out;simp only at hx3;rw [hl3] at hx3;have hn1:¬ w1.heap.size=w.heap.size+1:=(by have:=HS3.out.far;omega);have hn2:¬ w.heap.size+1=w1.heap.size:=(by have:=HS3.out.far;omega);clear hx1 hx2 hl3)
  | (go_at_call 111;refine(kill_delL HS3.out hm6 i hi).mono ?_;rintro e w6 ⟨rfl,c1,c2,hend⟩;have HE:Hid (SpEndT w ((colsOf its).eraseIdx i,0) (.returned (.tuple #[tval (some ⟨g,0,none⟩) (its.length - 1) its.length,.int .i64 0])) ((w6.setCell ⟨w1.heap.size,0,none⟩ (.slice (some ⟨g,0,none⟩) (its.length - 1) its.length)).setCell ⟨w.heap.size+1,0,none⟩ (.slice (some ⟨g,0,none⟩) (its.length - 1) its.length))):=hend;clear hend a1 a2 a3 a4 a5 a6 hx3 hx4;obtain⟨a3,a4⟩:=one c1;obtain⟨a5,a6⟩:=one c2;clear c1 c2)
  | fail)
 refine bodyPost_ret (v:=.tuple #[tval (some ⟨g,0,none⟩) (its.length - 1) its.length,.int .i64 0]) (by simp [results,Tryz.results89,go_sem, *]) rfl ?_
 rw [HRR.out]
 exact HE.out
set_option maxHeartbeats 4000000 in
set_option maxRecDepth 100000 in
theorem kill_part (its:List CIt) (co:Option Addr) (cap:Nat) (p:Int) (w:World) (hr:RdT w co its) (hm:its.length≤5864062014805) (hm2:∀ x∈its,x.1.length≤17592186044416) (r:List (List Int)×Int) (hrr:r=killT (colsOf its) p) (hgd:goodT (colsOf its)=true) (i j:Nat) (hfd:findT p (colsOf its)=some (i,j)) (hln:((colsOf its).getD i []).length≠1):
  Calls Tryz.prog 89 #[tval co its.length cap,.int .i64 p] w (SpEndT w r):=by
 have HR:Hid (RdT w co its):=hr
 have HC:Hid (∀ W,Below w.heap.size w W→Calls Tryz.prog 86 #[tval co its.length cap] W fun e w'=>∃ g its',e=.returned (tval (some ⟨g,0,none⟩) its.length its.length)∧colsOf its'=colsOf its∧W.heap.size≤g∧Cp its' g w'∧Below W.heap.size W w'):=fun W hW=>copied2 its co cap W (hr.below hW) hm hm2
 have hm6:its.length≤1048576:=by have:=good_len ((goodT_iff _).1 hgd);simp only [colsOf,List.length_map] at this;omega
 have hi:i < its.length:=by obtain⟨h1,_⟩:=findT_get hfd;simpa using h1
 have hi':(i:Int) < (its.length:Int):=by omega
 have HG:Hid (∀ W,RdT W co its→Calls Tryz.prog 31 #[tval co its.length cap] W fun e w'=>e=.returned (.bool true)∧Below W.heap.size W w'):=fun W hW=>good_any its co cap W hW hm hm2 true hgd.symm
 have HF:Hid (∀ W,RdT W co its→Calls Tryz.prog 50 #[tval co its.length cap,.int .i64 p] W fun e w'=>e=.returned (.tuple #[.int .i64 i,.int .i64 j,.bool true])∧Below W.heap.size W w'):=fun W hW=>find2 its co cap p W hW hm hm2 (some (i,j)) hfd.symm
 have HRR:Hid (r=((colsOf its).set i (((colsOf its).getD i []).eraseIdx j),0)):=by show r=_;rw [hrr];simp only [killT,hgd,hfd,hln];simp
 have HLEN:Hid (((colsOf its).getD i []).length≠1):=hln
 have HJ:Hid (j < ((colsOf its).getD i []).length):=by
  show _ < _
  obtain⟨h1,h2,_⟩:=findT_get hfd
  simp only [List.getD_eq_getElem?_getD,List.getElem?_eq_getElem h1,Option.getD_some]
  omega
 have HJ3:Hid (((colsOf its).getD i []).length≤3):=by
  show _≤_
  obtain⟨h1,_⟩:=findT_get hfd
  simp only [List.getD_eq_getElem?_getD,List.getElem?_eq_getElem h1,Option.getD_some]
  exact(((goodT_iff _).1 hgd).tall _ (List.getElem_mem h1)).2
 have hj3:j≤3:=by have h1:=HJ.out;have h2:=HJ3.out;omega
 clear hr hm2 hrr hgd hfd hln
 go_enter Tryz.func89,Tryz.ntmps89
 go_wp2_with (first
  | (go_at_call 86;refine(HC.out _ (below2 _ _ _)).mono ?_;rintro e w1 ⟨g,its',rfl,hc,hg,hcp,hb⟩;have HS:Hid (SInv w its co cap g its' w1.heap.size (w1.alloc (tbox (some ⟨g,0,none⟩) its.length its.length))):=sinv_start HR.out hc hg hcp hb;obtain⟨a1,a2⟩:=one HS.out.box;obtain⟨a3,a4⟩:=one HS.out.res;obtain⟨a5,a6⟩:=one HS.out.to2;clear hc hg hcp hb)
  | (go_at_call 31;refine(HG.out _ HS.out.rd).mono ?_;rintro e w2 ⟨rfl,hb2⟩;have HS2:Hid (SInv w its co cap g its' w1.heap.size w2):=HS.out.next hb2;clear hb2 a1 a2 a3 a4 a5 a6;obtain⟨a1,a2⟩:=one HS2.out.box;obtain⟨a3,a4⟩:=one HS2.out.res;obtain⟨a5,a6⟩:=one HS2.out.to2)
  | (go_at_call 50;refine(HF.out _ HS2.out.rd).mono ?_;rintro e w4 ⟨rfl,hb4⟩;have HS3:Hid (SInv w its co cap g its' w1.heap.size w4):=HS2.out.next hb4;clear hb4 a1 a2 a3 a4 a5 a6;obtain⟨a1,a2⟩:=one HS3.out.box;obtain⟨a3,a4⟩:=one HS3.out.res;obtain⟨a5,a6⟩:=one HS3.out.to2;obtain⟨⟨x1,x2,x3⟩,hx1,hx2,hx3,hx4⟩:=HS3.out.col i hi;simp only at hx3 hx2;have hl3:¬ (x1.length:Int)=1:=(by have:=HLEN.out;rw [←hx2] at this;omega);have HX:Hid (its'[i]?=some (x1,x2,x3)∧j < x1.length∧x1.length≤1048576∧x1=(colsOf its).getD i []):=⟨hx1,(by have:=HJ.out;rw [←hx2] at this;omega),(by have:=HJ3.out;rw [←hx2] at this;omega),hx2⟩;have hn1:¬ g=w.heap.size+1:=(by have:=HS3.out.far;omega);have hn2:¬ w.heap.size+1=g:=(by have:=HS3.out.far;omega);have hn3:¬ g=w1.heap.size:=(by intro e;have q1:=HS3.out.cp.row;rw [e,HS3.out.to2] at q1;simp at q1);have hn4:¬ w1.heap.size=g:=(fun e=>hn3 e.symm);clear hx1 hx2)
  | fail)
 clear HC HG HF HR HLEN HJ HJ3 HS HS2
 go_region_with ((go_at_call 112;refine(kill_delI HS3.out hm6 i hi (x1,x2,x3) HX.out.1 HX.out.2.2.1 j HX.out.2.1 _ _ (by first | rfl | (rw [IntKind.wrap_i64];omega)) ((Below.refl _ _).drew)).mono ?_;rintro e w6 ⟨rfl,⟨c1,c5⟩,c2,c3,c4,hend⟩;have HE:Hid (SpEndT w ((colsOf its).set i (x1.eraseIdx j),0) (.returned (.tuple #[tval (some ⟨g,0,none⟩) its.length its.length,.int .i64 0])) ((w6.setCell ⟨g,i,none⟩ (.slice x2 (x1.length - 1) x3)).setCell ⟨w.heap.size+1,0,none⟩ (.slice (some ⟨g,0,none⟩) its.length its.length))):=hend;clear hend a1 a2 a3 a4 a5 a6 hx3 hx4))
 all_goals (
  go_wp2
  refine bodyPost_ret (v:=.tuple #[tval (some ⟨g,0,none⟩) its.length its.length,.int .i64 0]) (by simp [results,Tryz.results89,go_sem, *]) rfl ?_
  have hx:=HX.out.2.2.2
  rw [HRR.out, ←hx]
  exact HE.out)
theorem kill_anyT (its:List CIt) (co:Option Addr) (cap:Nat) (p:Int) (w:World) (hr:RdT w co its) (hm:its.length≤5864062014805) (hm2:∀ x∈its,x.1.length≤17592186044416) (r:List (List Int)×Int) (hrr:r=killT (colsOf its) p):
  Calls Tryz.prog 89 #[tval co its.length cap,.int .i64 p] w (SpEndT w r):=by
 cases hgd:goodT (colsOf its) with
 | false=>exact kill_bad its co cap p w hr hm hm2 r hrr hgd
 | true=>
  cases hfd:findT p (colsOf its) with
  | none=>exact kill_none its co cap p w hr hm hm2 r hrr hgd hfd
  | some x=>
   obtain⟨i,j⟩:=x
   by_cases hln:((colsOf its).getD i []).length=1
   ·by_cases hon:its.length=1
    ·exact kill_only its co cap p w hr hm hm2 r hrr hgd i j hfd hln hon
    ·exact kill_column its co cap p w hr hm hm2 r hrr hgd i j hfd hln hon
   ·exact kill_part its co cap p w hr hm hm2 r hrr hgd i j hfd hln
theorem kill_any (its:List CIt) (co:Option Addr) (cap:Nat) (p:Int) (w:World) (hr:RdT w co its) (hm:its.length≤5864062014805) (hm2:∀ x∈its,x.1.length≤17592186044416) (r:List (List Int)×Int) (hrr:r=killT (colsOf its) p):
  Calls Tryz.prog 89 #[tval co its.length cap,.int .i64 p] w (SpEnd w r):=
 (kill_anyT its co cap p w hr hm hm2 r hrr).mono fun _ _ h=>h.plain
end Go.Proofs.YtjikokfjnbhngaaGreatDoor.Tl
