import Derived.Test.YtkcdcamophkdlaaGreatDoorAQ
set_option maxHeartbeats 4000000
set_option maxRecDepth 100000
open Go.Proofs.Tryz
namespace Go.Proofs.YtkcdcamophkdlaaGreatDoor.Tl
open Go.RowKit
variable (W:World) (base g d n c cap:Nat) (cur:List Value) (i:Nat) (xs:List Value) (w:World)
theorem agz {α:Type} (L:List α) (o:Nat) (v:α) (r:List α) (h:o < L.length):splice L o (v::r)=splice (L.set o v) (o+1) r:=by
 unfold splice;have a:(L.set o v).take (o+1)=L.take o++[v]:=by
  rw [List.take_succ_eq_append_getElem (by simpa using h)];simp [List.take_set_of_le]
 have b:(L.set o v).drop (o+1+r.length)=L.drop (o+(r.length+1)):=by
  rw [List.drop_set_of_lt (by omega)];congr 1;omega
 rw [a,b];simp
theorem OQ (b:Nat) (e:TypeId):∀ (a:List Value) (o:Nat) (w:World) (cur:List Value),w.heap[b]?=some (.cells cur.toArray e (0,0))->o+a.length<=cur.length->(w.setCells b o a).heap[b]?=some (.cells (splice cur o a).toArray e (0,0))
 | [],o,w,cur,h,_=>by simpa [World.setCells,splice] using h
 | v::r,o,w,cur,h,hl=>by
  rw [World.setCells,agz cur o v r (by simp at hl;omega)]
  refine OQ b e r (o+1) _ _ ?_ (by simp at hl ⊢;omega)
  rw [heap_setCell_same w b o _ _ v h]
  simp
theorem OP (b:Nat):∀ (f:List Value) (o:Nat) (w:World),w.grownBy (w.setCells b o f) (some b)
 | [],_,w=>eP w _
 | v::r,o,w=>by
  rw [World.setCells]
  refine jD ?_ (OP b r (o+1) _)
  exact⟨rfl,rfl,rfl,by simp [World.setCell],fun k _ a=>Below.heap_setCell _ _ _ _ (fun e=>a (by rw [e]))⟩
theorem del_eq {α:Type} (xs Z:List α) (i:Nat) (z:α) (n:Nat) (j:xs.length=n) (h:i < n) (f:Z.take n=xs) (k:n<=Z.length):
  (splice (splice Z i (xs.drop (i+1))) (n - 1) [z]).take (n - 1)=xs.eraseIdx i∧(splice (splice Z i (xs.drop (i+1))) (n - 1) [z]).length=Z.length:=by
 have a:(splice Z i (xs.drop (i+1))).length=Z.length:=length_splice _ _ _ (by simp;omega);refine⟨?_,by rw [length_splice _ _ _ (by simp;omega)];exact a⟩;have b:(splice (splice Z i (xs.drop (i+1))) (n - 1) [z]).take (n - 1)=(splice Z i (xs.drop (i+1))).take (n - 1):=by
  unfold splice;rw [List.take_append_of_le_length (by simp;omega),List.take_take,Nat.min_self]
 rw [b];unfold splice;have e:Z.take i=xs.take i:=by rw [<-f,List.take_take];congr 1;omega
 rw [e, <-List.append_assoc,List.take_append_of_le_length (by simp;omega),List.take_of_length_le (by simp;omega),List.eraseIdx_eq_take_drop_succ]
theorem afH (j:W.heap[g]?=some (.cells cur.toArray 3 (0,0))) (l:d < cur.length):
  ∃ e,(Builtin.clear_ #[38] 0 #[.slice (some ⟨g,d,none⟩) 1 c]).run prog W=.ok (.tuple #[]) e∧e.heap[g]?=some (.cells (splice cur d [(.int .i64 0)]).toArray 3 (0,0))∧W.grownBy e (some g):=by
 obtain⟨_,k,f,_,_⟩:=info_parts info3;have a:=run_storeCells_at prog g d 3 [(.int .i64 0)] 0 cur.toArray W j (by simp;omega) (by intro v b;simp at b;subst b;rfl);simp only [Nat.add_zero] at a;refine⟨_,?_,?_,yX _ _ (splice cur d [(.int .i64 0)]).toArray⟩
 ·have b:(zeroValue 3).run prog W=.ok (.int .i64 0) W:=(by simp [zeroValue,typeInfo,k,f]);have h:(Builtin.zeroCells #[(.int .i64 0)] 1).toList=[(.int .i64 0)]:=(by simp [Builtin.zeroCells,Array.range]);simp [Builtin.clear_,run_underlying underlying38,b,Value.cells,h,a,splice]
 ·simpa [splice] using setRow_heap W g _ _ 3 _ j
theorem YX (a:w.ownsRow base 3 1 (.slice (some ⟨g,0,none⟩) n cap) n xs) (hn:n<=1048576) (s:i < n) (U:∀ v∈xs,v.oneCell'=true):
  kC 88 #[.slice (some ⟨g,0,none⟩) n cap,.int .i64 i,.int .i64 ((i:Int)+1)] w fun en w'=>en=.returned (.slice (some ⟨g,0,none⟩) (n - 1) cap)∧w'.ownsRow base 3 1 (.slice (some ⟨g,0,none⟩) (n - 1) cap) (n - 1) (xs.eraseIdx i)∧w.grownBy w' (some g):=by
 obtain⟨Y,X,_,B,_⟩:=info_parts info3;have l:xs.length=n:=by have:=a.1;omega
 have ab:n<=cap:=Dp a;have b:∀ j u,xs[j]?=some u->w.cell? ⟨g,j,none⟩=some u:=xS a;obtain⟨cur,L,h,r,q,k⟩:=JA a;have V:cap<=9223372036854775807:=by unfold maxLen at k;omega
 obtain⟨D,o⟩:∃ D,D=xs.drop (i+1):=⟨_,rfl⟩;have f:D.length=n - (i+1):=by rw [o,List.length_drop,l]
 have t:(splice cur i D).length=cap:=by rw [length_splice _ _ _ (by rw [f];omega)];exact h
 have R:(w.drew.setCells g i D).heap[g]?=some (.cells (splice cur i D).toArray 3 (0,0)):=OQ g 3 D i w.drew cur L (by rw [f];omega);have Z:w.grownBy (w.drew.setCells g i D) (some g):=by
  have:=OP g D i w.drew;exact⟨this.os,this.tape,this.output,this.size,this.block⟩
 obtain⟨I,G,J,q2⟩:=afH (w.drew.setCells g i D) g (n - 1) (cap - (n - 1)) _ R (by rw [t];omega);have H:Hid (I.ownsRow base 3 1 (.slice (some ⟨g,0,none⟩) (n - 1) cap) (n - 1) (xs.eraseIdx i)∧w.grownBy I (some g)):=by
  obtain⟨C,E⟩:=del_eq xs cur i ((.int .i64 0):Value) n l s r (by omega);rw [o] at J;refine⟨⟨by rw [List.length_eraseIdx];simp [l,s],.inr ⟨g,cap,_,rfl,q,J,by omega,k,by simp [E,h],by simpa using C⟩⟩,jD Z q2⟩
 have P:Hid (D.length=(n - (i+1))*1):=by show _=_;rw [f];simp
 have m:Hid (∀ A:Addr,(0 < D.length->A=⟨g,i+1,none⟩)->∀ j u,D[j]?=some u->w.drew.cell? (A.add j)=some u):=fun A hA j u F=>by
  have aa:j < D.length:=(gL F).1;rw [hA (by omega),mJ];rw [o,List.getElem?_drop] at F;exact b _ u F
 have bX:Hid (∀ u∈D,u.oneCell'=true):=fun u hu=>U u (List.mem_of_mem_drop (o ▸ hu));have S:Hid (∀ j,j < D.length->(w.drew.cell? ⟨g,0+i*1+j,none⟩).isSome=true∧w.drew.frozen? ⟨g,0+i*1+j,none⟩=false):=fun j F=>by
  refine⟨?_,frozen_of_row w.drew g _ _ _ L⟩;have M:i+j < xs.length:=(by omega);have:=b (i+j) xs[i+j] (by simp [M]);have e:w.drew.cell? ⟨g,0+i*1+j,none⟩=some xs[i+j]:=(by rw [show 0+i*1+j=i+j by omega];exact this);rw [e]
  rfl
 have z:IntKind.i64.wrap ((i:Int)+1)=(i:Int)+1:=by rw [IntKind.wrap_i64];omega
 have x:(0:Int)<=(i:Int)+1:=by omega
 have N:(i:Int)+1<=(n:Int):=by omega
 have y:((i:Int)+1).toNat=i+1:=by omega
 have O:¬ ((i:Int)=(i:Int)+1):=by omega
 have Df:(i:Int)<=(i:Int)+1:=by omega
 have lG:¬ n=i:=by omega
 have uI:i+(n - (i+1))=n - 1:=by omega
 have Nr:¬ cap=n - 1:=by omega
 have Jd:(i:Int)<=(n:Int):=by omega
 have Q:(i:Int)<=(cap:Int):=by omega
 have Nn:n - (n - 1)=1:=by omega
 have Np:((n - 1:Nat):Int)<=(n:Int):=by omega
 have Nq:(n:Int)<=(cap:Int):=by omega
 clear a L h r q k b t R Z J q2 o U;by_cases K:cap=i+1
 ·obtain rfl:n=i+1:=(by omega);subst K;obtain rfl:D=[]:=List.eq_nil_of_length_eq_zero (by omega);have C:i+1 - (i+1 - 1)=1:=(by omega);have E:i+1 - 1=i:=(by omega);rw [C] at G;rw [E] at G H ⊢;have r3:(Builtin.clear_ #[38] 0 #[.slice (some ⟨g,i,none⟩) 1 1]).run prog (w.drew.setCells g i [])=.ok (.tuple #[]) I:=G;clear G x N y O Df lG uI Nr Jd Q Nn Np Nq C E z P m S f;have z:IntKind.i64.wrap ((i:Int)+1)=(i:Int)+1:=(by rw [IntKind.wrap_i64];omega);have y:((i:Int)+1).toNat=i+1:=(by omega);have x:(0:Int)<=(i:Int)+1:=(by omega);have Q:(i:Int)<=(i:Int)+1:=(by omega);go_enter func88,ntmps88;go_wp2_with fail;go_region_law (refine step_append_room rfl (.tmp 22) (.tmp 25) 38 rfl 3 Y 1 underlying38 X B g 0 i (i+1) (by simp [Act.eval,Act.put]) ⟨g,0,none⟩ 0 0 [] (by simp [Act.eval,Act.put]) rfl (by simp) (by simp) (by omega) (by simp) ?_);go_wp2;go_ret;exact⟨rfl,H.out⟩
 ·go_enter func88,ntmps88;go_wp2_with fail;go_region_law (refine step_append_room rfl (.tmp 22) (.tmp 25) 38 rfl 3 Y 1 underlying38 X B g 0 i cap (by simp [Act.eval,Act.put]) ⟨g,i+1,none⟩ (n - (i+1)) (cap - (i+1)) D (by simp [Act.eval,Act.put]) P.out (m.out _ (fun _=>rfl)) bX.out (by omega) S.out ?_);go_wp2;go_ret;exact⟨rfl,H.out⟩
theorem afI (j:W.heap[g]?=some (.cells cur.toArray 38 (0,0))) (l:d < cur.length):
  ∃ e,(Builtin.clear_ #[28] 0 #[.slice (some ⟨g,d,none⟩) 1 c]).run prog W=.ok (.tuple #[]) e∧e.heap[g]?=some (.cells (splice cur d [(.slice none 0 0)]).toArray 38 (0,0))∧W.grownBy e (some g):=by
 obtain⟨_,k,f,_,_⟩:=info_parts zk;have a:=run_storeCells_at prog g d 38 [(.slice none 0 0)] 0 cur.toArray W j (by simp;omega) (by intro v b;simp at b;subst b;rfl);simp only [Nat.add_zero] at a;refine⟨_,?_,?_,yX _ _ (splice cur d [(.slice none 0 0)]).toArray⟩
 ·have b:(zeroValue 38).run prog W=.ok (.slice none 0 0) W:=(by simp [zeroValue,typeInfo,k,f]);have h:(Builtin.zeroCells #[(.slice none 0 0)] 1).toList=[(.slice none 0 0)]:=(by simp [Builtin.zeroCells,Array.range]);simp [Builtin.clear_,run_underlying underlying28,b,Value.cells,h,a,splice]
 ·simpa [splice] using setRow_heap W g _ _ 38 _ j
theorem YZ (a:w.ownsRow base 38 1 (.slice (some ⟨g,0,none⟩) n cap) n xs) (hn:n<=1048576) (s:i < n) (U:∀ v∈xs,v.oneCell'=true):
  kC 87 #[.slice (some ⟨g,0,none⟩) n cap,.int .i64 i,.int .i64 ((i:Int)+1)] w fun en w'=>en=.returned (.slice (some ⟨g,0,none⟩) (n - 1) cap)∧w'.ownsRow base 38 1 (.slice (some ⟨g,0,none⟩) (n - 1) cap) (n - 1) (xs.eraseIdx i)∧w.grownBy w' (some g):=by
 obtain⟨Y,X,_,B,_⟩:=info_parts zk;have l:xs.length=n:=by have:=a.1;omega
 have ab:n<=cap:=Dp a;have b:∀ j u,xs[j]?=some u->w.cell? ⟨g,j,none⟩=some u:=xS a;obtain⟨cur,L,h,r,q,k⟩:=JA a;have V:cap<=9223372036854775807:=by unfold maxLen at k;omega
 obtain⟨D,o⟩:∃ D,D=xs.drop (i+1):=⟨_,rfl⟩;have f:D.length=n - (i+1):=by rw [o,List.length_drop,l]
 have t:(splice cur i D).length=cap:=by rw [length_splice _ _ _ (by rw [f];omega)];exact h
 have R:(w.drew.setCells g i D).heap[g]?=some (.cells (splice cur i D).toArray 38 (0,0)):=OQ g 38 D i w.drew cur L (by rw [f];omega);have Z:w.grownBy (w.drew.setCells g i D) (some g):=by
  have:=OP g D i w.drew;exact⟨this.os,this.tape,this.output,this.size,this.block⟩
 obtain⟨I,G,J,q2⟩:=afI (w.drew.setCells g i D) g (n - 1) (cap - (n - 1)) _ R (by rw [t];omega);have H:Hid (I.ownsRow base 38 1 (.slice (some ⟨g,0,none⟩) (n - 1) cap) (n - 1) (xs.eraseIdx i)∧w.grownBy I (some g)):=by
  obtain⟨C,E⟩:=del_eq xs cur i ((.slice none 0 0):Value) n l s r (by omega);rw [o] at J;refine⟨⟨by rw [List.length_eraseIdx];simp [l,s],.inr ⟨g,cap,_,rfl,q,J,by omega,k,by simp [E,h],by simpa using C⟩⟩,jD Z q2⟩
 have P:Hid (D.length=(n - (i+1))*1):=by show _=_;rw [f];simp
 have m:Hid (∀ A:Addr,(0 < D.length->A=⟨g,i+1,none⟩)->∀ j u,D[j]?=some u->w.drew.cell? (A.add j)=some u):=fun A hA j u F=>by
  have aa:j < D.length:=(gL F).1;rw [hA (by omega),mJ];rw [o,List.getElem?_drop] at F;exact b _ u F
 have bX:Hid (∀ u∈D,u.oneCell'=true):=fun u hu=>U u (List.mem_of_mem_drop (o ▸ hu));have S:Hid (∀ j,j < D.length->(w.drew.cell? ⟨g,0+i*1+j,none⟩).isSome=true∧w.drew.frozen? ⟨g,0+i*1+j,none⟩=false):=fun j F=>by
  refine⟨?_,frozen_of_row w.drew g _ _ _ L⟩;have M:i+j < xs.length:=(by omega);have:=b (i+j) xs[i+j] (by simp [M]);have e:w.drew.cell? ⟨g,0+i*1+j,none⟩=some xs[i+j]:=(by rw [show 0+i*1+j=i+j by omega];exact this);rw [e]
  rfl
 have z:IntKind.i64.wrap ((i:Int)+1)=(i:Int)+1:=by rw [IntKind.wrap_i64];omega
 have x:(0:Int)<=(i:Int)+1:=by omega
 have N:(i:Int)+1<=(n:Int):=by omega
 have y:((i:Int)+1).toNat=i+1:=by omega
 have O:¬ ((i:Int)=(i:Int)+1):=by omega
 have Df:(i:Int)<=(i:Int)+1:=by omega
 have lG:¬ n=i:=by omega
 have uI:i+(n - (i+1))=n - 1:=by omega
 have Nr:¬ cap=n - 1:=by omega
 have Jd:(i:Int)<=(n:Int):=by omega
 have Q:(i:Int)<=(cap:Int):=by omega
 have Nn:n - (n - 1)=1:=by omega
 have Np:((n - 1:Nat):Int)<=(n:Int):=by omega
 have Nq:(n:Int)<=(cap:Int):=by omega
 clear a L h r q k b t R Z J q2 o U;by_cases K:cap=i+1
 ·obtain rfl:n=i+1:=(by omega);subst K;obtain rfl:D=[]:=List.eq_nil_of_length_eq_zero (by omega);have C:i+1 - (i+1 - 1)=1:=(by omega);have E:i+1 - 1=i:=(by omega);rw [C] at G;rw [E] at G H ⊢;have r3:(Builtin.clear_ #[28] 0 #[.slice (some ⟨g,i,none⟩) 1 1]).run prog (w.drew.setCells g i [])=.ok (.tuple #[]) I:=G;clear G x N y O Df lG uI Nr Jd Q Nn Np Nq C E z P m S f;have z:IntKind.i64.wrap ((i:Int)+1)=(i:Int)+1:=(by rw [IntKind.wrap_i64];omega);have y:((i:Int)+1).toNat=i+1:=(by omega);have x:(0:Int)<=(i:Int)+1:=(by omega);have Q:(i:Int)<=(i:Int)+1:=(by omega);go_enter func87,ntmps87;go_wp2_with fail;go_region_law (refine step_append_room rfl (.tmp 22) (.tmp 25) 28 rfl 38 Y 1 underlying28 X B g 0 i (i+1) (by simp [Act.eval,Act.put]) ⟨g,0,none⟩ 0 0 [] (by simp [Act.eval,Act.put]) rfl (by simp) (by simp) (by omega) (by simp) ?_);go_wp2;go_ret;exact⟨rfl,H.out⟩
 ·go_enter func87,ntmps87;go_wp2_with fail;go_region_law (refine step_append_room rfl (.tmp 22) (.tmp 25) 28 rfl 38 Y 1 underlying28 X B g 0 i cap (by simp [Act.eval,Act.put]) ⟨g,i+1,none⟩ (n - (i+1)) (cap - (i+1)) D (by simp [Act.eval,Act.put]) P.out (m.out _ (fun _=>rfl)) bX.out (by omega) S.out ?_);go_wp2;go_ret;exact⟨rfl,H.out⟩
variable {w wx:World} {its aP:List bn} {co:Option Addr} {cap g T:Nat}
theorem Mi {α β:Type} (f:α->β) (l:List α) (i:Nat):(l.map f).eraseIdx i=(l.eraseIdx i).map f:=by
 rw [List.eraseIdx_eq_take_drop_succ,List.eraseIdx_eq_take_drop_succ];simp
theorem abr (l:List Int) (i:Nat):(ints l).eraseIdx i=ints (l.eraseIdx i):=Mi _ l i
theorem ab0 {α:Type} {l:List α} {i:Nat} {y:α} (h:y∈l.eraseIdx i):y∈l:=List.mem_of_mem_eraseIdx h
theorem abI (h:dH w its co cap g aP T wx) (o:its.length<=1048576) (i:Nat) (m:i < its.length):
  kC 87 #[.slice (some ⟨g,0,none⟩) its.length its.length,.int .i64 i,.int .i64 ((i:Int)+1)] wx fun e b=>
   e=.returned (.slice (some ⟨g,0,none⟩) (its.length - 1) its.length)∧b.heap[w.heap.size+1]?=some (aT none 0 0)∧b.heap[T]?=some (aT (some ⟨g,0,none⟩) its.length its.length)∧
    jy w ((ak its).eraseIdx i,0) (.returned (.tuple #[tval (some ⟨g,0,none⟩) (its.length - 1) its.length,.int .i64 0])) ((b.setCell ⟨T,0,none⟩ (.slice (some ⟨g,0,none⟩) (its.length - 1) its.length)).setCell ⟨w.heap.size+1,0,none⟩ (.slice (some ⟨g,0,none⟩) (its.length - 1) its.length)):=by
 have u:=h.far;have s:=h.len;refine(YZ (w.heap.size+2) g its.length its.length i (aP.map cv) wx (h.row o) o m (QA aP)).mono ?_;rintro e b ⟨rfl,a,f⟩;have r:=Ao f h.cp.row h.res vY;have l:=Ao f h.cp.row h.eG vY;have k:(aP.eraseIdx i).length=its.length - 1:=by rw [List.length_eraseIdx];simp [s,m]
 refine⟨rfl,r,l,some ⟨g,0,none⟩,its.length,aP.eraseIdx i,by rw [k],?_,?_,?_⟩
 ·have:=h.aj;simp only [ak] at this ⊢;rw [<-this,Mi]
 ·rw [Mi] at a;have q:(b.setCell ⟨T,0,none⟩ (.slice (some ⟨g,0,none⟩) (its.length - 1) its.length)).heap[w.heap.size+1]?=some (aT none 0 0):=by
   rw [Below.heap_setCell _ _ _ _ (by simp;omega)];exact r
  refine(Oy (kS (kS a l vY) q vY) (fun x t=>?_)).2;exact⟨_,kS (kS (JL (h.cp.own x (ab0 t)) f h.cp.row Dl) l vZ) q vZ⟩
 ·have j:Below w.heap.size w b:=h.below.trans (rD f h.below.size (by omega));exact(j.setCell (by simp;omega) _).setCell (by simp) _
theorem abH (h:dH w its co cap g aP T wx) (E:its.length<=1048576) (i:Nat) (D:i < its.length) (x:bn) (y:aP[i]?=some x) (u:x.1.length<=1048576) (j:Nat) (s:j < x.1.length) (W:World) (q:Int) (F:q=(j:Int)+1) (A:Below wx.heap.size wx W):
  kC 88 #[.slice x.2.1 x.1.length x.2.2,.int .i64 j,.int .i64 q] W fun e f=>
   e=.returned (.slice x.2.1 (x.1.length - 1) x.2.2)∧(f.cell? ⟨w.heap.size+1,0,none⟩=some (.slice none 0 0)∧f.frozen? ⟨w.heap.size+1,0,none⟩=false)∧f.cell? ⟨T,0,none⟩=some (.slice (some ⟨g,0,none⟩) its.length its.length)∧f.cell? ⟨g,i,none⟩=some (.slice x.2.1 x.1.length x.2.2)∧f.frozen? ⟨g,i,none⟩=false∧
    jy w ((ak its).set i (x.1.eraseIdx j),0) (.returned (.tuple #[tval (some ⟨g,0,none⟩) its.length its.length,.int .i64 0])) ((f.setCell ⟨g,i,none⟩ (.slice x.2.1 (x.1.length - 1) x.2.2)).setCell ⟨w.heap.size+1,0,none⟩ (.slice (some ⟨g,0,none⟩) its.length its.length)):=by
 subst F;have v:=h.next A;have o:=v.cp.own x (List.mem_of_getElem? y);obtain⟨b,l,C⟩:=Tf o (by intro e;rw [e] at s;simp at s);have t:=o;unfold cv at t;rw [l] at t;have m:(x.1.eraseIdx j).length=x.1.length - 1:=by rw [List.length_eraseIdx];simp [s]
 have r:=YX (g+1) b x.1.length x.2.2 j (ints x.1) W t u s (Jl _);rw [<-l] at r;refine r.mono ?_;rintro e f ⟨rfl,a,B⟩;rw [abr] at a;have k:f.ownsRow (g+1) 3 1 (.slice x.2.1 (x.1.eraseIdx j).length x.2.2) (x.1.eraseIdx j).length (ints (x.1.eraseIdx j)):=by rw [m];exact a
 have:=Ur v E i D x y b l B (x.1.eraseIdx j) x.2.1 x.2.2 (g+1) k;rw [m] at this;obtain⟨z,G,H⟩:=this;exact⟨rfl,⟨(one z).1,(one z).2 0⟩,(one G).1,H⟩
variable (its:List bn) (co:Option Addr) (cap:Nat) (p:Int) (w:World)
theorem abE (q:aI w co its) (E:its.length<=5864062014805) (f:∀ x∈its,x.1.length<=17592186044416) (r:List (List Int)×Int) (l:r=dS (ak its) p) (b:cK (ak its)=false):
  kC 71 #[tval co its.length cap,.int .i64 p] w (jy w r):=by
 have I:=gH q;have G:Hid (∀ W,Below w.heap.size w W->kC 67 #[tval co its.length cap] W fun e F=>∃ g aP,e=.returned (tval (some ⟨g,0,none⟩) its.length its.length)∧ak aP=ak its∧W.heap.size<=g∧Cp aP g F∧Below W.heap.size W F):=fun W o=>sI its co cap W (q.below o) E f;have H:Hid (∀ W,aI W co its->kA 60 #[tval co its.length cap] W (.bool false)):=fun W o=>jT its co cap W o E f false b.symm;have m:Hid (r=(ak its,1)):=by show r=_;rw [l];simp [dS,b]
 clear q f l b;go_enter func71,ntmps71
 go_wp2_with (first
  | (go_at_call 67;refine(G.out _ (aO _ _ _)).mono ?_;rintro e J ⟨g,aP,rfl,C,D,k,B⟩;have h:=gH (tF I.out C D k B);obtain⟨s,t⟩:=one h.out.box;obtain⟨u,y⟩:=one h.out.res;obtain⟨z,A⟩:=one h.out.eG;clear C D k B)
  | (go_at_call 60;refine(H.out _ h.out.rd).mono ?_;rintro e K ⟨rfl,j⟩;have a:=gH (h.out.next j);clear j s t u y z A;obtain⟨s,t⟩:=one a.out.box;obtain⟨u,y⟩:=one a.out.res;obtain⟨z,A⟩:=one a.out.eG)
  | fail)
 refine bodyPost_ret (v:=.tuple #[tval (some ⟨g,0,none⟩) its.length its.length,.int .i64 1]) (by simp [results,results71,go_sem, *]) rfl ?_;exact a.out.same 1 r m.out
theorem abL (E:aI w co its) (D:its.length<=5864062014805) (b:∀ x∈its,x.1.length<=17592186044416) (r:List (List Int)×Int) (o:r=dS (ak its) p) (f:cK (ak its)=true) (C:bL p (ak its)=none):
  kC 71 #[tval co its.length cap,.int .i64 p] w (jy w r):=by
 have M:=gH E;have J:Hid (∀ W,Below w.heap.size w W->kC 67 #[tval co its.length cap] W fun e I=>∃ g aP,e=.returned (tval (some ⟨g,0,none⟩) its.length its.length)∧ak aP=ak its∧W.heap.size<=g∧Cp aP g I∧Below W.heap.size W I):=fun W j=>sI its co cap W (E.below j) D b;have L:Hid (∀ W,aI W co its->kA 60 #[tval co its.length cap] W (.bool true)):=fun W j=>jT its co cap W j D b true f.symm;have K:Hid (∀ W,aI W co its->kA 59 #[tval co its.length cap,.int .i64 p] W (.tuple #[.int .i64 0,.int .i64 0,.bool false])):=fun W j=>xD its co cap p W j D b (none) C.symm;have B:Hid (r=(ak its,3)):=by show r=_;rw [o];simp [dS,f,C]
 clear E b o f C;go_enter func71,ntmps71
 go_wp2_with (first
  | (go_at_call 67;refine(J.out _ (aO _ _ _)).mono ?_;rintro e N ⟨g,aP,rfl,G,H,m,F⟩;have h:=gH (tF M.out G H m F);obtain⟨q,s⟩:=one h.out.box;obtain⟨t,u⟩:=one h.out.res;obtain⟨y,z⟩:=one h.out.eG;clear G H m F)
  | (go_at_call 60;refine(L.out _ h.out.rd).mono ?_;rintro e O ⟨rfl,k⟩;have a:=gH (h.out.next k);clear k q s t u y z;obtain⟨q,s⟩:=one a.out.box;obtain⟨t,u⟩:=one a.out.res;obtain⟨y,z⟩:=one a.out.eG)
  | (go_at_call 59;refine(K.out _ a.out.rd).mono ?_;rintro e P ⟨rfl,l⟩;have A:=gH (a.out.next l);clear l q s t u y z;obtain⟨q,s⟩:=one A.out.box;obtain⟨t,u⟩:=one A.out.res;obtain⟨y,z⟩:=one A.out.eG)
  | fail)
 refine bodyPost_ret (v:=.tuple #[tval (some ⟨g,0,none⟩) its.length its.length,.int .i64 3]) (by simp [results,results71,go_sem, *]) rfl ?_;exact A.out.same 3 r B.out
theorem abN (L:aI w co its) (K:its.length<=5864062014805) (f:∀ x∈its,x.1.length<=17592186044416) (r:List (List Int)×Int) (z:r=dS (ak its) p) (b:cK (ak its)=true) (i j:Nat) (I:bL p (ak its)=some (i,j)) (k:((ak its).getD i []).length=1) (l:its.length=1):
  kC 71 #[tval co its.length cap,.int .i64 p] w (jy w r):=by
 have X:=gH L;have S:Hid (∀ W,Below w.heap.size w W->kC 67 #[tval co its.length cap] W fun e Q=>∃ g aP,e=.returned (tval (some ⟨g,0,none⟩) its.length its.length)∧ak aP=ak its∧W.heap.size<=g∧Cp aP g Q∧Below W.heap.size W Q):=fun W q=>sI its co cap W (L.below q) K f;have sO:its.length<=1048576:=by have:=sM ((nG _).1 b);simp only [ak,List.length_map] at this;omega
 have hi:i < its.length:=by obtain⟨Z,_⟩:=jI I;simpa using Z
 have aa:(i:Int) < (its.length:Int):=by omega
 have V:Hid (∀ W,aI W co its->kA 60 #[tval co its.length cap] W (.bool true)):=fun W q=>jT its co cap W q K f true b.symm;have U:Hid (∀ W,aI W co its->kA 59 #[tval co its.length cap,.int .i64 p] W (.tuple #[.int .i64 i,.int .i64 j,.bool true])):=fun W q=>xD its co cap p W q K f (some (i,j)) I.symm;have J:Hid (r=(ak its,5)):=by show r=_;rw [z];simp only [dS,b,I,k];simp [l]
 have m:=gH k;have Y:(((its.length:Nat):Int)==1)=true:=by simp [l]
 clear L f z b I k l;go_enter func71,ntmps71
 go_wp2_with (first
  | (go_at_call 67;refine(S.out _ (aO _ _ _)).mono ?_;rintro e R ⟨g,aP,rfl,O,P,u,N⟩;have o:=gH (tF X.out O P u N);obtain⟨C,D⟩:=one o.out.box;obtain⟨E,F⟩:=one o.out.res;obtain⟨G,H⟩:=one o.out.eG;clear O P u N)
  | (go_at_call 60;refine(V.out _ o.out.rd).mono ?_;rintro e w2 ⟨rfl,s⟩;have a:=gH (o.out.next s);clear s C D E F G H;obtain⟨C,D⟩:=one a.out.box;obtain⟨E,F⟩:=one a.out.res;obtain⟨G,H⟩:=one a.out.eG)
  | (go_at_call 59;refine(U.out _ a.out.rd).mono ?_;rintro e w4 ⟨rfl,t⟩;have h:=gH (a.out.next t);clear t C D E F G H;obtain⟨C,D⟩:=one h.out.box;obtain⟨E,F⟩:=one h.out.res;obtain⟨G,H⟩:=one h.out.eG;obtain⟨⟨x1,x2,x3⟩,M,A,B,ad⟩:=h.out.col i hi;have y:x1.length=1:=(congrArg List.length A).trans m.out;simp only at B;rw [y] at B;have ab:¬ R.heap.size=w.heap.size+1:=(by have:=h.out.far;omega);have ac:¬ w.heap.size+1=R.heap.size:=(by have:=h.out.far;omega);clear M A y)
  | fail)
 refine bodyPost_ret (v:=.tuple #[tval (some ⟨g,0,none⟩) its.length its.length,.int .i64 5]) (by simp [results,results71,go_sem, *]) rfl ?_;exact h.out.same 5 r J.out
theorem abG (M:aI w co its) (K:its.length<=5864062014805) (f:∀ x∈its,x.1.length<=17592186044416) (r:List (List Int)×Int) (G:r=dS (ak its) p) (b:cK (ak its)=true) (i j:Nat) (I:bL p (ak its)=some (i,j)) (l:((ak its).getD i []).length=1) (L:its.length≠1):
  kC 71 #[tval co its.length cap,.int .i64 p] w (jy w r):=by
 have HR:=gH M;have Z:Hid (∀ W,Below w.heap.size w W->kC 67 #[tval co its.length cap] W fun e X=>∃ g aP,e=.returned (tval (some ⟨g,0,none⟩) its.length its.length)∧ak aP=ak its∧W.heap.size<=g∧Cp aP g X∧Below W.heap.size W X):=fun W B=>sI its co cap W (M.below B) K f;have sO:its.length<=1048576:=by have:=sM ((nG _).1 b);simp only [ak,List.length_map] at this;omega
 have V:i < its.length:=by obtain⟨h1,_⟩:=jI I;simpa using h1
 have ab:(i:Int) < (its.length:Int):=by omega
 have HG:Hid (∀ W,aI W co its->kA 60 #[tval co its.length cap] W (.bool true)):=fun W B=>jT its co cap W B K f true b.symm;have HF:Hid (∀ W,aI W co its->kA 59 #[tval co its.length cap,.int .i64 p] W (.tuple #[.int .i64 i,.int .i64 j,.bool true])):=fun W B=>xD its co cap p W B K f (some (i,j)) I.symm;have J:Hid (r=((ak its).eraseIdx i,0)):=by show r=_;rw [G];simp only [dS,b,I,l];simp [L]
 have u:=gH l;have aa:¬ ((its.length:Nat):Int)=1:=by omega
 clear M f G b I l;go_enter func71,ntmps71
 go_wp2_with (first
  | (go_at_call 67;refine(Z.out _ (aO _ _ _)).mono ?_;rintro e Y ⟨g,aP,rfl,S,U,E,R⟩;have y:=gH (tF HR.out S U E R);obtain⟨z,A⟩:=one y.out.box;obtain⟨o,q⟩:=one y.out.res;obtain⟨s,t⟩:=one y.out.eG;clear S U E R)
  | (go_at_call 60;refine(HG.out _ y.out.rd).mono ?_;rintro e w2 ⟨rfl,C⟩;have a:=gH (y.out.next C);clear C z A o q s t;obtain⟨z,A⟩:=one a.out.box;obtain⟨o,q⟩:=one a.out.res;obtain⟨s,t⟩:=one a.out.eG)
  | (go_at_call 59;refine(HF.out _ a.out.rd).mono ?_;rintro e w4 ⟨rfl,D⟩;have k:=gH (a.out.next D);clear D z A o q s t;obtain⟨z,A⟩:=one k.out.box;obtain⟨o,q⟩:=one k.out.res;obtain⟨s,t⟩:=one k.out.eG;obtain⟨⟨x1,x2,x3⟩,N,H,m,O⟩:=k.out.col i V;have F:x1.length=1:=(congrArg List.length H).trans u.out;simp only at m;rw [F] at m;have ac:¬ Y.heap.size=w.heap.size+1:=(by have:=k.out.far;omega);have ad:¬ w.heap.size+1=Y.heap.size:=(by have:=k.out.far;omega);clear N H F)
  | (go_at_call 87;refine(abI k.out sO i V).mono ?_;rintro e w6 ⟨rfl,P,Q,h⟩;have HE:=gH h;clear h z A o q s t m O;obtain⟨o,q⟩:=one P;obtain⟨s,t⟩:=one Q;clear P Q)
  | fail)
 refine bodyPost_ret (v:=.tuple #[tval (some ⟨g,0,none⟩) (its.length - 1) its.length,.int .i64 0]) (by simp [results,results71,go_sem, *]) rfl ?_;rw [J.out];exact HE.out
theorem abO (Q:aI w co its) (P:its.length<=5864062014805) (k:∀ x∈its,x.1.length<=17592186044416) (r:List (List Int)×Int) (I:r=dS (ak its) p) (f:cK (ak its)=true) (i j:Nat) (t:bL p (ak its)=some (i,j)) (q:((ak its).getD i []).length≠1):
  kC 71 #[tval co its.length cap,.int .i64 p] w (jy w r):=by
 have X:=gH Q;have S:Hid (∀ W,Below w.heap.size w W->kC 67 #[tval co its.length cap] W fun e w'=>∃ g aP,e=.returned (tval (some ⟨g,0,none⟩) its.length its.length)∧ak aP=ak its∧W.heap.size<=g∧Cp aP g w'∧Below W.heap.size W w'):=fun W E=>sI its co cap W (Q.below E) P k;have sO:its.length<=1048576:=by have:=sM ((nG _).1 f);simp only [ak,List.length_map] at this;omega
 have hi:i < its.length:=by obtain⟨o,_⟩:=jI t;simpa using o
 have aa:(i:Int) < (its.length:Int):=by omega
 have V:Hid (∀ W,aI W co its->kA 60 #[tval co its.length cap] W (.bool true)):=fun W E=>jT its co cap W E P k true f.symm;have U:Hid (∀ W,aI W co its->kA 59 #[tval co its.length cap,.int .i64 p] W (.tuple #[.int .i64 i,.int .i64 j,.bool true])):=fun W E=>xD its co cap p W E P k (some (i,j)) t.symm;have N:Hid (r=((ak its).set i (((ak its).getD i []).eraseIdx j),0)):=by show r=_;rw [I];simp only [dS,f,t,q];simp
 have l:=gH q;have M:Hid (j < ((ak its).getD i []).length):=by
  show _ < _;obtain⟨o,h2,_⟩:=jI t;simp only [List.getD_eq_getElem?_getD,List.getElem?_eq_getElem o,Option.getD_some];omega
 have O:Hid (((ak its).getD i []).length<=3):=by
  show _<=_;obtain⟨o,_⟩:=jI t;simp only [List.getD_eq_getElem?_getD,List.getElem?_eq_getElem o,Option.getD_some];exact(((nG _).1 f).kI _ (List.getElem_mem o)).2
 have ab:j<=3:=by have o:=M.out;have h2:=O.out;omega
 clear Q k I f t q;go_enter func71,ntmps71
 go_wp2_with (first
  | (go_at_call 67;refine(S.out _ (aO _ _ _)).mono ?_;rintro e w1 ⟨g,aP,rfl,Z,hg,H,Y⟩;have s:=gH (tF X.out Z hg H Y);obtain⟨y,z⟩:=one s.out.box;obtain⟨A,B⟩:=one s.out.res;obtain⟨C,D⟩:=one s.out.eG;clear Z hg H Y)
  | (go_at_call 60;refine(V.out _ s.out.rd).mono ?_;rintro e w2 ⟨rfl,F⟩;have a:=gH (s.out.next F);clear F y z A B C D;obtain⟨y,z⟩:=one a.out.box;obtain⟨A,B⟩:=one a.out.res;obtain⟨C,D⟩:=one a.out.eG)
  | (go_at_call 59;refine(U.out _ a.out.rd).mono ?_;rintro e w4 ⟨rfl,G⟩;have h:=gH (a.out.next G);clear G y z A B C D;obtain⟨y,z⟩:=one h.out.box;obtain⟨A,B⟩:=one h.out.res;obtain⟨C,D⟩:=one h.out.eG;obtain⟨⟨u,x2,x3⟩,J,b,K,R⟩:=h.out.col i hi;simp only at K b;have ac:¬ (u.length:Int)=1:=(by have:=l.out;rw [<-b] at this;omega);have L:Hid (aP[i]?=some (u,x2,x3)∧j < u.length∧u.length<=1048576∧u=(ak its).getD i []):=⟨J,(by have:=M.out;rw [<-b] at this;omega),(by have:=O.out;rw [<-b] at this;omega),b⟩;have ad:¬ g=w.heap.size+1:=(by have:=h.out.far;omega);have ae:¬ w.heap.size+1=g:=(by have:=h.out.far;omega);have Db:¬ g=w1.heap.size:=(by intro e;have q1:=h.out.cp.row;rw [e,h.out.eG] at q1;simp at q1);have Jc:¬ w1.heap.size=g:=(fun e=>Db e.symm);clear J b)
  | fail)
 clear S V U X l M O s a;go_region_with ((go_at_call 88;refine(abH h.out sO i hi (u,x2,x3) L.out.1 L.out.2.2.1 j L.out.2.1 _ _ (by first | rfl | (rw [IntKind.wrap_i64];omega)) ((Below.refl _ _).drew)).mono ?_;rintro e w6 ⟨rfl,⟨c1,c5⟩,c2,c3,c4,m⟩;have HE:=gH m;clear m y z A B C D K R))
 all_goals (
  go_wp2
  refine bodyPost_ret (v:=.tuple #[tval (some ⟨g,0,none⟩) its.length its.length,.int .i64 0]) (by simp [results,results71,go_sem, *]) rfl ?_
  have hx:=L.out.2.2.2
  rw [N.out, <-hx]
  exact HE.out)
theorem abD (l:aI w co its) (h:its.length<=5864062014805) (b:∀ x∈its,x.1.length<=17592186044416) (r:List (List Int)×Int) (e:r=dS (ak its) p):
  kC 71 #[tval co its.length cap,.int .i64 p] w (jy w r):=by
 cases a:cK (ak its) with
 | false=>exact abE its co cap p w l h b r e a
 | true=>
  cases m:bL p (ak its) with
  | none=>exact abL its co cap p w l h b r e a m
  | some x=>
   obtain⟨i,j⟩:=x;by_cases f:((ak its).getD i []).length=1
   ·by_cases k:its.length=1
    ·exact abN its co cap p w l h b r e a i j m f k
    ·exact abG its co cap p w l h b r e a i j m f k
   ·exact abO its co cap p w l h b r e a i j m f
end Go.Proofs.YtkcdcamophkdlaaGreatDoor.Tl
