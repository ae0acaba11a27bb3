/- For every list of acts that is of bulk at most 1048576, ServerPlays returns true, and its argument reads behind the call as before: the tied card ServerPlaysUptoCardSaid (the listed tables of Go's library are not read). -/
import Derived.Test.YtkcdcamophkdlaaGreatDoorCA
import Derived.Test.YtkcdcamophkdlaaGreatDoorCards
import Derived.Test.YtkcdcamophkdlaaGreatDoorTie
import Derived.Lay
import Derived.Deep.DeepHandedRow
set_option maxRecDepth 100000
open Go.Proofs.Tryz
namespace Go.Proofs.YtkcdcamophkdlaaGreatDoor.Sv
open Go.ChangeShapes Go.WideShapes Go.ChangeAt Go.RowKit Go.Joins
open Go.ChangeMaps (open_string shut_string)
theorem Xt {H:Type} (x:DataW H):1<=Rows.uptoBulk x:=by
 cases x with
 | lit l=>cases l <;>simp [Rows.uptoBulk]
 | _=>simp [Rows.uptoBulk]
theorem Xq {H:Type} (l:List (DataW H)):l.length<=Rows.uptoBulkAll l:=by
 induction l with
 | nil=>simp [Rows.uptoBulkAll]
 | cons x r ih=>have:=Xt x;simp only [Rows.uptoBulkAll,List.length_cons];omega
theorem Qf {H:Type} {d:DataW H} {l:List (DataW H)} (a:d∈l):Rows.uptoBulk d<=Rows.uptoBulkAll l:=by
 induction l with
 | nil=>cases a
 | cons x r ih=>
  simp only [Rows.uptoBulkAll];rcases List.mem_cons.1 a with e | e
  ·subst e;omega
  ·have:=ih e;omega
theorem Xu {H:Type} {d:DataW H} {l:List (DataW H)} (b:Rows.uptoSmall H l=true) (a:d∈l):Rows.uptoBulk d<=1048576:=by
 have:=of_decide_eq_true b;have:=Qf a;omega
section
variable {H : Type} {enc : TypeId × Value -> H} {W : World} {base : Nat}
theorem acZ {d:Nat->Bool} {c:Bool} {n:Nat} {cs:List Value} {x:DataW H×List MemPlace} (h:DataW.trod enc prog W 0 d c n 53 cs=some x):
  ∃ a:Ac,cs=[.int .i64 a.kind,.int .i64 a.p,.int .i64 a.n,.int .i64 a.m,.string (bs a.bytes)]∧a.bytes.length<=Rows.uptoBulk x.1:=by
 obtain⟨_,m,_,J,C,k,b⟩:=DataW.trod_struct underlying53 h;rw [LZ] at C;obtain⟨e,f,g,i,j,rfl⟩:=Sj C;obtain⟨K,L,M,N,O,rfl⟩:=Sj (by simpa using k);have l:prog.cellsOf 3=1:=by kernel_rfl
 have o:prog.cellsOf 9=1:=by kernel_rfl
 have w:DataW.trod enc prog W 0 d c m 3 (([e,f,g,i,j].drop 0).take (prog.cellsOf 3))=some K:=b 0 _ rfl;have y:DataW.trod enc prog W 0 d c m 3 (([e,f,g,i,j].drop 1).take (prog.cellsOf 3))=some L:=b 1 _ rfl;have z:DataW.trod enc prog W 0 d c m 3 (([e,f,g,i,j].drop 2).take (prog.cellsOf 3))=some M:=b 2 _ rfl;have A:DataW.trod enc prog W 0 d c m 3 (([e,f,g,i,j].drop 3).take (prog.cellsOf 3))=some N:=b 3 _ rfl;have B:DataW.trod enc prog W 0 d c m 9 (([e,f,g,i,j].drop 4).take (prog.cellsOf 9))=some O:=b 4 _ rfl;simp only [List.drop,l,o,List.take] at w y z A B;obtain⟨D,q,_⟩:=DataW.trod_int underlying3 w;obtain⟨E,r,_⟩:=DataW.trod_int underlying3 y;obtain⟨F,t,_⟩:=DataW.trod_int underlying3 z;obtain⟨G,u,_⟩:=DataW.trod_int underlying3 A;obtain⟨s,v,I,_⟩:=DataW.trod_string underlying9 B;simp only [List.cons.injEq,and_true] at q r t u v;subst q r t u v;refine⟨⟨D,E,F,G,s.data.toList⟩,rfl,?_⟩;rw [J];simp only [Rows.uptoBulk,Rows.uptoBulkAll,List.map_cons,List.map_nil];rw [I];simp only [Rows.uptoBulk];omega
theorem ac0 {v:Value} {d:DataW H} {p:List MemPlace} (Z:Value.okWide prog W .any base 22 v) (h:DataW.Trod enc prog W 0 (fun _=>true) true 22 v d p):
  ∃ (L:Option Addr) (K:Nat) (l:List Ac),v=.slice L l.length K∧Cy W L l∧(L=none->l=[]∧K=0)∧l.length<=K∧l.length<=Rows.uptoBulk d∧∀ x∈l,x.bytes.length<=Rows.uptoBulk d:=by
 obtain⟨Q,c,N,rfl⟩:=okWide_slice underlying22 Z;obtain⟨u,T⟩:=h;have I:DataW.trod enc prog W 0 (fun _=>true) true u 22 [.slice Q c N]=some (d,p):=T;rcases Deep.open_slice underlying22 I with ⟨g,_⟩ | ⟨a,aa,R,m,n',D,Pl,g,_,V,hm,J,y,t⟩
 ·simp only [List.cons.injEq,and_true,Value.slice.injEq] at g;obtain⟨rfl,rfl,rfl⟩:=g;exact⟨none,0,[],rfl,.inl rfl,fun _=>⟨rfl,rfl⟩,Nat.le_refl _,Nat.zero_le _,fun x y=>(by cases y)⟩
 ·simp only [List.cons.injEq,and_true,Value.slice.injEq] at g;obtain⟨rfl,rfl,rfl⟩:=g;have X:c<=m:=(by rw [J];split <;>omega);have O:d=(.slice ((List.range c).map D) ((List.range (m - c)).map fun j=>D (c+j)):DataW H):=by
   have:=congrArg Prod.fst y;exact this
  have G:c<=Rows.uptoBulk d:=by
   rw [O];have o:=Xq ((List.range c).map D);simp only [List.length_map,List.length_range] at o;simp only [Rows.uptoBulk];omega
  have A:∀ i,i < c->∃ x:Ac,(W.cell? (a.add (i*5))=some (.int .i64 x.kind)∧W.cell? (a.add (i*5+1))=some (.int .i64 x.p)∧W.cell? (a.add (i*5+2))=some (.int .i64 x.n)∧W.cell? (a.add (i*5+3))=some (.int .i64 x.m)∧W.cell? (a.add (i*5+4))=some (.string (bs x.bytes)))∧x.bytes.length<=Rows.uptoBulk d:=by
   intro i r;obtain⟨_,o,E⟩:=t i (by omega);obtain⟨_,_,q⟩:=World.cells?_some o;obtain⟨x,rfl,S⟩:=acZ E;have w:∀ j,j < 5->W.cell? (a.add (i*5+j))=[Value.int .i64 x.kind,.int .i64 x.p,.int .i64 x.n,.int .i64 x.m,.string (bs x.bytes)][j]?:=by
    intro j U;have:=q j (by rw [LZ];exact U);rw [LZ,Deep.add_add] at this;exact this
   refine⟨x,⟨w 0 (by omega),w 1 (by omega),w 2 (by omega),w 3 (by omega),w 4 (by omega)⟩,?_⟩;have h3:Rows.uptoBulk (D i)<=Rows.uptoBulkAll ((List.range c).map D):=Qf (List.mem_map.2 ⟨i,List.mem_range.2 r,rfl⟩);rw [O];simp only [Rows.uptoBulk];simp only at S;omega
  obtain⟨F,hF⟩:∃ F:Nat->Ac,F=fun i=>if h:i < c then Classical.choose (A i h) else ⟨0,0,0,0,[]⟩:=⟨_,rfl⟩;have B:∀ i,i < c->(W.cell? (a.add (i*5))=some (.int .i64 (F i).kind)∧W.cell? (a.add (i*5+1))=some (.int .i64 (F i).p)∧W.cell? (a.add (i*5+2))=some (.int .i64 (F i).n)∧W.cell? (a.add (i*5+3))=some (.int .i64 (F i).m)∧W.cell? (a.add (i*5+4))=some (.string (bs (F i).bytes)))∧(F i).bytes.length<=Rows.uptoBulk d:=by
   intro i r;have Y:=Classical.choose_spec (A i r);have e:F i=Classical.choose (A i r):=(by rw [hF];simp only [dif_pos r]);rw [e];exact Y
  clear hF A;have f:((List.range c).map F).length=c:=(by simp);refine⟨some a,N,(List.range c).map F,by rw [f],?_,fun h=>(by cases h),by rw [f];exact V,by rw [f];exact G,?_⟩
  ·rcases Nat.eq_zero_or_pos c with C | C
   ·left;simp [C]
   ·right;obtain⟨b,M,z⟩:=a;have s:z=none:=by
     have o:=(B 0 C).1.1;have E:=World.cell?_spot o;simpa [Addr.add] using E
    subst s;refine⟨b,M,rfl,fun k P=>?_⟩;rw [f] at P;have o:=(B k P).1;simp only [mJ] at o;simp only [List.getElem_map,List.getElem_range, <-Nat.add_assoc] at o ⊢;exact o
  ·intro x y;obtain⟨i,r,rfl⟩:=List.mem_map.1 y;exact(B i (List.mem_range.1 r)).2
end
end Go.Proofs.YtkcdcamophkdlaaGreatDoor.Sv
namespace Go.Proofs.YtkcdcamophkdlaaGreatDoor
open Go.ChangeShapes Go.WideShapes Go.ChangeAt Go.RowKit Go.Joins
open Go.ChangeMaps (open_string shut_string)
theorem agv (H:Type) (enc:TypeId×Value->H) (W:World) (base:Nat) (b:Array Value) (i u:List (DataW H)) (c:List MemPlace)
  (f:∀ (j:Nat) t v,Tryz.f3.params[j]?=some t->b[j]?=some v->Value.okWide prog W .any base t v)
  (z:DataW.Whole enc prog Tryz.f3.params.toList Rows.serverPlaysSpec.vars false W b.toList i u c) (A:Rows.uptoSmall H (i++u)=true):
  kC 3 b W fun e s=>∃ v,e=.returned v∧Rows.serverPlaysSpec.post enc prog Tryz.f3 false true false false W b v s:=by
 have k:=z;obtain⟨p,_,g,F,rfl,_,_⟩:=z;have y:DataW.TrodAll enc prog W 0 (fun _=>true) true Tryz.f3.params.toList b.toList i p:=g;rw [Tryz.params3] at y f;obtain⟨D,_,E,_,L,_,_,rfl,rfl,w,M⟩:=trodAll_cons y;obtain⟨rfl,rfl,rfl⟩:=trodAll_nil M;obtain rfl:b=#[D]:=by cases b;simp_all
 obtain⟨rfl,rfl⟩:=trodVars_none F;have B:=w;have q:∀ x∈L,x.block < W.heap.size:=by obtain⟨m,J⟩:=B;exact DataW.trod_lt m _ _ _ J
 obtain⟨o,n,K,rfl,l,_,_,_,r⟩:=Sv.ac0 (f 0 22 D rfl rfl) w;have:=Sv.Xu A (d:=E) (by simp);clear g A;refine(Sv.af6 K o n W l (fun a G=>by have:=r a G;omega) (by omega)).mono fun e s ⟨I,C⟩=>?_;subst I;exact⟨_,rfl,_,_,_,[],_,[],k,trodAll_mk1 (shut_bool underlying4 _),(trodAll_cons_mk (Below.trod Sv.laidOut (by kernel_rfl) (of_decide_eq_true (by kernel_rfl)) B C q) trodAll_mk0),rfl,C.frame _,fun h=>by cases h⟩
theorem agw (f:Os) (a:f.Started) (H:Type) (enc:TypeId×Value->H) (F:Stop.Interp):
  ReturnsInHanded {} Tryz.checked f 3 .any ((Rows.OpenSpec.upto Rows.serverPlaysSpec).preRow enc prog Tryz.f3 Rows.serverPlaysUptoRow.domain false Rows.serverPlaysUptoRow.laid) (((Rows.OpenSpec.upto Rows.serverPlaysSpec).at F).post enc prog Tryz.f3 false true false false):=by
 refine returnsInHanded_of_row (C:=Tryz.checked) (s:=Rows.OpenSpec.upto Rows.serverPlaysSpec) Sv.own a (by kernel_rfl) func3
  (witness_row_at (enc:=enc) (C:=Tryz.checked) false (World.laidAll prog f Rows.serverPlaysUptoRow.laid) #[.slice none 0 0] (World.laidAll_os _ _ _) (by kernel_rfl) (by kernel_rfl) (by kernel_rfl)
   (OpenSpec.preRow_of_cond 8 (x:=([.nil],[],[])) (by kernel_rfl) (by kernel_rfl) (fun k j=>by cases j;kernel_rfl) (by kernel_rfl) (laidMet_laidAll _ (by kernel_rfl) (by kernel_rfl)))) ?_
 intro W base d g h b e i _ c _ _ _ _;exact agv H enc W base d g h b e i (c _ rfl)
theorem agy:Rows.ServerPlaysUptoSaid:=
 OpenClaim.holds_of_cond 3 Tryz.f3 rfl rfl rfl rfl rfl rfl rfl ⟨rfl,rfl,rfl,rfl,rfl⟩ rfl rfl rfl rfl rfl (by kernel_rfl) func3 (by kernel_rfl)
  (of_decide_eq_true (by kernel_rfl)) (by unfold Func.isWrapper;first | (rw [if_pos (by decide+kernel)];kernel_rfl) | (rw [if_neg (by decide+kernel)];exact⟨rfl,rfl⟩))
  (fun b a H enc _ F=>by rw [OpenClaim.pre_eq_preRow];exact agw b a H enc F)
theorem agx (f:FuncId) (a:Func) (d:Tryz.pinned.checked.prog.funcNamed "fenestra/fenestralaw.ServerPlays" =some f) (b:Tryz.pinned.checked.prog.funcs[f]?=some a):
  false=Tryz.pinned.checked.prog.looks []∧∀ (j:Nat) t,a.params[j]?=some t->Tryz.pinned.checked.prog.wantsStandIn t=false:=by
 obtain rfl:f=3:=Option.some.inj ((show prog.funcNamed "fenestra/fenestralaw.ServerPlays" =some 3 by kernel_rfl).symm.trans d) |>.symm;obtain rfl:a=Tryz.f3:=(Option.some.inj (func3.symm.trans b)).symm;refine⟨by kernel_rfl,fun j t c=>?_⟩;rw [Tryz.params3] at c;have e:=Array.mem_of_getElem? c;obtain rfl:t=22:=by simpa using e
 exact(show prog.wantsStandIn 22=false by kernel_rfl)
theorem splays_card:Rows.ServerPlaysUptoCardSaid:=
 Claim7.holds_tied_plain_at .later [] _ _ _ _ agy (fun _ h=>by cases h) (by kernel_rfl) (fun _ h=>by cases h) serverPlaysUpto_row_tie rfl ⟨rfl,rfl⟩ (by kernel_rfl) rfl agx (by kernel_rfl)
end Go.Proofs.YtkcdcamophkdlaaGreatDoor
