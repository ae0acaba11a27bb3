/- Several texts in one, each as it was: SMach, SOk, SMem, SFun. -/
import Derived.Test.YtjikokfjnbhngaaGreatDoorMPMach
import Derived.Test.YtjikokfjnbhngaaGreatDoorMFMach
import Derived.Test.YtjikokfjnbhngaaGreatDoorMDMach
import Derived.Test.YtjikokfjnbhngaaGreatDoorMFFold
import Derived.Test.YtjikokfjnbhngaaGreatDoorMGDraw
import Derived.Test.YtjikokfjnbhngaaGreatDoorMGResize
import Derived.Test.YtjikokfjnbhngaaGreatDoorMDRow
import Derived.Test.YtjikokfjnbhngaaGreatDoorMTSp1
import Derived.Lib.MinMax

/- The plain machine of chapter 6: panes and clients, and what an act makes of them; nothing of the program is in it. -/
namespace Go.Proofs.YtjikokfjnbhngaaGreatDoor.Sv
open Go.Proofs.YtjikokfjnbhngaaGreatDoor.Tl (Rc noRc whereT findT hasT goodT splitT killT)
open Go.Proofs.YtjikokfjnbhngaaGreatDoor.Pt (Vw screenV)
structure Cl where
 q:List UInt8
 lost:Bool
 g:Gr
structure Srv where
 v:Vw
 ps:Nat→Ps.PS
 cl:Nat→Option Cl
 acts:Nat
structure Ac where
 kind:Int
 p:Int
 n:Int
 m:Int
 bytes:List UInt8
structure Rp where
 code:Int
 n:Int
 out:List UInt8
def noG:Gr:=⟨0,0,0,fun _=>noCel,0,0,0,false,0,0⟩
def err (e:Int):Rp:=⟨e,0,[]⟩
def upd {α:Type} (f:Nat→α) (i:Nat) (x:α):Nat→α:=fun k=>if k=i then x else f k
theorem upd_at {α:Type} (f:Nat→α) (i:Nat) (x:α):upd f i x i=x:=if_pos rfl
theorem upd_ne {α:Type} (f:Nat→α) {i k:Nat} (x:α) (h:k≠i):upd f i x k=f k:=if_neg h
def sidesS (wide high:Int):Bool:=decide (1≤wide∧wide≤24∧1≤high∧high≤10)
def resFS (g:Gr) (wide:Int):Nat→Cel:=fun i=>atG g ((i:Int) / wide) ((i:Int) % wide)
def resGS (g:Gr) (wide high:Int):Gr:=
 ⟨(newG wide high).wide,(newG wide high).high,(newG wide high).n,resFS g (newG wide high).wide,min g.row ((newG wide high).high - 1),min g.col ((newG wide high).wide - 1),g.ink,g.bold,(newG wide high).top,(newG wide high).bottom⟩
def fittedG (g:Gr) (wide high:Int):Gr:=
 if g.wide=0 then newG wide high else if g.wide=wide∧g.high=high then g else if goodG g then resGS g wide high else g
def fit1 (v:Vw) (p:Nat):Gr:=fittedG (v.gs p) (max (v.place p).wide 1) (max (v.place p).high 1)
def fitV (v:Vw):Vw:={v with gs:=fun p=>if hasT v.cols p then fit1 v p else v.gs p}
def newS:Srv:=⟨fitV ⟨[[0]],fun _=>noG,20,7,0⟩,fun _=>Ps.ground,fun _=>none,0⟩
def unusedT (cols:List (List Int)):Nat:=((List.range 6).find? fun n:Nat=>!hasT cols n).getD 6
def splitS (S:Srv) (p:Int) (right:Bool):Srv×Rp:=
 if unusedT S.v.cols=6 then (S,err 5)
 else if (splitT S.v.cols p (unusedT S.v.cols) right).2=0 then
  ({S with v:=fitV {S.v with cols:=(splitT S.v.cols p (unusedT S.v.cols) right).1,focus:=unusedT S.v.cols}},⟨0,unusedT S.v.cols,[]⟩)
 else (S,err (splitT S.v.cols p (unusedT S.v.cols) right).2)
def firstT (cols:List (List Int)):Int:=(cols.getD 0 []).getD 0 0
def killS (S:Srv) (p:Int):Srv×Int:=
 if (killT S.v.cols p).2=0 then
  ({S with
    v:=fitV {S.v with cols:=(killT S.v.cols p).1,gs:=upd S.v.gs p.toNat noG,focus:=if S.v.focus=p then firstT (killT S.v.cols p).1 else S.v.focus}
    ps:=upd S.ps p.toNat Ps.ground},0)
 else (S,(killT S.v.cols p).2)
def tellS (S:Srv) (p:Nat) (l:List UInt8):Srv:=
 {S with v:={S.v with gs:=upd S.v.gs p (allG (S.v.gs p) ((Ps.feedE (S.ps p) l).map toE)).1},ps:=upd S.ps p (Ps.feedS (S.ps p) l)}
def outputS (S:Srv) (p:Int) (l:List UInt8):Srv×Int:=if hasT S.v.cols p then (tellS S p.toNat l,0) else (S,3)
def focusS (S:Srv) (p:Int):Srv×Int:=if hasT S.v.cols p then ({S with v:={S.v with focus:=p}},0) else (S,3)
def resizeS (S:Srv) (wide high:Int):Srv×Int:=if sidesS wide high then ({S with v:=fitV {S.v with wide:=wide,high:=high}},0) else (S,1)
def isCl (i:Int):Bool:=decide (0≤i∧i < 3)
def hereS (S:Srv) (i:Int):Option Cl:=if isCl i then S.cl i.toNat else none
def attachS (S:Srv) (i wide high:Int):Srv×Int:=
 if isCl i then (if (S.cl i.toNat).isSome then (S,4) else if sidesS wide high then ({S with cl:=upd S.cl i.toNat (some ⟨[],true,newG wide high⟩)},0) else (S,1)) else (S,3)
def detachS (S:Srv) (i:Int):Srv×Int:=if (hereS S i).isSome then ({S with cl:=upd S.cl i.toNat none},0) else (S,3)
def goes (n:Int) (l:List UInt8):Nat:=(max 0 (min n l.length)).toNat
def drainS (S:Srv) (i n:Int):Srv×Rp:=
 match hereS S i with
 | none=>(S,err 3)
 | some c=>({S with cl:=upd S.cl i.toNat (some {c with q:=c.q.drop (goes n c.q)})},⟨0,goes n c.q,c.q.take (goes n c.q)⟩)
def moreC (v:Vw) (c:Cl):Pen:=if c.lost then anewP (screenV v c.g.wide c.g.high) else turnP c.g (screenV v c.g.wide c.g.high)
def showC (v:Vw) (c:Cl):Cl:=
 if c.lost=true∧c.q≠[] then c
 else if 4000 < c.q.length+(moreC v c).out.length then {c with lost:=true}
 else ⟨c.q++(moreC v c).out,false,(moreC v c).g⟩
def tickS (S:Srv):Srv:={S with cl:=fun i=>(S.cl i).map (showC S.v)}
def changeS (S:Srv) (a:Ac):Srv×Int:=
 if a.kind=2 then killS S a.p
 else if a.kind=3 then outputS S a.p a.bytes
 else if a.kind=4 then focusS S a.p
 else if a.kind=5 then resizeS S a.n a.m
 else if a.kind=6 then attachS S a.p a.n a.m
 else if a.kind=7 then detachS S a.p
 else if a.kind=8 then (tickS S,0)
 else (S,2)
def actS (S:Srv) (a:Ac):Srv×Rp:=
 if a.kind=1 then splitS S a.p (decide (a.n=1))
 else if a.kind=9 then drainS S a.p a.n
 else ((changeS S a).1,err (changeS S a).2)
def countS (S:Srv):Srv:={S with acts:=S.acts+1}
def doS (S:Srv) (a:Ac):Srv×Rp:=if S.acts=300 then (S,err 5) else actS (countS S) a
end Go.Proofs.YtjikokfjnbhngaaGreatDoor.Sv

/- A good server stays good, whatever is done to it; nothing of the program is in it. -/
namespace Go.Proofs.YtjikokfjnbhngaaGreatDoor.Sv
open Go.Proofs.YtjikokfjnbhngaaGreatDoor.Tl (Rc noRc whereT findT hasT goodT splitT killT OkT paneB insL)
open Go.Proofs.YtjikokfjnbhngaaGreatDoor.Pt (Vw screenV)
theorem stp_check (s:Ps.PS) (b:Int):(Ps.stp s b).2.kind=0∨checkE (toE (Ps.stp s b).2)=0:=by
 unfold Ps.stp Ps.escF Ps.cmdF Ps.endF Ps.gndF
 repeat' split
 all_goals first
  | (left;rfl)
  | (right;rfl)
  | (right;rename_i h;simp [checkE,toE,plainN,h])
theorem feed_check (l:List UInt8):∀ s,∀ e∈(Ps.feedE s l).map toE,checkE e=0:=by
 induction l with
 | nil=>intro s e he;simp [Ps.feedE] at he
 | cons c r ih=>
  intro s e he
  simp only [Ps.feedE,List.map_append,List.mem_append] at he
  rcases he with h | h
  ·unfold Ps.one at h
   split at h
   ·simp at h
   ·rename_i hk
    simp only [List.map_cons,List.map_nil,List.mem_singleton] at h
    rw [h]
    exact(stp_check s (Ps.bint c)).resolve_left hk
  ·exact ih _ e h
theorem all_zero:∀ (es:List Evt),(∀ e∈es,checkE e=0)→∀ g,Did g es (allG g es).1
 | [],_,_=>rfl
 | e::l,h,g=>by
  have h0:=h e (by simp)
  have ih:=all_zero l (fun x hx=>h x (by simp [hx])) (doneG g e)
  unfold Did at ih ⊢
  unfold allG
  rw [if_pos h0]
  exact ih
theorem told_did (g:Gr) (s:Ps.PS) (l:List UInt8):Did g ((Ps.feedE s l).map toE) (allG g ((Ps.feedE s l).map toE)).1:=all_zero _ (feed_check l s) g
theorem told_append (g:Gr) (s:Ps.PS) (a b:List UInt8):(allG g ((Ps.feedE s (a++b)).map toE)).1=(allG (allG g ((Ps.feedE s a).map toE)).1 ((Ps.feedE (Ps.feedS s a) b).map toE)).1:=by
 rw [Ps.feedE_append,List.map_append]
 have h:=(told_did g s a).append (told_did (allG g ((Ps.feedE s a).map toE)).1 (Ps.feedS s a) b)
 unfold Did at h
 rw [h]
theorem insL_perm {α:Type} (l:List α) (i:Nat) (x:α):(insL l i x).Perm (x::l):=by
 unfold insL
 have:=List.perm_middle (a:=x) (l₁:=l.take i) (l₂:=l.drop i)
 rwa [List.take_append_drop] at this
theorem set_split {α:Type} (l:List α) (i:Nat) (h:i < l.length) (x:α):l.set i x=l.take i++x::l.drop (i+1):=by
 rw [List.set_eq_take_append_cons_drop,if_pos h]
theorem at_split {α:Type} (l:List α) (i:Nat) (h:i < l.length):l=l.take i++l[i]::l.drop (i+1):=by
 conv=>lhs;rw [←List.take_append_drop i l,List.drop_eq_getElem_cons h]
theorem split_right (cols:List (List Int)) (i:Nat) (n:Int):(insL cols i [n]).flatten.Perm (n::cols.flatten):=by
 have h:(insL cols i [n]).flatten=(cols.take i).flatten++n::(cols.drop i).flatten:=by
  unfold insL
  rw [List.flatten_append,List.flatten_cons]
  rfl
 rw [h]
 refine List.perm_middle.trans (List.Perm.cons _ ?_)
 rw [←List.flatten_append,List.take_append_drop]
theorem split_below (cols:List (List Int)) (i:Nat) (h:i < cols.length) (j:Nat) (n:Int):(cols.set i (insL cols[i] j n)).flatten.Perm (n::cols.flatten):=by
 rw [set_split cols i h]
 have e:cols.flatten=(cols.take i).flatten++(cols[i]++(cols.drop (i+1)).flatten):=by
  conv=>lhs;rw [at_split cols i h]
  rw [List.flatten_append,List.flatten_cons]
 rw [e,List.flatten_append,List.flatten_cons]
 refine(List.Perm.append_left _ ((insL_perm cols[i] j n).append_right _)).trans ?_
 rw [List.cons_append]
 exact List.perm_middle
theorem erase_perm {α:Type} (l:List α) (i:Nat) (h:i < l.length):(l[i]::l.eraseIdx i).Perm l:=by
 rw [List.eraseIdx_eq_take_drop_succ]
 refine List.perm_middle.symm.trans ?_
 rw [←at_split l i h]
theorem kill_col (cols:List (List Int)) (i:Nat) (h:i < cols.length) (p:Int) (hp:cols[i]=[p]):(p::(cols.eraseIdx i).flatten).Perm cols.flatten:=by
 rw [List.eraseIdx_eq_take_drop_succ]
 have e:cols.flatten=(cols.take i).flatten++(p::(cols.drop (i+1)).flatten):=by
  conv=>lhs;rw [at_split cols i h]
  rw [List.flatten_append,List.flatten_cons,hp]
  rfl
 rw [e,List.flatten_append]
 exact List.perm_middle.symm
theorem kill_one (cols:List (List Int)) (i:Nat) (h:i < cols.length) (j:Nat) (hj:j < cols[i].length) (p:Int) (hp:cols[i][j]=p):(p::(cols.set i (cols[i].eraseIdx j)).flatten).Perm cols.flatten:=by
 rw [set_split cols i h]
 have e:cols.flatten=(cols.take i).flatten++(cols[i]++(cols.drop (i+1)).flatten):=by
  conv=>lhs;rw [at_split cols i h]
  rw [List.flatten_append,List.flatten_cons]
 rw [e,List.flatten_append,List.flatten_cons]
 refine List.perm_middle.symm.trans (List.Perm.append_left _ ?_)
 rw [←List.cons_append]
 refine List.Perm.append_right _ ?_
 have:=erase_perm cols[i] j hj
 rwa [hp] at this
theorem has_of_perm {t cols:List (List Int)} {n:Int} (h:t.flatten.Perm (n::cols.flatten)) (q:Int):hasT t q=true↔q=n∨hasT cols q=true:=by
 rw [Tl.hasT_iff,Tl.hasT_iff,h.mem_iff,List.mem_cons]
theorem split_ok {cols:List (List Int)} (ok:OkT cols) {p n:Int} {right:Bool} (h:(splitT cols p n right).2=0):
  OkT (splitT cols p n right).1∧hasT cols n=false∧∀ q,hasT (splitT cols p n right).1 q=true↔q=n∨hasT cols q=true:=by
 unfold splitT at h ⊢
 have hg:=(Tl.goodT_iff cols).2 ok
 by_cases hpn:paneB n=false
 ·rw [if_pos (.inr hpn)] at h
  simp at h
 ·rw [if_neg (by rw [hg];simp [hpn])] at h ⊢
  have hpn':paneB n=true:=by simpa using hpn
  cases hf:findT p cols with
  | none=>rw [hf] at h;simp at h
  | some x=>
   obtain⟨i,j⟩:=x
   simp only [hf] at h ⊢
   obtain⟨hi,hj,hp⟩:=Tl.findT_get hf
   by_cases hn:hasT cols n=true
   ·rw [if_pos hn] at h;simp at h
   ·have hn':hasT cols n=false:=by simpa using hn
    have hnm:n ∉ cols.flatten:=fun e=>hn (Tl.hasT_iff.2 e)
    rw [if_neg hn] at h ⊢
    cases right with
    | true=>
     rw [if_pos rfl]
     have hpm:=split_right cols (i+1) n
     refine⟨⟨?_,?_,?_,?_⟩,hn',has_of_perm hpm⟩
     ·simp [insL];omega
     ·intro c hc
      have:=(insL_perm cols (i+1) [n]).mem_iff.1 hc
      rcases List.mem_cons.1 this with e | e
      ·subst e;simp
      ·exact ok.tall c e
     ·intro q hq
      rcases List.mem_cons.1 (hpm.mem_iff.1 hq) with e | e
      ·rw [e];exact hpn'
      ·exact ok.pane q e
     ·exact hpm.nodup_iff.2 (List.nodup_cons.2 ⟨hnm,ok.once⟩)
    | false=>
     rw [if_neg (by simp)] at h ⊢
     have ed:cols.getD i []=cols[i]:=by simp [List.getD,hi]
     rw [ed] at h ⊢
     by_cases h3:cols[i].length=3
     ·rw [if_pos h3] at h;simp at h
     ·rw [if_neg h3]
      have hpm:=split_below cols i hi (j+1) n
      have ht:=ok.tall cols[i] (List.getElem_mem hi)
      refine⟨⟨?_,?_,?_,?_⟩,hn',has_of_perm hpm⟩
      ·simp;exact ok.some
      ·intro c hc
       rcases List.mem_or_eq_of_mem_set hc with e | e
       ·exact ok.tall c e
       ·have:=(insL_perm cols[i] (j+1) n).length_eq
        rw [e,this]
        simp
        omega
      ·intro q hq
       rcases List.mem_cons.1 (hpm.mem_iff.1 hq) with e | e
       ·rw [e];exact hpn'
       ·exact ok.pane q e
      ·exact hpm.nodup_iff.2 (List.nodup_cons.2 ⟨hnm,ok.once⟩)
theorem kill_ok {cols:List (List Int)} (ok:OkT cols) {p:Int} (h:(killT cols p).2=0):
  OkT (killT cols p).1∧hasT cols p=true∧hasT (killT cols p).1 p=false∧∀ q,q≠p→hasT (killT cols p).1 q=hasT cols q:=by
 have key:∀ t:List (List Int),(p::t.flatten).Perm cols.flatten→(0 < t.length)→(∀ c∈t,1≤c.length∧c.length≤3)→OkT t∧hasT cols p=true∧hasT t p=false∧∀ q,q≠p→hasT t q=hasT cols q:=by
  intro t hpm h0 htall
  have hnd:=hpm.nodup_iff.2 ok.once
  rw [List.nodup_cons] at hnd
  refine⟨⟨h0,htall,fun q hq=>ok.pane q (hpm.mem_iff.1 (by simp [hq])),hnd.2⟩,Tl.hasT_iff.2 (hpm.mem_iff.1 (by simp)),?_,fun q hq=>?_⟩
  ·cases e:hasT t p
   ·rfl
   ·exact absurd (Tl.hasT_iff.1 e) hnd.1
  ·have:hasT t q=true↔hasT cols q=true:=by
    rw [Tl.hasT_iff,Tl.hasT_iff, ←hpm.mem_iff,List.mem_cons]
    exact⟨fun e=>.inr e,fun e=>e.resolve_left hq⟩
   cases e1:hasT t q <;>cases e2:hasT cols q <;>simp_all
 unfold killT at h ⊢
 have hg:=(Tl.goodT_iff cols).2 ok
 rw [if_neg (by rw [hg];simp)] at h ⊢
 cases hf:findT p cols with
 | none=>rw [hf] at h;simp at h
 | some x=>
  obtain⟨i,j⟩:=x
  simp only [hf] at h ⊢
  obtain⟨hi,hj,hp⟩:=Tl.findT_get hf
  have ed:cols.getD i []=cols[i]:=by simp [List.getD,hi]
  rw [ed] at h ⊢
  have ht:=ok.tall cols[i] (List.getElem_mem hi)
  by_cases h1:cols[i].length=1
  ·rw [if_pos h1] at h ⊢
   by_cases h2:cols.length=1
   ·rw [if_pos h2] at h;simp at h
   ·rw [if_neg h2]
    have hc:cols[i]=[p]:=by
     obtain⟨a,ha⟩:=List.length_eq_one_iff.1 h1
     have hj0:j=0:=by omega
     subst hj0
     simp only [ha,List.getElem_cons_zero] at hp
     rw [ha,hp]
    refine key _ (kill_col cols i hi p hc) ?_ (fun c hcm=>ok.tall c (List.mem_of_mem_eraseIdx hcm))
    rw [List.length_eraseIdx,if_pos hi]
    have:=ok.some
    omega
  ·rw [if_neg h1]
   refine key _ (kill_one cols i hi j hj p hp) (by simp;exact ok.some) (fun c hcm=>?_)
   rcases List.mem_or_eq_of_mem_set hcm with e | e
   ·exact ok.tall c e
   ·rw [e,List.length_eraseIdx,if_pos hj]
    omega
theorem first_has {cols:List (List Int)} (ok:OkT cols):hasT cols (firstT cols)=true:=by
 have h0:=ok.some
 have ht:=ok.tall cols[0] (List.getElem_mem h0)
 have e:firstT cols=cols[0][0]:=by
  unfold firstT
  simp [List.getD,h0,show 0 < cols[0].length by omega]
 rw [e]
 exact Tl.hasT_iff.2 (List.mem_flatten.2 ⟨cols[0],List.getElem_mem h0,List.getElem_mem _⟩)
theorem unused_has {cols:List (List Int)} (h:unusedT cols≠6):unusedT cols < 6∧hasT cols (unusedT cols)=false:=by
 unfold unusedT at h ⊢
 cases e:(List.range 6).find? fun n:Nat=>!hasT cols n with
 | none=>rw [e] at h;simp at h
 | some n=>
  have h1:=List.find?_some e
  have h2:=List.mem_of_find?_eq_some e
  simp only [Option.getD_some]
  exact⟨List.mem_range.1 h2,by simpa using h1⟩
structure OkC (c:Cl):Prop where
 g:OkG c.g
 short:c.q.length≤4000
structure OkV (v:Vw):Prop where
 t:OkT v.cols
 focus:hasT v.cols v.focus=true
 w1:1≤v.wide
 w2:v.wide≤24
 h1:1≤v.high
 h2:v.high≤10
 here:∀ p:Nat,p < 6→hasT v.cols p=true→OkG (v.gs p)∧(v.gs p).wide=max (v.place p).wide 1∧(v.gs p).high=max (v.place p).high 1
 gone:∀ p:Nat,p < 6→hasT v.cols p=false→v.gs p=noG
structure OkS (S:Srv):Prop where
 v:OkV S.v
 par:∀ p:Nat,p < 6→Ps.GoodS (S.ps p)
 gone:∀ p:Nat,p < 6→hasT S.v.cols p=false→S.ps p=Ps.ground
 cl:∀ i:Nat,i < 3→∀ c,S.cl i=some c→OkC c
 acts:S.acts≤300
structure WkS (S:Srv):Prop where
 t:OkT S.v.cols
 w1:1≤S.v.wide
 w2:S.v.wide≤24
 h1:1≤S.v.high
 h2:S.v.high≤10
 grid:∀ p:Nat,p < 6→S.v.gs p=noG∨OkG (S.v.gs p)
 par:∀ p:Nat,p < 6→Ps.GoodS (S.ps p)
 cl:∀ i:Nat,i < 3→∀ c,S.cl i=some c→OkC c
theorem has_pane {cols:List (List Int)} (ok:OkT cols) {p:Int} (h:hasT cols p=true):0≤p∧p < 6:=by
 have:=ok.pane p (Tl.hasT_iff.1 h)
 simpa [paneB] using this
theorem place_sides {v:Vw} (w1:1≤v.wide) (w2:v.wide≤24) (h1:1≤v.high) (h2:v.high≤10) (p:Int):1≤max (v.place p).wide 1∧max (v.place p).wide 1≤24∧1≤max (v.place p).high 1∧max (v.place p).high 1≤10:=by
 obtain⟨⟨a1,a2,a3,a4,a5,a6⟩,_⟩:=Tl.where_in v.cols v.wide v.high p (by omega) (by omega) (by omega) (by omega) _ rfl
 unfold Vw.place
 omega
theorem new_wh {wide high:Int} (h:sidesS wide high=true):(newG wide high).wide=wide∧(newG wide high).high=high:=by
 simp only [sidesS,decide_eq_true_eq] at h
 refine⟨?_,?_⟩
 ·show max 1 (min wide 24)=wide;omega
 ·show max 1 (min high 10)=high;omega
theorem fitted_ok {g:Gr} (h:g=noG∨OkG g) {wide high:Int} (hs:sidesS wide high=true):OkG (fittedG g wide high)∧(fittedG g wide high).wide=wide∧(fittedG g wide high).high=high:=by
 obtain⟨e1,e2⟩:=new_wh hs
 unfold fittedG
 by_cases h0:g.wide=0
 ·rw [if_pos h0]
  exact⟨ok_new _ _,e1,e2⟩
 ·rw [if_neg h0]
  have ok:OkG g:=h.resolve_left (fun e=>h0 (by rw [e];rfl))
  by_cases hw:g.wide=wide∧g.high=high
  ·rw [if_pos hw]
   exact⟨ok,hw.1,hw.2⟩
  ·rw [if_neg hw,if_pos ((goodG_iff g).2 ok)]
   exact⟨ok_res ok wide high,e1,e2⟩
theorem fit_place (v:Vw) (p:Int):(fitV v).place p=v.place p:=rfl
theorem fit_ok {v:Vw} (ok:OkT v.cols) (hf:hasT v.cols v.focus=true) (w1:1≤v.wide) (w2:v.wide≤24) (h1:1≤v.high) (h2:v.high≤10)
  (here:∀ p:Nat,p < 6→hasT v.cols p=true→v.gs p=noG∨OkG (v.gs p)) (gone:∀ p:Nat,p < 6→hasT v.cols p=false→v.gs p=noG):OkV (fitV v):=by
 refine⟨ok,hf,w1,w2,h1,h2,fun p hp hh=>?_,fun p hp hh=>?_⟩
 ·have hh':hasT v.cols p=true:=hh
  have hs:=place_sides w1 w2 h1 h2 p
  have:=fitted_ok (here p hp hh') (wide:=max (v.place p).wide 1) (high:=max (v.place p).high 1) (by simp only [sidesS,decide_eq_true_eq];omega)
  show OkG (if hasT v.cols p=true then fit1 v p else v.gs p)∧(if hasT v.cols p=true then fit1 v p else v.gs p).wide=_∧(if hasT v.cols p=true then fit1 v p else v.gs p).high=_
  rw [if_pos hh']
  exact this
 ·have hh':hasT v.cols p=false:=hh
  show (if hasT v.cols p=true then fit1 v p else v.gs p)=noG
  rw [if_neg (by rw [hh'];simp)]
  exact gone p hp hh'
theorem ok_newS:OkS newS:=by
 refine⟨?_,fun _ _=>Ps.good_ground,fun _ _ _=>rfl,fun _ _ c h=>by simp [newS] at h,by simp [newS]⟩
 refine fit_ok ⟨by decide,by simp,by simp [paneB],by simp⟩ (by decide) (by decide) (by decide) (by decide) (by decide) (fun _ _ _=>.inl rfl) (fun _ _ _=>rfl)
theorem OkV.grid {v:Vw} (h:OkV v) (p:Nat) (hp:p < 6):v.gs p=noG∨OkG (v.gs p):=by
 cases e:hasT v.cols p
 ·exact .inl (h.gone p hp e)
 ·exact .inr (h.here p hp e).1
theorem OkS.wk {S:Srv} (h:OkS S):WkS S:=⟨h.v.t,h.v.w1,h.v.w2,h.v.h1,h.v.h2,h.v.grid,h.par,h.cl⟩
theorem wk_cl {S:Srv} (h:WkS S) (i:Nat) (x:Option Cl) (hx:∀ c,x=some c→OkC c):WkS {S with cl:=upd S.cl i x}:=by
 refine⟨h.t,h.w1,h.w2,h.h1,h.h2,h.grid,h.par,fun j hj c hc=>?_⟩
 by_cases e:j=i
 ·have hc':upd S.cl i x j=some c:=hc
  rw [e,upd_at] at hc'
  exact hx c hc'
 ·have hc':upd S.cl i x j=some c:=hc
  rw [upd_ne _ _ e] at hc'
  exact h.cl j hj c hc'
theorem ok_count {S:Srv} (h:OkS S) (ha:S.acts≠300):OkS (countS S):=⟨h.v,h.par,h.gone,h.cl,by have:=h.acts;show S.acts+1≤300;omega⟩
theorem ok_split {S:Srv} (h:OkS S) (p:Int) (right:Bool):OkS (splitS S p right).1:=by
 unfold splitS
 by_cases h6:unusedT S.v.cols=6
 ·rw [if_pos h6];exact h
 ·rw [if_neg h6]
  by_cases he:(splitT S.v.cols p (unusedT S.v.cols) right).2=0
  ·rw [if_pos he]
   obtain⟨k1,k2,k3⟩:=split_ok h.v.t he
   obtain⟨u1,u2⟩:=unused_has h6
   have hno:∀ q:Nat,hasT (splitT S.v.cols p (unusedT S.v.cols) right).1 q=false→hasT S.v.cols q=false:=fun q hq=>by
    cases e:hasT S.v.cols q
    ·rfl
    ·rw [(k3 q).2 (.inr e)] at hq;simp at hq
   refine⟨fit_ok k1 ((k3 _).2 (.inl rfl)) h.v.w1 h.v.w2 h.v.h1 h.v.h2 (fun q hq _=>h.v.grid q hq) (fun q hq hh=>h.v.gone q hq (hno q hh)),h.par,fun q hq hh=>h.gone q hq (hno q hh),h.cl,h.acts⟩
  ·rw [if_neg he];exact h
theorem ok_kill {S:Srv} (h:OkS S) (p:Int):OkS (killS S p).1:=by
 unfold killS
 by_cases he:(killT S.v.cols p).2=0
 ·rw [if_pos he]
  obtain⟨k1,k2,k3,k4⟩:=kill_ok h.v.t he
  obtain⟨p1,p2⟩:=has_pane h.v.t k2
  have hpc:((p.toNat:Nat):Int)=p:=Int.toNat_of_nonneg p1
  have hgs:∀ q:Nat,q < 6→upd S.v.gs p.toNat noG q=noG∨OkG (upd S.v.gs p.toNat noG q):=fun q hq=>by
   by_cases e:q=p.toNat
   ·left;rw [e,upd_at]
   ·rw [upd_ne _ _ e];exact h.v.grid q hq
  have hne:∀ q:Nat,q≠p.toNat→(q:Int)≠p:=fun q hq e=>hq (by omega)
  refine⟨fit_ok k1 ?_ h.v.w1 h.v.w2 h.v.h1 h.v.h2 (fun q hq _=>hgs q hq) (fun q hq hh=>?_),fun q hq=>?_,fun q hq hh=>?_,h.cl,h.acts⟩
  ·by_cases e:S.v.focus=p
   ·simp only [if_pos e];exact first_has k1
   ·simp only [if_neg e];rw [k4 _ e];exact h.v.focus
  ·by_cases e:q=p.toNat
   ·show upd S.v.gs p.toNat noG q=noG
    rw [e,upd_at]
   ·show upd S.v.gs p.toNat noG q=noG
    rw [upd_ne _ _ e]
    have hh':hasT (killT S.v.cols p).1 q=false:=hh
    rw [k4 _ (hne q e)] at hh'
    exact h.v.gone q hq hh'
  ·by_cases e:q=p.toNat
   ·show Ps.GoodS (upd S.ps p.toNat Ps.ground q)
    rw [e,upd_at];exact Ps.good_ground
   ·show Ps.GoodS (upd S.ps p.toNat Ps.ground q)
    rw [upd_ne _ _ e];exact h.par q hq
  ·by_cases e:q=p.toNat
   ·show upd S.ps p.toNat Ps.ground q=Ps.ground
    rw [e,upd_at]
   ·show upd S.ps p.toNat Ps.ground q=Ps.ground
    rw [upd_ne _ _ e]
    have hh':hasT (killT S.v.cols p).1 q=false:=hh
    rw [k4 _ (hne q e)] at hh'
    exact h.gone q hq hh'
 ·rw [if_neg he];exact h
theorem ok_tell {S:Srv} (h:OkS S) (p:Nat) (hp:p < 6) (hh:hasT S.v.cols p=true) (l:List UInt8):OkS (tellS S p l):=by
 obtain⟨g1,g2,g3⟩:=h.v.here p hp hh
 obtain⟨k1,k2,k3,k4⟩:=did_ok (told_did (S.v.gs p) (S.ps p) l) g1
 refine⟨⟨h.v.t,h.v.focus,h.v.w1,h.v.w2,h.v.h1,h.v.h2,fun q hq hq2=>?_,fun q hq hq2=>?_⟩,fun q hq=>?_,fun q hq hq2=>?_,h.cl,h.acts⟩
 ·by_cases e:q=p
  ·subst e
   show OkG (upd S.v.gs q _ q)∧(upd S.v.gs q _ q).wide=_∧(upd S.v.gs q _ q).high=_
   rw [upd_at]
   exact⟨k1,k2.trans g2,k3.trans g3⟩
  ·show OkG (upd S.v.gs p _ q)∧(upd S.v.gs p _ q).wide=_∧(upd S.v.gs p _ q).high=_
   rw [upd_ne _ _ e]
   exact h.v.here q hq hq2
 ·have e:q≠p:=fun e=>by
   have hq3:hasT S.v.cols q=false:=hq2
   rw [e,hh] at hq3;simp at hq3
  show upd S.v.gs p _ q=noG
  rw [upd_ne _ _ e]
  exact h.v.gone q hq hq2
 ·by_cases e:q=p
  ·subst e
   show Ps.GoodS (upd S.ps q _ q)
   rw [upd_at];exact Ps.good_feed _ (h.par q hq) l
  ·show Ps.GoodS (upd S.ps p _ q)
   rw [upd_ne _ _ e];exact h.par q hq
 ·have e:q≠p:=fun e=>by
   have hq3:hasT S.v.cols q=false:=hq2
   rw [e,hh] at hq3;simp at hq3
  show upd S.ps p _ q=Ps.ground
  rw [upd_ne _ _ e]
  exact h.gone q hq hq2
theorem ok_output {S:Srv} (h:OkS S) (p:Int) (l:List UInt8):OkS (outputS S p l).1:=by
 unfold outputS
 by_cases hh:hasT S.v.cols p=true
 ·rw [if_pos hh]
  obtain⟨p1,p2⟩:=has_pane h.v.t hh
  have hpc:((p.toNat:Nat):Int)=p:=Int.toNat_of_nonneg p1
  exact ok_tell h p.toNat (by omega) (by rw [hpc];exact hh) l
 ·rw [if_neg hh];exact h
theorem ok_focus {S:Srv} (h:OkS S) (p:Int):OkS (focusS S p).1:=by
 unfold focusS
 by_cases hh:hasT S.v.cols p=true
 ·rw [if_pos hh]
  exact⟨⟨h.v.t,hh,h.v.w1,h.v.w2,h.v.h1,h.v.h2,h.v.here,h.v.gone⟩,h.par,h.gone,h.cl,h.acts⟩
 ·rw [if_neg hh];exact h
theorem ok_resize {S:Srv} (h:OkS S) (wide high:Int):OkS (resizeS S wide high).1:=by
 unfold resizeS
 by_cases hs:sidesS wide high=true
 ·rw [if_pos hs]
  simp only [sidesS,decide_eq_true_eq] at hs
  exact⟨fit_ok h.v.t h.v.focus hs.1 hs.2.1 hs.2.2.1 hs.2.2.2 (fun q hq _=>h.v.grid q hq) h.v.gone,h.par,h.gone,h.cl,h.acts⟩
 ·rw [if_neg hs];exact h
theorem ok_cl {S:Srv} (h:OkS S) (i:Nat) (x:Option Cl) (hx:∀ c,x=some c→OkC c):OkS {S with cl:=upd S.cl i x}:=by
 refine⟨h.v,h.par,h.gone,fun j hj c hc=>?_,h.acts⟩
 by_cases e:j=i
 ·have hc':upd S.cl i x j=some c:=hc
  rw [e,upd_at] at hc'
  exact hx c hc'
 ·have hc':upd S.cl i x j=some c:=hc
  rw [upd_ne _ _ e] at hc'
  exact h.cl j hj c hc'
theorem ok_attach {S:Srv} (h:OkS S) (i wide high:Int):OkS (attachS S i wide high).1:=by
 unfold attachS
 split
 ·split
  ·exact h
  ·split
   ·exact ok_cl h _ _ (fun c e=>by cases e;exact⟨ok_new _ _,by simp⟩)
   ·exact h
 ·exact h
theorem ok_detach {S:Srv} (h:OkS S) (i:Int):OkS (detachS S i).1:=by
 unfold detachS
 split
 ·exact ok_cl h _ _ (fun c e=>by cases e)
 ·exact h
theorem here_ok {S:Srv} (h:OkS S) {i:Int} {c:Cl} (hc:hereS S i=some c):0≤i∧i < 3∧S.cl i.toNat=some c∧OkC c:=by
 unfold hereS at hc
 split at hc
 ·rename_i hi
  simp only [isCl,decide_eq_true_eq] at hi
  exact⟨hi.1,hi.2,hc,h.cl _ (by omega) c hc⟩
 ·cases hc
theorem ok_drain {S:Srv} (h:OkS S) (i n:Int):OkS (drainS S i n).1:=by
 unfold drainS
 cases hc:hereS S i with
 | none=>exact h
 | some c=>
  obtain⟨_,_,_,k⟩:=here_ok h hc
  refine ok_cl h _ _ (fun d e=>?_)
  cases e
  refine⟨k.g,?_⟩
  have:=k.short
  simp only [List.length_drop]
  omega
theorem screen_ok {v:Vw} (h:OkV v) (wide high:Int):OkG (screenV v wide high)∧(screenV v wide high).col < (screenV v wide high).wide∧(screenV v wide high).wide=(newG wide high).wide∧(screenV v wide high).high=(newG wide high).high:=by
 have k:=ok_new wide high
 have kw:=k.w1
 have kh:=k.h1
 refine⟨⟨k.w1,k.w2,k.h1,k.h2,k.size,fun i hi=>?_,?_,?_,?_,?_,k.i1,k.i2,k.t1,k.t2,k.t3⟩,?_,rfl,rfl⟩
 ·show goodC (Pt.cellsV v (newG wide high).wide (newG wide high).high i)=true
  unfold Pt.cellsV
  split
  ·unfold Pt.footT
   split
   ·refine goodC_ch _ _ _ ?_ (by decide) (by decide)
    simp only [plainN,decide_eq_true_eq]
    omega
   ·exact goodC_ch _ _ _ (by decide) (by decide) (by decide)
  ·unfold Pt.cellT
   split
   ·split
    ·rename_i p hp
     have hp6:p < 6:=List.mem_range.1 (List.mem_of_find?_eq_some hp)
     have hin:=List.find?_some hp
     unfold atG
     split
     ·rename_i hh
      rcases h.grid p hp6 with e | e
      ·rw [e] at hh
       simp [noG] at hh
       omega
      ·have:=Int.mul_nonneg hh.2.2.1 (show 0≤(v.gs p).wide by have:=e.w1;omega)
       exact e.cells _ (by omega)
     ·exact goodC_no
    ·split
     ·exact goodC_ch _ _ _ (by decide) (by decide) (by decide)
     ·exact goodC_ch _ _ _ (by decide) (by decide) (by decide)
   ·exact goodC_ch _ _ _ (by decide) (by decide) (by decide)
 ·show 0≤max 0 (min _ _);omega
 ·show max 0 (min _ ((newG wide high).high - 1)) < (newG wide high).high;omega
 ·show 0≤max 0 (min _ _);omega
 ·show max 0 (min _ ((newG wide high).wide - 1))≤(newG wide high).wide;omega
 ·show max 0 (min _ ((newG wide high).wide - 1)) < (newG wide high).wide;omega
theorem more_draws {v:Vw} (h:OkV v) {c:Cl} (k:OkG c.g):Draws c.g (screenV v c.g.wide c.g.high) (moreC v c):=by
 obtain⟨s1,s2,s3,s4⟩:=screen_ok h c.g.wide c.g.high
 obtain⟨n1,n2,_⟩:=new_sides k
 unfold moreC
 split
 ·exact anew_draws s1 s2 (by rw [s3,n1]) (by rw [s4,n2])
 ·exact turn_draws k s1 s2 (by rw [s3,n1]) (by rw [s4,n2])
theorem ok_show {v:Vw} (h:OkV v) {c:Cl} (k:OkC c):OkC (showC v c):=by
 have d:=more_draws h k.g
 unfold showC
 split
 ·exact k
 ·split
  ·exact⟨k.g,k.short⟩
  ·refine⟨d.ok,?_⟩
   simp only [List.length_append]
   omega
theorem ok_tick {S:Srv} (h:OkS S):OkS (tickS S):=by
 refine⟨h.v,h.par,h.gone,fun i hi c hc=>?_,h.acts⟩
 have hc':(S.cl i).map (showC S.v)=some c:=hc
 cases e:S.cl i with
 | none=>rw [e] at hc';cases hc'
 | some d=>
  rw [e] at hc'
  cases hc'
  exact ok_show h.v (h.cl i hi d e)
theorem ok_change {S:Srv} (h:OkS S) (a:Ac):OkS (changeS S a).1:=by
 unfold changeS
 split
 ·exact ok_kill h _
 split
 ·exact ok_output h _ _
 split
 ·exact ok_focus h _
 split
 ·exact ok_resize h _ _
 split
 ·exact ok_attach h _ _ _
 split
 ·exact ok_detach h _
 split
 ·exact ok_tick h
 ·exact h
theorem ok_act {S:Srv} (h:OkS S) (a:Ac):OkS (actS S a).1:=by
 unfold actS
 split
 ·exact ok_split h _ _
 split
 ·exact ok_drain h _ _
 ·exact ok_change h a
theorem ok_do {S:Srv} (h:OkS S) (a:Ac):OkS (doS S a).1:=by
 unfold doS
 split
 ·exact h
 ·rename_i ha
  exact ok_act (ok_count h ha) a
end Go.Proofs.YtjikokfjnbhngaaGreatDoor.Sv

/- A server in memory: its block, its clients' blocks, its lists. -/
namespace Go.Proofs.YtjikokfjnbhngaaGreatDoor.Sv
open Go.RowKit
open Go.Proofs.YtjikokfjnbhngaaGreatDoor.Tl (CIt colsOf RdT TyT cv)
open Go.Proofs.YtjikokfjnbhngaaGreatDoor.Pt (Vw vlist gall)
structure Lay where
 sb:Nat
 l:Pt.Lay
 pa:Nat→Option Addr
 pc:Nat→Nat
 cb:Nat→Nat
 ca:Nat→Option Addr
 cc:Nat→Nat
@[reducible] def pcells (s:Ps.PS) (ao:Option Addr) (cap:Nat):List Value:=[.int .i64 s.place,.slice ao s.ps.length cap,.string s.pl,.bool s.lg]
@[reducible] def pval (s:Ps.PS) (ao:Option Addr) (cap:Nat):Value:=.agg (pcells s ao cap).toArray
def pall (S:Srv) (L:Lay):List Value:=pcells (S.ps 0) (L.pa 0) (L.pc 0)++pcells (S.ps 1) (L.pa 1) (L.pc 1)++pcells (S.ps 2) (L.pa 2) (L.pc 2)++pcells (S.ps 3) (L.pa 3) (L.pc 3)++pcells (S.ps 4) (L.pa 4) (L.pc 4)++pcells (S.ps 5) (L.pa 5) (L.pc 5)
def cad (S:Srv) (L:Lay) (i:Nat):Option Addr:=if (S.cl i).isSome then some ⟨L.cb i,0,none⟩ else none
def slist (S:Srv) (L:Lay):List Value:=vlist S.v L.l++pall S L++[.pointer (cad S L 0),.pointer (cad S L 1),.pointer (cad S L 2),.int .i64 S.acts]
def scells (S:Srv) (L:Lay):Array Value:=(slist S L).toArray
@[reducible] def sbox (S:Srv) (L:Lay):Obj:=.cells (scells S L) 86
@[reducible] def clcells (c:Cl) (ao:Option Addr) (cap:Nat):Array Value:=#[.string (bs c.q),.bool c.lost,.int .i64 c.g.wide,.int .i64 c.g.high,.slice ao c.g.n cap,.int .i64 c.g.row,.int .i64 c.g.col,.int .i64 c.g.ink,.bool c.g.bold,.int .i64 c.g.top,.int .i64 c.g.bottom]
@[reducible] def clbox (c:Cl) (ao:Option Addr) (cap:Nat):Obj:=.cells (clcells c ao cap) 81
theorem tsrv_cell:(86:TypeId)≠66:=by decide
theorem tsrv_list:(86:TypeId)≠35:=by decide
theorem tsrv_int:(86:TypeId)≠3:=by decide
theorem tcl_cell:(81:TypeId)≠66:=by decide
theorem tcl_list:(81:TypeId)≠35:=by decide
theorem tcl_int:(81:TypeId)≠3:=by decide
theorem tsrv_cl:(86:TypeId)≠81:=by decide
def Gl (w:World) (ao:Option Addr) (cap:Nat) (g:Gr):Prop:=(g.n=0∧ao=none∧cap=0)∨∃ b,ao=some ⟨b,0,none⟩∧Scr w b g.n g.f∧g.n≤cap
def Pl (w:World) (ao:Option Addr) (cap:Nat) (l:List Int):Prop:=Ps.Own 0 w ao cap l
structure SrvIn (w:World) (S:Srv) (L:Lay):Prop where
 ok:WkS S
 box:w.heap[L.sb]?=some (sbox S L)
 cols:S.v.cols=colsOf L.l.its
 rd:RdT w L.l.co L.l.its
 ty:TyT w L.l.co L.l.its
 gs:∀ p,p < 6→Gl w (L.l.ga p) (L.l.gc p) (S.v.gs p)
 ps:∀ p,p < 6→Pl w (L.pa p) (L.pc p) (S.ps p).ps
 cl:∀ i,i < 3→∀ c,S.cl i=some c→w.heap[L.cb i]?=some (clbox c (L.ca i) (L.cc i))∧Gl w (L.ca i) (L.cc i) c.g
 apart:∀ i j,i < 3→j < 3→i≠j→(S.cl i).isSome=true→(S.cl j).isSome=true→L.cb i≠L.cb j
def Mut (S:Srv) (L:Lay) (b:Nat):Prop:=b=L.sb∨∃ i,i < 3∧(S.cl i).isSome=true∧b=L.cb i
structure Kp (M:Nat→Prop) (w w':World):Prop where
 os:w'.os=w.os
 tape:w'.tape=w.tape
 output:w'.output=w.output
 size:w.heap.size≤w'.heap.size
 block:∀ b,b < w.heap.size→¬ M b→w'.heap[b]?=w.heap[b]?
theorem Kp.refl (M:Nat→Prop) (w:World):Kp M w w:=⟨rfl,rfl,rfl,Nat.le_refl _,fun _ _ _=>rfl⟩
theorem Kp.of_below (M:Nat→Prop) {w w':World} (h:Below w.heap.size w w'):Kp M w w':=⟨h.os,h.tape,h.output,h.size,fun b hb _=>h.block b hb⟩
theorem Kp.of_grown {M:Nat→Prop} {w w':World} {b:Nat} (hb:M b) (h:w.grownBy w' (some b)):Kp M w w':=
 ⟨h.os,h.tape,h.output,h.size,fun k hk hm=>h.block k hk (fun e=>hm (by simp only [Option.some.injEq] at e;rw [e];exact hb))⟩
theorem Kp.set {M:Nat→Prop} (w:World) {p:Addr} (hp:M p.block) (u:Value):Kp M w (w.setCell p u):=
 ⟨rfl,rfl,rfl,by simp,fun b _ hm=>Below.heap_setCell _ _ _ _ (fun e=>hm (by rw [e];exact hp))⟩
theorem Kp.trans {M N:Nat→Prop} {a b c:World} (h:Kp M a b) (k:Kp N b c) (hN:∀ i,N i→M i∨a.heap.size≤i):Kp M a c:=
 ⟨k.os.trans h.os,k.tape.trans h.tape,k.output.trans h.output,Nat.le_trans h.size k.size,fun i hi hm=>
  (k.block i (Nat.lt_of_lt_of_le hi h.size) (fun e=>(hN i e).elim hm (fun e=>by omega))).trans (h.block i hi hm)⟩
theorem Kp.drew {M:Nat→Prop} {a b:World} (h:Kp M a b):Kp M a b.drew:=⟨h.os,h.tape,h.output,h.size,h.block⟩
theorem Kp.drewN {M:Nat→Prop} {a b:World} (h:Kp M a b) (n:Nat):Kp M a (b.drewN n):=⟨h.os,h.tape,h.output,h.size,h.block⟩
theorem Kp.at {M:Nat→Prop} {w w':World} (h:Kp M w w') {b:Nat} {o:Obj} (hb:w.heap[b]?=some o) (hm:¬ M b):w'.heap[b]?=some o:=by
 rw [h.block b (Array.getElem?_eq_some_iff.1 hb).1 hm];exact hb
theorem SrvIn.other {w:World} {S:Srv} {L:Lay} (h:SrvIn w S L) {b:Nat} {c:Array Value} {t:TypeId} {fr:Nat×Nat} (hb:w.heap[b]?=some (.cells c t fr)) (h1:86≠t) (h2:81≠t):¬ Mut S L b:=by
 rintro(e | ⟨i,hi,hs,e⟩)
 ·rw [e,h.box] at hb
  simp only [Option.some.injEq,Obj.cells.injEq] at hb
  exact h1 hb.2.1
 ·obtain⟨x,hx⟩:=Option.isSome_iff_exists.1 hs
  rw [e,(h.cl i hi x hx).1] at hb
  simp only [Option.some.injEq,Obj.cells.injEq] at hb
  exact h2 hb.2.1
theorem SrvIn.mut_lt {w:World} {S:Srv} {L:Lay} (h:SrvIn w S L) {b:Nat} (hb:Mut S L b):b < w.heap.size:=by
 rcases hb with e | ⟨i,hi,hs,e⟩
 ·rw [e];exact(Array.getElem?_eq_some_iff.1 h.box).1
 ·obtain⟨x,hx⟩:=Option.isSome_iff_exists.1 hs
  rw [e];exact(Array.getElem?_eq_some_iff.1 (h.cl i hi x hx).1).1
theorem SrvIn.sb_cb {w:World} {S:Srv} {L:Lay} (h:SrvIn w S L) {i:Nat} (hi:i < 3) {c:Cl} (hc:S.cl i=some c):L.sb≠L.cb i:=by
 intro e
 have h1:=h.box
 rw [e,(h.cl i hi c hc).1] at h1
 simp only [Option.some.injEq,Obj.cells.injEq] at h1
 exact tsrv_cl h1.2.1.symm
theorem Gl.keep {w w':World} {ao:Option Addr} {cap:Nat} {g:Gr} (h:Gl w ao cap g) (hk:∀ (b:Nat) (c:Array Value),w.heap[b]?=some (.cells c 66 (0,0))→w'.heap[b]?=w.heap[b]?):Gl w' ao cap g:=by
 rcases h with h | ⟨b,ha,hs,hc⟩
 ·exact .inl h
 ·refine .inr ⟨b,ha,?_,hc⟩
  obtain⟨cur,h1,_⟩:=id hs
  exact hs.move (hk b cur h1)
theorem Gl.below {w w':World} {ao:Option Addr} {cap:Nat} {g:Gr} (h:Gl w ao cap g) (hb:Below w.heap.size w w'):Gl w' ao cap g:=h.keep fun b _ hc=>hb.block b (Array.getElem?_eq_some_iff.1 hc).1
theorem Gl.rd {w:World} {ao:Option Addr} {cap:Nat} {g:Gr} (h:Gl w ao cap g):RdS w ao g.n g.f:=by
 rcases h with h | ⟨b,ha,hs,_⟩
 ·exact .inl h.1
 ·rw [ha];exact hs.rd
theorem Gl.none {w:World} {ao:Option Addr} {cap:Nat} {g:Gr} (h:Gl w ao cap g):ao=none→g.n=0∧cap=0:=by
 intro e
 rcases h with h | ⟨b,ha,_⟩
 ·exact⟨h.1,h.2.2⟩
 ·rw [e] at ha;cases ha
theorem Gl.cap {w:World} {ao:Option Addr} {cap:Nat} {g:Gr} (h:Gl w ao cap g):g.n≤cap:=by
 rcases h with h | ⟨b,_,_,hc⟩
 ·rw [h.1];exact Nat.zero_le _
 ·exact hc
theorem Pl.keep {w w':World} {ao:Option Addr} {cap:Nat} {l:List Int} (h:Pl w ao cap l) (hk:∀ (b:Nat) (c:Array Value),w.heap[b]?=some (.cells c 3 (0,0))→w'.heap[b]?=w.heap[b]?):Pl w' ao cap l:=by
 refine⟨h.1,?_⟩
 rcases h.2 with h0 | ⟨g,c',cur,hv,hbb,hg,rest⟩
 ·exact .inl h0
 ·exact .inr ⟨g,c',cur,hv,hbb,by rw [hk g cur hg];exact hg,rest⟩
theorem Pl.rd {w:World} {ao:Option Addr} {cap:Nat} {l:List Int} (h:Pl w ao cap l):Ps.Rd w ao l:=Ps.Own.rd h
theorem Pl.none {w:World} {ao:Option Addr} {cap:Nat} {l:List Int} (h:Pl w ao cap l):ao=none→l.length=0∧cap=0:=by
 intro e
 rcases h.2 with ⟨hv,h0⟩ | ⟨g,c',cur,hv,_⟩
 ·simp only [Value.slice.injEq] at hv;exact⟨h0,hv.2.2⟩
 ·simp only [Value.slice.injEq] at hv;rw [e] at hv;cases hv.1
theorem RdT.keep {w w':World} {co:Option Addr} {its:List CIt} (h:RdT w co its) (ht:TyT w co its) (hk:∀ (b:Nat) (c:Array Value) (t:TypeId),t=35∨t=3→w.heap[b]?=some (.cells c t (0,0))→w'.heap[b]?=w.heap[b]?):RdT w' co its:=by
 refine⟨fun x hx=>⟨?_,(h.each x hx).2⟩,?_⟩
 ·rcases(h.each x hx).1 with h0 | ⟨b,off,ha,hc⟩
  ·exact .inl h0
  ·obtain⟨c,hb⟩:=ht.inner x hx _ ha
   refine .inr ⟨b,off,ha,fun j hj=>?_⟩
   rw [World.cell?_of_block (hk b c 3 (.inr rfl) hb)]
   exact hc j hj
 ·rcases h.row with h0 | ⟨b,off,ha,hc⟩
  ·exact .inl h0
  ·obtain⟨c,hb⟩:=ht.outer _ ha
   refine .inr ⟨b,off,ha,fun k hk2=>?_⟩
   rw [World.cell?_of_block (hk b c _ (.inl rfl) hb)]
   exact hc k hk2
theorem TyT.keep {w w':World} {co:Option Addr} {its:List CIt} (ht:TyT w co its) (hk:∀ (b:Nat) (c:Array Value) (t:TypeId),t=35∨t=3→w.heap[b]?=some (.cells c t (0,0))→w'.heap[b]?=w.heap[b]?):TyT w' co its:=
 ⟨fun a ha=>by obtain⟨c,hb⟩:=ht.outer a ha;exact⟨c,by rw [hk _ c _ (.inl rfl) hb];exact hb⟩,fun x hx a ha=>by obtain⟨c,hb⟩:=ht.inner x hx a ha;exact⟨c,by rw [hk _ c _ (.inr rfl) hb];exact hb⟩⟩
theorem SrvIn.keep {w w':World} {S:Srv} {L:Lay} (h:SrvIn w S L) {M:Nat→Prop} (k:Kp M w w') (hM:∀ b,M b→b < w.heap.size→(∃ (c:Array Value) (t:TypeId) (fr:Nat×Nat),w.heap[b]?=some (.cells c t fr)∧(t=86∨t=81))∧¬ Mut S L b):SrvIn w' S L:=by
 have key:∀ (b:Nat) (c:Array Value) (t:TypeId),t≠86→t≠81→w.heap[b]?=some (.cells c t (0,0))→w'.heap[b]?=w.heap[b]?:=fun b c t h1 h2 hb=>by
  refine k.block b (Array.getElem?_eq_some_iff.1 hb).1 (fun hm=>?_)
  obtain⟨⟨c',t',fr,hc,ht⟩,_⟩:=hM b hm (Array.getElem?_eq_some_iff.1 hb).1
  rw [hb] at hc
  simp only [Option.some.injEq,Obj.cells.injEq] at hc
  rw [hc.2.1] at h1 h2
  exact ht.elim h1 h2
 have hm:∀ b,Mut S L b→w'.heap[b]?=w.heap[b]?:=fun b hb=>k.block b (h.mut_lt hb) (fun e=>(hM b e (h.mut_lt hb)).2 hb)
 have hT:∀ (b:Nat) (c:Array Value) (t:TypeId),t=35∨t=3→w.heap[b]?=some (.cells c t (0,0))→w'.heap[b]?=w.heap[b]?:=fun b c t ht hb=>by
  rcases ht with e | e
  ·exact key b c t (by rw [e];decide) (by rw [e];decide) hb
  ·exact key b c t (by rw [e];decide) (by rw [e];decide) hb
 exact⟨h.ok,by rw [hm _ (.inl rfl)];exact h.box,h.cols,RdT.keep h.rd h.ty hT,TyT.keep h.ty hT,fun p hp=>(h.gs p hp).keep fun b c hb=>key b c _ (by decide) (by decide) hb,
  fun p hp=>(h.ps p hp).keep fun b c hb=>key b c 3 (by decide) (by decide) hb,
  fun i hi c hc=>⟨by rw [hm _ (.inr ⟨i,hi,by rw [hc];rfl,rfl⟩)];exact(h.cl i hi c hc).1,(h.cl i hi c hc).2.keep fun b c hb=>key b c _ (by decide) (by decide) hb⟩,h.apart⟩
theorem SrvIn.below {w w':World} {S:Srv} {L:Lay} (h:SrvIn w S L) (hb:Below w.heap.size w w'):SrvIn w' S L:=
 h.keep (M:=fun _=>False) (Kp.of_below _ hb) (fun _ e=>e.elim)
theorem SrvIn.alloc {w:World} {S:Srv} {L:Lay} (h:SrvIn w S L) (o:Obj):SrvIn (w.alloc o) S L:=h.below (below1 w o)
theorem SrvIn.drewN {w:World} {S:Srv} {L:Lay} (h:SrvIn w S L) (n:Nat):SrvIn (w.drewN n) S L:=h.below (below_drewN (Below.refl _ _) n)
theorem SrvIn.drew {w:World} {S:Srv} {L:Lay} (h:SrvIn w S L):SrvIn w.drew S L:=h.below ((Below.refl _ _).drew)
def Ours (t:TypeId):Prop:=t=86∨t=81∨t=66∨t=35∨t=3
theorem SrvIn.same {w w':World} {S:Srv} {L:Lay} (h:SrvIn w S L) (hk:∀ (b:Nat) (x:Array Value) (t:TypeId),Ours t→w.heap[b]?=some (.cells x t (0,0))→w'.heap[b]?=w.heap[b]?):SrvIn w' S L:=by
 have hT:∀ (b:Nat) (x:Array Value) (t:TypeId),t=35∨t=3→w.heap[b]?=some (.cells x t (0,0))→w'.heap[b]?=w.heap[b]?:=fun b x t ht hb=>hk b x t (ht.elim (fun e=>.inr (.inr (.inr (.inl e)))) (fun e=>.inr (.inr (.inr (.inr e))))) hb
 exact⟨h.ok,by rw [hk _ _ _ (.inl rfl) h.box];exact h.box,h.cols,RdT.keep h.rd h.ty hT,TyT.keep h.ty hT,fun p hp=>(h.gs p hp).keep fun b c hb=>hk b c _ (.inr (.inr (.inl rfl))) hb,
  fun p hp=>(h.ps p hp).keep fun b c hb=>hk b c 3 (.inr (.inr (.inr (.inr rfl)))) hb,
  fun i hi c hc=>⟨by rw [hk _ _ _ (.inr (.inl rfl)) (h.cl i hi c hc).1];exact(h.cl i hi c hc).1,(h.cl i hi c hc).2.keep fun b c hb=>hk b c _ (.inr (.inr (.inl rfl))) hb⟩,h.apart⟩
theorem SrvIn.set {w:World} {S:Srv} {L:Lay} (h:SrvIn w S L) {B:Nat} {c:Array Value} {t:TypeId} {fr:Nat×Nat} (hb:w.heap[B]?=some (.cells c t fr)) (ht:¬ Ours t) (j:Nat) (u:Value):SrvIn (w.setCell ⟨B,j,none⟩ u) S L:=
 h.same fun b x t' ht' hx=>Below.heap_setCell _ _ _ _ (fun e=>by
  simp only at e
  subst e
  rw [hb] at hx
  simp only [Option.some.injEq,Obj.cells.injEq] at hx
  exact ht (hx.2.1 ▸ ht'))
structure SrvTo (w:World) (S:Srv) (L:Lay) (S':Srv) (L':Lay) (w':World):Prop where
 srv:SrvIn w' S' L'
 sb:L'.sb=L.sb
 kp:Kp (Mut S L) w w'
 cb:∀ i,i < 3→(S'.cl i).isSome=true→((S.cl i).isSome=true∧L'.cb i=L.cb i)∨w.heap.size≤L'.cb i
theorem SrvTo.mut {w:World} {S:Srv} {L:Lay} {S':Srv} {L':Lay} {w':World} (h:SrvTo w S L S' L' w') {b:Nat} (hb:Mut S' L' b):Mut S L b∨w.heap.size≤b:=by
 rcases hb with e | ⟨i,hi,hs,e⟩
 ·exact .inl (.inl (by rw [e,h.sb]))
 ·rcases h.cb i hi hs with ⟨h1,h2⟩ | h1
  ·exact .inl (.inr ⟨i,hi,h1,by rw [e,h2]⟩)
  ·exact .inr (by rw [e];exact h1)
theorem SrvTo.refl {w:World} {S:Srv} {L:Lay} (h:SrvIn w S L):SrvTo w S L S L w:=⟨h,rfl,Kp.refl _ _,fun _ _ hs=>.inl ⟨hs,rfl⟩⟩
theorem SrvTo.trans {w w1 w2:World} {S S1 S2:Srv} {L L1 L2:Lay} (h:SrvTo w S L S1 L1 w1) (k:SrvTo w1 S1 L1 S2 L2 w2):SrvTo w S L S2 L2 w2:=by
 refine⟨k.srv,k.sb.trans h.sb,h.kp.trans k.kp (fun i hi=>h.mut hi),fun i hi hs=>?_⟩
 have hsz:=h.kp.size
 rcases k.cb i hi hs with ⟨h1,h2⟩ | h1
 ·rcases h.cb i hi h1 with ⟨h3,h4⟩ | h3
  ·exact .inl ⟨h3,h2.trans h4⟩
  ·exact .inr (by rw [h2];exact h3)
 ·exact .inr (by omega)
theorem SrvTo.from {w w1 w2:World} {S S2:Srv} {L L2:Lay} (hb:Below w.heap.size w w1) (k:SrvTo w1 S L S2 L2 w2):SrvTo w S L S2 L2 w2:=
 ⟨k.srv,k.sb,(Kp.of_below _ hb).trans k.kp (fun _ hi=>.inl hi),fun i hi hs=>(k.cb i hi hs).elim .inl (fun e=>.inr (by have:=hb.size;omega))⟩
theorem SrvTo.later {w w1 w2:World} {S S2:Srv} {L L2:Lay} (k:SrvTo w S L S2 L2 w1) (hb:Below w1.heap.size w1 w2):SrvTo w S L S2 L2 w2:=
 ⟨k.srv.below hb,k.sb,k.kp.trans (N:=fun _=>False) (Kp.of_below _ hb) (fun _ e=>e.elim),k.cb⟩
theorem SrvTo.set {w w1:World} {S S2:Srv} {L L2:Lay} (k:SrvTo w S L S2 L2 w1) {B:Nat} {c:Array Value} {t:TypeId} {fr:Nat×Nat} (hb:w1.heap[B]?=some (.cells c t fr)) (ht:¬ Ours t) (hB:w.heap.size≤B) (j:Nat) (u:Value):SrvTo w S L S2 L2 (w1.setCell ⟨B,j,none⟩ u):=
 ⟨k.srv.set hb ht j u,k.sb,k.kp.trans (N:=fun b=>b=B) (Kp.set (M:=fun b=>b=B) w1 (p:=⟨B,j,none⟩) rfl u) (fun i e=>.inr (by rw [e];exact hB)),k.cb⟩
theorem slist_length (S:Srv) (L:Lay):(slist S L).length=86:=rfl
theorem scells_size (S:Srv) (L:Lay):(scells S L).size=86:=rfl
theorem pall_at (S:Srv) (L:Lay) (p j:Nat) (hp:p < 6) (hj:j < 4):(pall S L)[p*4+j]?=(pcells (S.ps p) (L.pa p) (L.pc p))[j]?:=by
 have h1:p=0∨p=1∨p=2∨p=3∨p=4∨p=5:=by omega
 have h2:j=0∨j=1∨j=2∨j=3:=by omega
 rcases h1 with rfl | rfl | rfl | rfl | rfl | rfl <;>rcases h2 with rfl | rfl | rfl | rfl <;>rfl
theorem scells_view (S:Srv) (L:Lay) (j:Nat) (hj:j < 58):(scells S L)[j]?=(vlist S.v L.l)[j]?:=by
 show (slist S L).toArray[j]?=_
 rw [List.getElem?_toArray,slist,List.append_assoc,List.getElem?_append_left (by rw [Pt.vlist_length];exact hj)]
theorem scells_par (S:Srv) (L:Lay) (p j:Nat) (hp:p < 6) (hj:j < 4):(scells S L)[58+(p*4+j)]?=(pcells (S.ps p) (L.pa p) (L.pc p))[j]?:=by
 show (slist S L).toArray[58+(p*4+j)]?=_
 rw [List.getElem?_toArray,slist,List.append_assoc,List.getElem?_append_right (by rw [Pt.vlist_length];omega),Pt.vlist_length,List.getElem?_append_left (by show _ < 24;omega)]
 have:58+(p*4+j) - 58=p*4+j:=by omega
 rw [this]
 exact pall_at S L p j hp hj
theorem scells_cl (S:Srv) (L:Lay) (i:Nat) (hi:i < 3):(scells S L)[82+i]?=some (.pointer (cad S L i)):=by
 have:i=0∨i=1∨i=2:=by omega
 rcases this with rfl | rfl | rfl <;>rfl
theorem scells_acts (S:Srv) (L:Lay):(scells S L)[85]?=some (.int .i64 S.acts):=rfl
theorem SrvIn.frozen {w:World} {S:Srv} {L:Lay} (h:SrvIn w S L) (j:Nat):w.frozen? ⟨L.sb,j,none⟩=false:=frozen_of_row w L.sb j _ _ h.box
theorem SrvIn.cell {w:World} {S:Srv} {L:Lay} (h:SrvIn w S L) (j:Nat):w.cell? ⟨L.sb,j,none⟩=(scells S L)[j]?:=cell_of_row w L.sb j _ _ _ h.box
theorem SrvIn.acts {w:World} {S:Srv} {L:Lay} (h:SrvIn w S L):w.cell? ⟨L.sb,85,none⟩=some (.int .i64 S.acts):=(h.cell 85).trans (scells_acts S L)
theorem SrvIn.ptr {w:World} {S:Srv} {L:Lay} (h:SrvIn w S L) (i:Nat) (hi:i < 3):w.cell? ⟨L.sb,82+i,none⟩=some (.pointer (cad S L i)):=(h.cell _).trans (scells_cl S L i hi)
theorem SrvIn.tiles {w:World} {S:Srv} {L:Lay} (h:SrvIn w S L):w.cell? ⟨L.sb,0,none⟩=some (.slice L.l.co L.l.its.length L.l.cap):=(h.cell 0).trans rfl
theorem SrvIn.sides {w:World} {S:Srv} {L:Lay} (h:SrvIn w S L):w.cell? ⟨L.sb,55,none⟩=some (.int .i64 S.v.wide)∧w.cell? ⟨L.sb,56,none⟩=some (.int .i64 S.v.high)∧w.cell? ⟨L.sb,57,none⟩=some (.int .i64 S.v.focus):=
 ⟨(h.cell 55).trans rfl,(h.cell 56).trans rfl,(h.cell 57).trans rfl⟩
theorem SrvIn.view {w:World} {S:Srv} {L:Lay} (h:SrvIn w S L):w.rangeAt L.sb 0 (vlist S.v L.l):=fun j x hx=>by
 have hj:j < 58:=(List.getElem?_eq_some_iff.1 hx).1
 rw [Nat.zero_add,h.cell j,scells_view S L j hj]
 exact hx
theorem SrvIn.grid {w:World} {S:Srv} {L:Lay} (h:SrvIn w S L) (p:Nat) (hp:p < 6):w.rangeAt L.sb (1+p*9) (gcells (S.v.gs p) (L.l.ga p) (L.l.gc p)).toList:=fun j x hx=>by
 have hj:j < 9:=(List.getElem?_eq_some_iff.1 hx).1
 have e:1+p*9+j=(p*9+j)+1:=by omega
 rw [h.cell,scells_view S L _ (by omega),e]
 show (gall S.v L.l++_)[p*9+j]?=_
 rw [List.getElem?_append_left (by rw [Pt.gall_length];omega),Pt.gall_at S.v L.l p j hp hj]
 simpa using hx
theorem SrvIn.par {w:World} {S:Srv} {L:Lay} (h:SrvIn w S L) (p:Nat) (hp:p < 6):w.rangeAt L.sb (58+p*4) (pcells (S.ps p) (L.pa p) (L.pc p)):=fun j x hx=>by
 have hj:j < 4:=(List.getElem?_eq_some_iff.1 hx).1
 rw [h.cell,show 58+p*4+j=58+(p*4+j) by omega,scells_par S L p j hp hj]
 exact hx
theorem SrvIn.there {w:World} {S:Srv} {L:Lay} (h:SrvIn w S L) (o n:Nat) (hn:o+n≤86):w.there L.sb o n:=fun j hj=>by
 have hlt:o+j < (scells S L).size:=by rw [scells_size];omega
 refine⟨?_,h.frozen _⟩
 rw [h.cell,Array.getElem?_eq_getElem hlt]
 rfl
theorem SrvIn.rdV {w:World} {S:Srv} {L:Lay} (h:SrvIn w S L):Pt.RdV w S.v L.l:=by
 have h6:=Tl.good_len h.ok.t
 have hl:L.l.its.length≤6:=by rw [h.cols] at h6;simpa using h6
 have h3:∀ x∈L.l.its,x.1.length≤3:=fun x hx=>(h.ok.t.tall x.1 (by rw [h.cols];exact List.mem_map.2 ⟨x,hx,rfl⟩)).2
 refine⟨h.cols,h.rd,fun p hp=>(h.gs p hp).rd,by omega,fun x hx=>by have:=h3 x hx;omega,fun p hp=>?_,?_⟩
 ·rcases h.ok.grid p hp with e | e
  ·rw [e];show 0≤_;omega
  ·obtain⟨q1,q2,_⟩:=e.nums
   omega
 ·have:=Tl.nodup_le S.v.cols.flatten [0,1,2,3,4,5] h.ok.t.once (fun p hp=>by
   have:=h.ok.t.pane p hp
   simp only [Tl.paneB,decide_eq_true_eq] at this
   have:p=0∨p=1∨p=2∨p=3∨p=4∨p=5:=by omega
   simpa using this)
  simp only [List.length_cons,List.length_nil] at this
  omega
end Go.Proofs.YtjikokfjnbhngaaGreatDoor.Sv

/- A server's small functions: numbers of clients, sides, which client is here. -/
namespace Go.Proofs.YtjikokfjnbhngaaGreatDoor.Sv
open Go.RowKit
set_option maxRecDepth 100000
theorem ret_bool {a b:Bool} (h:a=b):Ending.returned (.bool a)=.returned (.bool b):=by rw [h]
theorem isClient_any (i:Int) (w:World):Calls Tryz.prog 61 #[.int .i64 i] w fun e w'=>e=.returned (.bool (isCl i))∧w'=w:=by
 by_cases h1:0≤i
 ·go_enter Tryz.func61,Tryz.ntmps61
  go_wp2
  go_ret
  exact⟨ret_bool (by simp [isCl,h1]),rfl⟩
 ·have h1':i < 0:=by omega
  go_enter Tryz.func61,Tryz.ntmps61
  go_wp2
  go_ret
  exact⟨ret_bool (by simp [isCl];omega),rfl⟩
theorem goodSides_any (wide high:Int) (w:World):Calls Tryz.prog 91 #[.int .i64 wide,.int .i64 high] w fun e w'=>e=.returned (.bool (sidesS wide high))∧w'=w:=by
 by_cases h1:1≤wide
 ·by_cases h2:wide≤24
  ·by_cases h3:1≤high
   ·go_enter Tryz.func91,Tryz.ntmps91
    go_wp2
    go_ret
    exact⟨ret_bool (by simp [sidesS,h1,h2,h3]),rfl⟩
   ·have h3':high < 1:=by omega
    go_enter Tryz.func91,Tryz.ntmps91
    go_wp2
    go_ret
    exact⟨ret_bool (by simp [sidesS];omega),rfl⟩
  ·have h2':24 < wide:=by omega
   go_enter Tryz.func91,Tryz.ntmps91
   go_wp2
   go_ret
   exact⟨ret_bool (by simp [sidesS];omega),rfl⟩
 ·have h1':wide < 1:=by omega
  go_enter Tryz.func91,Tryz.ntmps91
  go_wp2
  go_ret
  exact⟨ret_bool (by simp [sidesS];omega),rfl⟩
theorem find_nil (i:Int) (w:World):Calls Tryz.prog 37 #[.pointer none,.int .i64 i] w fun e w'=>e=.returned (.pointer none)∧w'=w:=by
 go_enter Tryz.func37,Tryz.ntmps37
 go_wp2
 go_ret
 exact⟨rfl,rfl⟩
def fad (S:Srv) (L:Lay) (i:Int):Option Addr:=if isCl i then cad S L i.toNat else none
theorem ret_ptr {a b:Option Addr} (h:a=b):Ending.returned (.pointer a)=.returned (.pointer b):=by rw [h]
theorem find_any (i:Int) (w:World) (S:Srv) (L:Lay) (h:SrvIn w S L):Calls Tryz.prog 37 #[.pointer (some ⟨L.sb,0,none⟩),.int .i64 i] w fun e w'=>e=.returned (.pointer (fad S L i))∧w'=w:=by
 cases hi:isCl i
 ·have HC:Hid (∀ w,Calls Tryz.prog 61 #[.int .i64 i] w fun e w'=>e=.returned (.bool false)∧w'=w):=fun w=>by rw [←hi];exact isClient_any i w
  have HF:Hid (fad S L i=none):=by show fad S L i=none;unfold fad;rw [hi];rfl
  clear h hi
  go_enter Tryz.func37,Tryz.ntmps37
  go_wp2_with (go_at_call 61;refine(HC.out _).mono ?_;rintro e w1 ⟨rfl,hw1⟩;subst w1)
  go_ret
  exact⟨ret_ptr HF.out.symm,rfl⟩
 ·have HC:Hid (∀ w,Calls Tryz.prog 61 #[.int .i64 i] w fun e w'=>e=.returned (.bool true)∧w'=w):=fun w=>by rw [←hi];exact isClient_any i w
  have hi2:0≤i∧i < 3:=by simpa [isCl] using hi
  obtain⟨n,rfl⟩:=Int.eq_ofNat_of_zero_le hi2.1
  have hn:n < 3:=by omega
  have HF:Hid (fad S L (n:Int)=cad S L n):=by show fad S L _=_;unfold fad;rw [hi];rfl
  have hp:=h.ptr n hn
  have hn':(n:Int) < 3:=by omega
  have hn0:(0:Int)≤(n:Int):=by omega
  have hlt:=(Array.getElem?_eq_some_iff.1 h.box).1
  clear h hi hi2
  go_enter Tryz.func37,Tryz.ntmps37
  go_wp2_with (go_at_call 61;refine(HC.out _).mono ?_;rintro e w1 ⟨rfl,hw1⟩;subst w1)
  go_ret
  exact⟨ret_ptr HF.out.symm,rfl⟩
end Go.Proofs.YtjikokfjnbhngaaGreatDoor.Sv
