/- Boxes of three texts, of three truths; what becomes of a client. -/
import Derived.Test.YtjikokfjnbhngaaGreatDoorSPlayM
import Derived.Test.YtjikokfjnbhngaaGreatDoorMSClient
namespace Go.Proofs.YtjikokfjnbhngaaGreatDoor.Sv
open Go.RowKit
set_option maxRecDepth 100000
def qv (S:Srv) (i:Nat):List UInt8:=match S.cl i with
 | none=>[]
 | some c=>c.q
def lv (S:Srv) (i:Nat):Bool:=match S.cl i with
 | none=>false
 | some c=>c.lost
@[reducible] def scs (f:Nat→List UInt8):Array Value:=#[.string (bs (f 0)),.string (bs (f 1)),.string (bs (f 2))]
@[reducible] def bcs (f:Nat→Bool):Array Value:=#[.bool (f 0),.bool (f 1),.bool (f 2)]
@[reducible] def strbox (f:Nat→List UInt8):Obj:=.cells (scs f) 47
@[reducible] def boolbox (f:Nat→Bool):Obj:=.cells (bcs f) 48
def mix {α:Type} (j:Nat) (f g:Nat→α) (i:Nat):α:=if i < j then g i else f i
theorem scs_at (f:Nat→List UInt8) (i:Nat) (hi:i < 3):(scs f)[i]?=some (.string (bs (f i))):=by
 have:i=0∨i=1∨i=2:=by omega
 rcases this with rfl | rfl | rfl <;>rfl
theorem bcs_at (f:Nat→Bool) (i:Nat) (hi:i < 3):(bcs f)[i]?=some (.bool (f i)):=by
 have:i=0∨i=1∨i=2:=by omega
 rcases this with rfl | rfl | rfl <;>rfl
theorem scs_put (f g:Nat→List UInt8) (j:Nat) (hj:j < 3):(scs (mix j f g)).setIfInBounds j (.string (bs (g j)))=scs (mix (j+1) f g):=by
 have:j=0∨j=1∨j=2:=by omega
 rcases this with rfl | rfl | rfl <;>rfl
theorem bcs_put (f g:Nat→Bool) (j:Nat) (hj:j < 3):(bcs (mix j f g)).setIfInBounds j (.bool (g j))=bcs (mix (j+1) f g):=by
 have:j=0∨j=1∨j=2:=by omega
 rcases this with rfl | rfl | rfl <;>rfl
theorem mix_here {α:Type} (j:Nat) (f g:Nat→α):mix j f g j=f j:=if_neg (by omega)
theorem mix_zero {α:Type} (f g:Nat→α):mix 0 f g=f:=funext fun i=>if_neg (by omega)
theorem scs_three (f g:Nat→List UInt8):scs (mix 3 f g)=scs g:=rfl
theorem bcs_three (f g:Nat→Bool):bcs (mix 3 f g)=bcs g:=rfl
theorem str_foreign:¬ Ours 47:=by unfold Ours;decide
theorem bool_foreign:¬ Ours 48:=by unfold Ours;decide
theorem PlIn.put {M:Nat→Prop} {w:World} {x:Srv×(Nat→Tm)} {L:Lay} {TB:Nat} {T:TL} {wr:World} (h:PlIn M w x L TB T wr) {B:Nat} {c:Array Value} {t:TypeId} (hb:wr.heap[B]?=some (.cells c t (0,0))) (h1:¬ Ours t) (h2:t≠76) (hM:M B) (j:Nat) (u:Value):PlIn M w x L TB T (wr.setCell ⟨B,j,none⟩ u):=by
 have ne:∀ (b:Nat) (y:Array Value) (ty:TypeId),ty≠t→wr.heap[b]?=some (.cells y ty (0,0))→(wr.setCell ⟨B,j,none⟩ u).heap[b]?=wr.heap[b]?:=fun b y ty hty hy=>Below.heap_setCell _ _ _ _ (fun e=>by
  simp only at e
  subst e
  rw [hb] at hy
  simp only [Option.some.injEq,Obj.cells.injEq] at hy
  exact hty hy.2.1.symm)
 refine⟨h.srv.set hb h1 j u,h.mine,⟨by rw [ne _ _ _ (fun e=>h2 e.symm) h.tms.box];exact h.tms.box,fun i hi=>(h.tms.pl i hi).keep fun b y hy=>ne b y _ (fun e=>h1 (e ▸ .inr (.inr (.inr (.inr rfl))))) hy,fun i hi=>(h.tms.gl i hi).keep fun b y hy=>ne b y _ (fun e=>h1 (e ▸ .inr (.inr (.inl rfl)))) hy⟩,h.tb,h.kp.trans (N:=fun b=>b=B) (set_kp wr B j u) (fun i e=>.inl (by rw [e];exact hM))⟩
theorem bs_ne {l:List UInt8} (h:l≠[]):¬ (bs l=⟨#[]⟩):=fun e=>h (by
 have:=congrArg (fun b=>b.data.toList) e
 simpa using this)
def Way (a:Ac) (r:Rp) (q0:List UInt8) (b0:Bool) (o:Option Cl):Prop:=
 o=none∨(∃ c:Cl,o=some c∧c.q.length≤4000∧(a.kind==8)=false)∨
 (∃ c:Cl,o=some c∧c.q.length≤4000∧(a.kind==8)=true∧r.code=0∧c.lost=true∧q0≠[]∧c.q=q0)∨
 (∃ c:Cl,o=some c∧c.q.length≤4000∧(a.kind==8)=true∧r.code=0∧c.lost=false∧b0=true)∨
 (∃ (c:Cl) (m:List UInt8),o=some c∧c.q.length≤4000∧(a.kind==8)=true∧r.code=0∧c.lost=false∧b0=false∧c.q=q0++m)
theorem way_any {x:Srv×(Nat→Tm)} {n:Nat} (h:OkP x n) (hn:n < 300) (a:Ac) (i:Nat) (hi:i < 3):Way a (doS x.1 a).2 (qv x.1 i) (lv x.1 i) ((doS x.1 a).1.cl i):=by
 have ok':=ok_do h.ok a
 cases hc:(doS x.1 a).1.cl i with
 | none=>exact .inl rfl
 | some c=>
  have hs:=(ok'.cl i hi c hc).short
  by_cases hk:a.kind=8
  ·have e8:(a.kind==8)=true:=by simpa using hk
   obtain⟨kind,p,m,q,bytes⟩:=a
   simp only at hk
   subst hk
   have hf:x.1.acts≠300:=by have:=h.acts;omega
   rw [do_tick hf] at hc ⊢
   have hc':(x.1.cl i).map (showC x.1.v)=some c:=hc
   cases e:x.1.cl i with
   | none=>rw [e] at hc';cases hc'
   | some d=>
    rw [e] at hc'
    cases hc'
    have eq:qv x.1 i=d.q:=by unfold qv;rw [e]
    have el:lv x.1 i=d.lost:=by unfold lv;rw [e]
    rw [eq,el]
    cases hl:(showC x.1.v d).lost with
    | true=>
     obtain⟨q1,q2⟩:=show_lost h.ok.v (h.ok.cl i hi d e) hl
     exact .inr (.inr (.inl ⟨_,rfl,hs,e8,rfl,hl,q1,q2⟩))
    | false=>
     cases hd:d.lost with
     | true=>exact .inr (.inr (.inr (.inl ⟨_,rfl,hs,e8,rfl,hl,rfl⟩)))
     | false=>
      obtain⟨m',hm⟩:=show_more x.1.v d
      exact .inr (.inr (.inr (.inr ⟨_,m',rfl,hs,e8,rfl,hl,rfl,hm⟩)))
  ·exact .inr (.inl ⟨c,rfl,hs,by simpa using hk⟩)
end Go.Proofs.YtjikokfjnbhngaaGreatDoor.Sv
