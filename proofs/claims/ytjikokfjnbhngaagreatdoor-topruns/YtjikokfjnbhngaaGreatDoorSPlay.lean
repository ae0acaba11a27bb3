/- Terminals that are fed with what clients get: the plain machine alone, nothing of the program is in it. -/
import Derived.Test.YtjikokfjnbhngaaGreatDoorMSMach
namespace Go.Proofs.YtjikokfjnbhngaaGreatDoor.Sv
open Go.Proofs.YtjikokfjnbhngaaGreatDoor.Pt (Vw screenV)
structure Tm where
 p:Ps.PS
 g:Gr
def getT (t:Tm) (l:List UInt8):Tm:=⟨Ps.feedS t.p l,(allG t.g ((Ps.feedE t.p l).map toE)).1⟩
theorem getT_append (t:Tm) (a b:List UInt8):getT t (a++b)=getT (getT t a) b:=by
 unfold getT
 simp only [told_append,Ps.feedS_append]
theorem getT_sends {x y:Gr} {l:List UInt8} (h:Sends x l y):getT ⟨Ps.ground,x⟩ l=⟨Ps.ground,y⟩:=by
 obtain⟨h1,h2⟩:=h.all
 unfold getT
 simp only [h1,h2]
theorem getT_nil (t:Tm):getT t []=t:=rfl
def TmC (t:Tm) (c:Cl):Prop:=getT t c.q=⟨Ps.ground,c.g⟩
theorem tm_show {v:Vw} (hv:OkV v) {t:Tm} {c:Cl} (ok:OkC c) (h:TmC t c):TmC t (showC v c):=by
 unfold showC
 split
 ·exact h
 ·split
  ·exact h
  ·unfold TmC at h ⊢
   rw [getT_append,h]
   exact getT_sends (more_draws hv ok.g).sends
theorem tm_take {t:Tm} {c:Cl} (k:Nat) (h:TmC t c):TmC (getT t (c.q.take k)) {c with q:=c.q.drop k}:=by
 unfold TmC at h ⊢
 rw [←getT_append,List.take_append_drop]
 exact h
theorem tm_new (g:Gr) (lost:Bool):TmC ⟨Ps.ground,g⟩ ⟨[],lost,g⟩:=rfl
def stepT (t:Nat→Tm) (a:Ac) (r:Rp):Nat→Tm:=
 if r.code=0∧a.kind=6 then upd t a.p.toNat ⟨Ps.ground,newG a.n a.m⟩
 else if r.code=0∧a.kind=9 then upd t a.p.toNat (getT (t a.p.toNat) r.out)
 else t
def TmS (S:Srv) (t:Nat→Tm):Prop:=∀ i,i < 3→∀ c,S.cl i=some c→TmC (t i) c
theorem split_cl (S:Srv) (p:Int) (r:Bool):(splitS S p r).1.cl=S.cl:=by unfold splitS;split;rfl;split <;>rfl
theorem kill_cl (S:Srv) (p:Int):(killS S p).1.cl=S.cl:=by unfold killS;split <;>rfl
theorem output_cl (S:Srv) (p:Int) (l:List UInt8):(outputS S p l).1.cl=S.cl:=by unfold outputS;split <;>rfl
theorem focus_cl (S:Srv) (p:Int):(focusS S p).1.cl=S.cl:=by unfold focusS;split <;>rfl
theorem resize_cl (S:Srv) (w h:Int):(resizeS S w h).1.cl=S.cl:=by unfold resizeS;split <;>rfl
theorem TmS.same {S T:Srv} {t:Nat→Tm} (h:TmS S t) (e:T.cl=S.cl):TmS T t:=fun i hi c hc=>h i hi c (by rw [←e];exact hc)
theorem stepT_no {t:Nat→Tm} {a:Ac} {r:Rp} (h6:¬ (r.code=0∧a.kind=6)) (h9:¬ (r.code=0∧a.kind=9)):stepT t a r=t:=by unfold stepT;rw [if_neg h6,if_neg h9]
theorem stepT_bad {S:Srv} {t:Nat→Tm} {a:Ac} (h:TmS S t) {n:Int} (hn:n≠0):TmS S (stepT t a (err n)):=by
 rw [stepT_no (fun e=>hn e.1) (fun e=>hn e.1)]
 exact h
theorem tm_tick {S:Srv} (ok:OkS S) {t:Nat→Tm} (h:TmS S t):TmS (tickS S) t:=fun i hi c hc=>by
 have hc':(S.cl i).map (showC S.v)=some c:=hc
 cases e:S.cl i with
 | none=>rw [e] at hc';cases hc'
 | some d=>
  rw [e] at hc'
  cases hc'
  exact tm_show ok.v (ok.cl i hi d e) (h i hi d e)
theorem tm_detach {S:Srv} {t:Nat→Tm} (h:TmS S t) (p:Int):TmS (detachS S p).1 t:=by
 unfold detachS
 split
 ·intro i hi c hc
  have hc':upd S.cl p.toNat none i=some c:=hc
  by_cases e:i=p.toNat
  ·rw [e,upd_at] at hc';cases hc'
  ·rw [upd_ne _ _ e] at hc'
   exact h i hi c hc'
 ·exact h
theorem tm_attach {S:Srv} {t:Nat→Tm} (h:TmS S t) (a:Ac) (hk:a.kind=6):TmS (attachS S a.p a.n a.m).1 (stepT t a (err (attachS S a.p a.n a.m).2)):=by
 unfold attachS
 split
 ·split
  ·exact stepT_bad (n:=4) h (by decide)
  ·split
   ·unfold stepT
    rw [if_pos ⟨rfl,hk⟩]
    intro i hi c hc
    have hc':upd S.cl a.p.toNat (some ⟨[],true,newG a.n a.m⟩) i=some c:=hc
    by_cases e:i=a.p.toNat
    ·rw [e,upd_at] at hc' ⊢
     cases hc'
     exact tm_new _ _
    ·rw [upd_ne _ _ e] at hc' ⊢
     exact h i hi c hc'
   ·exact stepT_bad (n:=1) h (by decide)
 ·exact stepT_bad (n:=3) h (by decide)
theorem here_at {S:Srv} {i:Int} {c:Cl} (h:hereS S i=some c):S.cl i.toNat=some c∧i.toNat < 3:=by
 unfold hereS isCl at h
 split at h
 ·rename_i hh
  simp only [decide_eq_true_eq] at hh
  exact⟨h,by omega⟩
 ·cases h
theorem tm_drain {S:Srv} {t:Nat→Tm} (h:TmS S t) (a:Ac) (hk:a.kind=9):TmS (drainS S a.p a.n).1 (stepT t a (drainS S a.p a.n).2):=by
 unfold drainS
 split
 ·exact stepT_bad h (by decide)
 ·rename_i c hc
  obtain⟨h1,h2⟩:=here_at hc
  have h6:¬ a.kind=6:=by omega
  unfold stepT
  rw [if_neg (fun e=>h6 e.2),if_pos ⟨rfl,hk⟩]
  intro i hi d hd
  have hd':upd S.cl a.p.toNat (some {c with q:=c.q.drop (goes a.n c.q)}) i=some d:=hd
  by_cases e:i=a.p.toNat
  ·rw [e,upd_at] at hd' ⊢
   cases hd'
   exact tm_take _ (h _ h2 c h1)
  ·rw [upd_ne _ _ e] at hd' ⊢
   exact h i hi d hd'
theorem tm_do {S:Srv} (ok:OkS S) {t:Nat→Tm} (h:TmS S t) (a:Ac):TmS (doS S a).1 (stepT t a (doS S a).2):=by
 unfold doS
 split
 ·exact stepT_bad h (by decide)
 ·have hC:TmS (countS S) t:=h
  unfold actS
  split
  ·rename_i k
   rw [stepT_no (fun e=>by omega) (fun e=>by omega)]
   exact hC.same (split_cl _ _ _)
  ·split
   ·rename_i k
    exact tm_drain hC a k
   ·rename_i k1 k9
    by_cases k6:a.kind=6
    ·have e:changeS (countS S) a=attachS (countS S) a.p a.n a.m:=by
      unfold changeS
      rw [if_neg (by omega),if_neg (by omega),if_neg (by omega),if_neg (by omega),if_pos k6]
     rw [e]
     exact tm_attach hC a k6
    ·rw [stepT_no (fun e=>k6 e.2) (fun e=>k9 e.2)]
     unfold changeS
     split
     ·exact hC.same (kill_cl _ _)
     ·split
      ·exact hC.same (output_cl _ _ _)
      ·split
       ·exact hC.same (focus_cl _ _)
       ·split
        ·exact hC.same (resize_cl _ _ _)
        ·split
         ·exact tm_detach hC _
         ·split
          ·intro i hi c hc
           have hc':(S.cl i).map (showC S.v)=some c:=hc
           cases e:S.cl i with
           | none=>rw [e] at hc';cases hc'
           | some d=>
            rw [e] at hc'
            cases hc'
            exact tm_show ok.v (ok.cl i hi d e) (h i hi d e)
          ·exact hC
theorem shown_is {v:Vw} (hv:OkV v) {c:Cl} (ok:OkC c) (hl:(showC v c).lost=false):
  (showC v c).g.row=(screenV v (showC v c).g.wide (showC v c).g.high).row∧(showC v c).g.col=(screenV v (showC v c).g.wide (showC v c).g.high).col∧
   (showC v c).g.wide=(screenV v (showC v c).g.wide (showC v c).g.high).wide∧(showC v c).g.high=(screenV v (showC v c).g.wide (showC v c).g.high).high∧
   ∀ i,i < (screenV v (showC v c).g.wide (showC v c).g.high).n→(showC v c).g.f i=(screenV v (showC v c).g.wide (showC v c).g.high).f i:=by
 have hd:=more_draws hv ok.g
 obtain⟨_,_,s3,s4⟩:=screen_ok hv c.g.wide c.g.high
 obtain⟨n1,n2,_⟩:=new_sides ok.g
 have e:(showC v c).g=(moreC v c).g:=by
  unfold showC at hl ⊢
  split at hl
  ·rename_i hh
   rw [hh.1] at hl
   cases hl
  ·split at hl
   ·cases hl
   ·rename_i h1 h2
    rw [if_neg h1,if_neg h2]
 have ew:(showC v c).g.wide=c.g.wide:=by rw [e,hd.wide,s3,n1]
 have eh:(showC v c).g.high=c.g.high:=by rw [e,hd.high,s4,n2]
 rw [ew,eh]
 exact⟨by rw [e];exact hd.row,by rw [e];exact hd.col,by rw [s3,n1],by rw [s4,n2],by rw [e];exact hd.cells⟩
structure OkTm (t:Tm):Prop where
 p:Ps.GoodS t.p
 g:OkG t.g
theorem ok_get {t:Tm} (h:OkTm t) (l:List UInt8):OkTm (getT t l):=⟨Ps.good_feed _ h.p _,(did_ok (told_did _ _ _) h.g).1⟩
theorem ok_fresh (wide high:Int):OkTm ⟨Ps.ground,newG wide high⟩:=⟨Ps.good_ground,ok_new _ _⟩
def OkTs (S:Srv) (t:Nat→Tm):Prop:=∀ i,i < 3→(S.cl i).isSome=true→OkTm (t i)
theorem OkTs.same {S T:Srv} {t:Nat→Tm} (h:OkTs S t) (e:∀ i,(T.cl i).isSome=true→(S.cl i).isSome=true):OkTs T t:=fun i hi hc=>h i hi (e i hc)
theorem okt_bad {S:Srv} {t:Nat→Tm} {a:Ac} (h:OkTs S t) {n:Int} (hn:n≠0):OkTs S (stepT t a (err n)):=by
 rw [stepT_no (fun e=>hn e.1) (fun e=>hn e.1)]
 exact h
theorem okt_attach {S:Srv} {t:Nat→Tm} (h:OkTs S t) (a:Ac) (hk:a.kind=6):OkTs (attachS S a.p a.n a.m).1 (stepT t a (err (attachS S a.p a.n a.m).2)):=by
 unfold attachS
 split
 ·split
  ·exact okt_bad (n:=4) h (by decide)
  ·split
   ·unfold stepT
    rw [if_pos ⟨rfl,hk⟩]
    intro i hi hc
    have hc':(upd S.cl a.p.toNat (some ⟨[],true,newG a.n a.m⟩) i).isSome=true:=hc
    by_cases e:i=a.p.toNat
    ·rw [e,upd_at]
     exact ok_fresh _ _
    ·rw [upd_ne _ _ e] at hc' ⊢
     exact h i hi hc'
   ·exact okt_bad (n:=1) h (by decide)
 ·exact okt_bad (n:=3) h (by decide)
theorem okt_drain {S:Srv} {t:Nat→Tm} (h:OkTs S t) (a:Ac) (hk:a.kind=9):OkTs (drainS S a.p a.n).1 (stepT t a (drainS S a.p a.n).2):=by
 unfold drainS
 split
 ·exact okt_bad (n:=3) h (by decide)
 ·rename_i c hc
  obtain⟨h1,h2⟩:=here_at hc
  have h6:¬ a.kind=6:=by omega
  unfold stepT
  rw [if_neg (fun e=>h6 e.2),if_pos ⟨rfl,hk⟩]
  intro i hi hd
  have hd':(upd S.cl a.p.toNat (some {c with q:=c.q.drop (goes a.n c.q)}) i).isSome=true:=hd
  by_cases e:i=a.p.toNat
  ·rw [e,upd_at]
   exact ok_get (h _ h2 (by rw [h1];rfl)) _
  ·rw [upd_ne _ _ e] at hd' ⊢
   exact h i hi hd'
theorem okt_do {S:Srv} {t:Nat→Tm} (h:OkTs S t) (a:Ac):OkTs (doS S a).1 (stepT t a (doS S a).2):=by
 unfold doS
 split
 ·exact okt_bad (n:=5) h (by decide)
 ·have hC:OkTs (countS S) t:=h
  unfold actS
  split
  ·rename_i k
   rw [stepT_no (fun e=>by omega) (fun e=>by omega)]
   exact hC.same (fun i hi=>by rw [split_cl] at hi;exact hi)
  ·split
   ·rename_i k
    exact okt_drain hC a k
   ·rename_i k1 k9
    by_cases k6:a.kind=6
    ·have e:changeS (countS S) a=attachS (countS S) a.p a.n a.m:=by
      unfold changeS
      rw [if_neg (by omega),if_neg (by omega),if_neg (by omega),if_neg (by omega),if_pos k6]
     rw [e]
     exact okt_attach hC a k6
    ·rw [stepT_no (fun e=>k6 e.2) (fun e=>k9 e.2)]
     unfold changeS
     split
     ·exact hC.same (fun i hi=>by rw [kill_cl] at hi;exact hi)
     ·split
      ·exact hC.same (fun i hi=>by rw [output_cl] at hi;exact hi)
      ·split
       ·exact hC.same (fun i hi=>by rw [focus_cl] at hi;exact hi)
       ·split
        ·exact hC.same (fun i hi=>by rw [resize_cl] at hi;exact hi)
        ·split
         ·unfold detachS
          split
          ·refine hC.same (fun i hi=>?_)
           have hi':(upd S.cl a.p.toNat none i).isSome=true:=hi
           by_cases e:i=a.p.toNat
           ·rw [e,upd_at] at hi';cases hi'
           ·rw [upd_ne _ _ e] at hi'
            exact hi'
          ·exact hC
         ·split
          ·refine hC.same (fun i hi=>?_)
           have hi':((S.cl i).map (showC S.v)).isSome=true:=hi
           rw [Option.isSome_map] at hi'
           exact hi'
          ·exact hC
end Go.Proofs.YtjikokfjnbhngaaGreatDoor.Sv
