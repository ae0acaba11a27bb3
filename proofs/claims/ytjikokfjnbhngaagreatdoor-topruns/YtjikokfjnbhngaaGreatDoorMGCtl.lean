/- Several texts in one, each as it was: GCtl, GDone, GGood2, GAll. -/
import Derived.Test.YtjikokfjnbhngaaGreatDoorMGMove
import Derived.Test.YtjikokfjnbhngaaGreatDoorMGDraw
import Derived.Test.YtjikokfjnbhngaaGreatDoorMGMach

/- What 'controlled' does to a screen; which events 'check' refuses. -/
namespace Go.Proofs.YtjikokfjnbhngaaGreatDoor
open Go.RowKit
theorem OkG.withCol {g:Gr} (h:OkG g) (k:Int) (h1:0≤k) (h2:k≤g.wide):OkG {g with col:=k}:=
 ⟨h.w1,h.w2,h.h1,h.h2,h.size,h.cells,h.r1,h.r2,h1,h2,h.i1,h.i2,h.t1,h.t2,h.t3⟩
set_option maxHeartbeats 1000000 in
theorem ctl8 (g:Gr) (h:OkG g) (b cap:Nat) (w:World) (hS:Scr w b g.n g.f):Calls Tryz.prog 103 #[gval g (some ⟨b,0,none⟩) cap,.int .i64 8] w (GEnd w b cap {g with col:=max (hereC g - 1) 0}):=by
 have HS:Hid (Scr w b g.n g.f):=hS
 have hw1:=h.w1
 have hw2:=h.w2
 have hk1:0≤hereC g:=by have:=h.c1;unfold hereC;omega
 have hk2:hereC g≤24:=by unfold hereC;omega
 have HQ:Hid (-100≤g.wide∧g.wide≤100):=⟨by omega,by omega⟩
 clear hS h
 obtain⟨k,hk⟩:∃ k,k=hereC g:=⟨_,rfl⟩
 have HH:Hid (∀ w,Calls Tryz.prog 121 #[gval g (some ⟨b,0,none⟩) cap] w fun e w'=>e=.returned (.int .i64 k)∧w'=w.alloc (gbox g (some ⟨b,0,none⟩) cap)):=by
  intro w
  rw [hk]
  exact here_any g _ cap w HQ.out
 rw [←hk] at hk1 hk2 ⊢
 clear hk
 have FIN:Hid (∀ q:Int,q=max (k - 1) 0→∀ o1 o2 o3:Obj,GEnd w b cap {g with col:=max (k - 1) 0} (.returned (gval {g with col:=q} (some ⟨b,0,none⟩) cap)) (((w.alloc o1).alloc o2).alloc o3)):=by
  intro q hq o1 o2 o3
  rw [hq]
  exact⟨rfl,((HS.out.alloc _).alloc _).alloc _,grown_alloc (grown_alloc (grown_alloc (grown_refl _ _) _) _) _⟩
 go_enter Tryz.func103,Tryz.ntmps103
 go_wp2_with (go_at_call 121;refine(HH.out _).mono ?_;rintro e w1 ⟨rfl,rfl⟩)
 ·refine bodyPost_ret (v:=gval {g with col:=0} (some ⟨b,0,none⟩) cap) (by simp [results,Tryz.results103,go_sem]) rfl ?_
  exact FIN.out _ (by omega) _ _ _
 ·refine bodyPost_ret (v:=gval {g with col:=k - 1} (some ⟨b,0,none⟩) cap) (by simp [results,Tryz.results103,go_sem]) rfl ?_
  exact FIN.out _ (by omega) _ _ _
set_option maxHeartbeats 1000000 in
theorem ctl9 (g:Gr) (h:OkG g) (b cap:Nat) (w:World) (hS:Scr w b g.n g.f):Calls Tryz.prog 103 #[gval g (some ⟨b,0,none⟩) cap,.int .i64 9] w (GEnd w b cap {g with col:=min ((g.col / 8+1)*8) (g.wide - 1)}):=by
 have HS:Hid (Scr w b g.n g.f):=hS
 have hw1:=h.w1
 have hw2:=h.w2
 have hc1:=h.c1
 have hc2:g.col≤24:=by have:=h.c2;omega
 have hdiv:g.col.tdiv 8=g.col / 8:=by rw [Int.tdiv_eq_ediv_of_nonneg hc1]
 clear hS h
 obtain⟨k,hk⟩:∃ k,k=g.col / 8:=⟨_,rfl⟩
 have hk1:0≤k:=by omega
 have hk2:k≤3:=by omega
 rw [←hk] at hdiv ⊢
 have FIN:Hid (∀ q:Int,q=min ((k+1)*8) (g.wide - 1)→∀ o1 o2:Obj,GEnd w b cap {g with col:=min ((k+1)*8) (g.wide - 1)} (.returned (gval {g with col:=q} (some ⟨b,0,none⟩) cap)) ((w.alloc o1).alloc o2)):=by
  intro q hq o1 o2
  rw [hq]
  exact⟨rfl,(HS.out.alloc _).alloc _,grown_alloc (grown_alloc (grown_refl _ _) _) _⟩
 clear hk
 go_enter Tryz.func103,Tryz.ntmps103
 go_wp2
 ·refine bodyPost_ret (v:=gval {g with col:=g.wide - 1} (some ⟨b,0,none⟩) cap) (by simp [results,Tryz.results103,go_sem]) rfl ?_
  exact FIN.out _ (by omega) _ _
 ·refine bodyPost_ret (v:=gval {g with col:=(k+1)*8} (some ⟨b,0,none⟩) cap) (by simp [results,Tryz.results103,go_sem]) rfl ?_
  exact FIN.out _ (by omega) _ _
set_option maxHeartbeats 1000000 in
theorem ctl10 (g:Gr) (h:OkG g) (b cap:Nat) (w:World) (hS:Scr w b g.n g.f) (hc:g.n≤cap) (y:Gr) (hy:y=rowOnG g):Calls Tryz.prog 103 #[gval g (some ⟨b,0,none⟩) cap,.int .i64 10] w (GEnd w b cap y):=by
 have HS:Hid (Scr w b g.n g.f):=hS
 have hlt:=hS.lt
 have HR:Hid (∀ w,Scr w b g.n g.f→Calls Tryz.prog 119 #[gval g (some ⟨b,0,none⟩) cap] w (GEnd w b cap y)):=fun w hS=>rowOn_any g h b cap w hS hc y hy
 clear hS h hc hy
 go_enter Tryz.func103,Tryz.ntmps103
 go_wp2_with (go_at_call 119;refine(HR.out _ ((HS.out.alloc _).alloc _)).mono ?_;rintro e w2 ⟨rfl,hs2,hg2⟩;have t2:=grown_block hg2 (at_new1 w _ _) (by simp;omega);have HF:Hid (Scr w2 b y.n y.f∧w.grownBy w2 (some b)):=⟨hs2,grown_trans (grown_alloc (grown_alloc (grown_refl _ _) _) _) hg2⟩;obtain⟨⟨x0,x1,x2,x3,x4,x5,x6,x7,x8⟩,z⟩:=nine t2;clear hs2 hg2 t2)
 refine bodyPost_ret (v:=gval y (some ⟨b,0,none⟩) cap) (by simp [results,Tryz.results103,go_sem, *]) rfl ?_
 exact⟨rfl,fin9 HF.out (by omega) hlt _ _ _ _ _ _ _ _ _⟩
set_option maxHeartbeats 1000000 in
theorem ctl13 (g:Gr) (b cap:Nat) (w:World) (hS:Scr w b g.n g.f):Calls Tryz.prog 103 #[gval g (some ⟨b,0,none⟩) cap,.int .i64 13] w (GEnd w b cap {g with col:=0}):=by
 have HS:Hid (Scr w b g.n g.f):=hS
 clear hS
 go_enter Tryz.func103,Tryz.ntmps103
 go_wp2
 refine bodyPost_ret (v:=gval {g with col:=0} (some ⟨b,0,none⟩) cap) (by simp [results,Tryz.results103,go_sem]) rfl ?_
 exact⟨rfl,(HS.out.alloc _).alloc _,grown_alloc (grown_alloc (grown_refl _ _) _) _⟩
set_option maxHeartbeats 1000000 in
theorem ctlNo (g:Gr) (b cap:Nat) (w:World) (hS:Scr w b g.n g.f) (c:Int) (h1:c≠8) (h2:c≠9) (h3:c≠10) (h4:c≠13):Calls Tryz.prog 103 #[gval g (some ⟨b,0,none⟩) cap,.int .i64 c] w (GEnd w b cap g):=by
 have HS:Hid (Scr w b g.n g.f):=hS
 have e1:(c==8)=false:=by simp [h1]
 have e2:(c==9)=false:=by simp [h2]
 have e3:(c==10)=false:=by simp [h3]
 have e4:(c==13)=false:=by simp [h4]
 clear hS h1 h2 h3 h4
 go_enter Tryz.func103,Tryz.ntmps103
 go_wp2
 refine bodyPost_ret (v:=gval g (some ⟨b,0,none⟩) cap) (by simp [results,Tryz.results103,go_sem]) rfl ?_
 exact⟨rfl,(HS.out.alloc _).alloc _,grown_alloc (grown_alloc (grown_refl _ _) _) _⟩
theorem controlled_any (g:Gr) (h:OkG g) (b cap:Nat) (w:World) (hS:Scr w b g.n g.f) (hc:g.n≤cap) (c:Int):Calls Tryz.prog 103 #[gval g (some ⟨b,0,none⟩) cap,.int .i64 c] w (GEnd w b cap (ctlG g c)):=by
 by_cases h1:c=8
 ·subst h1;exact ctl8 g h b cap w hS
 by_cases h2:c=9
 ·subst h2;exact ctl9 g h b cap w hS
 by_cases h3:c=10
 ·subst h3;exact ctl10 g h b cap w hS hc _ rfl
 by_cases h4:c=13
 ·subst h4;exact ctl13 g b cap w hS
 have e:ctlG g c=g:=by unfold ctlG;rw [if_neg h1,if_neg h2,if_neg h3,if_neg h4]
 rw [e]
 exact ctlNo g b cap w hS c h1 h2 h3 h4
@[reducible] def eval (e:Evt) (ao:Option Addr) (cap:Nat):Value:=.agg #[.int .i64 e.kind,.int .i64 e.b,.slice ao e.ps.length cap,.string e.pl]
theorem check_any (e:Evt) (ao:Option Addr) (cap:Nat) (w:World):Calls Tryz.prog 78 #[eval e ao cap] w fun r w'=>r=.returned (.int .i64 (checkE e))∧w'=w.alloc (.cells #[.int .i64 e.kind,.int .i64 e.b,.slice ao e.ps.length cap,.string e.pl] 124):=by
 by_cases h1:e.kind=1
 ·obtain⟨p,hpl⟩:∃ p,p=plainN e.b:=⟨_,rfl⟩
  have HP:Hid (∀ w,Calls Tryz.prog 101 #[.int .i64 e.b] w fun e w'=>e=.returned (.bool p)∧w'=w):=fun w=>by rw [hpl];exact plain_any e.b w
  have HE:Hid (checkE e=if p then 0 else 6):=by show checkE e=_;simp [checkE,h1,hpl]
  obtain⟨kind,b,ps,pl⟩:=e
  simp only at h1
  subst h1
  clear hpl
  cases p
  ·go_enter Tryz.func78,Tryz.ntmps78
   go_wp2_with (go_at_call 101;refine(HP.out _).mono ?_;rintro e w1 ⟨rfl,rfl⟩)
   go_ret
   exact⟨by rw [HE.out];rfl,rfl⟩
  ·go_enter Tryz.func78,Tryz.ntmps78
   go_wp2_with (go_at_call 101;refine(HP.out _).mono ?_;rintro e w1 ⟨rfl,rfl⟩)
   go_ret
   exact⟨by rw [HE.out];rfl,rfl⟩
 ·have HE:Hid (checkE e=if 2≤e.kind∧e.kind≤5 then 0 else 2):=by show checkE e=_;unfold checkE;rw [if_neg h1]
  have e1:(e.kind==1)=false:=by simp [h1]
  clear h1
  go_enter Tryz.func78,Tryz.ntmps78
  go_wp2
  all_goals (go_ret;refine⟨?_,rfl⟩;rw [HE.out])
  ·have hk:e.kind=2:=by simpa using ‹(e.kind==2)=true›
   rw [if_pos (by omega)]
   rfl
  ·have hk:e.kind=3:=by simpa using ‹(e.kind==3)=true›
   rw [if_pos (by omega)]
   rfl
  ·have hk:e.kind=4:=by simpa using ‹(e.kind==4)=true›
   rw [if_pos (by omega)]
   rfl
  ·have hk:e.kind=5:=by simpa using ‹(e.kind==5)=true›
   rw [if_pos (by omega)]
   rfl
  ·have h2:e.kind≠2:=by simpa using ‹(e.kind==2)=false›
   have h3:e.kind≠3:=by simpa using ‹(e.kind==3)=false›
   have h4:e.kind≠4:=by simpa using ‹(e.kind==4)=false›
   have h5:e.kind≠5:=by simpa using ‹(e.kind==5)=false›
   rw [if_neg (by omega)]
   rfl
end Go.Proofs.YtjikokfjnbhngaaGreatDoor

/- What 'done' does to a screen, kind by kind. -/
namespace Go.Proofs.YtjikokfjnbhngaaGreatDoor
open Go.RowKit
def GEndN (w:World) (b:Nat) (x:Gr) (e:Ending) (w':World):Prop:=∃ b' cap',e=.returned (gval x (some ⟨b',0,none⟩) cap')∧Scr w' b' x.n x.f∧x.n≤cap'∧w.grownBy w' (some b)∧(b'=b∨w.heap.size≤b')
def RdL (w:World) (ao:Option Addr) (l:List Int):Prop:=l=[]∨∃ b off,ao=some ⟨b,off,none⟩∧∀ j,j < l.length→w.cell? ⟨b,off+j,none⟩=some (.int .i64 (l.getD j 0))
theorem RdL.below {w w':World} {ao:Option Addr} {l:List Int} (h:RdL w ao l) (hb:Below w.heap.size w w'):RdL w' ao l:=by
 rcases h with h | ⟨b,off,ha,hc⟩
 ·exact .inl h
 ·refine .inr ⟨b,off,ha,fun j hj=>?_⟩
  have:=hc j hj
  rw [hb.cell (p:=⟨b,off+j,none⟩) (World.block_lt_of_cell? _ _ this)]
  exact this
def DoneOk (e:Evt) (eo:Option Addr) (ec:Nat):Prop:=
 ∀ (g:Gr) (_:OkG g) (b cap:Nat) (w:World) (_:Scr w b g.n g.f) (_:g.n≤cap) (_:RdL w eo e.ps) (x:Gr) (_:x=doneG g e),Calls Tryz.prog 79 #[gval g (some ⟨b,0,none⟩) cap,eval e eo ec] w (GEndN w b x)
set_option maxHeartbeats 1000000 in
theorem done_print (c:Int) (ps:List Int) (pl:ByteArray) (eo:Option Addr) (ec:Nat) (hc:plainN c=true):DoneOk ⟨1,c,ps,pl⟩ eo ec:=by
 intro g h b cap w hS hcap _ x hx
 have hlt:=hS.lt
 have HS:Hid (Scr w b g.n g.f):=hS
 have HP:Hid (∀ w,Scr w b g.n g.f→Calls Tryz.prog 102 #[gval g (some ⟨b,0,none⟩) cap,.int .i64 c] w (GEnd w b cap x)):=fun w hS=>printed_any g h b cap w hS hcap c x hx
 have HN:Hid (x.n≤cap):=by
  obtain⟨_,_,_,e⟩:=ok_printed h c hc
  have e2:x.n=g.n:=by rw [hx];exact e
  show x.n≤cap
  omega
 clear hS h hcap hx
 go_enter Tryz.func79,Tryz.ntmps79
 go_wp2_with (go_at_call 102;refine(HP.out _ (((HS.out.alloc _).alloc _).alloc _)).mono ?_;rintro e w2 ⟨rfl,hs2,hg2⟩;have t2:=grown_block hg2 (at_new2 w _ _ _) (by simp;omega);have HF:Hid (Scr w2 b x.n x.f∧w.grownBy w2 (some b)):=⟨hs2,grown_trans (grown_alloc (grown_alloc (grown_alloc (grown_refl _ _) _) _) _) hg2⟩;obtain⟨⟨x0,x1,x2,x3,x4,x5,x6,x7,x8⟩,z⟩:=nine t2;clear hs2 hg2 t2)
 refine bodyPost_ret (v:=gval x (some ⟨b,0,none⟩) cap) (by simp [results,Tryz.results79,go_sem, *]) rfl ?_
 have hf:=fin9 HF.out (B:=w.heap.size+1+1) (by omega) hlt (.int .i64 x.wide) (.int .i64 x.high) (.slice (some ⟨b,0,none⟩) x.n cap) (.int .i64 x.row) (.int .i64 x.col) (.int .i64 x.ink) (.bool x.bold) (.int .i64 x.top) (.int .i64 x.bottom)
 exact⟨b,cap,rfl,hf.1,HN.out,hf.2,.inl rfl⟩
set_option maxHeartbeats 1000000 in
theorem done_ctl (c:Int) (ps:List Int) (pl:ByteArray) (eo:Option Addr) (ec:Nat):DoneOk ⟨2,c,ps,pl⟩ eo ec:=by
 intro g h b cap w hS hcap _ x hx
 have hlt:=hS.lt
 have HS:Hid (Scr w b g.n g.f):=hS
 have HP:Hid (∀ w,Scr w b g.n g.f→Calls Tryz.prog 103 #[gval g (some ⟨b,0,none⟩) cap,.int .i64 c] w (GEnd w b cap x)):=fun w hS=>by rw [hx];exact controlled_any g h b cap w hS hcap c
 have HN:Hid (x.n≤cap):=by
  obtain⟨_,_,_,e⟩:=ok_ctl h c
  have e2:x.n=g.n:=by rw [hx];exact e
  show x.n≤cap
  omega
 clear hS h hcap hx
 go_enter Tryz.func79,Tryz.ntmps79
 go_wp2_with (go_at_call 103;refine(HP.out _ (((HS.out.alloc _).alloc _).alloc _)).mono ?_;rintro e w2 ⟨rfl,hs2,hg2⟩;have t2:=grown_block hg2 (at_new2 w _ _ _) (by simp;omega);have HF:Hid (Scr w2 b x.n x.f∧w.grownBy w2 (some b)):=⟨hs2,grown_trans (grown_alloc (grown_alloc (grown_alloc (grown_refl _ _) _) _) _) hg2⟩;obtain⟨⟨x0,x1,x2,x3,x4,x5,x6,x7,x8⟩,z⟩:=nine t2;clear hs2 hg2 t2)
 refine bodyPost_ret (v:=gval x (some ⟨b,0,none⟩) cap) (by simp [results,Tryz.results79,go_sem, *]) rfl ?_
 have hf:=fin9 HF.out (B:=w.heap.size+1+1) (by omega) hlt (.int .i64 x.wide) (.int .i64 x.high) (.slice (some ⟨b,0,none⟩) x.n cap) (.int .i64 x.row) (.int .i64 x.col) (.int .i64 x.ink) (.bool x.bold) (.int .i64 x.top) (.int .i64 x.bottom)
 exact⟨b,cap,rfl,hf.1,HN.out,hf.2,.inl rfl⟩
end Go.Proofs.YtjikokfjnbhngaaGreatDoor

/- What 'goodCells' and 'Good' answer; they change nothing. -/
namespace Go.Proofs.YtjikokfjnbhngaaGreatDoor
open Go.RowKit
theorem cellsB_no {g:Gr} (h:(g.n:Int)≠g.wide*g.high):cellsB g=false:=by simp [cellsB,h]
theorem cellsB_yes {g:Gr} (h:(g.n:Int)=g.wide*g.high):cellsB g=upToB g.f g.n:=by simp [cellsB,h]
theorem upToB_no {f:Nat→Cel} {n k:Nat} (hk:k < n) (h:goodC (f k)=false):upToB f n=false:=by
 cases hu:upToB f n
 ·rfl
 ·rw [(upToB_iff f n).1 hu k hk] at h
  cases h
set_option maxHeartbeats 1000000 in
theorem goodCells_any (g:Gr) (ao:Option Addr) (cap:Nat) (w:World) (hr:RdS w ao g.n g.f) (hs:sidesB g=true) (hm:(g.n:Int)≤9223372036854775807):
  Calls Tryz.prog 58 #[gval g ao cap] w fun e w'=>e=.returned (.bool (cellsB g))∧Below w.heap.size w w':=by
 have hs':1≤g.wide∧g.wide≤24∧1≤g.high∧g.high≤10:=by simpa [sidesB] using hs
 have hpos:0≤g.wide*g.high:=Int.mul_nonneg (by omega) (by omega)
 have hmax:g.wide*g.high≤240:=by
  have h1:g.wide*g.high≤24*g.high:=mul_mono hs'.2.1 (by omega)
  omega
 have hwr:IntKind.i64.wrap (g.wide*g.high)=g.wide*g.high:=by rw [IntKind.wrap_i64];omega
 by_cases hn:(g.n:Int)=g.wide*g.high
 ·obtain⟨G,hG⟩:∃ G,G=cellsB g:=⟨_,rfl⟩
  have HG:Hid (G=upToB g.f g.n):=by rw [hG];exact cellsB_yes hn
  rw [←hG]
  have HR:Hid (RdS w ao g.n g.f):=hr
  have hwr2:IntKind.i64.wrap (g.wide*g.high)=(g.n:Int):=by rw [hwr];exact hn.symm
  clear hG hr hs hs' hpos hmax hwr hn
  go_enter Tryz.func58,Tryz.ntmps58
  go_wp2
  go_loopw [17] (fun i wr=>∃ k:Nat,k≤g.n∧i=.int .i64 k∧Below w.heap.size w wr∧upToB g.f k=true) (fun i _=>g.n - (intOf i).toNat)
  case atStart=>exact⟨0,Nat.zero_le _,rfl,below1 _ _,rfl⟩
  case round=>
   obtain⟨k,hk,rfl,hb,hu⟩:=hrel
   have HU:Hid (upToB g.f k=true):=hu
   have HB:Hid (Below w.heap.size w wr):=hb
   clear hu
   by_cases hlt:k < g.n
   ·obtain⟨b,off,rfl,hc⟩:∃ b off,ao=some ⟨b,off,none⟩∧∀ i,i < g.n→wr.cell? ⟨b,off+i*4,none⟩=some (.int .i64 (g.f i).ch)∧wr.cell? ⟨b,off+i*4+1,none⟩=some (.int .i64 (g.f i).ink)∧wr.cell? ⟨b,off+i*4+2,none⟩=some (.int .i64 (g.f i).pic)∧wr.cell? ⟨b,off+i*4+3,none⟩=some (.bool (g.f i).bold):=by
     rcases HR.out.below hb with h0 | h0
     ·omega
     ·exact h0
    obtain⟨t0,t1,t2,t3⟩:=hc k hlt
    have hbl:=World.block_lt_of_cell? _ _ t0
    simp only at hbl
    have hlt':(k:Int) < (g.n:Int):=by omega
    have hk0:(0:Int)≤(k:Int):=by omega
    obtain⟨y,hy⟩:∃ y,y=g.f k:=⟨_,rfl⟩
    rw [←hy] at t0 t1 t2 t3
    obtain⟨q,hq⟩:∃ q,q=goodC y:=⟨_,rfl⟩
    have HQ:Hid (q=goodC (g.f k)):=by rw [←hy];exact hq
    have HC:Hid (∀ w,Calls Tryz.prog 83 #[.agg #[.int .i64 y.ch,.int .i64 y.ink,.int .i64 y.pic,.bool y.bold]] w fun e w'=>e=.returned (.bool q)∧Below w.heap.size w w'):=fun w=>by rw [hq];exact goodCell_any y w
    clear hc hb hy hq
    cases q
    ·go_wp2_with (go_at_call 83;refine(HC.out _).mono ?_;rintro e w1 ⟨rfl,hb1⟩;have HB1:Hid (Below w.heap.size w w1):=(HB.out.alloc HB.out.size _).trans (hb1.mono (by simp;have:=HB.out.size;omega));clear hb1)
     go_ret
     exact⟨by rw [HG.out,upToB_no hlt HQ.out.symm];rfl,HB1.out⟩
    ·go_wp2_with (go_at_call 83;refine(HC.out _).mono ?_;rintro e w1 ⟨rfl,hb1⟩;have HB1:Hid (Below w.heap.size w w1):=(HB.out.alloc HB.out.size _).trans (hb1.mono (by simp;have:=HB.out.size;omega));clear hb1)
     go_roundw
     case rel=>exact⟨k+1,by omega,by go_num,HB1.out,by rw [upToB_succ,HU.out, ←HQ.out];rfl⟩
     case measure=>simp [intOf];omega
   ·obtain rfl:k=g.n:=by omega
    clear hb
    go_wp2
    go_ret
    exact⟨by rw [HG.out,HU.out];rfl,HB.out⟩
 ·have hne:((g.n:Int)==g.wide*g.high)=false:=by simp [hn]
  have HG:Hid (cellsB g=false):=cellsB_no hn
  clear hn hr hs hs' hpos hmax
  go_enter Tryz.func58,Tryz.ntmps58
  go_wp2
  go_ret
  exact⟨by rw [HG.out];rfl,below1 _ _⟩
set_option maxHeartbeats 1000000 in
theorem good_any (g:Gr) (ao:Option Addr) (cap:Nat) (w:World) (hr:RdS w ao g.n g.f) (hm:(g.n:Int)≤9223372036854775807) (G:Bool) (hG:G=goodG g):
  Calls Tryz.prog 33 #[gval g ao cap] w fun e w'=>e=.returned (.bool G)∧Below w.heap.size w w':=by
 have HG:Hid (G=(sidesB g && cellsB g && cursorB g && decide (0≤g.top∧g.top < g.bottom∧g.bottom≤g.high))):=hG
 have HR:Hid (RdS w ao g.n g.f):=hr
 clear hG hr
 obtain⟨s,hs⟩:∃ s,s=sidesB g:=⟨_,rfl⟩
 have HS:Hid (∀ w,Calls Tryz.prog 57 #[gval g ao cap] w fun e w'=>e=.returned (.bool s)∧w'=w.alloc (gbox g ao cap)):=fun w=>by rw [hs];exact goodSides_any g ao cap w
 rw [←hs] at HG
 cases s
 ·clear hs hm HR
  go_enter Tryz.func33,Tryz.ntmps33
  go_wp2_with (go_at_call 57;refine(HS.out _).mono ?_;rintro e w1 ⟨rfl,rfl⟩)
  go_ret
  exact⟨ret_bool (by rw [HG.out];rfl),(below1 _ _).alloc (by simp) _⟩
 have HM:Hid ((g.n:Int)≤9223372036854775807):=hm
 have HSB:Hid (sidesB g=true):=hs.symm
 clear hm hs
 obtain⟨c,hc⟩:∃ c,c=cellsB g:=⟨_,rfl⟩
 have HC:Hid (∀ w,RdS w ao g.n g.f→Calls Tryz.prog 58 #[gval g ao cap] w fun e w'=>e=.returned (.bool c)∧Below w.heap.size w w'):=fun w hr=>by rw [hc];exact goodCells_any g ao cap w hr HSB.out HM.out
 rw [←hc] at HG
 clear hc
 have HB2:Hid (∀ o1 o2:Obj,Below w.heap.size w ((w.alloc o1).alloc o2)):=fun o1 o2=>(below1 _ _).alloc (by simp) _
 cases c
 ·go_enter Tryz.func33,Tryz.ntmps33
  go_wp2_with (first
   | (go_at_call 57;refine(HS.out _).mono ?_;rintro e w1 ⟨rfl,rfl⟩)
   | (go_at_call 58;refine(HC.out _ (HR.out.below (HB2.out _ _))).mono ?_;rintro e w1 ⟨rfl,hb1⟩;have HB1:Hid (Below w.heap.size w w1):=(HB2.out _ _).trans (hb1.mono (by simp;omega));clear hb1))
  go_ret
  exact⟨ret_bool (by rw [HG.out];rfl),HB1.out⟩
 obtain⟨u,hu⟩:∃ u,u=cursorB g:=⟨_,rfl⟩
 have HUC:Hid (∀ w,Calls Tryz.prog 59 #[gval g ao cap] w fun e w'=>e=.returned (.bool u)∧w'=w.alloc (gbox g ao cap)):=fun w=>by rw [hu];exact goodCursor_any g ao cap w
 rw [←hu] at HG
 clear hu
 cases u
 all_goals (
  go_enter Tryz.func33,Tryz.ntmps33
  go_wp2_with (first
   | (go_at_call 57;refine(HS.out _).mono ?_;rintro e w1 ⟨rfl,rfl⟩)
   | (go_at_call 59;refine(HUC.out _).mono ?_;rintro e w2 ⟨rfl,rfl⟩)
   | (go_at_call 58;refine(HC.out _ (HR.out.below (HB2.out _ _))).mono ?_;rintro e w1 ⟨rfl,hb1⟩;have HB1:Hid (Below w.heap.size w w1):=(HB2.out _ _).trans (hb1.mono (by simp;omega));have hz:=hb1.size;obtain⟨⟨x0,x1,x2,x3,x4,x5,x6,x7,x8⟩,y⟩:=nine (below_block hb1 (at_old (at_new w _) _) (by simp;omega));have hz2:w.heap.size < w1.heap.size:=(by simp at hz;omega);clear hb1 hz)))
 all_goals (go_ret;refine⟨ret_bool ?_,HB1.out.alloc (by omega) _⟩;rw [HG.out])
 all_goals (first | rfl | (simp;done) | (rw [Bool.eq_iff_iff];simp only [Bool.true_and,Bool.and_true,decide_eq_true_eq,Bool.false_eq_true,false_iff];omega))
end Go.Proofs.YtjikokfjnbhngaaGreatDoor

/- What 'All' does: the screen behind events, or the first error. -/
namespace Go.Proofs.YtjikokfjnbhngaaGreatDoor
open Go.RowKit
abbrev EvIt:=Evt×Option Addr×Nat
@[reducible] def ebox (x:EvIt):Obj:=.cells #[.int .i64 x.1.kind,.int .i64 x.1.b,.slice x.2.1 x.1.ps.length x.2.2,.string x.1.pl] 124
def RdE (w:World) (lo:Option Addr) (evs:List EvIt):Prop:=
 (∀ x∈evs,RdL w x.2.1 x.1.ps)∧(evs=[]∨∃ b off,lo=some ⟨b,off,none⟩∧∀ k (hk:k < evs.length),w.cell? ⟨b,off+k*4,none⟩=some (.int .i64 evs[k].1.kind)∧w.cell? ⟨b,off+k*4+1,none⟩=some (.int .i64 evs[k].1.b)∧w.cell? ⟨b,off+k*4+2,none⟩=some (.slice evs[k].2.1 evs[k].1.ps.length evs[k].2.2)∧w.cell? ⟨b,off+k*4+3,none⟩=some (.string evs[k].1.pl))
theorem RdE.below {w w':World} {lo:Option Addr} {evs:List EvIt} (h:RdE w lo evs) (hb:Below w.heap.size w w'):RdE w' lo evs:=by
 refine⟨fun x hx=>(h.1 x hx).below hb,?_⟩
 rcases h.2 with h | ⟨b,off,ha,hc⟩
 ·exact .inl h
 ·refine .inr ⟨b,off,ha,fun k hk=>?_⟩
  obtain⟨h0,h1,h2,h3⟩:=hc k hk
  have hlt:=World.block_lt_of_cell? _ _ h0
  simp only at hlt
  exact⟨(hb.cell (p:=⟨b,off+k*4,none⟩) hlt).trans h0,(hb.cell (p:=⟨b,off+k*4+1,none⟩) hlt).trans h1,(hb.cell (p:=⟨b,off+k*4+2,none⟩) hlt).trans h2,(hb.cell (p:=⟨b,off+k*4+3,none⟩) hlt).trans h3⟩
def AllEnd (w:World) (r:Gr×Int) (e:Ending) (w':World):Prop:=
 ∃ ao cap,e=.returned (.tuple #[gval r.1 ao cap,.int .i64 r.2])∧Copied w r.1.n r.1.f ao cap w'
def allR (g:Gr) (evs:List Evt):Gr×Int:=if evs=[] then (g,0) else if goodG g then allG g evs else (g,1)
set_option maxHeartbeats 1000000 in
theorem all_stop (g:Gr) (ao:Option Addr) (cap:Nat) (lo:Option Addr) (ln lc:Nat) (w:World) (hr:RdS w ao g.n g.f) (hn:ao=none→g.n=0∧cap=0) (hm:g.n≤4398046511104) (hs:0 < ln) (hl:ln≤140737488355328) (hg:goodG g=false):
  Calls Tryz.prog 44 #[gval g ao cap,.slice lo ln lc] w (AllEnd w (g,1)):=by
 have HR:Hid (RdS w ao g.n g.f):=hr
 have HCL:Hid (∀ w,RdS w ao g.n g.f→Calls Tryz.prog 48 #[.slice ao g.n cap] w fun e w'=>∃ ao' cap',e=.returned (.slice ao' g.n cap')∧Copied w g.n g.f ao' cap' w'):=fun w hr=>clone_any ao cap g.n g.f w hr hn (by omega)
 have HGD:Hid (∀ w ao' cap',RdS w ao' g.n g.f→Calls Tryz.prog 33 #[gval g ao' cap'] w fun e w'=>e=.returned (.bool false)∧Below w.heap.size w w'):=fun w ao' cap' hr=>good_any g ao' cap' w hr (by omega) false hg.symm
 have HB2:Hid (∀ o1 o2:Obj,Below w.heap.size w ((w.alloc o1).alloc o2)):=fun o1 o2=>(below1 _ _).alloc (by simp) _
 have hl1:(0:Int) < (ln:Int):=by omega
 clear hr hn hm hg hs
 go_enter Tryz.func44,Tryz.ntmps44
 go_upto_region 1 with fail
 go_cut [] from 9 to 12 (fun wx=>∃ ao' cap',Start w g ao' cap' wx)
 case first=>
  go_wp2_with (go_at_call 48;refine(HCL.out _ (HR.out.below (HB2.out _ _))).mono ?_;rintro e w1 ⟨ao',cap',rfl,hcp⟩;have HCP:Hid (Copied _ g.n g.f ao' cap' w1):=hcp;obtain⟨⟨x0,x1,x2,x3,x4,x5,x6,x7,x8⟩,z⟩:=nine (below_block hcp.2.2 (at_old (at_new w _) _) (by simp;omega));clear hcp)
  go_meet
  exact⟨ao',cap',start_of HCP.out⟩
 case rest=>
  obtain⟨ao',cap',hst⟩:=hcut
  obtain⟨⟨x0,x1,x2,x3,x4,x5,x6,x7,x8⟩,z⟩:=nine hst.box
  have HST:Hid (Start w g ao' cap' wc):=hst
  clear hst HCL HR
  go_wp2_with (go_at_call 33;refine(HGD.out _ ao' cap' HST.out.rd).mono ?_;rintro e w2 ⟨rfl,hb2⟩;have HB:Hid (Below wc.heap.size wc w2):=hb2;have q1:=below_block hb2 HST.out.box (Array.getElem?_eq_some_iff.1 HST.out.box).1;have q2:=below_block hb2 HST.out.res (Array.getElem?_eq_some_iff.1 HST.out.res).1;obtain⟨⟨y0,y1,y2,y3,y4,y5,y6,y7,y8⟩,z2⟩:=nine q1;obtain⟨⟨u0,u1,u2,u3,u4,u5,u6,u7,u8⟩,v⟩:=nine q2;clear hb2 q1 q2)
  refine bodyPost_ret (v:=.tuple #[gval g ao' cap',.int .i64 1]) (by simp [results,Tryz.results44,go_sem, *]) rfl ?_
  exact⟨ao',cap',rfl,HST.out.copied HB.out _ _ _ _ _ _ _ _ _⟩
structure AInv (w:World) (g:Gr) (evs:List Evt) (k:Nat) (x:Gr) (b cap:Nat) (wr:World):Prop where
 ok:OkG x
 says:allG g evs=allG x (evs.drop k)
 box:wr.heap[w.heap.size]?=some (gbox x (some ⟨b,0,none⟩) cap)
 res:wr.heap[w.heap.size+1]?=some gzero
 scr:Scr wr b x.n x.f
 caps:x.n≤cap
 own:w.heap.size+2≤b
 below:Below w.heap.size w wr
theorem AInv.rd {w:World} {g:Gr} {evs:List Evt} {k:Nat} {x:Gr} {b cap:Nat} {wr:World} (h:AInv w g evs k x b cap wr) (u0 u1 u2 u3 u4 u5 u6 u7 u8:Value):RdS (((((((((wr.setCell ⟨w.heap.size+1,0,none⟩ u0).setCell ⟨w.heap.size+1,1,none⟩ u1).setCell ⟨w.heap.size+1,2,none⟩ u2).setCell ⟨w.heap.size+1,3,none⟩ u3).setCell ⟨w.heap.size+1,4,none⟩ u4).setCell ⟨w.heap.size+1,5,none⟩ u5).setCell ⟨w.heap.size+1,6,none⟩ u6).setCell ⟨w.heap.size+1,7,none⟩ u7).setCell ⟨w.heap.size+1,8,none⟩ u8) (some ⟨b,0,none⟩) x.n x.f:=
 (scr_set9 h.scr (by have:=h.own;omega) _ _ _ _ _ _ _ _ _).rd
theorem drop_step {evs:List Evt} {k:Nat} (hk:k < evs.length):evs.drop k=evs[k]::evs.drop (k+1):=List.drop_eq_getElem_cons hk
theorem ainv_step {w : World} {g : Gr} {evs : List Evt} {k : Nat} {x y : Gr} {b cap b' cap' : Nat} {wr w3 : World} {o1 o2 : Obj} (h : AInv w g evs k x b cap wr) (hk : k < evs.length) (hc : checkE evs[k] = 0) (hy : y = doneG x evs[k])
    (hs : Scr w3 b' y.n y.f) (hcap : y.n ≤ cap') (hg : ((wr.alloc o1).alloc o2).grownBy w3 (some b)) (hb : b' = b ∨ ((wr.alloc o1).alloc o2).heap.size ≤ b') :
    AInv w g evs (k + 1) y b' cap' (((((((((w3.setCell ⟨w.heap.size, 0, none⟩ (.int .i64 y.wide)).setCell ⟨w.heap.size, 1, none⟩ (.int .i64 y.high)).setCell ⟨w.heap.size, 2, none⟩ (.slice (some ⟨b', 0, none⟩) y.n cap')).setCell ⟨w.heap.size, 3, none⟩ (.int .i64 y.row)).setCell ⟨w.heap.size, 4, none⟩ (.int .i64 y.col)).setCell ⟨w.heap.size, 5, none⟩ (.int .i64 y.ink)).setCell ⟨w.heap.size, 6, none⟩ (.bool y.bold)).setCell ⟨w.heap.size, 7, none⟩ (.int .i64 y.top)).setCell ⟨w.heap.size, 8, none⟩ (.int .i64 y.bottom)) := by
  have hb0 := h.own
  have hsz : w.heap.size + 2 ≤ wr.heap.size := by have := (Array.getElem?_eq_some_iff.1 h.res).1; omega
  have hb1 : w.heap.size + 2 ≤ b' := by rcases hb with rfl | hb
                                        · exact hb0
                                        · simp at hb; omega
  have hbx := grown_block hg (at_old (at_old h.box o1) o2) (by simp; omega)
  have hrs := grown_block hg (at_old (at_old h.res o1) o2) (by simp; omega)
  have hw : Below w.heap.size w w3 := (((h.below.alloc h.below.size _).alloc (by have := h.below.size; simp; omega) _)).trans (grown_below hg (by have := h.below.size; simp; omega) (by omega))
  refine ⟨?_, ?_, set9_same hbx _ _ _ _ _ _ _ _ _, set9_other hrs (by omega) _ _ _ _ _ _ _ _ _, scr_set9 hs (by omega) _ _ _ _ _ _ _ _ _, hcap, hb1, below_set9 hw (Nat.le_refl _) _ _ _ _ _ _ _ _ _⟩
  · rw [hy]; exact (ok_done h.ok _ hc).1
  · rw [h.says, drop_step hk, allG, if_pos hc, hy]
theorem ainv_done {w:World} {g:Gr} {evs:List Evt} {k:Nat} {x:Gr} {b cap:Nat} {wr:World} (h:AInv w g evs k x b cap wr) (hk:¬ k < evs.length):allG g evs=(x,0):=by
 rw [h.says,List.drop_eq_nil_of_le (by omega)]
 rfl
theorem ainv_stop {w:World} {g:Gr} {evs:List Evt} {k:Nat} {x:Gr} {b cap:Nat} {wr:World} (h:AInv w g evs k x b cap wr) (hk:k < evs.length) (hc:checkE evs[k]≠0):allG g evs=(x,checkE evs[k]):=by
 rw [h.says,drop_step hk,allG,if_neg hc]
end Go.Proofs.YtjikokfjnbhngaaGreatDoor
