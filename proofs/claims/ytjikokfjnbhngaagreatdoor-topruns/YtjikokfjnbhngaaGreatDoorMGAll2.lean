/- Several texts in one, each as it was: GAll2, GNum, GCsiA, GIdx. -/
import Derived.Test.YtjikokfjnbhngaaGreatDoorMGCtl
import Derived.Test.YtjikokfjnbhngaaGreatDoorMGMove
import Derived.Test.YtjikokfjnbhngaaGreatDoorMGMach

/- 'All' on a good screen, event by event. -/
namespace Go.Proofs.YtjikokfjnbhngaaGreatDoor
open Go.RowKit
set_option maxHeartbeats 2000000 in
theorem all_go (g:Gr) (ok:OkG g) (ao:Option Addr) (cap:Nat) (lo:Option Addr) (evs:List EvIt) (lc:Nat) (w:World) (hr:RdS w ao g.n g.f) (hn:ao=none→g.n=0∧cap=0) (hev:RdE w lo evs) (hl:evs.length≤140737488355328) (hpos:0 < evs.length)
  (hd:∀ x∈evs,checkE x.1=0→DoneOk x.1 x.2.1 x.2.2) (r:Gr×Int) (hrr:r=allG g (evs.map (·.1))):
  Calls Tryz.prog 44 #[gval g ao cap,.slice lo evs.length lc] w (AllEnd w r):=by
 have hm:g.n≤240:=by obtain⟨q1,q2,_⟩:=ok.nums;omega
 have hn1:0 < g.n:=by
  have h1:=ok.size
  have h2:1*g.high≤g.wide*g.high:=mul_mono ok.w1 (by have:=ok.h1;omega)
  have:=ok.h1
  omega
 have HR:Hid (RdS w ao g.n g.f):=hr
 have HEV:Hid (RdE w lo evs):=hev
 have HD:Hid (∀ x∈evs,checkE x.1=0→DoneOk x.1 x.2.1 x.2.2):=hd
 have HRR:Hid (r=allG g (evs.map (·.1))):=hrr
 have HOK:Hid (OkG g):=ok
 have HN1:Hid (0 < g.n):=hn1
 have HCL:Hid (∀ w,RdS w ao g.n g.f→Calls Tryz.prog 48 #[.slice ao g.n cap] w fun e w'=>∃ ao' cap',e=.returned (.slice ao' g.n cap')∧Copied w g.n g.f ao' cap' w'):=fun w hr=>clone_any ao cap g.n g.f w hr hn (by omega)
 have HGD:Hid (∀ w ao' cap',RdS w ao' g.n g.f→Calls Tryz.prog 33 #[gval g ao' cap'] w fun e w'=>e=.returned (.bool true)∧Below w.heap.size w w'):=fun w ao' cap' hr=>good_any g ao' cap' w hr (by omega) true ((goodG_iff g).2 ok).symm
 have HB2:Hid (∀ o1 o2:Obj,Below w.heap.size w ((w.alloc o1).alloc o2)):=fun o1 o2=>(below1 _ _).alloc (by simp) _
 have hl1:(0:Int) < (evs.length:Int):=by omega
 clear hr hn hm hev hd hrr ok hpos hn1
 go_enter Tryz.func44,Tryz.ntmps44
 go_upto_region 1 with fail
 go_cut [] from 9 to 12 (fun wx=>∃ ao' cap',Start w g ao' cap' wx)
 case first=>
  go_wp2_with (go_at_call 48;refine(HCL.out _ (HR.out.below (HB2.out _ _))).mono ?_;rintro e w1 ⟨ao',cap',rfl,hcp⟩;have HCP:Hid (Copied _ g.n g.f ao' cap' w1):=hcp;obtain⟨⟨x0,x1,x2,x3,x4,x5,x6,x7,x8⟩,z⟩:=nine (below_block hcp.2.2 (at_old (at_new w _) _) (by simp;omega));clear hcp)
  go_meet
  exact⟨ao',cap',start_of HCP.out⟩
 case rest=>
  obtain⟨ao',cap',hst⟩:=hcut
  obtain⟨⟨x0,x1,x2,x3,x4,x5,x6,x7,x8⟩,z⟩:=nine hst.box
  have HST:Hid (Start w g ao' cap' wc):=hst
  clear hst HCL HR
  go_wp2_with (go_at_call 33;refine(HGD.out _ ao' cap' HST.out.rd).mono ?_;rintro e w2 ⟨rfl,hb2⟩;have HB:Hid (Below wc.heap.size wc w2):=hb2;clear hb2)
  clear x0 x1 x2 x3 x4 x5 x6 x7 x8 z HGD HB2
  go_loopw [24] (fun i wr=>∃ (k:Nat) (x:Gr) (b c:Nat),k≤evs.length∧i=.int .i64 k∧AInv w g (evs.map (·.1)) k x b c wr) (fun i _=>evs.length - (intOf i).toNat)
  case atStart=>
   obtain⟨b,rfl,hb,hc,hs⟩:=HST.out.scr HN1.out
   have k1:=below_block HB.out HST.out.box (Array.getElem?_eq_some_iff.1 HST.out.box).1
   have k2:=below_block HB.out HST.out.res (Array.getElem?_eq_some_iff.1 HST.out.res).1
   exact⟨0,g,b,cap',Nat.zero_le _,rfl,HOK.out,rfl,k1,k2,hs.below HB.out hs.lt,hc,hb,HST.out.below.trans (HB.out.mono HST.out.below.size)⟩
  case round=>
   obtain⟨k,x,b,c,hk,rfl,hinv⟩:=hrel
   have HV:Hid (AInv w g (evs.map (·.1)) k x b c wr):=hinv
   obtain⟨⟨x0,x1,x2,x3,x4,x5,x6,x7,x8⟩,z⟩:=nine hinv.box
   obtain⟨⟨u0,u1,u2,u3,u4,u5,u6,u7,u8⟩,v⟩:=nine hinv.res
   have hsz:w.heap.size+1 < wr.heap.size:=(Array.getElem?_eq_some_iff.1 hinv.res).1
   have hsz0:w.heap.size < wr.heap.size:=by omega
   by_cases hlt:k < evs.length
   ·have hE:=HEV.out.below hinv.below
    obtain⟨lb,off,rfl,hcell⟩:∃ lb off,lo=some ⟨lb,off,none⟩∧∀ k (hk:k < evs.length),wr.cell? ⟨lb,off+k*4,none⟩=some (.int .i64 evs[k].1.kind)∧wr.cell? ⟨lb,off+k*4+1,none⟩=some (.int .i64 evs[k].1.b)∧wr.cell? ⟨lb,off+k*4+2,none⟩=some (.slice evs[k].2.1 evs[k].1.ps.length evs[k].2.2)∧wr.cell? ⟨lb,off+k*4+3,none⟩=some (.string evs[k].1.pl):=by
     rcases hE.2 with h0 | h0
     ·rw [h0] at hlt;simp at hlt
     ·exact h0
    obtain⟨t0,t1,t2,t3⟩:=hcell k hlt
    have hbl:=World.block_lt_of_cell? _ _ t0
    simp only at hbl
    have hlt':(k:Int) < (evs.length:Int):=by omega
    have hk0:(0:Int)≤(k:Int):=by omega
    have hmem:evs[k]∈evs:=List.getElem_mem hlt
    have HRL:Hid (RdL wr evs[k].2.1 evs[k].1.ps):=hE.1 _ hmem
    have HDK:Hid (checkE evs[k].1=0→DoneOk evs[k].1 evs[k].2.1 evs[k].2.2):=HD.out _ hmem
    have hml:k < (evs.map (·.1)).length:=by simpa using hlt
    have hme:(evs.map (·.1))[k]=evs[k].1:=by simp
    obtain⟨ev,hev⟩:∃ ev,ev=evs[k]:=⟨_,rfl⟩
    rw [←hev] at t0 t1 t2 t3 HRL HDK hme
    have HME:Hid (∃ h:k < (evs.map (·.1)).length,(evs.map (·.1))[k]=ev.1):=⟨hml,hme⟩
    clear hE hcell hmem hml hme hev hinv
    obtain⟨e,eo,ec⟩:=ev
    simp only at t0 t1 t2 t3 HRL HDK HME
    obtain⟨q,hq⟩:∃ q,q=checkE e:=⟨_,rfl⟩
    have HCH:Hid (∀ w,Calls Tryz.prog 78 #[eval e eo ec] w fun r w'=>r=.returned (.int .i64 q)∧w'=w.alloc (ebox (e,eo,ec))):=fun w=>by rw [hq];exact check_any e eo ec w
    by_cases hq0:q=0
    ·obtain⟨y,hy⟩:∃ y,y=doneG x e:=⟨_,rfl⟩
     have HDN:Hid (∀ w,Scr w b x.n x.f→RdL w eo e.ps→Calls Tryz.prog 79 #[gval x (some ⟨b,0,none⟩) c,eval e eo ec] w (GEndN w b y)):=fun w h1 h2=>HDK.out (by rw [←hq];exact hq0) x HV.out.ok b c w h1 HV.out.caps h2 y hy
     have HQ:Hid (checkE e=0∧y=doneG x e):=⟨by rw [←hq];exact hq0,hy⟩
     clear hq hy HDK
     subst hq0
     go_wp2_with (first
      | (go_at_call 78;refine(HCH.out _).mono ?_;rintro e1 w1 ⟨rfl,rfl⟩)
      | (go_at_call 79;refine(HDN.out _ ((HV.out.scr.alloc _).alloc _) (HRL.out.below ((below1 _ _).alloc (by simp) _))).mono ?_;rintro e1 w3 ⟨b',cap3,rfl,hs3,hc3,hg3,hb3⟩;have HF:Hid (∃ o1 o2:Obj,Scr w3 b' y.n y.f∧y.n≤cap3∧((wr.alloc o1).alloc o2).grownBy w3 (some b)∧(b'=b∨((wr.alloc o1).alloc o2).heap.size≤b')):=⟨_,_,hs3,hc3,hg3,hb3⟩;obtain⟨⟨m0,m1,m2,m3,m4,m5,m6,m7,m8⟩,n0⟩:=nine (grown_block hg3 (at_old (at_old HV.out.box _) _) (by have:=HV.out.own;simp;omega));clear hs3 hc3 hg3 hb3))
     go_roundw
     case rel=>
      obtain⟨o1,o2,f1,f2,f3,f4⟩:=HF.out
      obtain⟨g1,g2⟩:=HME.out
      refine⟨k+1,y,b',cap3,by omega,by go_num,ainv_step HV.out g1 (by rw [g2];exact HQ.out.1) (by rw [g2];exact HQ.out.2) f1 f2 f3 f4⟩
     case measure=>simp [intOf];omega
    ·have hqe:(q==0)=false:=by simp [hq0]
     have HQ:Hid (q=checkE e∧q≠0):=⟨hq,hq0⟩
     clear hq hq0 HDK
     go_wp2_with (go_at_call 78;refine(HCH.out _).mono ?_;rintro e1 w1 ⟨rfl,rfl⟩)
     refine bodyPost_ret (v:=.tuple #[gval x (some ⟨b,0,none⟩) c,.int .i64 q]) (by simp [results,Tryz.results44,go_sem, *]) rfl ?_
     obtain⟨g1,g2⟩:=HME.out
     have hr:r=(x,q):=by rw [HRR.out,ainv_stop HV.out g1 (by rw [g2, ←HQ.out.1];exact HQ.out.2),g2,HQ.out.1]
     rw [hr]
     have hbs:=HV.out.below.size
     have hown:=HV.out.own
     have hsc:=((scr_set9 HV.out.scr (B:=w.heap.size+1) (by omega) (.int .i64 x.wide) (.int .i64 x.high) (.slice (some ⟨b,0,none⟩) x.n c) (.int .i64 x.row) (.int .i64 x.col) (.int .i64 x.ink) (.bool x.bold) (.int .i64 x.top) (.int .i64 x.bottom)).alloc (ebox (e,eo,ec))).alloc (ebox (e,eo,ec))
     exact⟨some ⟨b,0,none⟩,c,rfl,hsc.rd,fun _=>⟨b,rfl,by omega,HV.out.caps,hsc⟩,((below_set9 HV.out.below (by omega) _ _ _ _ _ _ _ _ _).alloc (by simp;omega) _).alloc (by simp;omega) _⟩
   ·clear hinv
    go_wp2
    refine bodyPost_ret (v:=.tuple #[gval x (some ⟨b,0,none⟩) c,.int .i64 0]) (by simp [results,Tryz.results44,go_sem, *]) rfl ?_
    have hr:r=(x,0):=by rw [HRR.out,ainv_done HV.out (by simpa using hlt)]
    rw [hr]
    have hown:=HV.out.own
    exact⟨some ⟨b,0,none⟩,c,rfl,HV.out.rd _ _ _ _ _ _ _ _ _,fun _=>⟨b,rfl,by omega,HV.out.caps,scr_set9 HV.out.scr (by omega) _ _ _ _ _ _ _ _ _⟩,below_set9 HV.out.below (by omega) _ _ _ _ _ _ _ _ _⟩
theorem all_some (g:Gr) (ao:Option Addr) (cap:Nat) (lo:Option Addr) (evs:List EvIt) (lc:Nat) (w:World) (hr:RdS w ao g.n g.f) (hn:ao=none→g.n=0∧cap=0) (hm:g.n≤4398046511104) (hev:RdE w lo evs) (hl:evs.length≤140737488355328) (hpos:0 < evs.length)
  (hd:∀ x∈evs,checkE x.1=0→DoneOk x.1 x.2.1 x.2.2) (r:Gr×Int) (hrr:r=if goodG g then allG g (evs.map (·.1)) else (g,1)):
  Calls Tryz.prog 44 #[gval g ao cap,.slice lo evs.length lc] w (AllEnd w r):=by
 cases hg:goodG g
 ·rw [hg] at hrr
  rw [hrr]
  exact all_stop g ao cap lo evs.length lc w hr hn hm hpos hl hg
 ·rw [hg] at hrr
  exact all_go g ((goodG_iff g).1 hg) ao cap lo evs lc w hr hn hev hl hpos hd r hrr
end Go.Proofs.YtjikokfjnbhngaaGreatDoor

/- What 'number', 'scrolling' and 'inked' answer. -/
namespace Go.Proofs.YtjikokfjnbhngaaGreatDoor
open Go.RowKit
set_option maxHeartbeats 400000 in
theorem number_any (l:List Int) (ao:Option Addr) (cap i:Nat) (w:World) (hr:RdL w ao l) (hi:i≤1):
  Calls Tryz.prog 122 #[.slice ao l.length cap,.int .i64 i] w fun e w'=>e=.returned (.int .i64 (numP l i))∧w'=w:=by
 by_cases h:i < l.length
 ·obtain⟨b,off,rfl,hc⟩:=hr.resolve_left (fun e=>by rw [e] at h;simp at h)
  have t:=hc i h
  obtain⟨y,hy⟩:∃ y,y=l.getD i 0:=⟨_,rfl⟩
  rw [←hy] at t
  have HX:Hid (numP l i=max 0 (min y 999)):=by show numP l i=_;rw [hy];rfl
  have hlt:(i:Int) < (l.length:Int):=by omega
  have hi0:(0:Int)≤(i:Int):=by omega
  clear hc hy hr h hi
  go_enter Tryz.func122,Tryz.ntmps122
  go_wp2_with (go_at_call 60;refine(within_any _ _ _ _).mono ?_;rintro e w1 ⟨rfl,rfl⟩)
  go_ret
  exact⟨by rw [HX.out];rfl,rfl⟩
 ·have HX:Hid (numP l i=0):=by
   show numP l i=0
   unfold numP
   rw [List.getD_eq_getElem?_getD,List.getElem?_eq_none (by omega)]
   rfl
  have hge:(l.length:Int)≤(i:Int):=by omega
  clear h hr
  go_enter Tryz.func122,Tryz.ntmps122
  go_wp2
  go_ret
  exact⟨by rw [HX.out];rfl,rfl⟩
theorem numP_bound (l:List Int) (i:Nat):0≤numP l i∧numP l i≤999:=by unfold numP;omega
def GPlain (w:World) (x:Gr) (ao:Option Addr) (cap:Nat) (e:Ending) (w':World):Prop:=e=.returned (gval x ao cap)∧Below w.heap.size w w'
set_option maxHeartbeats 1000000 in
theorem scrolling_any (g:Gr) (ao:Option Addr) (cap:Nat) (n q:Int) (w:World) (hn0:1≤n) (hn1:n≤999) (hq0:0≤q) (hq1:q≤999) (x:Gr) (hx:x=scrollG g n q):
  Calls Tryz.prog 128 #[gval g ao cap,.int .i64 n,.int .i64 q] w (GPlain w x ao cap):=by
 have HX:Hid (x=scrollG g n q):=hx
 have HB:Hid (∀ o1 o2:Obj,Below w.heap.size w ((w.alloc o1).alloc o2)):=fun o1 o2=>(below1 _ _).alloc (by simp) _
 clear hx
 by_cases h0:q=0∨g.high < q
 ·have HB2:Hid (botN g q=g.high):=by show botN g q=_;unfold botN;rw [if_pos h0]
  have hc:q=0∨(¬ q=0∧g.high < q):=by omega
  clear h0
  by_cases hle:n≤g.high
  ·have HE:Hid (x={g with top:=n - 1,bottom:=g.high,row:=0,col:=0}):=by
    show x=_
    rw [HX.out];unfold scrollG;rw [HB2.out,if_pos hle]
   rcases hc with rfl | ⟨hq,hqh⟩
   ·go_enter Tryz.func128,Tryz.ntmps128
    go_wp2
    refine bodyPost_ret (v:=gval {g with top:=n - 1,bottom:=g.high,row:=0,col:=0} ao cap) (by simp [results,Tryz.results128,go_sem]) rfl ?_
    rw [HE.out]
    exact⟨rfl,HB.out _ _⟩
   ·have hqe:(q==0)=false:=by simp [hq]
    clear hq
    go_enter Tryz.func128,Tryz.ntmps128
    go_wp2
    refine bodyPost_ret (v:=gval {g with top:=n - 1,bottom:=g.high,row:=0,col:=0} ao cap) (by simp [results,Tryz.results128,go_sem]) rfl ?_
    rw [HE.out]
    exact⟨rfl,HB.out _ _⟩
  ·have HE:Hid (x=g):=by
    show x=_
    rw [HX.out];unfold scrollG;rw [HB2.out,if_neg hle]
   have hgt:g.high < n:=by omega
   rcases hc with rfl | ⟨hq,hqh⟩
   ·go_enter Tryz.func128,Tryz.ntmps128
    go_wp2
    refine bodyPost_ret (v:=gval g ao cap) (by simp [results,Tryz.results128,go_sem]) rfl ?_
    rw [HE.out]
    exact⟨rfl,HB.out _ _⟩
   ·have hqe:(q==0)=false:=by simp [hq]
    clear hq
    go_enter Tryz.func128,Tryz.ntmps128
    go_wp2
    refine bodyPost_ret (v:=gval g ao cap) (by simp [results,Tryz.results128,go_sem]) rfl ?_
    rw [HE.out]
    exact⟨rfl,HB.out _ _⟩
 ·have HB2:Hid (botN g q=q):=by show botN g q=_;unfold botN;rw [if_neg h0]
  have hqe:(q==0)=false:=by simp;omega
  have hqh:q≤g.high:=by omega
  clear h0
  by_cases hle:n≤q
  ·have HE:Hid (x={g with top:=n - 1,bottom:=q,row:=0,col:=0}):=by
    show x=_
    rw [HX.out];unfold scrollG;rw [HB2.out,if_pos hle]
   go_enter Tryz.func128,Tryz.ntmps128
   go_wp2
   refine bodyPost_ret (v:=gval {g with top:=n - 1,bottom:=q,row:=0,col:=0} ao cap) (by simp [results,Tryz.results128,go_sem]) rfl ?_
   rw [HE.out]
   exact⟨rfl,HB.out _ _⟩
  ·have HE:Hid (x=g):=by
    show x=_
    rw [HX.out];unfold scrollG;rw [HB2.out,if_neg hle]
   have hgt:q < n:=by omega
   go_enter Tryz.func128,Tryz.ntmps128
   go_wp2
   refine bodyPost_ret (v:=gval g ao cap) (by simp [results,Tryz.results128,go_sem]) rfl ?_
   rw [HE.out]
   exact⟨rfl,HB.out _ _⟩
structure Box9 (w:World) (x:Gr) (ao:Option Addr) (cap:Nat) (wr:World):Prop where
 box:wr.heap[w.heap.size]?=some (gbox x ao cap)
 res:wr.heap[w.heap.size+1]?=some gzero
 below:Below w.heap.size w wr
theorem Box9.ink {w:World} {x:Gr} {ao:Option Addr} {cap:Nat} {wr:World} (h:Box9 w x ao cap wr) (k:Int):Box9 w {x with ink:=k} ao cap (wr.setCell ⟨w.heap.size,5,none⟩ (.int .i64 k)):=by
 have h1:=heap_setCell_same wr w.heap.size 5 _ _ (.int .i64 k) h.box
 exact⟨h1,other_set h.res (by omega),h.below.setCell (Nat.le_refl _) _⟩
theorem Box9.bold {w:World} {x:Gr} {ao:Option Addr} {cap:Nat} {wr:World} (h:Box9 w x ao cap wr) (k:Bool):Box9 w {x with bold:=k} ao cap (wr.setCell ⟨w.heap.size,6,none⟩ (.bool k)):=by
 have h1:=heap_setCell_same wr w.heap.size 6 _ _ (.bool k) h.box
 exact⟨h1,other_set h.res (by omega),h.below.setCell (Nat.le_refl _) _⟩
theorem ink_snoc {g:Gr} {l:List Int} {k:Nat} (hk:k < l.length):inkG g (l.take (k+1))=ink1 (inkG g (l.take k)) (l.getD k 0):=by
 unfold inkG
 rw [List.take_succ_eq_append_getElem hk,List.foldl_append]
 simp [List.getD_eq_getElem?_getD,List.getElem?_eq_getElem hk]
set_option maxHeartbeats 2000000 in
theorem inked_any (g:Gr) (ao:Option Addr) (cap:Nat) (l:List Int) (lo:Option Addr) (lc:Nat) (w:World) (hr:RdL w lo l) (hl:l.length≤140737488355328) (x:Gr) (hx:x=inkG g l):
  Calls Tryz.prog 127 #[gval g ao cap,.slice lo l.length lc] w (GPlain w x ao cap):=by
 have HR:Hid (RdL w lo l):=hr
 have HX:Hid (x=inkG g l):=hx
 clear hr hx
 go_enter Tryz.func127,Tryz.ntmps127
 go_wp2
 go_loopw [9] (fun i wr=>∃ k:Nat,k≤l.length∧i=.int .i64 k∧Box9 w (inkG g (l.take k)) ao cap wr) (fun i _=>l.length - (intOf i).toNat)
 case atStart=>exact⟨0,Nat.zero_le _,rfl,at_old (at_new w _) _,at_new1 w _ _,(below1 _ _).alloc (by simp) _⟩
 case round=>
  obtain⟨k,hk,rfl,hb⟩:=hrel
  obtain⟨x0,hx0⟩:∃ x0,x0=inkG g (l.take k):=⟨_,rfl⟩
  rw [←hx0] at hb
  have HB:Hid (Box9 w x0 ao cap wr):=hb
  by_cases hlt:k < l.length
  ·obtain⟨b,off,rfl,hc⟩:=(HR.out.below hb.below).resolve_left (fun e=>by rw [e] at hlt;simp at hlt)
   have t:=hc k hlt
   obtain⟨y,hy⟩:∃ y,y=l.getD k 0:=⟨_,rfl⟩
   rw [←hy] at t
   have HN:Hid (inkG g (l.take (k+1))=ink1 x0 y):=by show inkG g (l.take (k+1))=_;rw [hx0,hy];exact ink_snoc hlt
   obtain⟨⟨x0',x1,x2,x3,x4,x5,x6,x7,x8⟩,z⟩:=nine hb.box
   have hlt':(k:Int) < (l.length:Int):=by omega
   have hk0:(0:Int)≤(k:Int):=by omega
   clear hc hy hb hx0
   by_cases h0:y=0
   ·subst h0
    go_wp2
    go_roundw
    case rel=>exact⟨k+1,by omega,by go_num,by rw [HN.out];exact(HB.out.ink 0).bold false⟩
    case measure=>simp [intOf];omega
   by_cases h1:y=1
   ·subst h1
    go_wp2
    go_roundw
    case rel=>exact⟨k+1,by omega,by go_num,by rw [HN.out];exact HB.out.bold true⟩
    case measure=>simp [intOf];omega
   by_cases h2:y=22
   ·subst h2
    go_wp2
    go_roundw
    case rel=>exact⟨k+1,by omega,by go_num,by rw [HN.out];exact HB.out.bold false⟩
    case measure=>simp [intOf];omega
   by_cases h4:y=39
   ·subst h4
    go_wp2
    go_roundw
    case rel=>exact⟨k+1,by omega,by go_num,by rw [HN.out];exact HB.out.ink 0⟩
    case measure=>simp [intOf];omega
   have e0:(y==0)=false:=by simp [h0]
   have e1:(y==1)=false:=by simp [h1]
   have e2:(y==22)=false:=by simp [h2]
   have e4:(y==39)=false:=by simp [h4]
   by_cases h3:30≤y∧y≤37
   ·have HN2:Hid (inkG g (l.take (k+1))={x0 with ink:=y - 29}):=by
     show inkG g (l.take (k+1))=_
     rw [HN.out];unfold ink1;rw [if_neg h0,if_neg h1,if_neg h2,if_pos h3]
    obtain⟨h31,h32⟩:=h3
    clear h0 h1 h2 h4
    go_wp2
    go_roundw
    case rel=>exact⟨k+1,by omega,by go_num,by rw [HN2.out];exact HB.out.ink (y - 29)⟩
    case measure=>simp [intOf];omega
   ·have HN2:Hid (inkG g (l.take (k+1))=x0):=by
     show inkG g (l.take (k+1))=_
     rw [HN.out];unfold ink1;rw [if_neg h0,if_neg h1,if_neg h2,if_neg h3,if_neg h4]
    by_cases h31:30≤y
    ·have h32:37 < y:=by omega
     clear h0 h1 h2 h4 h3
     go_wp2
     go_roundw
     case rel=>exact⟨k+1,by omega,by go_num,by rw [HN2.out];exact HB.out⟩
     case measure=>simp [intOf];omega
    ·have h31':y < 30:=by omega
     clear h0 h1 h2 h4 h3 h31
     go_wp2
     go_roundw
     case rel=>exact⟨k+1,by omega,by go_num,by rw [HN2.out];exact HB.out⟩
     case measure=>simp [intOf];omega
  ·have HE:Hid (x=x0):=by
    show x=x0
    rw [HX.out,hx0,List.take_of_length_le (by omega)]
   obtain⟨⟨x0',x1,x2,x3,x4,x5,x6,x7,x8⟩,z⟩:=nine hb.box
   obtain⟨⟨u0,u1,u2,u3,u4,u5,u6,u7,u8⟩,v⟩:=nine hb.res
   clear hb hx0
   go_wp2
   refine bodyPost_ret (v:=gval x0 ao cap) (by simp [results,Tryz.results127,go_sem, *]) rfl ?_
   rw [HE.out]
   exact⟨rfl,below_set9 HB.out.below (by omega) _ _ _ _ _ _ _ _ _⟩
end Go.Proofs.YtjikokfjnbhngaaGreatDoor

/- What 'commanded' does to a screen: the letters that move the cursor, and those that are nothing. -/
namespace Go.Proofs.YtjikokfjnbhngaaGreatDoor
open Go.RowKit
def Nums (w:World) (lo:Option Addr) (ln lc:Nat) (p q:Int):Prop:=
 ∀ w',Below w.heap.size w w'→(Calls Tryz.prog 122 #[.slice lo ln lc,.int .i64 0] w' fun e w''=>e=.returned (.int .i64 p)∧w''=w')∧(Calls Tryz.prog 122 #[.slice lo ln lc,.int .i64 1] w' fun e w''=>e=.returned (.int .i64 q)∧w''=w')
theorem below2 (w:World) (o1 o2:Obj):Below w.heap.size w ((w.alloc o1).alloc o2):=(below1 _ _).alloc (by simp) _
theorem gend2 {w:World} {g:Gr} {b cap:Nat} (HS:Hid (Scr w b g.n g.f)) (row col:Int) (o1 o2:Obj):GEnd w b cap {g with row:=row,col:=col} (.returned (gval {g with row:=row,col:=col} (some ⟨b,0,none⟩) cap)) ((w.alloc o1).alloc o2):=
 ⟨rfl,(HS.out.alloc _).alloc _,grown_alloc (grown_alloc (grown_refl _ _) _) _⟩
theorem gend3 {w:World} {g:Gr} {b cap:Nat} (HS:Hid (Scr w b g.n g.f)) (row col:Int) (o1 o2 o3:Obj):GEnd w b cap {g with row:=row,col:=col} (.returned (gval {g with row:=row,col:=col} (some ⟨b,0,none⟩) cap)) (((w.alloc o1).alloc o2).alloc o3):=
 ⟨rfl,((HS.out.alloc _).alloc _).alloc _,grown_alloc (grown_alloc (grown_alloc (grown_refl _ _) _) _) _⟩
set_option maxHeartbeats 2000000 in
theorem csiA (g:Gr) (h:OkG g) (b cap:Nat) (w:World) (hS:Scr w b g.n g.f) (lo:Option Addr) (ln lc:Nat) (p q:Int) (HN:Hid (Nums w lo ln lc p q)) (hp0:0≤p) (hp9:p≤999) (m:Int) (hm:m=max p 1) (x:Gr) (hx:x={g with row:=max (g.row - m) 0}):
  Calls Tryz.prog 104 #[gval g (some ⟨b,0,none⟩) cap,.int .i64 65,.slice lo ln lc] w (GEnd w b cap x):=by
 have HS:Hid (Scr w b g.n g.f):=hS
 have hr0:=h.r1
 have hr1:g.row≤10:=by have:=h.r2;have:=h.h2;omega
 have hh0:=h.h1
 have hh1:=h.h2
 have FIN:Hid (∀ r:Int,r=max (g.row - m) 0→∀ o1 o2:Obj,GEnd w b cap x (.returned (.agg #[.int .i64 g.wide,.int .i64 g.high,.slice (some ⟨b,0,none⟩) g.n cap,.int .i64 r,.int .i64 g.col,.int .i64 g.ink,.bool g.bold,.int .i64 g.top,.int .i64 g.bottom])) ((w.alloc o1).alloc o2)):=by
  intro r hr o1 o2
  rw [hx, ←hr]
  exact gend2 HS r g.col o1 o2
 clear hS h hx
 by_cases hp:p < 1
 ·obtain rfl:p=0:=by omega
  obtain rfl:m=1:=by omega
  clear hm
  go_enter Tryz.func104,Tryz.ntmps104
  go_wp2_with (first
   | (go_at_call_of 122 (Value.int IntKind.i64 0);refine(HN.out _ (below2 _ _ _)).1.mono ?_;rintro e w1 ⟨rfl,rfl⟩)
   | (go_at_call_of 122 (Value.int IntKind.i64 1);refine(HN.out _ (below2 _ _ _)).2.mono ?_;rintro e w1 ⟨rfl,rfl⟩))
  all_goals (refine bodyPost_ret (by simp [results,Tryz.results104,go_sem];rfl) rfl ?_;refine FIN.out _ ?_ _ _;omega)
 ·obtain rfl:m=p:=by omega
  clear hm
  go_enter Tryz.func104,Tryz.ntmps104
  go_wp2_with (first
   | (go_at_call_of 122 (Value.int IntKind.i64 0);refine(HN.out _ (below2 _ _ _)).1.mono ?_;rintro e w1 ⟨rfl,rfl⟩)
   | (go_at_call_of 122 (Value.int IntKind.i64 1);refine(HN.out _ (below2 _ _ _)).2.mono ?_;rintro e w1 ⟨rfl,rfl⟩))
  all_goals (refine bodyPost_ret (by simp [results,Tryz.results104,go_sem];rfl) rfl ?_;refine FIN.out _ ?_ _ _;omega)
set_option maxHeartbeats 2000000 in
theorem csiB (g:Gr) (h:OkG g) (b cap:Nat) (w:World) (hS:Scr w b g.n g.f) (lo:Option Addr) (ln lc:Nat) (p q:Int) (HN:Hid (Nums w lo ln lc p q)) (hp0:0≤p) (hp9:p≤999) (m:Int) (hm:m=max p 1) (x:Gr) (hx:x={g with row:=min (g.row+m) (g.high - 1)}):
  Calls Tryz.prog 104 #[gval g (some ⟨b,0,none⟩) cap,.int .i64 66,.slice lo ln lc] w (GEnd w b cap x):=by
 have HS:Hid (Scr w b g.n g.f):=hS
 have hr0:=h.r1
 have hr1:g.row≤10:=by have:=h.r2;have:=h.h2;omega
 have hh0:=h.h1
 have hh1:=h.h2
 have FIN:Hid (∀ r:Int,r=min (g.row+m) (g.high - 1)→∀ o1 o2:Obj,GEnd w b cap x (.returned (.agg #[.int .i64 g.wide,.int .i64 g.high,.slice (some ⟨b,0,none⟩) g.n cap,.int .i64 r,.int .i64 g.col,.int .i64 g.ink,.bool g.bold,.int .i64 g.top,.int .i64 g.bottom])) ((w.alloc o1).alloc o2)):=by
  intro r hr o1 o2
  rw [hx, ←hr]
  exact gend2 HS r g.col o1 o2
 clear hS h hx
 by_cases hp:p < 1
 ·obtain rfl:p=0:=by omega
  obtain rfl:m=1:=by omega
  clear hm
  go_enter Tryz.func104,Tryz.ntmps104
  go_wp2_with (first
   | (go_at_call_of 122 (Value.int IntKind.i64 0);refine(HN.out _ (below2 _ _ _)).1.mono ?_;rintro e w1 ⟨rfl,rfl⟩)
   | (go_at_call_of 122 (Value.int IntKind.i64 1);refine(HN.out _ (below2 _ _ _)).2.mono ?_;rintro e w1 ⟨rfl,rfl⟩))
  all_goals (refine bodyPost_ret (by simp [results,Tryz.results104,go_sem];rfl) rfl ?_;refine FIN.out _ ?_ _ _;omega)
 ·obtain rfl:m=p:=by omega
  clear hm
  go_enter Tryz.func104,Tryz.ntmps104
  go_wp2_with (first
   | (go_at_call_of 122 (Value.int IntKind.i64 0);refine(HN.out _ (below2 _ _ _)).1.mono ?_;rintro e w1 ⟨rfl,rfl⟩)
   | (go_at_call_of 122 (Value.int IntKind.i64 1);refine(HN.out _ (below2 _ _ _)).2.mono ?_;rintro e w1 ⟨rfl,rfl⟩))
  all_goals (refine bodyPost_ret (by simp [results,Tryz.results104,go_sem];rfl) rfl ?_;refine FIN.out _ ?_ _ _;omega)
set_option maxHeartbeats 2000000 in
theorem csiC (g:Gr) (h:OkG g) (b cap:Nat) (w:World) (hS:Scr w b g.n g.f) (lo:Option Addr) (ln lc:Nat) (p q:Int) (HN:Hid (Nums w lo ln lc p q)) (hp0:0≤p) (hp9:p≤999) (m:Int) (hm:m=max p 1) (x:Gr) (hx:x={g with col:=min (g.col+m) (g.wide - 1)}):
  Calls Tryz.prog 104 #[gval g (some ⟨b,0,none⟩) cap,.int .i64 67,.slice lo ln lc] w (GEnd w b cap x):=by
 have HS:Hid (Scr w b g.n g.f):=hS
 have hc0:=h.c1
 have hc1:=h.c2
 have hw0:=h.w1
 have hw1:=h.w2
 have FIN:Hid (∀ r:Int,r=min (g.col+m) (g.wide - 1)→∀ o1 o2:Obj,GEnd w b cap x (.returned (.agg #[.int .i64 g.wide,.int .i64 g.high,.slice (some ⟨b,0,none⟩) g.n cap,.int .i64 g.row,.int .i64 r,.int .i64 g.ink,.bool g.bold,.int .i64 g.top,.int .i64 g.bottom])) ((w.alloc o1).alloc o2)):=by
  intro r hr o1 o2
  rw [hx, ←hr]
  exact gend2 HS g.row r o1 o2
 clear hS h hx
 by_cases hp:p < 1
 ·obtain rfl:p=0:=by omega
  obtain rfl:m=1:=by omega
  clear hm
  go_enter Tryz.func104,Tryz.ntmps104
  go_wp2_with (first
   | (go_at_call_of 122 (Value.int IntKind.i64 0);refine(HN.out _ (below2 _ _ _)).1.mono ?_;rintro e w1 ⟨rfl,rfl⟩)
   | (go_at_call_of 122 (Value.int IntKind.i64 1);refine(HN.out _ (below2 _ _ _)).2.mono ?_;rintro e w1 ⟨rfl,rfl⟩))
  all_goals (refine bodyPost_ret (by simp [results,Tryz.results104,go_sem];rfl) rfl ?_;refine FIN.out _ ?_ _ _;omega)
 ·obtain rfl:m=p:=by omega
  clear hm
  go_enter Tryz.func104,Tryz.ntmps104
  go_wp2_with (first
   | (go_at_call_of 122 (Value.int IntKind.i64 0);refine(HN.out _ (below2 _ _ _)).1.mono ?_;rintro e w1 ⟨rfl,rfl⟩)
   | (go_at_call_of 122 (Value.int IntKind.i64 1);refine(HN.out _ (below2 _ _ _)).2.mono ?_;rintro e w1 ⟨rfl,rfl⟩))
  all_goals (refine bodyPost_ret (by simp [results,Tryz.results104,go_sem];rfl) rfl ?_;refine FIN.out _ ?_ _ _;omega)
set_option maxHeartbeats 2000000 in
theorem csiD (g:Gr) (h:OkG g) (b cap:Nat) (w:World) (hS:Scr w b g.n g.f) (lo:Option Addr) (ln lc:Nat) (p q:Int) (HN:Hid (Nums w lo ln lc p q)) (hp0:0≤p) (hp9:p≤999) (m:Int) (hm:m=max p 1) (x:Gr) (hx:x={g with col:=max (hereC g - m) 0}):
  Calls Tryz.prog 104 #[gval g (some ⟨b,0,none⟩) cap,.int .i64 68,.slice lo ln lc] w (GEnd w b cap x):=by
 have HS:Hid (Scr w b g.n g.f):=hS
 have hc0:=h.c1
 have hc1:=h.c2
 have hw0:=h.w1
 have hw1:=h.w2
 have hk1:0≤hereC g:=by unfold hereC;omega
 have hk2:hereC g≤24:=by unfold hereC;omega
 obtain⟨k,hk⟩:∃ k,k=hereC g:=⟨_,rfl⟩
 have HH:Hid (∀ w,Calls Tryz.prog 121 #[gval g (some ⟨b,0,none⟩) cap] w fun e w'=>e=.returned (.int .i64 k)∧w'=w.alloc (gbox g (some ⟨b,0,none⟩) cap)):=by
  intro w
  rw [hk]
  exact here_any g _ cap w ⟨by omega,by omega⟩
 rw [←hk] at hk1 hk2 hx
 clear hk
 have FIN:Hid (∀ r:Int,r=max (k - m) 0→∀ o1 o2 o3:Obj,GEnd w b cap x (.returned (.agg #[.int .i64 g.wide,.int .i64 g.high,.slice (some ⟨b,0,none⟩) g.n cap,.int .i64 g.row,.int .i64 r,.int .i64 g.ink,.bool g.bold,.int .i64 g.top,.int .i64 g.bottom])) (((w.alloc o1).alloc o2).alloc o3)):=by
  intro r hr o1 o2 o3
  rw [hx, ←hr]
  exact gend3 HS g.row r o1 o2 o3
 clear hS h hx
 by_cases hp:p < 1
 ·obtain rfl:p=0:=by omega
  obtain rfl:m=1:=by omega
  clear hm
  go_enter Tryz.func104,Tryz.ntmps104
  go_wp2_with (first
   | (go_at_call_of 122 (Value.int IntKind.i64 0);refine(HN.out _ (below2 _ _ _)).1.mono ?_;rintro e w1 ⟨rfl,rfl⟩)
   | (go_at_call_of 122 (Value.int IntKind.i64 1);refine(HN.out _ (below2 _ _ _)).2.mono ?_;rintro e w1 ⟨rfl,rfl⟩)
   | (go_at_call 121;refine(HH.out _).mono ?_;rintro e w1 ⟨rfl,rfl⟩))
  all_goals (refine bodyPost_ret (by simp [results,Tryz.results104,go_sem];rfl) rfl ?_;refine FIN.out _ ?_ _ _ _;omega)
 ·obtain rfl:m=p:=by omega
  clear hm
  go_enter Tryz.func104,Tryz.ntmps104
  go_wp2_with (first
   | (go_at_call_of 122 (Value.int IntKind.i64 0);refine(HN.out _ (below2 _ _ _)).1.mono ?_;rintro e w1 ⟨rfl,rfl⟩)
   | (go_at_call_of 122 (Value.int IntKind.i64 1);refine(HN.out _ (below2 _ _ _)).2.mono ?_;rintro e w1 ⟨rfl,rfl⟩)
   | (go_at_call 121;refine(HH.out _).mono ?_;rintro e w1 ⟨rfl,rfl⟩))
  all_goals (refine bodyPost_ret (by simp [results,Tryz.results104,go_sem];rfl) rfl ?_;refine FIN.out _ ?_ _ _ _;omega)
set_option maxHeartbeats 2000000 in
theorem csiH (g:Gr) (h:OkG g) (b cap:Nat) (w:World) (hS:Scr w b g.n g.f) (lo:Option Addr) (ln lc:Nat) (p q:Int) (HN:Hid (Nums w lo ln lc p q)) (hp0:0≤p) (hp9:p≤999) (hq0:0≤q) (hq9:q≤999) (m:Int) (hm:m=max p 1) (x:Gr) (hx:x={g with row:=min m g.high - 1,col:=max 1 (min q g.wide) - 1}):
  Calls Tryz.prog 104 #[gval g (some ⟨b,0,none⟩) cap,.int .i64 72,.slice lo ln lc] w (GEnd w b cap x):=by
 have HS:Hid (Scr w b g.n g.f):=hS
 have hr0:=h.r1
 have hr1:g.row≤10:=by have:=h.r2;have:=h.h2;omega
 have hh0:=h.h1
 have hh1:=h.h2
 have hc0:=h.c1
 have hc1:=h.c2
 have hw0:=h.w1
 have hw1:=h.w2
 have FIN:Hid (∀ r c:Int,r=min m g.high - 1→c=max 1 (min q g.wide) - 1→∀ o1 o2:Obj,GEnd w b cap x (.returned (.agg #[.int .i64 g.wide,.int .i64 g.high,.slice (some ⟨b,0,none⟩) g.n cap,.int .i64 r,.int .i64 c,.int .i64 g.ink,.bool g.bold,.int .i64 g.top,.int .i64 g.bottom])) ((w.alloc o1).alloc o2)):=by
  intro r c hr hc o1 o2
  rw [hx, ←hr, ←hc]
  exact gend2 HS r c o1 o2
 clear hS h hx
 by_cases hp:p < 1
 ·obtain rfl:p=0:=by omega
  obtain rfl:m=1:=by omega
  clear hm
  go_enter Tryz.func104,Tryz.ntmps104
  go_wp2_with (first
   | (go_at_call_of 122 (Value.int IntKind.i64 0);refine(HN.out _ (below2 _ _ _)).1.mono ?_;rintro e w1 ⟨rfl,rfl⟩)
   | (go_at_call_of 122 (Value.int IntKind.i64 1);refine(HN.out _ (below2 _ _ _)).2.mono ?_;rintro e w1 ⟨rfl,rfl⟩)
   | (go_at_call 60;refine(within_any _ _ _ _).mono ?_;rintro e w1 ⟨rfl,rfl⟩))
  all_goals (refine bodyPost_ret (by simp [results,Tryz.results104,go_sem];rfl) rfl ?_;refine FIN.out _ _ ?_ ?_ _ _ <;>omega)
 ·obtain rfl:m=p:=by omega
  clear hm
  go_enter Tryz.func104,Tryz.ntmps104
  go_wp2_with (first
   | (go_at_call_of 122 (Value.int IntKind.i64 0);refine(HN.out _ (below2 _ _ _)).1.mono ?_;rintro e w1 ⟨rfl,rfl⟩)
   | (go_at_call_of 122 (Value.int IntKind.i64 1);refine(HN.out _ (below2 _ _ _)).2.mono ?_;rintro e w1 ⟨rfl,rfl⟩)
   | (go_at_call 60;refine(within_any _ _ _ _).mono ?_;rintro e w1 ⟨rfl,rfl⟩))
  all_goals (refine bodyPost_ret (by simp [results,Tryz.results104,go_sem];rfl) rfl ?_;refine FIN.out _ _ ?_ ?_ _ _ <;>omega)
set_option maxHeartbeats 2000000 in
theorem csiNone (g:Gr) (b cap:Nat) (w:World) (hS:Scr w b g.n g.f) (lo:Option Addr) (ln lc:Nat) (p q:Int) (HN:Hid (Nums w lo ln lc p q)) (c:Int) (h0:c≠65) (h1:c≠66) (h2:c≠67) (h3:c≠68) (h4:c≠72) (h5:c≠74) (h6:c≠75) (h7:c≠76) (h8:c≠77) (h9:c≠109) (h10:c≠114):
  Calls Tryz.prog 104 #[gval g (some ⟨b,0,none⟩) cap,.int .i64 c,.slice lo ln lc] w (GEnd w b cap g):=by
 have HS:Hid (Scr w b g.n g.f):=hS
 have e0:(c==65)=false:=by simp [h0]
 have e1:(c==66)=false:=by simp [h1]
 have e2:(c==67)=false:=by simp [h2]
 have e3:(c==68)=false:=by simp [h3]
 have e4:(c==72)=false:=by simp [h4]
 have e5:(c==74)=false:=by simp [h5]
 have e6:(c==75)=false:=by simp [h6]
 have e7:(c==76)=false:=by simp [h7]
 have e8:(c==77)=false:=by simp [h8]
 have e9:(c==109)=false:=by simp [h9]
 have e10:(c==114)=false:=by simp [h10]
 clear hS h0 h1 h2 h3 h4 h5 h6 h7 h8 h9 h10
 by_cases hp:p < 1
 all_goals (
  go_enter Tryz.func104,Tryz.ntmps104
  go_wp2_with (first
   | (go_at_call_of 122 (Value.int IntKind.i64 0);refine(HN.out _ (below2 _ _ _)).1.mono ?_;rintro e w1 ⟨rfl,rfl⟩)
   | (go_at_call_of 122 (Value.int IntKind.i64 1);refine(HN.out _ (below2 _ _ _)).2.mono ?_;rintro e w1 ⟨rfl,rfl⟩))
  refine bodyPost_ret (by simp [results,Tryz.results104,go_sem];rfl) rfl ?_
  exact⟨rfl,(HS.out.alloc _).alloc _,grown_alloc (grown_alloc (grown_refl _ _) _) _⟩)
end Go.Proofs.YtjikokfjnbhngaaGreatDoor

/- Places of cells in numbers. -/
namespace Go.Proofs.YtjikokfjnbhngaaGreatDoor
open Go.RowKit
theorem idx_inj {r r' c c' w:Int} (h1:0≤c) (h2:c < w) (h3:0≤c') (h4:c' < w) (h:r*w+c=r'*w+c'):r=r'∧c=c':=by
 have hw:0≤w:=by omega
 rcases Int.lt_trichotomy r r' with hlt | he | hgt
 ·have h5:(r+1)*w≤r'*w:=mul_mono (by omega) hw
  rw [Int.add_mul] at h5
  omega
 ·subst he
  exact⟨rfl,by omega⟩
 ·have h5:(r'+1)*w≤r*w:=mul_mono (by omega) hw
  rw [Int.add_mul] at h5
  omega
theorem atG_good {g:Gr} (h:OkG g) {r c:Int} (h1:0≤r) (h2:r < g.high) (h3:0≤c) (h4:c < g.wide):atG g r c=g.f (r*g.wide+c).toNat∧0≤r*g.wide+c∧r*g.wide+c < g.n:=by
 obtain⟨q1,q2,_⟩:=h.nums
 have hb:=mul_bound h1 h2 (w:=g.wide) (by omega)
 refine⟨?_,by omega,by omega⟩
 unfold atG
 rw [if_pos ⟨h.w2,h.h2,h1,h2,h3,h4,by omega⟩]
theorem idx_lt {r t c w:Int} (h1:0≤c) (h2:c < w):r*w+c < t*w↔r < t:=by
 have hw:0≤w:=by omega
 constructor
 ·intro h
  by_cases h3:r < t
  ·exact h3
  ·have:=mul_mono (r:=t) (h:=r) (by omega) hw
   omega
 ·intro h
  have h5:(r+1)*w≤t*w:=mul_mono (by omega) hw
  rw [Int.add_mul] at h5
  omega
end Go.Proofs.YtjikokfjnbhngaaGreatDoor
