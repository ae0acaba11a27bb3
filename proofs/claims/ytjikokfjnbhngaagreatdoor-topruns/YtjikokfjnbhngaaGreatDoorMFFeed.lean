/- Several texts in one, each as it was: FFeed, FGrid, FSmall. -/
import Derived.Test.YtjikokfjnbhngaaGreatDoorMFFold
import Derived.Deep.RegionHeld3
import Derived.Deep.CutRange
import Derived.Test.YtjikokfjnbhngaaGreatDoorMFMach
import Derived.Test.YtjikokfjnbhngaaGreatDoorMGCtl

/- What 'Feed' does to the world: it answers what the plain machine answers to all bytes. -/
namespace Go.Proofs.YtjikokfjnbhngaaGreatDoor.Ps
open Go.RowKit
set_option maxHeartbeats 1600000 in
theorem feed_any (s0:PS) (ao:Option Addr) (cap:Nat) (s:ByteArray) (w:World) (hr:Rd w ao s0.ps) (hn:ao=none→s0.ps.length=0∧cap=0) (hm:s0.ps.length*8≤140737488355328) (hs:s.size≤1048576):
  Calls Tryz.prog 43 #[.agg #[.int .i64 s0.place,.slice ao s0.ps.length cap,.string s0.pl,.bool s0.lg],.string s] w fun e w'=>FeedEnd w s0 s e w':=by
 have HR:Hid (Rd w ao s0.ps):=hr
 have HN:Hid (ao=none→s0.ps.length=0∧cap=0):=hn
 clear hr hn
 go_enter Tryz.func43,Tryz.ntmps43
 go_wp2_with fail
 refine(clone_any ao cap s0.ps _ (HR.out.below (((Below.refl _ _).alloc (Nat.le_refl _) _).alloc (by simp) _)) HN.out hm).mono ?_
 rintro e w1 ⟨ao1,cap1,rfl,hown1,hb1⟩
 have B0:=below_block hb1 (at_old (at_new w _) _) (by simp;omega)
 have B1:=below_block hb1 (at_new1 w _ _) (by simp)
 obtain⟨a0,a1,a2,a3,f0,f1,f2,f3⟩:=four B0
 have hwB:Below w.heap.size w w1:=(((Below.refl _ _).alloc (Nat.le_refl _) _).alloc (by simp) _).trans (hb1.mono (by simp;omega))
 have hsz:w.heap.size+2≤w1.heap.size:=by have:=hb1.size;simp at this;omega
 simp only [World.size_alloc] at hown1
 have C0:=box_set (u:=.slice ao1 s0.ps.length cap1) B0
 have C1:=other_set (u:=.slice ao1 s0.ps.length cap1) (j:=1) (B:=w.heap.size) B1 (by omega)
 have hown2:Own (w.heap.size+2) (w1.setCell ⟨w.heap.size,1,none⟩ (.slice ao1 s0.ps.length cap1)) ao1 cap1 s0.ps:=own_set hown1 (fun e=>by have:=(own_blk hown1 e).1;simp at this;omega) _
 have hwB2:Below w.heap.size w (w1.setCell ⟨w.heap.size,1,none⟩ (.slice ao1 s0.ps.length cap1)):=hwB.setCell (Nat.le_refl _) _
 have H1:Hid _:=C0
 have H2:Hid _:=C1
 have H3:Hid _:=hown2
 have H4:Hid _:=hwB2
 have H5:Hid (w.heap.size+2≤(w1.setCell ⟨w.heap.size,1,none⟩ (.slice ao1 s0.ps.length cap1)).heap.size):=by show _≤_;simpa using hsz
 clear hb1 B0 B1 hwB hsz hown1 C0 C1 hown2 hwB2
 go_wp2_with fail
 refine(good_any s0 ao1 cap1 _ (Own.rd H3.out) (by omega)).mono ?_
 rintro e w2 ⟨rfl,hb2⟩
 obtain⟨c0,c1,c2,c3,g0,g1,g2,g3⟩:=four (below_block hb2 H1.out (by have:=H5.out;omega))
 obtain⟨d0,d1,d2,d3,k0,k1,k2,k3⟩:=four (below_block hb2 H2.out (by have:=H5.out;omega))
 clear a0 a1 a2 a3 f0 f1 f2 f3
 cases hg:goodB s0
 ·have HB:Hid (Below w.heap.size w w2):=H4.out.trans (hb2.mono (by have:=H5.out;omega))
  have HO:Hid (Own (w.heap.size+2) w2 ao1 cap1 s0.ps):=own_kept H3.out (Below.toGrown hb2 none) (by cases ao1 <;>simp [blk])
  clear hb2
  go_wp2
  refine bodyPost_ret (v:=.tuple #[.agg #[.int .i64 s0.place,.slice ao1 s0.ps.length cap1,.string s0.pl,.bool s0.lg],.slice none 0 0,.int .i64 1]) (by simp [results,Tryz.results43,go_sem,d0,d1,d2,d3]) rfl ?_
  refine⟨?_,fun _=>⟨ao1,cap1,rfl,?_⟩,fun h=>absurd (hg.symm.trans h) (by decide)⟩
  ·exact(((HB.out.setCell (by simp) _).setCell (by simp) _).setCell (by simp) _).setCell (by simp) _
  ·refine own_mono (base:=w.heap.size+2) ?_ (by omega)
   iterate 4 (refine own_set ?_ (fun e=>by have:=(own_blk HO.out e).1;simp at this) _)
   exact HO.out
 ·have HG:Hid (GoodS s0):=(goodB_iff s0).1 hg
  have HI:Hid (FInv w.heap.size w w2 s0 [] ao1 cap1 none 0 []):=
   ⟨H4.out.trans (hb2.mono (by have:=H5.out;omega)),by have:=H5.out;have:=hb2.size;omega,below_block hb2 H1.out (by have:=H5.out;omega),below_block hb2 H2.out (by have:=H5.out;omega),
    own_kept H3.out (Below.toGrown hb2 none) (by cases ao1 <;>simp [blk]),⟨World.ownsRow_nil _ _ _ _,fun x hx=>absurd hx (by simp)⟩,rfl,fun x hx=>absurd hx (by simp)⟩
  clear hb2 H1 H2 H3 H4 H5 c0 c1 c2 c3 g0 g1 g2 g3 d0 d1 d2 d3 k0 k1 k2 k3 HR HN
  go_wp2
  go_loopw [7,21] (fun t i wr=>∃ (k:Nat) (a:Option Addr) (c:Nat) (tq:Option Addr) (tc:Nat) (evs:List Item),k≤s.size∧i=.int .i64 k∧t=.slice tq evs.length tc∧FInv w.heap.size w wr s0 (s.data.toList.take k) a c tq tc evs) (fun _ i _=>s.size - (intOf i).toNat)
  case atStart=>exact⟨0,ao1,cap1,none,0,[],Nat.zero_le _,rfl,rfl,HI.out⟩
  case round=>
   obtain⟨k,a,c,tq,tc,evs,hk,rfl,rfl,hinv⟩:=hrel
   have HV:Hid (FInv w.heap.size w wr s0 (s.data.toList.take k) a c tq tc evs):=hinv
   obtain⟨st,hst⟩:∃ st,st=feedS s0 (s.data.toList.take k):=⟨_,rfl⟩
   have B0:=hinv.box
   rw [←hst] at B0
   have HT:Hid (st=feedS s0 (s.data.toList.take k)):=hst
   have B1:=hinv.res
   clear hinv hst HI
   obtain⟨c0,c1,c2,c3,g0,g1,g2,g3⟩:=four B0
   obtain⟨d0,d1,d2,d3,k0,k1,k2,k3⟩:=four B1
   have HB0:Hid _:=B0
   have HB1:Hid _:=B1
   clear B0 B1
   by_cases hlt:k < s.size
   ·have hlt':(k:Int) < (s.size:Int):=by omega
    have hk0:(0:Int)≤(k:Int):=by omega
    have HL:Hid (k < s.size):=hlt
    have HGS:Hid (GoodS st):=by rw [HT.out];exact good_feed s0 HG.out _
    have HOW:Hid (Own (w.heap.size+2) wr a c st.ps):=by rw [HT.out];exact HV.out.own
    have hsz2:w.heap.size+2≤wr.heap.size:=HV.out.size
    clear d0 d1 d2 d3 k0 k1 k2 k3
    obtain⟨r,hr⟩:∃ r,r=stp st (bint s[k]):=⟨_,rfl⟩
    have HRR:Hid (r=stp st (bint s[k])):=hr
    have HST:Hid (∀ wx:World,Own (w.heap.size+2) wx a c st.ps→w.heap.size+2≤wx.heap.size→Calls Tryz.prog 76 #[.agg #[.int .i64 st.place,.slice a st.ps.length c,.string st.pl,.bool st.lg],.int .i64 (IntKind.i64.wrap (s[k].toNat:Int))] wx fun e w'=>StepEnd (w.heap.size+2) wx a r e w'):=by
     intro wx h1 h2
     rw [wrap_byte,hr]
     exact step_any (w.heap.size+2) c a st (bint s[k]) wx h1 h2 HGS.out (bint_lo s[k]) (bint_hi s[k])
    clear hr
    have hnB:some w.heap.size≠blk a:=fun e=>by have:=(own_blk HOW.out e.symm).1;omega
    have hn0:some wr.heap.size≠blk a:=fun e=>by have:=(own_blk HOW.out e.symm).2;omega
    have hn1:some (wr.heap.size+1)≠blk a:=fun e=>by have:=(own_blk HOW.out e.symm).2;omega
    have hB0:w.heap.size < wr.heap.size:=by omega
    have hB1:w.heap.size < wr.heap.size+1:=by omega
    have hB2:w.heap.size < wr.heap.size+1+1:=by omega
    have hD0:wr.heap.size≠w.heap.size:=by omega
    have hD1:wr.heap.size+1≠w.heap.size:=by omega
    go_wp2
    go_cut [9,10] from 22 to 40 (fun s9 s10 wx=>Mid w.heap.size wr wx a r s9 s10)
    case first=>
     go_region_held3 (fun w'=>w'.cell? ⟨w.heap.size,0,none⟩=some (.int .i64 st.place)∧w'.cell? ⟨w.heap.size,1,none⟩=some (.slice a st.ps.length c)∧w'.cell? ⟨w.heap.size,2,none⟩=some (.string st.pl)∧w'.cell? ⟨w.heap.size,3,none⟩=some (.bool st.lg)) (first | go_keep | (simp [*,World.cell?_alloc_past]))
      ((go_at_call 76;refine(Calls.mono (HST.out _ ?_ ?_) ?_);(first | exact HOW.out | exact own_drew HOW.out | exact own_drew (own_alloc HOW.out _) | exact own_alloc (own_drew HOW.out) _ | exact own_drew (own_alloc (own_alloc HOW.out _) _) | exact own_alloc (own_alloc (own_drew HOW.out) _) _);(simp;omega);rintro e w3 ⟨a3,c3',p3,pc3,rfl,hstep⟩;have q1:=Stepped.grown hstep;have q2:=q1.size;have q4:=grown_block q1 (by first | exact HB0.out | exact at_old HB0.out _ | exact at_old (at_old HB0.out _) _) hnB;obtain⟨x0,x1,x2,x3,y0,y1,y2,y3⟩:=four q4;clear q4;(first | (have q5:=grown_block q1 (at_old (at_new wr _) _) hn0;have q6:=grown_block q1 (at_new1 wr _ _) hn1;obtain⟨i0,i1,i2,i3,j0,j1,j2,j3⟩:=four q5;obtain⟨l0,l1,l2,l3,t0,t1,t2,t3⟩:=four q6;have z2:wr.heap.size+1 < w3.heap.size:=(by simp at q2;omega);have z3:wr.heap.size < w3.heap.size:=(by omega);clear q5 q6) | (have q5:=grown_block q1 (at_new wr _) hn0;obtain⟨i0,i1,i2,i3,j0,j1,j2,j3⟩:=four q5;have z2:wr.heap.size < w3.heap.size:=(by simp at q2;omega);have z3:wr.heap.size < w3.heap.size+1:=(by omega);clear q5) | skip);clear q1;have z0:w.heap.size < w3.heap.size:=(by simp at q2;omega);have z1:w.heap.size < w3.heap.size+1:=(by omega);clear q2;dsimp only))
     all_goals (go_wp2_with fail;go_meet)
     ·exact midA hstep
     ·exact midB hstep
     ·exact midC hstep hn0
     ·exact midE hstep hn0 hn1
     ·exact midD hstep hn0
     ·exact midF hstep hn0 hn1
     ·exact midC hstep hn0
     ·exact midE hstep hn0 hn1
     ·exact midE hstep hn0 hn1
     ·exact midD hstep hn0
     ·exact midF hstep hn0 hn1
     ·exact midF hstep hn0 hn1
    case rest=>
     obtain⟨g9,g10,a3,c3,p3,pc3,rfl,rfl,hn9,hn10,hb9,hb10,hst⟩:=hcut
     obtain⟨c0,c1,c2,c3',g0,g1,g2,g3⟩:=four (grown_block hst.grown HB0.out hnB)
     obtain⟨e0,e1,e2,e3,f0,f1,f2,f3⟩:=four hb9
     obtain⟨l0,l1,l2,l3,t0,t1,t2,t3⟩:=four hb10
     have HP:Hid (PInv w.heap.size w ((((wc.setCell ⟨w.heap.size,0,none⟩ (.int .i64 r.1.place)).setCell ⟨w.heap.size,1,none⟩ (.slice a3 r.1.ps.length c3)).setCell ⟨w.heap.size,2,none⟩ (.string r.1.pl)).setCell ⟨w.heap.size,3,none⟩ (.bool r.1.lg)) r.1 r.2 a3 c3 p3 pc3 tq tc evs):=p_of_mid HV.out hst
     have HSAY:Hid (evs.map (·.1)=feedE s0 (s.data.toList.take k)):=HV.out.says
     have HRS:Hid (r=stp (feedS s0 (s.data.toList.take k)) (bint s[k])):=by rw [←HT.out];exact HRR.out
     have n9:g9≠w.heap.size:=by omega
     have n10:g10≠w.heap.size:=by omega
     have H10:Hid (((((wc.setCell ⟨w.heap.size,0,none⟩ (.int .i64 r.1.place)).setCell ⟨w.heap.size,1,none⟩ (.slice a3 r.1.ps.length c3)).setCell ⟨w.heap.size,2,none⟩ (.string r.1.pl)).setCell ⟨w.heap.size,3,none⟩ (.bool r.1.lg)).heap[g10]?=some (.cells #[.int .i64 r.2.kind,.int .i64 r.2.b,.slice p3 r.2.ps.length pc3,.string r.2.pl] 124 (0,0))):=other4 hb10 n10 _ _ _ _
     have HLE:Hid (evs.length≤1048576):=by
      have h1:=congrArg List.length HSAY.out
      have h2:=evs_len s0 (s.data.toList.take k)
      simp only [List.length_map,List.length_take] at h1 h2
      show evs.length≤1048576
      omega
     have HTS:Hid (s.data.toList.take (k+1)=s.data.toList.take k++[s[k]]):=take_snoc s k hlt
     clear hst hb9 hb10 HST HV HT HRR HB0 HB1 HOW HGS
     go_wp2_with fail
     refine(tells_any _ _ _ _ _ _ _).mono ?_
     rintro e w5 ⟨rfl,hb5⟩
     have HQ:Hid (PInv w.heap.size w w5 r.1 r.2 a3 c3 p3 pc3 tq tc evs):=HP.out.later hb5
     have H11:=below_block hb5 H10.out (Array.getElem?_eq_some_iff.1 H10.out).1
     obtain⟨q0,q1,q2,q3,v0,v1,v2,v3⟩:=four H11
     clear hb5 H11 HP H10 c0 c1 c2 c3' g0 g1 g2 g3 e0 e1 e2 e3 f0 f1 f2 f3 l0 l1 l2 l3 t0 t1 t2 t3
     by_cases hkind:r.2.kind=0
     ·have hne:(r.2.kind !=0)=false:=by simp [hkind]
      have HK:Hid (r.2.kind=0):=hkind
      clear hkind
      go_wp2
      go_roundw
      case rel=>exact⟨k+1,a3,c3,tq,tc,evs,by omega,by go_num,rfl,by rw [HTS.out];exact round_no HRS.out HSAY.out HK.out HQ.out⟩
      case measure=>simp [intOf];omega
     ·have hne:(r.2.kind !=0)=true:=by simp [hkind]
      have HK:Hid (¬ r.2.kind=0):=hkind
      have HR5:Hid (w5.ownsRow (w.heap.size+2) 124 4 (.slice tq evs.length tc) evs.length (allCells evs)):=HQ.out.told.row
      have hz5:w.heap.size+2≤w5.heap.size:=HQ.out.size
      obtain⟨i37,hi,hz0,hz1,hz2⟩:=info_parts info37
      clear hkind
      go_wp2_with (first | (at_builtin;refine wpList_append_lies _ rfl _ _ 91 rfl (w.heap.size+2) 124 i37 _ 4 56 Tryz.underlying91 hi hz0 hz1 hz2 rfl (by decide) _ evs.length (allCells evs) rfl (HR5.out.alloc _) ⟨w5.heap.size,0,none⟩ 1 1 (cellsOf (r.2,p3,pc3)) rfl rfl ?d1 ?d2 (by decide) ?d3 ?d4 ?d5 (w5.heap.size+1) ?d6 ?_) | go_in)
      case d1=>exact World.news_of_block (at_new w5 _)
      case d2=>intro u hu;simp [cellsOf] at hu;rcases hu with h | h | h | h <;>subst h <;>rfl
      case d3=>have:=HLE.out;unfold maxLen;omega
      case d4=>have:=HLE.out;omega
      case d5=>simp;omega
      case d6=>simp
      ·intro g' cap' w6 hown6 hgrow6 _ _
       rw [ownBlock_eq] at hgrow6
       have HF:Hid (FInv w.heap.size w w6 s0 (s.data.toList.take k++[s[k]]) a3 c3 (some ⟨g',0,none⟩) cap' (evs++[(r.2,p3,pc3)])):=round_yes HRS.out HSAY.out HK.out HQ.out hown6 hgrow6
       clear hown6 hgrow6 HR5 hz5 q0 q1 q2 q3 v0 v1 v2 v3
       go_wp2
       go_roundw
       case rel=>exact⟨k+1,a3,c3,some ⟨g',0,none⟩,cap',evs++[(r.2,p3,pc3)],by omega,by go_num,by simp,by rw [HTS.out];exact HF.out⟩
       case measure=>simp [intOf];omega
   ·clear g0 g1 g2 g3
    go_wp2
    exact bodyPost_ret (v:=.tuple #[.agg #[.int .i64 st.place,.slice a st.ps.length c,.string st.pl,.bool st.lg],.slice tq evs.length tc,.int .i64 0]) (by simp [results,Tryz.results43,go_sem,d0,d1,d2,d3]) rfl
     (feed_finish HV.out hlt hg HT.out _ _ _ _)
end Go.Proofs.YtjikokfjnbhngaaGreatDoor.Ps

/- The events that Feed tells, as All reads them. -/
namespace Go.Proofs.YtjikokfjnbhngaaGreatDoor
open Go.RowKit
def toIt (x:Ps.Item):EvIt:=(toE x.1,x.2.1,x.2.2)
theorem own_read {base:Nat} {w:World} {ao:Option Addr} {cap:Nat} {l:List Int} (h:Ps.Own base w ao cap l):RdL w ao l:=by
 rcases h.2 with ⟨_,h0⟩ | ⟨g,c,cur,hv,_,hg,hc,_,hs,ht⟩
 ·exact .inl (List.length_eq_zero_iff.1 h0)
 ·simp only [Value.slice.injEq] at hv
  refine .inr ⟨g,0,hv.1,fun j hj=>?_⟩
  rw [Nat.zero_add,cell_of_row w g j _ _ _ hg]
  have h1:(Ps.ints l)[j]?=some (.int .i64 (l.getD j 0)):=by simp [Ps.ints,hj]
  rw [←ht,List.getElem?_take_of_lt (by omega)] at h1
  simpa using h1
theorem allCells_at (evs:List Ps.Item) (k j:Nat) (hk:k < evs.length) (hj:j < 4):(Ps.allCells evs)[k*4+j]?=(Ps.cellsOf evs[k])[j]?:=by
 induction evs generalizing k with
 | nil=>simp at hk
 | cons x r ih=>
  have e:Ps.allCells (x::r)=Ps.cellsOf x++Ps.allCells r:=rfl
  have hl:(Ps.cellsOf x).length=4:=rfl
  rw [e]
  cases k with
  | zero=>
   rw [Nat.zero_mul,Nat.zero_add,List.getElem?_append_left (by omega)]
   rfl
  | succ k=>
   rw [List.getElem?_append_right (by omega),hl,show (k+1)*4+j - 4=k*4+j by omega,ih k (by simpa using hk)]
   rfl
theorem told_read {base:Nat} {w:World} {tq:Option Addr} {tc:Nat} {evs:List Ps.Item} (h:Ps.Told base w tq tc evs):RdE w tq (evs.map toIt):=by
 refine⟨fun x hx=>?_,?_⟩
 ·obtain⟨y,hy,rfl⟩:=List.mem_map.1 hx
  exact own_read (h.each y hy)
 ·rcases h.row.2 with ⟨_,h0⟩ | ⟨g,c,cur,hv,_,hg,hc,_,hs,ht⟩
  ·exact .inl (by rw [List.length_eq_zero_iff.1 h0];rfl)
  ·simp only [Value.slice.injEq] at hv
   refine .inr ⟨g,0,hv.1,fun k hk=>?_⟩
   have hk':k < evs.length:=by simpa using hk
   have key:∀ j,j < 4→w.cell? ⟨g,0+k*4+j,none⟩=(Ps.cellsOf evs[k])[j]?:=fun j hj=>by
    rw [cell_of_row w g (0+k*4+j) _ _ _ hg,Nat.zero_add, ←allCells_at evs k j hk' hj, ←ht,List.getElem?_take_of_lt (by omega)]
    simp
   have e:(evs.map toIt)[k]=toIt evs[k]:=by simp
   rw [e]
   exact⟨key 0 (by omega),key 1 (by omega),key 2 (by omega),key 3 (by omega)⟩
theorem told_evs {evs:List Ps.Item} {es:List Ps.Ev} (h:evs.map (·.1)=es):(evs.map toIt).map (·.1)=es.map toE:=by
 rw [←h]
 simp [toIt]
end Go.Proofs.YtjikokfjnbhngaaGreatDoor

/- What is told of bytes from the ground is small; nothing of the program is in it. -/
namespace Go.Proofs.YtjikokfjnbhngaaGreatDoor.Ps
def Sm (s:PS):Prop:=s.ps.length≤4∧s.pl.size≤48
def SmE (e:Ev):Prop:=e.ps.length≤4∧e.pl.size≤48
theorem sm_ground:Sm ground:=⟨by decide,by decide⟩
theorem sm_no:SmE noEv:=⟨by decide,by decide⟩
theorem small_stp (s:PS) (b:Int) (h:Sm s):Sm (stp s b).1∧SmE (stp s b).2:=by
 obtain⟨h1,h2⟩:=h
 unfold stp escF cmdF endF gndF picF
 repeat' split
 all_goals refine⟨⟨?_,?_⟩,⟨?_,?_⟩⟩
 all_goals first
  | assumption
  | decide
  | (dsimp only;decide)
  | (simp [lastUp,ByteArray.size_push];done)
  | (simp [lastUp,ByteArray.size_push];omega)
theorem small_feed (l:List UInt8):∀ s,Sm s→∀ e∈feedE s l,SmE e:=by
 induction l with
 | nil=>intro s _ e he;simp [feedE] at he
 | cons c r ih=>
  intro s h e he
  obtain⟨k1,k2⟩:=small_stp s (bint c) h
  simp only [feedE,List.mem_append] at he
  rcases he with h3 | h3
  ·unfold one at h3
   split at h3
   ·simp at h3
   ·rw [List.mem_singleton] at h3
    rw [h3]
    exact k2
  ·exact ih _ k1 e h3
theorem feed_len (l:List UInt8):∀ s,(feedE s l).length≤l.length:=by
 induction l with
 | nil=>intro s;simp [feedE]
 | cons c r ih=>
  intro s
  have h:(one (stp s (bint c)).2).length≤1:=by
   unfold one
   split <;>simp
  have:=ih (stp s (bint c)).1
  simp only [feedE,List.length_append,List.length_cons]
  omega
end Go.Proofs.YtjikokfjnbhngaaGreatDoor.Ps
