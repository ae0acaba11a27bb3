/- What 'Split' makes of panes: the ways on which a pane comes in. -/
import Derived.Test.YtjikokfjnbhngaaGreatDoorMTSp1
namespace Go.Proofs.YtjikokfjnbhngaaGreatDoor.Tl
open Go.RowKit
set_option maxHeartbeats 4000000 in
set_option maxRecDepth 100000 in
theorem split_right (its:List CIt) (co:Option Addr) (cap:Nat) (p n:Int) (right:Bool) (w:World) (hr:RdT w co its) (hm:its.length≤5864062014805) (hm2:∀ x∈its,x.1.length≤17592186044416) (r:List (List Int)×Int) (hrr:r=splitT (colsOf its) p n right) (hgd:goodT (colsOf its)=true) (hpn:paneB n=true) (i j:Nat) (hfd:findT p (colsOf its)=some (i,j)) (hhs:hasT (colsOf its) n=false) (hrt:right=true):
  Calls Tryz.prog 66 #[tval co its.length cap,.int .i64 p,.int .i64 n,.bool right] w (SpEndT w r):=by
 have HR:Hid (RdT w co its):=hr
 have HC:Hid (∀ W,Below w.heap.size w W→Calls Tryz.prog 86 #[tval co its.length cap] W fun e w'=>∃ g its',e=.returned (tval (some ⟨g,0,none⟩) its.length its.length)∧colsOf its'=colsOf its∧W.heap.size≤g∧Cp its' g w'∧Below W.heap.size W w'):=fun W hW=>copied2 its co cap W (hr.below hW) hm hm2
 have hm6:its.length≤1048576:=by have:=good_len ((goodT_iff _).1 hgd);simp only [colsOf,List.length_map] at this;omega
 have hi:i < its.length:=by obtain⟨h1,_⟩:=findT_get hfd;simpa using h1
 have HG:Hid (∀ W,RdT W co its→Calls Tryz.prog 31 #[tval co its.length cap] W fun e w'=>e=.returned (.bool true)∧Below W.heap.size W w'):=fun W hW=>good_any its co cap W hW hm hm2 true hgd.symm
 have HPN:Hid (∀ W,Calls Tryz.prog 56 #[.int .i64 n] W fun e w'=>e=.returned (.bool true)∧w'=W):=fun W=>by have:=isPane_any n W;rw [hpn] at this;exact this
 have HF:Hid (∀ W,RdT W co its→Calls Tryz.prog 50 #[tval co its.length cap,.int .i64 p] W fun e w'=>e=.returned (.tuple #[.int .i64 i,.int .i64 j,.bool true])∧Below W.heap.size W w'):=fun W hW=>find2 its co cap p W hW hm hm2 (some (i,j)) hfd.symm
 have HH:Hid (∀ W,RdT W co its→Calls Tryz.prog 32 #[tval co its.length cap,.int .i64 n] W fun e w'=>e=.returned (.bool false)∧Below W.heap.size W w'):=fun W hW=>has_any its co cap n W hW hm hm2 false hhs.symm
 have HRR:Hid (r=(insL (colsOf its) (i+1) [n],0)):=by show r=_;rw [hrr];simp [splitT,hgd,hpn,hfd,hhs,hrt]
 subst hrt
 clear hr hm2 hrr hgd hpn hfd hhs
 go_enter Tryz.func66,Tryz.ntmps66
 go_wp2_with (first
  | (go_at_call 86;refine(HC.out _ (below2 _ _ _)).mono ?_;rintro e w1 ⟨g,its',rfl,hc,hg,hcp,hb⟩;have HS:Hid (SInv w its co cap g its' w1.heap.size (w1.alloc (tbox (some ⟨g,0,none⟩) its.length its.length))):=sinv_start HR.out hc hg hcp hb;obtain⟨a1,a2⟩:=one HS.out.box;obtain⟨a3,a4⟩:=one HS.out.res;obtain⟨a5,a6⟩:=one HS.out.to2;clear hc hg hcp hb)
  | (go_at_call 31;refine(HG.out _ HS.out.rd).mono ?_;rintro e w2 ⟨rfl,hb2⟩;have HS2:Hid (SInv w its co cap g its' w1.heap.size w2):=HS.out.next hb2;clear hb2 a1 a2 a3 a4 a5 a6;obtain⟨a1,a2⟩:=one HS2.out.box;obtain⟨a3,a4⟩:=one HS2.out.res;obtain⟨a5,a6⟩:=one HS2.out.to2)
  | (go_at_call 56;refine(HPN.out _).mono ?_;rintro e w3 ⟨rfl,rfl⟩)
  | (go_at_call 50;refine(HF.out _ HS2.out.rd).mono ?_;rintro e w4 ⟨rfl,hb4⟩;have HS3:Hid (SInv w its co cap g its' w1.heap.size w4):=HS2.out.next hb4;clear hb4 a1 a2 a3 a4 a5 a6;obtain⟨a1,a2⟩:=one HS3.out.box;obtain⟨a3,a4⟩:=one HS3.out.res;obtain⟨a5,a6⟩:=one HS3.out.to2)
  | (go_at_call 32;refine(HH.out _ HS3.out.rd).mono ?_;rintro e w5 ⟨rfl,hb5⟩;have HS4:Hid (SInv w its co cap g its' w1.heap.size w5):=HS3.out.next hb5;clear hb5 a1 a2 a3 a4 a5 a6;obtain⟨a1,a2⟩:=one HS4.out.box;obtain⟨a3,a4⟩:=one HS4.out.res;obtain⟨a5,a6⟩:=one HS4.out.to2)
  | (go_at_call 87;refine(split_insL HS4.out hm6 i hi n).mono ?_;rintro e w6 ⟨ao',c',rfl,c1,c2,hend⟩;have HE:Hid (SpEndT w (insL (colsOf its) (i+1) [n],0) (.returned (.tuple #[tval ao' (its.length+1) c',.int .i64 0])) ((w6.setCell ⟨w1.heap.size,0,none⟩ (.slice ao' (its.length+1) c')).setCell ⟨w.heap.size+1,0,none⟩ (.slice ao' (its.length+1) c'))):=hend;clear hend a1 a2 a3 a4 a5 a6;obtain⟨a3,a4⟩:=one c1;obtain⟨a5,a6⟩:=one c2;have hn1:¬ w1.heap.size=w.heap.size+1:=(by have:=HS4.out.far;omega);have hn2:¬ w.heap.size+1=w1.heap.size:=(by have:=HS4.out.far;omega);clear c1 c2)
  | fail)
 refine bodyPost_ret (v:=.tuple #[tval ao' (its.length+1) c',.int .i64 0]) (by simp [results,Tryz.results66,go_sem, *]) rfl ?_
 rw [HRR.out]
 exact HE.out
set_option maxHeartbeats 4000000 in
set_option maxRecDepth 100000 in
theorem split_full (its:List CIt) (co:Option Addr) (cap:Nat) (p n:Int) (right:Bool) (w:World) (hr:RdT w co its) (hm:its.length≤5864062014805) (hm2:∀ x∈its,x.1.length≤17592186044416) (r:List (List Int)×Int) (hrr:r=splitT (colsOf its) p n right) (hgd:goodT (colsOf its)=true) (hpn:paneB n=true) (i j:Nat) (hfd:findT p (colsOf its)=some (i,j)) (hhs:hasT (colsOf its) n=false) (hrt:right=false) (hln:((colsOf its).getD i []).length=3):
  Calls Tryz.prog 66 #[tval co its.length cap,.int .i64 p,.int .i64 n,.bool right] w (SpEndT w r):=by
 have HR:Hid (RdT w co its):=hr
 have HC:Hid (∀ W,Below w.heap.size w W→Calls Tryz.prog 86 #[tval co its.length cap] W fun e w'=>∃ g its',e=.returned (tval (some ⟨g,0,none⟩) its.length its.length)∧colsOf its'=colsOf its∧W.heap.size≤g∧Cp its' g w'∧Below W.heap.size W w'):=fun W hW=>copied2 its co cap W (hr.below hW) hm hm2
 have hm6:its.length≤1048576:=by have:=good_len ((goodT_iff _).1 hgd);simp only [colsOf,List.length_map] at this;omega
 have hi:i < its.length:=by obtain⟨h1,_⟩:=findT_get hfd;simpa using h1
 have HG:Hid (∀ W,RdT W co its→Calls Tryz.prog 31 #[tval co its.length cap] W fun e w'=>e=.returned (.bool true)∧Below W.heap.size W w'):=fun W hW=>good_any its co cap W hW hm hm2 true hgd.symm
 have HPN:Hid (∀ W,Calls Tryz.prog 56 #[.int .i64 n] W fun e w'=>e=.returned (.bool true)∧w'=W):=fun W=>by have:=isPane_any n W;rw [hpn] at this;exact this
 have HF:Hid (∀ W,RdT W co its→Calls Tryz.prog 50 #[tval co its.length cap,.int .i64 p] W fun e w'=>e=.returned (.tuple #[.int .i64 i,.int .i64 j,.bool true])∧Below W.heap.size W w'):=fun W hW=>find2 its co cap p W hW hm hm2 (some (i,j)) hfd.symm
 have HH:Hid (∀ W,RdT W co its→Calls Tryz.prog 32 #[tval co its.length cap,.int .i64 n] W fun e w'=>e=.returned (.bool false)∧Below W.heap.size W w'):=fun W hW=>has_any its co cap n W hW hm hm2 false hhs.symm
 have HRR:Hid (r=(colsOf its,5)):=by show r=_;rw [hrr];simp only [splitT,hgd,hpn,hfd,hhs,hrt,hln];simp
 have HLEN:Hid (((colsOf its).getD i []).length=3):=hln
 subst hrt
 clear hr hm2 hrr hgd hpn hfd hhs hln
 go_enter Tryz.func66,Tryz.ntmps66
 go_wp2_with (first
  | (go_at_call 86;refine(HC.out _ (below2 _ _ _)).mono ?_;rintro e w1 ⟨g,its',rfl,hc,hg,hcp,hb⟩;have HS:Hid (SInv w its co cap g its' w1.heap.size (w1.alloc (tbox (some ⟨g,0,none⟩) its.length its.length))):=sinv_start HR.out hc hg hcp hb;obtain⟨a1,a2⟩:=one HS.out.box;obtain⟨a3,a4⟩:=one HS.out.res;obtain⟨a5,a6⟩:=one HS.out.to2;clear hc hg hcp hb)
  | (go_at_call 31;refine(HG.out _ HS.out.rd).mono ?_;rintro e w2 ⟨rfl,hb2⟩;have HS2:Hid (SInv w its co cap g its' w1.heap.size w2):=HS.out.next hb2;clear hb2 a1 a2 a3 a4 a5 a6;obtain⟨a1,a2⟩:=one HS2.out.box;obtain⟨a3,a4⟩:=one HS2.out.res;obtain⟨a5,a6⟩:=one HS2.out.to2)
  | (go_at_call 56;refine(HPN.out _).mono ?_;rintro e w3 ⟨rfl,rfl⟩)
  | (go_at_call 50;refine(HF.out _ HS2.out.rd).mono ?_;rintro e w4 ⟨rfl,hb4⟩;have HS3:Hid (SInv w its co cap g its' w1.heap.size w4):=HS2.out.next hb4;clear hb4 a1 a2 a3 a4 a5 a6;obtain⟨a1,a2⟩:=one HS3.out.box;obtain⟨a3,a4⟩:=one HS3.out.res;obtain⟨a5,a6⟩:=one HS3.out.to2)
  | (go_at_call 32;refine(HH.out _ HS3.out.rd).mono ?_;rintro e w5 ⟨rfl,hb5⟩;have HS4:Hid (SInv w its co cap g its' w1.heap.size w5):=HS3.out.next hb5;clear hb5 a1 a2 a3 a4 a5 a6;obtain⟨a1,a2⟩:=one HS4.out.box;obtain⟨a3,a4⟩:=one HS4.out.res;obtain⟨a5,a6⟩:=one HS4.out.to2;obtain⟨⟨x1,x2,x3⟩,hx1,hx2,hx3,hx4⟩:=HS4.out.col i hi;have hl3:x1.length=3:=(congrArg List.length hx2).trans HLEN.out;simp only at hx3;rw [hl3] at hx3;clear hx1 hx2 hl3)
  | fail)
 refine bodyPost_ret (v:=.tuple #[tval (some ⟨g,0,none⟩) its.length its.length,.int .i64 5]) (by simp [results,Tryz.results66,go_sem, *]) rfl ?_
 exact HS4.out.same 5 r HRR.out
set_option maxHeartbeats 4000000 in
set_option maxRecDepth 100000 in
theorem split_down (its:List CIt) (co:Option Addr) (cap:Nat) (p n:Int) (right:Bool) (w:World) (hr:RdT w co its) (hm:its.length≤5864062014805) (hm2:∀ x∈its,x.1.length≤17592186044416) (r:List (List Int)×Int) (hrr:r=splitT (colsOf its) p n right) (hgd:goodT (colsOf its)=true) (hpn:paneB n=true) (i j:Nat) (hfd:findT p (colsOf its)=some (i,j)) (hhs:hasT (colsOf its) n=false) (hrt:right=false) (hln:((colsOf its).getD i []).length≠3):
  Calls Tryz.prog 66 #[tval co its.length cap,.int .i64 p,.int .i64 n,.bool right] w (SpEndT w r):=by
 have HR:Hid (RdT w co its):=hr
 have HC:Hid (∀ W,Below w.heap.size w W→Calls Tryz.prog 86 #[tval co its.length cap] W fun e w'=>∃ g its',e=.returned (tval (some ⟨g,0,none⟩) its.length its.length)∧colsOf its'=colsOf its∧W.heap.size≤g∧Cp its' g w'∧Below W.heap.size W w'):=fun W hW=>copied2 its co cap W (hr.below hW) hm hm2
 have hm6:its.length≤1048576:=by have:=good_len ((goodT_iff _).1 hgd);simp only [colsOf,List.length_map] at this;omega
 have hi:i < its.length:=by obtain⟨h1,_⟩:=findT_get hfd;simpa using h1
 have HG:Hid (∀ W,RdT W co its→Calls Tryz.prog 31 #[tval co its.length cap] W fun e w'=>e=.returned (.bool true)∧Below W.heap.size W w'):=fun W hW=>good_any its co cap W hW hm hm2 true hgd.symm
 have HPN:Hid (∀ W,Calls Tryz.prog 56 #[.int .i64 n] W fun e w'=>e=.returned (.bool true)∧w'=W):=fun W=>by have:=isPane_any n W;rw [hpn] at this;exact this
 have HF:Hid (∀ W,RdT W co its→Calls Tryz.prog 50 #[tval co its.length cap,.int .i64 p] W fun e w'=>e=.returned (.tuple #[.int .i64 i,.int .i64 j,.bool true])∧Below W.heap.size W w'):=fun W hW=>find2 its co cap p W hW hm hm2 (some (i,j)) hfd.symm
 have HH:Hid (∀ W,RdT W co its→Calls Tryz.prog 32 #[tval co its.length cap,.int .i64 n] W fun e w'=>e=.returned (.bool false)∧Below W.heap.size W w'):=fun W hW=>has_any its co cap n W hW hm hm2 false hhs.symm
 have HRR:Hid (r=((colsOf its).set i (insL ((colsOf its).getD i []) (j+1) n),0)):=by show r=_;rw [hrr];simp only [splitT,hgd,hpn,hfd,hhs,hrt,hln];simp
 have HLEN:Hid (((colsOf its).getD i []).length≠3):=hln
 have HJ:Hid (j+1≤((colsOf its).getD i []).length):=by
  show _≤_
  obtain⟨h1,h2,_⟩:=findT_get hfd
  simp only [List.getD_eq_getElem?_getD,List.getElem?_eq_getElem h1,Option.getD_some]
  omega
 have HJ3:Hid (((colsOf its).getD i []).length≤3):=by
  show _≤_
  obtain⟨h1,_⟩:=findT_get hfd
  simp only [List.getD_eq_getElem?_getD,List.getElem?_eq_getElem h1,Option.getD_some]
  exact(((goodT_iff _).1 hgd).tall _ (List.getElem_mem h1)).2
 have hi':(i:Int) < (its.length:Int):=by omega
 have hj3:j≤3:=by have h1:=HJ.out;have h2:=HJ3.out;omega
 subst hrt
 clear hr hm2 hrr hgd hpn hfd hhs hln
 go_enter Tryz.func66,Tryz.ntmps66
 go_wp2_with (first
  | (go_at_call 86;refine(HC.out _ (below2 _ _ _)).mono ?_;rintro e w1 ⟨g,its',rfl,hc,hg,hcp,hb⟩;have HS:Hid (SInv w its co cap g its' w1.heap.size (w1.alloc (tbox (some ⟨g,0,none⟩) its.length its.length))):=sinv_start HR.out hc hg hcp hb;obtain⟨a1,a2⟩:=one HS.out.box;obtain⟨a3,a4⟩:=one HS.out.res;obtain⟨a5,a6⟩:=one HS.out.to2;clear hc hg hcp hb)
  | (go_at_call 31;refine(HG.out _ HS.out.rd).mono ?_;rintro e w2 ⟨rfl,hb2⟩;have HS2:Hid (SInv w its co cap g its' w1.heap.size w2):=HS.out.next hb2;clear hb2 a1 a2 a3 a4 a5 a6;obtain⟨a1,a2⟩:=one HS2.out.box;obtain⟨a3,a4⟩:=one HS2.out.res;obtain⟨a5,a6⟩:=one HS2.out.to2)
  | (go_at_call 56;refine(HPN.out _).mono ?_;rintro e w3 ⟨rfl,rfl⟩)
  | (go_at_call 50;refine(HF.out _ HS2.out.rd).mono ?_;rintro e w4 ⟨rfl,hb4⟩;have HS3:Hid (SInv w its co cap g its' w1.heap.size w4):=HS2.out.next hb4;clear hb4 a1 a2 a3 a4 a5 a6;obtain⟨a1,a2⟩:=one HS3.out.box;obtain⟨a3,a4⟩:=one HS3.out.res;obtain⟨a5,a6⟩:=one HS3.out.to2)
  | (go_at_call 32;refine(HH.out _ HS3.out.rd).mono ?_;rintro e w5 ⟨rfl,hb5⟩;have HS4:Hid (SInv w its co cap g its' w1.heap.size w5):=HS3.out.next hb5;clear hb5 a1 a2 a3 a4 a5 a6;obtain⟨a1,a2⟩:=one HS4.out.box;obtain⟨a3,a4⟩:=one HS4.out.res;obtain⟨a5,a6⟩:=one HS4.out.to2;obtain⟨⟨x1,x2,x3⟩,hx1,hx2,hx3,hx4⟩:=HS4.out.col i hi;simp only at hx3 hx2;have hl3:¬ (x1.length:Int)=3:=(by have:=HLEN.out;rw [←hx2] at this;omega);have HX:Hid (its'[i]?=some (x1,x2,x3)∧j+1≤x1.length∧x1.length≤1048576∧x1=(colsOf its).getD i []):=⟨hx1,(by have:=HJ.out;rw [←hx2] at this;omega),(by have:=HJ3.out;rw [←hx2] at this;omega),hx2⟩;have hx5:(w5.alloc (.cells #[.int .i64 n] 3)).cell? ⟨g,i,none⟩=some (.slice x2 x1.length x3):=((below1 _ _).cell (p:=⟨g,i,none⟩) (at_lt HS4.out.cp.row)).trans hx3;have hx6:(w5.alloc (.cells #[.int .i64 n] 3)).cell? ⟨w1.heap.size,0,none⟩=some (.slice (some ⟨g,0,none⟩) its.length its.length):=((below1 _ _).cell (p:=⟨w1.heap.size,0,none⟩) (at_lt HS4.out.to2)).trans a5;have hn1:¬ g=w.heap.size+1:=(by have:=HS4.out.far;omega);have hn2:¬ w.heap.size+1=g:=(by have:=HS4.out.far;omega);have hn3:¬ g=w1.heap.size:=(by intro e;have q1:=HS4.out.cp.row;rw [e,HS4.out.to2] at q1;simp at q1);have hn4:¬ w1.heap.size=g:=(fun e=>hn3 e.symm);clear hx1 hx2)
  | fail)
 clear HC HG HPN HF HH HR HLEN HJ HJ3 HS HS2 HS3
 go_region_with ((go_at_call 88;refine(split_insI HS4.out hm6 i hi (x1,x2,x3) HX.out.1 HX.out.2.2.1 j HX.out.2.1 n _ _ _ (by first | rfl | (rw [IntKind.wrap_i64];omega)) ((below1 _ _).drew) (at_new _ _) (Nat.le_refl _)).mono ?_;rintro e w6 ⟨ao',c',rfl,⟨c1,c5⟩,c2,c3,c4,hend⟩;have HE:Hid (SpEndT w ((colsOf its).set i (insL x1 (j+1) n),0) (.returned (.tuple #[tval (some ⟨g,0,none⟩) its.length its.length,.int .i64 0])) ((w6.setCell ⟨g,i,none⟩ (.slice ao' (x1.length+1) c')).setCell ⟨w.heap.size+1,0,none⟩ (.slice (some ⟨g,0,none⟩) its.length its.length))):=hend;clear hend a1 a2 a3 a4 a5 a6 hx3 hx4 hx5 hx6))
 all_goals (
  go_wp2
  refine bodyPost_ret (v:=.tuple #[tval (some ⟨g,0,none⟩) its.length its.length,.int .i64 0]) (by simp [results,Tryz.results66,go_sem, *]) rfl ?_
  have hx:=HX.out.2.2.2
  rw [HRR.out, ←hx]
  exact HE.out)
theorem split_anyT (its:List CIt) (co:Option Addr) (cap:Nat) (p n:Int) (right:Bool) (w:World) (hr:RdT w co its) (hm:its.length≤5864062014805) (hm2:∀ x∈its,x.1.length≤17592186044416) (r:List (List Int)×Int) (hrr:r=splitT (colsOf its) p n right):
  Calls Tryz.prog 66 #[tval co its.length cap,.int .i64 p,.int .i64 n,.bool right] w (SpEndT w r):=by
 cases hgd:goodT (colsOf its) with
 | false=>exact split_bad its co cap p n right w hr hm hm2 r hrr hgd
 | true=>
  cases hpn:paneB n with
  | false=>exact split_pane its co cap p n right w hr hm hm2 r hrr hgd hpn
  | true=>
   cases hfd:findT p (colsOf its) with
   | none=>exact split_none its co cap p n right w hr hm hm2 r hrr hgd hpn hfd
   | some x=>
    obtain⟨i,j⟩:=x
    cases hhs:hasT (colsOf its) n with
    | true=>exact split_twice its co cap p n right w hr hm hm2 r hrr hgd hpn i j hfd hhs
    | false=>
     cases hrt:right with
     | true=>rw [hrt] at hrr;exact split_right its co cap p n true w hr hm hm2 r hrr hgd hpn i j hfd hhs rfl
     | false=>
      rw [hrt] at hrr
      by_cases hln:((colsOf its).getD i []).length=3
      ·exact split_full its co cap p n false w hr hm hm2 r hrr hgd hpn i j hfd hhs rfl hln
      ·exact split_down its co cap p n false w hr hm hm2 r hrr hgd hpn i j hfd hhs rfl hln
theorem split_any (its:List CIt) (co:Option Addr) (cap:Nat) (p n:Int) (right:Bool) (w:World) (hr:RdT w co its) (hm:its.length≤5864062014805) (hm2:∀ x∈its,x.1.length≤17592186044416) (r:List (List Int)×Int) (hrr:r=splitT (colsOf its) p n right):
  Calls Tryz.prog 66 #[tval co its.length cap,.int .i64 p,.int .i64 n,.bool right] w (SpEnd w r):=
 (split_anyT its co cap p n right w hr hm hm2 r hrr).mono fun _ _ h=>h.plain
end Go.Proofs.YtjikokfjnbhngaaGreatDoor.Tl
