/- Several texts in one, each as it was: TGood, TShare, TWhere, TClone. -/
import Derived.Test.YtjikokfjnbhngaaGreatDoorMTMach
import Derived.Deep.QuietTactic

/- Whether panes are laid out. -/
namespace Go.Proofs.YtjikokfjnbhngaaGreatDoor.Tl
open Go.RowKit
def OkL (l:List Int):Prop:=(∀ p∈l,paneB p=true)∧l.Nodup
theorem flat_split {cols:List (List Int)} {k j:Nat} (hk:k < cols.length) (hj:j < cols[k].length):∃ rest,cols.flatten=((cols.take k).flatten++cols[k].take j)++cols[k][j]::rest:=by
 refine⟨cols[k].drop (j+1)++(cols.drop (k+1)).flatten,?_⟩
 have h0:cols=cols.take k++cols[k]::cols.drop (k+1):=by rw [←List.drop_eq_getElem_cons hk,List.take_append_drop]
 have h1:cols.flatten=(cols.take k).flatten++(cols[k]++(cols.drop (k+1)).flatten):=by
  have e:=congrArg List.flatten h0
  rw [List.flatten_append,List.flatten_cons] at e
  exact e
 have h2:cols[k]=cols[k].take j++cols[k][j]::cols[k].drop (j+1):=by rw [←List.drop_eq_getElem_cons hj,List.take_append_drop]
 have h3:cols[k]++(cols.drop (k+1)).flatten=cols[k].take j++cols[k][j]::(cols[k].drop (j+1)++(cols.drop (k+1)).flatten):=by
  have e:=congrArg (·++(cols.drop (k+1)).flatten) h2
  simp only [List.append_assoc,List.cons_append] at e
  exact e
 rw [h1,h3,List.append_assoc]
theorem okL_snoc {l:List Int} {p:Int} (h:OkL l) (hp:paneB p=true) (hn:p ∉ l):OkL (l++[p]):=by
 refine⟨fun q hq=>?_,?_⟩
 ·rcases List.mem_append.1 hq with hq | hq
  ·exact h.1 q hq
  ·simp at hq;rw [hq];exact hp
 ·rw [List.nodup_append]
  exact⟨h.2,by simp,fun a ha b hb=>by simp at hb;subst hb;exact fun e=>hn (e ▸ ha)⟩
theorem bad_pane {cols:List (List Int)} {k j:Nat} (hk:k < cols.length) (hj:j < cols[k].length) (h:paneB cols[k][j]=false):¬ OkT cols:=fun ok=>by
 have:=ok.pane cols[k][j] (List.mem_flatten.2 ⟨cols[k],List.getElem_mem hk,List.getElem_mem hj⟩)
 rw [h] at this
 cases this
theorem bad_twice {cols:List (List Int)} {k j:Nat} (hk:k < cols.length) (hj:j < cols[k].length) (h:cols[k][j]∈(cols.take k).flatten++cols[k].take j):¬ OkT cols:=fun ok=>by
 obtain⟨rest,e⟩:=flat_split hk hj
 have:=ok.once
 rw [e,List.nodup_append] at this
 exact this.2.2 _ h _ (by simp) rfl
theorem bad_tall {cols:List (List Int)} {k:Nat} (hk:k < cols.length) (h:cols[k].length < 1∨3 < cols[k].length):¬ OkT cols:=fun ok=>by
 have:=ok.tall _ (List.getElem_mem hk)
 omega
@[reducible] def seenA (l:List Int):Array Value:=#[.bool (l.contains 0),.bool (l.contains 1),.bool (l.contains 2),.bool (l.contains 3),.bool (l.contains 4),.bool (l.contains 5)]
theorem seen_get (l:List Int) (m:Nat) (hm:m < 6):(seenA l)[m]?=some (.bool (l.contains (m:Int))):=by
 have:m=0∨m=1∨m=2∨m=3∨m=4∨m=5:=by omega
 rcases this with rfl | rfl | rfl | rfl | rfl | rfl <;>rfl
theorem seen_set (l:List Int) (m:Nat) (hm:m < 6):(seenA l).setIfInBounds m (.bool true)=seenA (l++[(m:Int)]):=by
 have:m=0∨m=1∨m=2∨m=3∨m=4∨m=5:=by omega
 rcases this with rfl | rfl | rfl | rfl | rfl | rfl <;>simp [seenA,List.contains_eq_mem]
structure GInv (w:World) (its:List CIt) (co:Option Addr) (cap:Nat) (l:List Int) (wr:World):Prop where
 rd:RdT wr co its
 box:wr.heap[w.heap.size]?=some (tbox co its.length cap)
 seen:wr.heap[w.heap.size+1]?=some (.cells (seenA l) 108)
 below:Below w.heap.size w wr
 old:RdT w co its
theorem rdL_set {w w0:World} {ao:Option Addr} {l:List Int} {B:Nat} (h0:RdL w0 ao l) (hB:w0.heap.size≤B) (h:RdL w ao l) (j:Nat) (u:Value):RdL (w.setCell ⟨B,j,none⟩ u) ao l:=by
 rcases h0 with h1 | ⟨b,off,rfl,hc⟩
 ·exact .inl h1
 ·rcases h with h1 | ⟨b',off',e,hc'⟩
  ·exact .inl h1
  ·simp only [Option.some.injEq,Addr.mk.injEq,and_true] at e
   obtain⟨rfl,rfl⟩:=e
   refine .inr ⟨b,off,rfl,fun i hi=>?_⟩
   have hlt:=World.block_lt_of_cell? _ _ (hc i hi)
   simp only at hlt
   rw [World.cell?_setCell_other _ _ _ _ (by intro e;simp only [Addr.mk.injEq] at e;omega)]
   exact hc' i hi
theorem rdT_set {w w0:World} {co:Option Addr} {its:List CIt} {B:Nat} (h0:RdT w0 co its) (hB:w0.heap.size≤B) (h:RdT w co its) (j:Nat) (u:Value):RdT (w.setCell ⟨B,j,none⟩ u) co its:=by
 refine⟨fun x hx=>⟨rdL_set (h0.each x hx).1 hB (h.each x hx).1 j u,(h.each x hx).2⟩,?_⟩
 rcases h0.row with h1 | ⟨b,off,rfl,hc⟩
 ·exact .inl h1
 ·rcases h.row with h1 | ⟨b',off',e,hc'⟩
  ·exact .inl h1
  ·simp only [Option.some.injEq,Addr.mk.injEq,and_true] at e
   obtain⟨rfl,rfl⟩:=e
   refine .inr ⟨b,off,rfl,fun i hi=>?_⟩
   have hlt:=World.block_lt_of_cell? _ _ (hc i hi)
   simp only at hlt
   rw [World.cell?_setCell_other _ _ _ _ (by intro e;simp only [Addr.mk.injEq] at e;omega)]
   exact hc' i hi
theorem GInv.put {w:World} {its:List CIt} {co:Option Addr} {cap:Nat} {l:List Int} {wr:World} (h:GInv w its co cap l wr) (m:Nat) (hm:m < 6):GInv w its co cap (l++[(m:Int)]) (wr.setCell ⟨w.heap.size+1,m,none⟩ (.bool true)):=by
 refine⟨rdT_set h.old (by omega) h.rd _ _,?_,?_,h.below.setCell (by simp) _,h.old⟩
 ·rw [Below.heap_setCell _ _ _ _ (by simp)];exact h.box
 ·have:=heap_setCell_same wr (w.heap.size+1) m _ _ (.bool true) h.seen
  rw [this,seen_set l m hm]
set_option maxRecDepth 100000 in
set_option maxHeartbeats 1000000 in
theorem good_any (its:List CIt) (co:Option Addr) (cap:Nat) (w:World) (hr:RdT w co its) (hm:its.length≤5864062014805) (hm2:∀ x∈its,x.1.length≤17592186044416) (g:Bool) (hg:g=goodT (colsOf its)):
  Calls Tryz.prog 31 #[tval co its.length cap] w fun e w'=>e=.returned (.bool g)∧Below w.heap.size w w':=by
 have HR:Hid (RdT w co its):=hr
 have HM:Hid (∀ x∈its,x.1.length≤17592186044416):=hm2
 have HG:Hid (g=goodT (colsOf its)):=hg
 have HP:Hid (∀ p w,Calls Tryz.prog 56 #[.int .i64 p] w fun e w'=>e=.returned (.bool (paneB p))∧w'=w):=isPane_any
 clear hr hm2 hg
 obtain⟨bq,zq⟩:=one (at_old (at_new w (tbox co its.length cap)) (.cells (seenA []) 108))
 go_enter Tryz.func31,Tryz.ntmps31
 go_wp2
 go_loopw [11] (fun i wr=>∃ k:Nat,k≤its.length∧i=.int .i64 k∧GInv w its co cap ((colsOf its).take k).flatten wr∧OkL ((colsOf its).take k).flatten∧∀ j (hj:j < its.length),j < k→1≤its[j].1.length∧its[j].1.length≤3) (fun i _=>its.length - (intOf i).toNat)
 case atStart=>exact⟨0,Nat.zero_le _,rfl,⟨HR.out.below (below2 _ _ _),at_old (at_new _ _) _,at_new1 _ _ _,below2 _ _ _,HR.out⟩,⟨by simp,by simp⟩,fun j _ h=>by omega⟩
 case round=>
  obtain⟨k,hk,rfl,hi,hok,htl⟩:=hrel
  obtain⟨b1,z1⟩:=one hi.box
  have HI:Hid (GInv w its co cap ((colsOf its).take k).flatten wr):=hi
  have HO:Hid (OkL ((colsOf its).take k).flatten∧∀ j (hj:j < its.length),j < k→1≤its[j].1.length∧its[j].1.length≤3):=⟨hok,htl⟩
  clear hi hok htl
  by_cases hlt:k < its.length
  ·obtain⟨b,off,rfl,hc⟩:=HI.out.rd.row.resolve_left (by intro h;subst h;simp at hlt)
   have h0:=hc k hlt
   obtain⟨⟨x1,x2,x3⟩,hx⟩:∃ x,x=its[k]:=⟨_,rfl⟩
   rw [←hx] at h0
   have h1:wr.cell? ⟨b,off+k,none⟩=some (.slice x2 x1.length x3):=h0
   have hmem:(x1,x2,x3)∈its:=by rw [hx];exact List.getElem_mem hlt
   have hxl:=HM.out _ hmem
   have HRL:Hid (RdL w x2 x1):=(HR.out.each _ hmem).1
   have HX:Hid ((x1,x2,x3)=its[k]):=hx
   have hkc:k < (colsOf its).length:=by simpa using hlt
   have HXC:Hid ((colsOf its)[k]=x1):=by show _=_;simp [←hx]
   simp only at hxl
   clear hc hx hmem h0
   by_cases hs:x1.length < 1
   ·have HG2:Hid (g=false):=by
     show g=_
     rw [HG.out]
     exact goodT_not (bad_tall hkc (by rw [HXC.out];omega))
    have hs':(x1.length:Int) < 1:=by omega
    go_wp2
    go_ret
    exact⟨ret_bool HG2.out.symm,HI.out.below⟩
   ·by_cases hs2:3 < x1.length
    ·have HG2:Hid (g=false):=by
      show g=_
      rw [HG.out]
      exact goodT_not (bad_tall hkc (by rw [HXC.out];omega))
     have hs':(1:Int)≤(x1.length:Int):=by omega
     have hs2':(3:Int) < (x1.length:Int):=by omega
     go_wp2
     go_ret
     exact⟨ret_bool HG2.out.symm,HI.out.below⟩
    ·have hs':(1:Int)≤(x1.length:Int):=by omega
     have hs2':(x1.length:Int)≤3:=by omega
     go_wp2
     go_loopw [25] (fun i wr=>∃ j:Nat,j≤x1.length∧i=.int .i64 j∧GInv w its (some ⟨b,off,none⟩) cap (((colsOf its).take k).flatten++x1.take j) wr∧OkL (((colsOf its).take k).flatten++x1.take j)) (fun i _=>x1.length - (intOf i).toNat)
     case atStart=>exact⟨0,Nat.zero_le _,rfl,by simpa using HI.out,by simpa using HO.out.1⟩
     case round=>
      obtain⟨j,hj,rfl,hi,hok⟩:=hrel
      obtain⟨b2,z2⟩:=one hi.box
      have HJ:Hid (GInv w its (some ⟨b,off,none⟩) cap (((colsOf its).take k).flatten++x1.take j) wr):=hi
      have HO2:Hid (OkL (((colsOf its).take k).flatten++x1.take j)):=hok
      clear hi hok HI
      by_cases hjl:j < x1.length
      ·have hjc:j < (colsOf its)[k].length:=by rw [HXC.out];exact hjl
       obtain⟨bl,ol,hao,hcl⟩:=((HJ.out.rd.each (x1,x2,x3) (by rw [HX.out];exact List.getElem_mem hlt)).1).resolve_left (by intro h;simp only at h;subst h;simp at hjl)
       have h3:=hcl j hjl
       obtain⟨p,hp⟩:∃ p,p=x1.getD j 0:=⟨_,rfl⟩
       rw [←hp] at h3
       have HPX:Hid (x1[j]=p):=by show _=_;rw [hp];simp [hjl]
       have HPC:Hid ((colsOf its)[k][j]=p):=by
        show _=_
        rw [←HPX.out]
        simp only [HXC.out]
       simp only at hao hcl
       subst hao
       have hjl':(j:Int) < (x1.length:Int):=by omega
       clear hcl hp
       by_cases hpn:paneB p=true
       ·obtain⟨m,rfl⟩:∃ m:Nat,p=m:=⟨p.toNat,by simp [paneB] at hpn;omega⟩
        have hm6:m < 6:=by simp [paneB] at hpn;omega
        have hs6:wr.cell? ⟨w.heap.size+1,m,none⟩=some (.bool ((((colsOf its).take k).flatten++x1.take j).contains (m:Int))):=by
         simp only [World.cell?,HJ.out.seen]
         exact seen_get _ m hm6
        have hf6:wr.frozen? ⟨w.heap.size+1,m,none⟩=false:=frozen_of_row wr _ m _ _ HJ.out.seen
        cases hq:(((colsOf its).take k).flatten++x1.take j).contains (m:Int) with
        | true=>
         have HG2:Hid (g=false):=by
          show g=_
          rw [HG.out]
          refine goodT_not (bad_twice hkc hjc ?_)
          rw [HPC.out,HXC.out]
          simpa using hq
         rw [hq] at hs6
         go_wp2_with (go_at_call 56;refine(HP.out _ _).mono ?_;rintro e w1 ⟨rfl,rfl⟩)
         go_ret
         exact⟨ret_bool HG2.out.symm,HJ.out.below⟩
        | false=>
         have HN:Hid (((((colsOf its).take k).flatten++x1.take j)).contains (m:Int)=false):=hq
         rw [hq] at hs6
         go_wp2_with (go_at_call 56;refine(HP.out _ _).mono ?_;rintro e w1 ⟨rfl,rfl⟩)
         go_roundw
         case rel=>
          have e1:x1.take (j+1)=x1.take j++[(m:Int)]:=by
           rw [List.take_succ_eq_append_getElem hjl]
           rw [show x1[j]=(m:Int) from HPX.out]
          refine⟨j+1,by omega,by go_num,?_,?_⟩
          ·rw [e1, ←List.append_assoc]
           exact HJ.out.put m hm6
          ·rw [e1, ←List.append_assoc]
           exact okL_snoc HO2.out hpn (by simpa using HN.out)
         case measure=>simp [intOf];omega
       ·have hpn':paneB p=false:=by simpa using hpn
        have HG2:Hid (g=false):=by
         show g=_
         rw [HG.out]
         exact goodT_not (bad_pane hkc hjc (by rw [HPC.out];exact hpn'))
        go_wp2_with (go_at_call 56;refine(HP.out _ _).mono ?_;rintro e w1 ⟨rfl,rfl⟩)
        go_ret
        exact⟨ret_bool HG2.out.symm,HJ.out.below⟩
      ·have hjl':(x1.length:Int)≤(j:Int):=by omega
       go_wp2
       go_roundw
       case rel=>
        have e1:((colsOf its).take (k+1)).flatten=((colsOf its).take k).flatten++x1.take j:=by
         have e2:x1.take j=x1:=List.take_of_length_le (by omega)
         rw [List.take_succ_eq_append_getElem hkc,List.flatten_append,HXC.out,e2]
         simp
        refine⟨k+1,by omega,by go_num,?_,?_,?_⟩
        ·rw [e1];exact HJ.out
        ·rw [e1];exact HO2.out
        ·intro i hi hik
         by_cases e:i=k
         ·subst e
          rw [←HX.out]
          simp only
          omega
         ·exact HO.out.2 i hi (by omega)
       case measure=>simp [intOf];omega
  ·have HK:Hid (k=its.length):=(by omega:k=its.length)
   have HG2:Hid (g=decide (0 < its.length)):=by
    show g=_
    obtain⟨ho,htl⟩:=HO.out
    rw [HK.out,List.take_of_length_le (by simp)] at ho
    rw [HG.out,Bool.eq_iff_iff,goodT_iff,decide_eq_true_eq]
    refine⟨fun h=>by simpa using h.some,fun h=>⟨by simpa using h,fun c hc=>?_,ho.1,ho.2⟩⟩
    obtain⟨i,hi,rfl⟩:=List.getElem_of_mem hc
    simp only [List.getElem_map]
    exact htl i (by simpa using hi) (by rw [HK.out];simpa using hi)
   go_wp2
   go_ret
   refine⟨ret_bool ?_,HI.out.below⟩
   rw [HG2.out,Bool.eq_iff_iff]
end Go.Proofs.YtjikokfjnbhngaaGreatDoor.Tl

/- How a length is shared. -/
namespace Go.Proofs.YtjikokfjnbhngaaGreatDoor.Tl
open Go.RowKit
theorem shareT_none {length n k:Int} (h:n < 1∨6 < n∨k < 0∨n≤k∨24 < length∨length < n+(n - 1)):shareT length n k=(0,0):=by
 unfold shareT
 rw [if_pos h]
theorem below_drewN (w:World) (n:Nat):Below w.heap.size w (w.drewN n):=⟨rfl,rfl,rfl,Nat.le_refl _,fun _ _=>rfl⟩
set_option maxHeartbeats 1000000 in
theorem share_any (length n k:Int) (w:World) (r:Int×Int) (hr:r=shareT length n k):Calls Tryz.prog 51 #[.int .i64 length,.int .i64 n,.int .i64 k] w fun e w'=>e=.returned (.tuple #[.int .i64 r.1,.int .i64 r.2])∧Below w.heap.size w w':=by
 by_cases h:n < 1∨6 < n∨k < 0∨n≤k∨24 < length
 ·have HR:Hid (r=(0,0)):=by
   show r=(0,0)
   rw [hr,shareT_none (by omega)]
  clear hr
  rcases h with h | h | h | h | h
  all_goals
   go_enter Tryz.func51,Tryz.ntmps51
   go_wp2
   all_goals
    refine bodyPost_ret (by simp [results,Tryz.results51,go_sem];rfl) rfl ?_
    rw [HR.out]
    first | exact⟨rfl,Below.refl _ _⟩ | exact⟨rfl,below_drewN _ _⟩ | (rw [HWE.out];first | exact⟨rfl,below_drewN _ _⟩ | (rw [show M+k=M+R by omega];exact⟨rfl,below_drewN _ _⟩))
 ·have h1:1≤n:=by omega
  have h2:n≤6:=by omega
  have h3:0≤k:=by omega
  have h4:k < n:=by omega
  have h5:length≤24:=by omega
  by_cases h6:length < n+(n - 1)
  ·have HR:Hid (r=(0,0)):=by
    show r=(0,0)
    rw [hr,shareT_none (by omega)]
   clear hr h
   go_enter Tryz.func51,Tryz.ntmps51
   go_wp2
   all_goals
    refine bodyPost_ret (by simp [results,Tryz.results51,go_sem];rfl) rfl ?_
    rw [HR.out]
    first | exact⟨rfl,Below.refl _ _⟩ | exact⟨rfl,below_drewN _ _⟩ | (rw [HWE.out];first | exact⟨rfl,below_drewN _ _⟩ | (rw [show M+k=M+R by omega];exact⟨rfl,below_drewN _ _⟩))
  ·obtain⟨E,hE⟩:∃ E,E=(length - (n - 1)) / n:=⟨_,rfl⟩
   obtain⟨R,hR⟩:∃ R,R=(length - (n - 1)) % n:=⟨_,rfl⟩
   have hE0:0≤E:=by rw [hE];exact Int.ediv_nonneg (by omega) (by omega)
   have hE1:E≤24:=by
    rw [hE]
    have:=Int.ediv_le_self (a:=length - (n - 1)) n (by omega)
    omega
   have hR0:0≤R:=by rw [hR];exact Int.emod_nonneg _ (by omega)
   have hR1:R < n:=by rw [hR];exact Int.emod_lt_of_pos _ (by omega)
   have hq:(length - (n - 1)).tdiv n=E:=by rw [hE];exact Int.tdiv_eq_ediv_of_nonneg (by omega)
   have hm:(length - (n - 1)).tmod n=R:=by rw [hR];exact Int.tmod_eq_emod_of_nonneg (by omega)
   obtain⟨M,hM⟩:∃ M,M=k*(E+1):=⟨_,rfl⟩
   have hM0:0≤M:=by rw [hM];exact Int.mul_nonneg h3 (by omega)
   have hM1:M≤150:=by
    have e1:k*(E+1)≤6*(E+1):=Int.mul_le_mul_of_nonneg_right (by omega) (by omega)
    omega
   have hwr:IntKind.i64.wrap (k*(E+1))=M:=by rw [←hM,IntKind.wrap_i64];omega
   have HR:Hid (r=(M+min k R,if k < R then E+1 else E)):=by
    show r=_
    rw [hr]
    unfold shareT
    rw [if_neg (by omega), ←hE, ←hR,hM]
   have hn0:¬ n=0:=by omega
   have hq2:(length - (n - 1)) / n=E:=hE.symm
   have hm2:(length - (n - 1)) % n=R:=hR.symm
   have HWE:Hid (IntKind.i64.wrap ((IntKind.i64.wrap (length - (n - 1))).tdiv n)=E):=by
    show _=_
    have e1:IntKind.i64.wrap (length - (n - 1))=length - (n - 1):=by rw [IntKind.wrap_i64];omega
    rw [e1,hq,IntKind.wrap_i64]
    omega
   clear hr h hE hR hM
   by_cases hk:k < R
   ·have HR2:Hid (r=(M+k,E+1)):=by
     show r=_
     rw [HR.out,if_pos hk,Int.min_eq_left (by omega)]
    clear HR
    go_enter Tryz.func51,Tryz.ntmps51
    go_wp2
    go_quiet (fail)
    go_wp2
    all_goals
     refine bodyPost_ret (by simp [results,Tryz.results51,go_sem];rfl) rfl ?_
     rw [HR2.out]
     first | exact⟨rfl,Below.refl _ _⟩ | exact⟨rfl,below_drewN _ _⟩ | (rw [HWE.out];first | exact⟨rfl,below_drewN _ _⟩ | (rw [show M+k=M+R by omega];exact⟨rfl,below_drewN _ _⟩))
   ·have HR2:Hid (r=(M+R,E)):=by
     show r=_
     rw [HR.out,if_neg hk,Int.min_eq_right (by omega)]
    have hk':R≤k:=by omega
    clear HR
    go_enter Tryz.func51,Tryz.ntmps51
    go_wp2
    go_quiet (fail)
    go_wp2
    all_goals
     refine bodyPost_ret (by simp [results,Tryz.results51,go_sem];rfl) rfl ?_
     rw [HR2.out]
     first | exact⟨rfl,Below.refl _ _⟩ | exact⟨rfl,below_drewN _ _⟩ | (rw [HWE.out];first | exact⟨rfl,below_drewN _ _⟩ | (rw [show M+k=M+R by omega];exact⟨rfl,below_drewN _ _⟩))
end Go.Proofs.YtjikokfjnbhngaaGreatDoor.Tl

/- The place of a pane. -/
namespace Go.Proofs.YtjikokfjnbhngaaGreatDoor.Tl
open Go.RowKit
@[reducible] def zbox:Obj:=.cells #[.int .i64 0,.int .i64 0,.int .i64 0,.int .i64 0] 63
structure WInv (w:World) (its:List CIt) (co:Option Addr) (cap:Nat) (wx:World):Prop where
 box:wx.heap[w.heap.size]?=some (tbox co its.length cap)
 res:wx.heap[w.heap.size+1]?=some (zbox)
 rd:RdT wx co its
 below:Below w.heap.size w wx
theorem WInv.next {w:World} {its:List CIt} {co:Option Addr} {cap:Nat} {wx w2:World} (h:WInv w its co cap wx) (hb:Below wx.heap.size wx w2):WInv w its co cap w2:=
 ⟨below_block hb h.box (at_lt h.box),below_block hb h.res (at_lt h.res),h.rd.below hb,below_to h.below hb⟩
theorem winv_start {w:World} {its:List CIt} {co:Option Addr} {cap:Nat} (hr:RdT w co its):WInv w its co cap ((w.alloc (tbox co its.length cap)).alloc (zbox)):=
 ⟨at_old (at_new w _) _,at_new1 w _ _,hr.below (below2 _ _ _),below2 _ _ _⟩
theorem set4_below {w w2:World} {B:Nat} (h:Below w.heap.size w w2) (hB:w.heap.size≤B) (u0 u1 u2 u3:Value):Below w.heap.size w ((((w2.setCell ⟨B,0,none⟩ u0).setCell ⟨B,1,none⟩ u1).setCell ⟨B,2,none⟩ u2).setCell ⟨B,3,none⟩ u3):=
 (((h.setCell hB _).setCell hB _).setCell hB _).setCell hB _
set_option maxHeartbeats 1000000 in
set_option maxRecDepth 100000 in
theorem where_no (its:List CIt) (co:Option Addr) (cap:Nat) (wide high p:Int) (w:World) (hr:RdT w co its) (hm:its.length≤5864062014805) (hm2:∀ x∈its,x.1.length≤17592186044416) (h:goodT (colsOf its)=false∨findT p (colsOf its)=none):
  Calls Tryz.prog 28 #[tval co its.length cap,.int .i64 wide,.int .i64 high,.int .i64 p] w fun e w'=>e=.returned (rval noRc)∧Below w.heap.size w w':=by
 obtain⟨r,hr0⟩:∃ r,r=findT p (colsOf its):=⟨_,rfl⟩
 obtain⟨gd,hgd⟩:∃ gd,gd=goodT (colsOf its):=⟨_,rfl⟩
 have HF:Hid (∀ w,RdT w co its→Calls Tryz.prog 50 #[tval co its.length cap,.int .i64 p] w fun e w'=>e=.returned (.tuple #[.int .i64 (fi r),.int .i64 (fj r),.bool r.isSome])∧Below w.heap.size w w'):=fun w hr=>by
  refine(find_any its co cap p w hr hm hm2 r hr0).mono ?_
  rintro e w' ⟨rfl,rfl⟩
  exact⟨rfl,below1 _ _⟩
 have HG:Hid (∀ w,RdT w co its→Calls Tryz.prog 31 #[tval co its.length cap] w fun e w'=>e=.returned (.bool gd)∧Below w.heap.size w w'):=fun w hr=>good_any its co cap w hr hm hm2 gd hgd
 have HW0:Hid (WInv w its co cap ((w.alloc (tbox co its.length cap)).alloc (zbox))):=winv_start hr
 have hcs:gd=false∨(gd=true∧r.isSome=false):=by
  rcases h with h | h
  ·left;rw [hgd,h]
  ·cases hg:gd
   ·exact .inl rfl
   ·right;exact⟨rfl,by rw [hr0,h];rfl⟩
 clear hr hm2 hr0 hgd h hm
 rcases hcs with rfl | ⟨rfl,hs⟩
 ·go_enter Tryz.func28,Tryz.ntmps28
  go_wp2_with (first
   | (go_at_call 50;refine(HF.out _ HW0.out.rd).mono ?_;rintro e w1 ⟨rfl,hb1⟩;have HW1:Hid (WInv w its co cap w1):=HW0.out.next hb1;obtain⟨a1,a2⟩:=one HW1.out.box;obtain⟨⟨a3,a4,a5,a6⟩,a7⟩:=four HW1.out.res;clear hb1)
   | (go_at_call 31;refine(HG.out _ HW1.out.rd).mono ?_;rintro e w2 ⟨rfl,hb2⟩;have HW2:Hid (WInv w its co cap w2):=HW1.out.next hb2;clear a1 a2 a3 a4 a5 a6 a7;obtain⟨a1,a2⟩:=one HW2.out.box;obtain⟨⟨a3,a4,a5,a6⟩,a7⟩:=four HW2.out.res;clear hb2)
   | fail)
  refine bodyPost_ret (v:=rval noRc) (by simp [results,Tryz.results28,go_sem,noRc, *]) rfl ?_
  exact⟨rfl,set4_below HW2.out.below (by omega) _ _ _ _⟩
 ·rw [hs] at HF
  clear hs
  go_enter Tryz.func28,Tryz.ntmps28
  go_wp2_with (first
   | (go_at_call 50;refine(HF.out _ HW0.out.rd).mono ?_;rintro e w1 ⟨rfl,hb1⟩;have HW1:Hid (WInv w its co cap w1):=HW0.out.next hb1;obtain⟨a1,a2⟩:=one HW1.out.box;obtain⟨⟨a3,a4,a5,a6⟩,a7⟩:=four HW1.out.res;clear hb1)
   | (go_at_call 31;refine(HG.out _ HW1.out.rd).mono ?_;rintro e w2 ⟨rfl,hb2⟩;have HW2:Hid (WInv w its co cap w2):=HW1.out.next hb2;clear a1 a2 a3 a4 a5 a6 a7;obtain⟨a1,a2⟩:=one HW2.out.box;obtain⟨⟨a3,a4,a5,a6⟩,a7⟩:=four HW2.out.res;clear hb2)
   | fail)
  refine bodyPost_ret (v:=rval noRc) (by simp [results,Tryz.results28,go_sem,noRc, *]) rfl ?_
  exact⟨rfl,set4_below HW2.out.below (by omega) _ _ _ _⟩
theorem w_share {w:World} {its:List CIt} {co:Option Addr} {cap R:Nat} {w3 w4:World} {x wd:Int} (h:WInv w its co cap w3) (hR:w3.heap[R]?=some (zbox)) (hRw:w.heap.size+2≤R)
  (hb:Below ((w3.setCell ⟨R,1,none⟩ (.int .i64 x)).setCell ⟨R,3,none⟩ (.int .i64 wd)).heap.size ((w3.setCell ⟨R,1,none⟩ (.int .i64 x)).setCell ⟨R,3,none⟩ (.int .i64 wd)) w4):
  w4.heap[R]?=some (rbox ⟨0,x,0,wd⟩)∧w4.heap[w.heap.size+1]?=some (zbox)∧Below w.heap.size w w4:=by
 have s1:=heap_setCell_same w3 R 1 _ _ (.int .i64 x) hR
 have s2:=heap_setCell_same _ R 3 _ _ (.int .i64 wd) s1
 have s3:((w3.setCell ⟨R,1,none⟩ (.int .i64 x)).setCell ⟨R,3,none⟩ (.int .i64 wd)).heap[w.heap.size+1]?=some (zbox):=by
  rw [Below.heap_setCell _ _ _ _ (by simp;omega),Below.heap_setCell _ _ _ _ (by simp;omega)]
  exact h.res
 refine⟨?_,below_block hb s3 (at_lt s3),below_to ((h.below.setCell (by simp;omega) _).setCell (by simp;omega) _) hb⟩
 have:=below_block hb s2 (at_lt s2)
 simpa [rbox,rcells] using this
set_option maxHeartbeats 1000000 in
set_option maxRecDepth 100000 in
theorem where_yes (its : List CIt) (co : Option Addr) (cap : Nat) (wide high p : Int) (w : World) (hr : RdT w co its) (hm : its.length ≤ 5864062014805) (hm2 : ∀ x ∈ its, x.1.length ≤ 17592186044416) (hgd : goodT (colsOf its) = true) (i j : Nat) (hfd : findT p (colsOf its) = some (i, j)) (s1 s2 : Int × Int) (h1 : s1 = shareT wide its.length i) (h2 : s2 = shareT high ((colsOf its).getD i []).length j) (r : Rc) (hrc : r = if s1.2 = 0 ∨ s2.2 = 0 then noRc else ⟨s2.1, s1.1, s2.2, s1.2⟩) :
    Calls Tryz.prog 28 #[tval co its.length cap, .int .i64 wide, .int .i64 high, .int .i64 p] w fun e w' => e = .returned (rval r) ∧ Below w.heap.size w w' := by
  have HF : Hid (∀ w, RdT w co its → Calls Tryz.prog 50 #[tval co its.length cap, .int .i64 p] w fun e w' => e = .returned (.tuple #[.int .i64 i, .int .i64 j, .bool true]) ∧ Below w.heap.size w w') := fun w hr => by
    refine (find_any its co cap p w hr hm hm2 (some (i, j)) hfd.symm).mono ?_
    rintro e w' ⟨rfl, rfl⟩
    exact ⟨rfl, below1 _ _⟩
  have HG : Hid (∀ w, RdT w co its → Calls Tryz.prog 31 #[tval co its.length cap] w fun e w' => e = .returned (.bool true) ∧ Below w.heap.size w w') := fun w hr => good_any its co cap w hr hm hm2 true hgd.symm
  have HW0 : Hid (WInv w its co cap ((w.alloc (tbox co its.length cap)).alloc (zbox))) := winv_start hr
  have hi : i < its.length := by obtain ⟨h1, _⟩ := findT_get hfd; simpa using h1
  obtain ⟨b, off, rfl, hc⟩ := hr.row.resolve_left (by intro h; subst h; simp at hi)
  have hcw := hc i hi
  have hbw : b < w.heap.size := World.block_lt_of_cell? _ _ hcw
  obtain ⟨⟨x1, x2, x3⟩, hx⟩ : ∃ x, x = its[i] := ⟨_, rfl⟩
  rw [← hx] at hcw
  have HCW : Hid (w.cell? ⟨b, off + i, none⟩ = some (.slice x2 x1.length x3)) := hcw
  have hxl : ((colsOf its).getD i []).length = x1.length := by simp [hi, ← hx]
  rw [hxl] at h2
  have H1 : Hid (∀ W, Calls Tryz.prog 51 #[.int .i64 wide, .int .i64 its.length, .int .i64 i] W fun e w' => e = .returned (.tuple #[.int .i64 s1.1, .int .i64 s1.2]) ∧ Below W.heap.size W w') := fun W => share_any wide its.length i W s1 h1
  have H2 : Hid (∀ W, Calls Tryz.prog 51 #[.int .i64 high, .int .i64 x1.length, .int .i64 j] W fun e w' => e = .returned (.tuple #[.int .i64 s2.1, .int .i64 s2.2]) ∧ Below W.heap.size W w') := fun W => share_any high x1.length j W s2 h2
  have hi' : (i : Int) < (its.length : Int) := by omega
  obtain ⟨x, wd⟩ := s1
  obtain ⟨y, hh⟩ := s2
  simp only at H1 H2 hrc
  clear hr hm2 hgd hfd hc hcw hx hxl h1 h2
  have hcs : (wd = 0 ∧ r = noRc) ∨ ((wd == 0) = false ∧ hh = 0 ∧ r = noRc) ∨ ((wd == 0) = false ∧ (hh == 0) = false ∧ r = ⟨y, x, hh, wd⟩) := by
    by_cases e1 : wd = 0
    · left; exact ⟨e1, by rw [hrc, if_pos (.inl e1)]⟩
    · by_cases e2 : hh = 0
      · right; left; exact ⟨by simp [e1], e2, by rw [hrc, if_pos (.inr e2)]⟩
      · right; right; exact ⟨by simp [e1], by simp [e2], by rw [hrc, if_neg (by omega)]⟩
  clear hrc
  rcases hcs with ⟨e1, rfl⟩ | ⟨e1, e2, rfl⟩ | ⟨e1, e2, rfl⟩
  all_goals
    go_enter Tryz.func28, Tryz.ntmps28
    go_wp2_with (first
      | (go_at_call 50; refine (HF.out _ HW0.out.rd).mono ?_; rintro e w1 ⟨rfl, hb1⟩; have HW1 : Hid (WInv w its _ cap w1) := HW0.out.next hb1; obtain ⟨a1, a2⟩ := one HW1.out.box; obtain ⟨⟨a3, a4, a5, a6⟩, a7⟩ := four HW1.out.res; clear hb1)
      | (go_at_call 31; refine (HG.out _ HW1.out.rd).mono ?_; rintro e w2 ⟨rfl, hb2⟩; have HW2 : Hid (WInv w its _ cap w2) := HW1.out.next hb2; clear a1 a2 a3 a4 a5 a6 a7; obtain ⟨a1, a2⟩ := one (at_old HW2.out.box (zbox)); obtain ⟨⟨a3, a4, a5, a6⟩, a7⟩ := four HW2.out.res; have hR : w.heap.size + 2 ≤ w2.heap.size := (by have := at_lt HW2.out.res; omega); have n1 : ¬ w2.heap.size = w.heap.size := (by omega); have n2 : ¬ w.heap.size = w2.heap.size := (by omega); have n3 : ¬ b = w2.heap.size := (by omega); have n4 : ¬ w2.heap.size = b := (by omega); have n5 : ¬ w.heap.size + 1 = w2.heap.size := (by omega); have n6 : ¬ w2.heap.size = w.heap.size + 1 := (by omega); clear hb2)
      | (go_at_call_of 51 (Value.int IntKind.i64 wide); refine (H1.out _).mono ?_; rintro e w3 ⟨rfl, hb3⟩; have HW3 : Hid (WInv w its _ cap w3 ∧ w3.heap[w2.heap.size]? = some (zbox)) := ⟨HW2.out.next (below_to (below1 _ _) hb3), below_block hb3 (at_new _ _) (by simp)⟩; clear a1 a2 a3 a4 a5 a6 a7 hb3; obtain ⟨a1, a2⟩ := one HW3.out.1.box; obtain ⟨⟨a3, a4, a5, a6⟩, a7⟩ := four HW3.out.2; have c1 := (HW3.out.1.below.cell (p := ⟨b, off + i, none⟩) hbw).trans HCW.out)
      | (go_at_call_of 51 (Value.int IntKind.i64 high); refine (H2.out _).mono ?_; rintro e w4 ⟨rfl, hb4⟩; obtain ⟨f1, f2, f3⟩ := w_share HW3.out.1 HW3.out.2 hR hb4; have HE : Hid (Below w.heap.size w w4) := f3; clear a1 a2 a3 a4 a5 a6 a7 c1 hb4 f3; obtain ⟨⟨a3, a4, a5, a6⟩, a7⟩ := four f1; obtain ⟨⟨d3, d4, d5, d6⟩, d7⟩ := four f2; clear f1 f2)
      | fail)
    first
      | (refine bodyPost_ret (v := rval noRc) (by simp [results, Tryz.results28, go_sem, noRc, *]) rfl ?_
         exact ⟨rfl, set4_below ((HE.out.setCell (by simp; omega) _).setCell (by simp; omega) _) (by omega) _ _ _ _⟩)
      | (refine bodyPost_ret (v := rval ⟨y, x, hh, wd⟩) (by simp [results, Tryz.results28, go_sem, *]) rfl ?_
         exact ⟨rfl, set4_below ((HE.out.setCell (by simp; omega) _).setCell (by simp; omega) _) (by omega) _ _ _ _⟩)
theorem where_any (its:List CIt) (co:Option Addr) (cap:Nat) (wide high p:Int) (w:World) (hr:RdT w co its) (hm:its.length≤5864062014805) (hm2:∀ x∈its,x.1.length≤17592186044416) (r:Rc) (hrc:r=whereT (colsOf its) wide high p):
  Calls Tryz.prog 28 #[tval co its.length cap,.int .i64 wide,.int .i64 high,.int .i64 p] w fun e w'=>e=.returned (rval r)∧Below w.heap.size w w':=by
 cases hgd:goodT (colsOf its) with
 | false=>
  have:r=noRc:=by rw [hrc];simp [whereT,hgd]
  subst this
  exact where_no its co cap wide high p w hr hm hm2 (.inl hgd)
 | true=>
  cases hfd:findT p (colsOf its) with
  | none=>
   have:r=noRc:=by rw [hrc];simp [whereT,hgd,hfd]
   subst this
   exact where_no its co cap wide high p w hr hm hm2 (.inr hfd)
  | some x=>
   obtain⟨i,j⟩:=x
   refine where_yes its co cap wide high p w hr hm hm2 hgd i j hfd _ _ rfl rfl r ?_
   rw [hrc]
   unfold whereT
   rw [if_neg (by simp [hgd]),hfd]
   simp only [colsOf,List.length_map]
end Go.Proofs.YtjikokfjnbhngaaGreatDoor.Tl

/- What 'slices.Clone' makes of a column. -/
namespace Go.Proofs.YtjikokfjnbhngaaGreatDoor.Tl
open Go.RowKit
@[reducible] def ints (l:List Int):List Value:=l.map (Value.int .i64)
theorem info3:(Tryz.prog.info? 3).map (fun i=>(i.zero,i.size,i.bytes))=some (some (.int .i64 0),1,8):=by kernel_rfl
theorem infoL:(Tryz.prog.info? 35).map (fun i=>(i.zero,i.size,i.bytes))=some (some (.slice none 0 0),1,24):=by kernel_rfl
theorem nilL (w:World) (a:Option Addr) (n c:Nat):(binOp .eql 35 (.slice a n c) (.slice none 0 0)).run Tryz.prog w=.ok (.bool a.isNone) w:=Lib.run_eql_slice_nil w 35 3 a n c 0 0 Tryz.underlying35
theorem add_at (b o j:Nat):(⟨b,o,none⟩:Addr).add j=⟨b,o+j,none⟩:=by unfold Addr.add;split <;>simp_all
theorem ints_one (l:List Int):∀ v∈ints l,v.oneCell'=true:=by
 intro v hv
 obtain⟨x,_,rfl⟩:=List.mem_map.1 hv
 rfl
theorem row_shape {base:Nat} {e:TypeId} {w:World} {v:Value} {n:Nat} {xs:List Value} (h:w.ownsRow base e 1 v n xs):∃ ao cap,v=.slice ao n cap:=by
 rcases h.2 with ⟨rfl,h0⟩ | ⟨g,cap,cur,rfl,_⟩
 ·exact⟨none,0,by rw [h0]⟩
 ·exact⟨_,_,rfl⟩
theorem rd_src {w:World} {a:Addr} {l:List Int} (hr:RdL w (some a) l) (j:Nat) (u:Value) (hu:(ints l)[j]?=some u):w.cell? (a.add j)=some u:=by
 have hj:j < l.length:=by have:=(List.getElem?_eq_some_iff.1 hu).1;simpa using this
 rcases hr with h | ⟨b,off,ha,hc⟩
 ·subst h;simp at hj
 ·simp only [Option.some.injEq] at ha
  subst ha
  rw [add_at,hc j hj]
  simp [ints,hj] at hu
  simp [hj,hu]
set_option maxHeartbeats 400000 in
theorem clone_nil (w:World):Calls Tryz.prog 47 #[.slice none 0 0] w fun e w'=>e=.returned (.slice none 0 0)∧w'=w:=by
 have hn:=nilL
 go_enter Tryz.func47,Tryz.ntmps47
 go_wp2
 go_ret
 exact⟨rfl,rfl⟩
set_option maxHeartbeats 400000 in
theorem clone_some (a:Addr) (cap:Nat) (l:List Int) (w:World) (hr:RdL w (some a) l) (hm:l.length≤17592186044416):
  Calls Tryz.prog 47 #[.slice (some a) l.length cap] w fun e w'=>∃ ao' cap',e=.returned (.slice ao' l.length cap')∧w'.ownsRow w.heap.size 3 1 (.slice ao' l.length cap') l.length (ints l)∧Below w.heap.size w w':=by
 obtain⟨i0,hi,hz0,hz1,hz2⟩:=info_parts info3
 have hn:=nilL
 have HR:Hid (∀ j u,(ints l)[j]?=some u→(w.alloc (.cells #[] 3)).cell? (a.add j)=some u):=fun j u hu=>rd_src (hr.below (below1 w _)) j u hu
 clear hr
 go_enter Tryz.func47,Tryz.ntmps47
 go_wp2_with (first | (at_builtin;refine wpList_append_own _ rfl _ _ 35 rfl w.heap.size 3 i0 (.int .i64 0) 1 8 Tryz.underlying35 hi hz0 hz1 hz2 rfl (by decide) _ 0 [] rfl (World.ownsRow_made w #[] 0 (Nat.le_refl _) (by decide) rfl) a l.length cap (ints l) rfl (by simp) HR.out (ints_one l) (by unfold maxLen;omega) (by omega) (by simp) ?_) | go_in)
 intro v' w1 hown hgrow _
 obtain⟨ao,c,rfl⟩:=row_shape hown
 have HB:Hid (Below w.heap.size w w1):=((Below.refl _ _).alloc (Nat.le_refl _) _).grown hgrow (by simp) (fun k hk=>by simp [Value.ownBlock] at hk;omega)
 have HO:Hid (w1.ownsRow w.heap.size 3 1 (.slice ao l.length c) l.length (ints l)):=hown
 clear hown hgrow
 go_wp2
 go_ret
 exact⟨ao,c,rfl,HO.out,HB.out⟩
theorem clone_any (x:CIt) (w:World) (hr:RdL w x.2.1 x.1) (hn:x.2.1=none→x.1=[]∧x.2.2=0) (hm:x.1.length≤17592186044416):
  Calls Tryz.prog 47 #[.slice x.2.1 x.1.length x.2.2] w fun e w'=>∃ ao' cap',e=.returned (.slice ao' x.1.length cap')∧w'.ownsRow w.heap.size 3 1 (.slice ao' x.1.length cap') x.1.length (ints x.1)∧Below w.heap.size w w':=by
 obtain⟨l,ao,cap⟩:=x
 cases ao with
 | none=>
  obtain⟨h1,h2⟩:=hn rfl
  simp only at h1 h2
  subst h1 h2
  refine(clone_nil w).mono ?_
  rintro e w' ⟨rfl,rfl⟩
  exact⟨none,0,rfl,World.ownsRow_nil _ _ _ _,Below.refl _ _⟩
 | some a=>exact clone_some a cap l w hr hm
theorem row_below {w w':World} {base sz n:Nat} {e:TypeId} {v:Value} {xs:List Value} (h:w.ownsRow base e sz v n xs) (hb:Below w.heap.size w w'):w'.ownsRow base e sz v n xs:=by
 refine⟨h.1,?_⟩
 rcases h.2 with h0 | ⟨g,c,cur,hv,hbb,hg,rest⟩
 ·exact .inl h0
 ·exact .inr ⟨g,c,cur,hv,hbb,below_block hb hg (at_lt hg),rest⟩
theorem row_set {w:World} {base sz n B j:Nat} {e:TypeId} {v u:Value} {xs:List Value} (h:w.ownsRow base e sz v n xs) (hB:B < base):(w.setCell ⟨B,j,none⟩ u).ownsRow base e sz v n xs:=by
 refine⟨h.1,?_⟩
 rcases h.2 with h0 | ⟨g,c,cur,hv,hbb,hg,rest⟩
 ·exact .inl h0
 ·refine .inr ⟨g,c,cur,hv,hbb,?_,rest⟩
  rw [Below.heap_setCell _ _ _ _ (by simp;omega)]
  exact hg
theorem row_less {w:World} {base base' sz n:Nat} {e:TypeId} {v:Value} {xs:List Value} (h:w.ownsRow base e sz v n xs) (hB:base'≤base):w.ownsRow base' e sz v n xs:=by
 refine⟨h.1,?_⟩
 rcases h.2 with h0 | ⟨g,c,cur,hv,hbb,rest⟩
 ·exact .inl h0
 ·exact .inr ⟨g,c,cur,hv,by omega,rest⟩
theorem row_rd {w:World} {base:Nat} {x:CIt} (h:w.ownsRow base 3 1 (cv x) x.1.length (ints x.1)):RdL w x.2.1 x.1∧(x.2.1=none→x.1=[]∧x.2.2=0):=by
 obtain⟨l,ao,cap⟩:=x
 rcases h.2 with ⟨hv,h0⟩ | ⟨g,c,cur,hv,hb,hg,hc,_,hs,ht⟩
 ·simp only [cv,Value.slice.injEq] at hv h0
  obtain⟨rfl,_,rfl⟩:=hv
  have:l=[]:=List.length_eq_zero_iff.1 h0
  exact⟨.inl this,fun _=>⟨this,rfl⟩⟩
 ·simp only [cv,Value.slice.injEq] at hv ht hs hc
  obtain⟨rfl,_,rfl⟩:=hv
  refine⟨.inr ⟨g,0,rfl,fun j hj=>?_⟩,fun h=>by cases h⟩
  have e1:(ints l)[j]?=some (.int .i64 (l.getD j 0)):=by simp only at hj;simp [hj]
  rw [←ht,List.getElem?_take_of_lt (by simp only at hj;omega)] at e1
  simp only [World.cell?,hg,Nat.zero_add]
  simpa using e1
end Go.Proofs.YtjikokfjnbhngaaGreatDoor.Tl
