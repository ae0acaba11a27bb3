/- Several texts in one, each as it was: SPut, SFitAll, SResize, SKill. -/
import Derived.Test.YtjikokfjnbhngaaGreatDoorMSSet
import Derived.Test.YtjikokfjnbhngaaGreatDoorZTake
import Derived.Test.YtjikokfjnbhngaaGreatDoorMTGood
import Derived.Deep.CutRange
import Derived.Test.YtjikokfjnbhngaaGreatDoorTSplit2
import Derived.Test.YtjikokfjnbhngaaGreatDoorMTDel

/- A screen, a parser, the panes, the sides go into the server's block. -/
namespace Go.Proofs.YtjikokfjnbhngaaGreatDoor.Sv
open Go.RowKit
open Go.Proofs.YtjikokfjnbhngaaGreatDoor.Tl (colsOf RdT TyT CIt)
set_option maxRecDepth 100000
theorem setCells_kp (B:Nat):∀ (vs:List Value) (o:Nat) (w:World),Kp (fun b=>b=B) w (w.setCells B o vs)
 | [],_,_=>Kp.refl _ _
 | v::r,o,w=>(set_kp w B o v).trans (setCells_kp B r (o+1) _) (fun _ e=>.inl e)
@[reducible] def withG (S:Srv) (p:Nat) (g:Gr):Srv:={S with v:={S.v with gs:=upd S.v.gs p g}}
@[reducible] def layG (L:Lay) (p:Nat) (ao:Option Addr) (cap:Nat):Lay:={L with l:={L.l with ga:=upd L.l.ga p ao,gc:=upd L.l.gc p cap}}
@[reducible] def withP (S:Srv) (p:Nat) (s:Ps.PS):Srv:={S with ps:=upd S.ps p s}
@[reducible] def layP (L:Lay) (p:Nat) (ao:Option Addr) (cap:Nat):Lay:={L with pa:=upd L.pa p ao,pc:=upd L.pc p cap}
theorem put_grid {w:World} {S:Srv} {L:Lay} (h:SrvIn w S L) (p:Nat) (hp:p < 6) (g:Gr) (ao:Option Addr) (cap:Nat):(w.setCells L.sb (1+p*9) (gcells g ao cap).toList).heap[L.sb]?=some (sbox (withG S p g) (layG L p ao cap)):=by
 simp only [World.setCells]
 rw [set_cells (set_cells (set_cells (set_cells (set_cells (set_cells (set_cells (set_cells (set_cells h.box _) _) _) _) _) _) _) _) _]
 have h1:p=0∨p=1∨p=2∨p=3∨p=4∨p=5:=by omega
 refine congrArg (fun c=>some (Obj.cells c 86 (0,0))) ?_
 rcases h1 with rfl | rfl | rfl | rfl | rfl | rfl <;>kernel_rfl
theorem put_par {w:World} {S:Srv} {L:Lay} (h:SrvIn w S L) (p:Nat) (hp:p < 6) (s:Ps.PS) (ao:Option Addr) (cap:Nat):(w.setCells L.sb (58+p*4) (pcells s ao cap)).heap[L.sb]?=some (sbox (withP S p s) (layP L p ao cap)):=by
 simp only [World.setCells]
 rw [set_cells (set_cells (set_cells (set_cells h.box _) _) _) _]
 have h1:p=0∨p=1∨p=2∨p=3∨p=4∨p=5:=by omega
 refine congrArg (fun c=>some (Obj.cells c 86 (0,0))) ?_
 rcases h1 with rfl | rfl | rfl | rfl | rfl | rfl <;>kernel_rfl
theorem wk_grid {S:Srv} (h:WkS S) (p:Nat) (g:Gr) (hg:g=noG∨OkG g):WkS (withG S p g):=by
 refine⟨h.t,h.w1,h.w2,h.h1,h.h2,fun q hq=>?_,h.par,h.cl⟩
 by_cases e:q=p
 ·show upd S.v.gs p g q=noG∨OkG (upd S.v.gs p g q)
  rw [e,upd_at];exact hg
 ·show upd S.v.gs p g q=noG∨OkG (upd S.v.gs p g q)
  rw [upd_ne _ _ e];exact h.grid q hq
theorem wk_par {S:Srv} (h:WkS S) (p:Nat) (s:Ps.PS) (hs:Ps.GoodS s):WkS (withP S p s):=by
 refine⟨h.t,h.w1,h.w2,h.h1,h.h2,h.grid,fun q hq=>?_,h.cl⟩
 by_cases e:q=p
 ·show Ps.GoodS (upd S.ps p s q)
  rw [e,upd_at];exact hs
 ·show Ps.GoodS (upd S.ps p s q)
  rw [upd_ne _ _ e];exact h.par q hq
theorem grid_to {w:World} {S:Srv} {L:Lay} (h:SrvIn w S L) (p:Nat) (hp:p < 6) (g:Gr) (ao:Option Addr) (cap:Nat) (hg:g=noG∨OkG g) (hl:Gl w ao cap g):SrvTo w S L (withG S p g) (layG L p ao cap) (w.setCells L.sb (1+p*9) (gcells g ao cap).toList):=by
 have hk:=setCells_kp L.sb (gcells g ao cap).toList (1+p*9) w
 refine⟨sb_in h hk rfl (wk_grid h.ok p g hg) (put_grid h p hp g ao cap) h.cols h.rd h.ty (fun q hq=>?_) h.ps h.cl h.apart,rfl,hk.sb,fun i _ hs=>.inl ⟨hs,rfl⟩⟩
 show Gl w (upd L.l.ga p ao q) (upd L.l.gc p cap q) (upd S.v.gs p g q)
 by_cases e:q=p
 ·rw [e,upd_at,upd_at,upd_at];exact hl
 ·rw [upd_ne _ _ e,upd_ne _ _ e,upd_ne _ _ e];exact h.gs q hq
theorem par_to {w:World} {S:Srv} {L:Lay} (h:SrvIn w S L) (p:Nat) (hp:p < 6) (s:Ps.PS) (ao:Option Addr) (cap:Nat) (hs:Ps.GoodS s) (hl:Pl w ao cap s.ps):SrvTo w S L (withP S p s) (layP L p ao cap) (w.setCells L.sb (58+p*4) (pcells s ao cap)):=by
 have hk:=setCells_kp L.sb (pcells s ao cap) (58+p*4) w
 refine⟨sb_in h hk rfl (wk_par h.ok p s hs) (put_par h p hp s ao cap) h.cols h.rd h.ty h.gs (fun q hq=>?_) h.cl h.apart,rfl,hk.sb,fun i _ hs=>.inl ⟨hs,rfl⟩⟩
 show Pl w (upd L.pa p ao q) (upd L.pc p cap q) (upd S.ps p s q).ps
 by_cases e:q=p
 ·rw [e,upd_at,upd_at,upd_at];exact hl
 ·rw [upd_ne _ _ e,upd_ne _ _ e,upd_ne _ _ e];exact h.ps q hq
theorem put_tiles {w:World} {S:Srv} {L:Lay} (h:SrvIn w S L) (cols:List (List Int)) (co:Option Addr) (cap:Nat) (its:List CIt):(w.setCell ⟨L.sb,0,none⟩ (.slice co its.length cap)).heap[L.sb]?=some (sbox {S with v:={S.v with cols:=cols}} {L with l:={L.l with co:=co,cap:=cap,its:=its}}):=by
 rw [set_cells h.box]
 rfl
theorem tiles_to {w:World} {S:Srv} {L:Lay} (h:SrvIn w S L) (cols:List (List Int)) (co:Option Addr) (cap:Nat) (its:List CIt) (ok:Tl.OkT cols) (hc:cols=colsOf its) (rd:RdT w co its) (ty:TyT w co its):SrvTo w S L {S with v:={S.v with cols:=cols}} {L with l:={L.l with co:=co,cap:=cap,its:=its}} (w.setCell ⟨L.sb,0,none⟩ (.slice co its.length cap)):=by
 have hk:=set_kp w L.sb 0 (.slice co its.length cap)
 exact⟨sb_in h hk rfl ⟨ok,h.ok.w1,h.ok.w2,h.ok.h1,h.ok.h2,h.ok.grid,h.ok.par,h.ok.cl⟩ (put_tiles h cols co cap its) hc rd ty h.gs h.ps h.cl h.apart,rfl,hk.sb,fun i _ hs=>.inl ⟨hs,rfl⟩⟩
theorem focus_to {w:World} {S:Srv} {L:Lay} (h:SrvIn w S L) (p:Int):SrvTo w S L {S with v:={S.v with focus:=p}} L (w.setCell ⟨L.sb,57,none⟩ (.int .i64 p)):=
 sb_nums h (set_kp w L.sb _ _) ⟨h.ok.t,h.ok.w1,h.ok.w2,h.ok.h1,h.ok.h2,h.ok.grid,h.ok.par,h.ok.cl⟩ (put_focus h p) rfl rfl rfl rfl
theorem put_wide {w:World} {S:Srv} {L:Lay} (h:SrvIn w S L) (n:Int):(w.setCell ⟨L.sb,55,none⟩ (.int .i64 n)).heap[L.sb]?=some (sbox {S with v:={S.v with wide:=n}} L):=by
 rw [set_cells h.box]
 rfl
theorem put_high {w:World} {S:Srv} {L:Lay} (h:SrvIn w S L) (n:Int):(w.setCell ⟨L.sb,56,none⟩ (.int .i64 n)).heap[L.sb]?=some (sbox {S with v:={S.v with high:=n}} L):=by
 rw [set_cells h.box]
 rfl
theorem sides_to {w:World} {S:Srv} {L:Lay} (h:SrvIn w S L) (n m:Int) (hs:sidesS n m=true):SrvTo w S L {S with v:={S.v with wide:=n,high:=m}} L ((w.setCell ⟨L.sb,55,none⟩ (.int .i64 n)).setCell ⟨L.sb,56,none⟩ (.int .i64 m)):=by
 simp only [sidesS,decide_eq_true_eq] at hs
 have h1:SrvTo w S L {S with v:={S.v with wide:=n}} L (w.setCell ⟨L.sb,55,none⟩ (.int .i64 n)):=sb_nums h (set_kp w L.sb _ _) ⟨h.ok.t,hs.1,hs.2.1,h.ok.h1,h.ok.h2,h.ok.grid,h.ok.par,h.ok.cl⟩ (put_wide h n) rfl rfl rfl rfl
 exact h1.trans (sb_nums h1.srv (set_kp _ L.sb _ _) ⟨h.ok.t,hs.1,hs.2.1,hs.2.2.1,hs.2.2.2,h.ok.grid,h.ok.par,h.ok.cl⟩ (put_high h1.srv m) rfl rfl rfl rfl)
end Go.Proofs.YtjikokfjnbhngaaGreatDoor.Sv

/- Each pane that is there is given a screen of its place. -/
namespace Go.Proofs.YtjikokfjnbhngaaGreatDoor.Sv
open Go.RowKit
open Go.Proofs.YtjikokfjnbhngaaGreatDoor.Tl (colsOf RdT TyT CIt tval hasT Rc rval)
set_option maxRecDepth 100000
def fitK (v:Pt.Vw) (l:List Int):Pt.Vw:={v with gs:=fun p=>if (p:Int)∈l then fit1 v p else v.gs p}
@[reducible] def fitL (S:Srv) (l:List Int):Srv:={S with v:=fitK S.v l}
theorem fitK_nil (v:Pt.Vw):fitK v []=v:=by simp [fitK]
theorem fitK_all {v:Pt.Vw}:fitK v v.cols.flatten=fitV v:=by
 unfold fitK fitV
 congr 1
 funext p
 by_cases h:(p:Int)∈v.cols.flatten
 ·rw [if_pos h,if_pos (Tl.hasT_iff.2 h)]
 ·rw [if_neg h,if_neg (fun e=>h (Tl.hasT_iff.1 e))]
theorem fitK_snoc (v:Pt.Vw) (l:List Int) (p:Nat) (hp:(p:Int) ∉ l):withG ⟨fitK v l,fun _=>Ps.ground,fun _=>none,0⟩ p (fittedG ((fitK v l).gs p) (max (v.place p).wide 1) (max (v.place p).high 1))=⟨fitK v (l++[(p:Int)]),fun _=>Ps.ground,fun _=>none,0⟩:=by
 unfold withG fitK upd
 simp only [Srv.mk.injEq,Pt.Vw.mk.injEq,and_true,true_and]
 funext q
 by_cases e:q=p
 ·subst e
  rw [if_pos rfl,if_neg hp,if_pos (by simp)]
  rfl
 ·rw [if_neg e]
  have:((q:Int)∈l++[(p:Int)])↔(q:Int)∈l:=by
   simp only [List.mem_append,List.mem_singleton]
   exact⟨fun h=>h.elim id (fun h=>absurd (by omega) e),.inl⟩
  simp only [this]
def FitInv (w:World) (S:Srv) (L:Lay) (l:List Int) (wr:World):Prop:=∃ L',SrvTo w S L (fitL S l) L' wr∧L'.l.co=L.l.co∧L'.l.its=L.l.its∧L'.l.cap=L.l.cap
theorem FitInv.below {w:World} {S:Srv} {L:Lay} {l:List Int} {wr w':World} (h:FitInv w S L l wr) (hb:Below wr.heap.size wr w'):FitInv w S L l w':=by
 obtain⟨L',h1,h2⟩:=h
 exact⟨L',h1.later hb,h2⟩
theorem FitInv.cells {w:World} {S:Srv} {L:Lay} {l:List Int} {wr:World} (h:FitInv w S L l wr):wr.cell? ⟨L.sb,0,none⟩=some (.slice L.l.co L.l.its.length L.l.cap)∧wr.cell? ⟨L.sb,55,none⟩=some (.int .i64 S.v.wide)∧wr.cell? ⟨L.sb,56,none⟩=some (.int .i64 S.v.high):=by
 obtain⟨L',h1,h2,h3,h4⟩:=h
 have e1:=h1.srv.tiles
 have e2:=h1.srv.sides
 rw [h1.sb,h2,h3,h4] at e1
 rw [h1.sb] at e2
 exact⟨e1,e2.1,e2.2.1⟩
theorem FitInv.rd {w:World} {S:Srv} {L:Lay} {l:List Int} {wr:World} (h:FitInv w S L l wr):RdT wr L.l.co L.l.its:=by
 obtain⟨L',h1,h2,h3,h4⟩:=h
 have:=h1.srv.rd
 rwa [h2,h3] at this
theorem FitInv.size {w:World} {S:Srv} {L:Lay} {l:List Int} {wr:World} (h:FitInv w S L l wr):w.heap.size≤wr.heap.size:=by
 obtain⟨L',h1,_⟩:=h
 exact h1.kp.size
theorem rect_foreign:¬ Ours 63:=by unfold Ours;decide
theorem FitInv.rect {w:World} {S:Srv} {L:Lay} {l:List Int} {wr:World} (h:FitInv w S L l wr) {B:Nat} {c0:Rc} (hb:wr.heap[B]?=some (Tl.rbox c0)) (hB:w.heap.size≤B) (u0 u1 u2 u3:Value):FitInv w S L l ((((wr.setCell ⟨B,0,none⟩ u0).setCell ⟨B,1,none⟩ u1).setCell ⟨B,2,none⟩ u2).setCell ⟨B,3,none⟩ u3):=by
 obtain⟨L',h1,h2⟩:=h
 exact⟨L',(((h1.set hb rect_foreign hB 0 u0).set (set_cells hb u0) rect_foreign hB 1 u1).set (set_cells (set_cells hb u0) u1) rect_foreign hB 2 u2).set (set_cells (set_cells (set_cells hb u0) u1) u2) rect_foreign hB 3 u3,h2⟩
theorem rect_set {wr:World} {B:Nat} {c0:Rc} (hb:wr.heap[B]?=some (Tl.rbox c0)) (r:Rc):((((wr.setCell ⟨B,0,none⟩ (.int .i64 r.row)).setCell ⟨B,1,none⟩ (.int .i64 r.col)).setCell ⟨B,2,none⟩ (.int .i64 r.high)).setCell ⟨B,3,none⟩ (.int .i64 r.wide)).heap[B]?=some (Tl.rbox r):=by
 rw [set_cells (set_cells (set_cells (set_cells hb _) _) _) _]
 rfl
theorem Below.of_drew {w w1:World} {B:Nat} (h:Below B w.drew w1):Below B w w1:=⟨h.os,h.tape,h.output,h.size,h.block⟩
def FitMid (w:World) (S:Srv) (L:Lay) (l:List Int) (r:Rc) (t:Value) (wx:World):Prop:=∃ T,t=.pointer (some ⟨T,0,none⟩)∧wx.heap[T]?=some (Tl.rbox r)∧FitInv w S L l wx
structure FitOne (w:World) (S:Srv) (L:Lay) (l:List Int) (P:Nat) (x:Gr) (ao:Option Addr) (cap:Nat) (w4:World):Prop where
 there:w4.there L.sb (1+P*9) 9
 next:FitInv w S L (l++[(P:Int)]) (w4.setCells L.sb (1+P*9) (gcells x ao cap).toList)
 other:∀ (T:Nat) (r:Rc) (j:Nat) (u:Value),w4.heap[T]?=some (Tl.rbox r)→(Tl.rcells r)[j]?=some u→(w4.setCells L.sb (1+P*9) (gcells x ao cap).toList).cell? ⟨T,j,none⟩=some u
theorem FitOne.rect {w:World} {S:Srv} {L:Lay} {l:List Int} {P:Nat} {x:Gr} {ao:Option Addr} {cap:Nat} {w4:World} (h:FitOne w S L l P x ao cap w4) {T:Nat} {r:Rc} {j:Nat} {u:Value} (ht:w4.heap[T]?=some (Tl.rbox r)) (hu:(Tl.rcells r)[j]?=some u):(w4.setCells L.sb (1+P*9) (gcells x ao cap).toList).cell? ⟨T,j,none⟩=some u:=h.other T r j u ht hu
theorem rect_wide (r:Rc):(Tl.rcells r)[3]?=some (.int .i64 r.wide):=rfl
theorem rect_high (r:Rc):(Tl.rcells r)[2]?=some (.int .i64 r.high):=rfl
theorem fit_snoc (S:Srv) (l:List Int) (p:Nat) (hp:(p:Int) ∉ l):withG (fitL S l) p (fittedG ((fitK S.v l).gs p) (max (S.v.place p).wide 1) (max (S.v.place p).high 1))=fitL S (l++[(p:Int)]):=by
 have h:=fitK_snoc S.v l p hp
 simp only [withG,Srv.mk.injEq,and_true] at h
 unfold fitL withG
 rw [←h]
theorem fit_one {w:World} {S:Srv} {L L2:Lay} {l:List Int} {P:Nat} {x:Gr} {ao:Option Addr} {cap:Nat} {w4:World} (hx:x=fittedG ((fitK S.v l).gs P) (max (S.v.place P).wide 1) (max (S.v.place P).high 1)∧OkG x) (hp:P < 6) (hl:Gl w4 ao cap x)
  (h:SrvTo w S L (fitL S l) L2 w4∧L2.l.co=L.l.co∧L2.l.its=L.l.its∧L2.l.cap=L.l.cap) (hpl:(P:Int) ∉ l):FitOne w S L l P x ao cap w4:=by
 obtain⟨h1,h2⟩:=h
 have hg:=grid_to h1.srv P hp x ao cap (.inr hx.2) hl
 rw [h1.sb] at hg
 refine⟨by have:=h1.srv.there (1+P*9) 9 (by omega);rwa [h1.sb] at this,⟨layG L2 P ao cap,?_,h2⟩,fun T r j u ht hu=>?_⟩
 ·rw [←fit_snoc S l P hpl, ←hx.1]
  exact h1.trans hg
 ·have hne:T≠L.sb:=fun e=>by
   have hb:=h1.srv.box
   rw [h1.sb, ←e,ht] at hb
   simp only [Option.some.injEq,Obj.cells.injEq] at hb
   exact absurd hb.2.1 (by decide)
  rw [World.cell?_of_block (a:=⟨T,j,none⟩) ((setCells_kp L.sb _ _ w4).block T (Array.getElem?_eq_some_iff.1 ht).1 hne),cell_of_row w4 T j _ _ _ ht]
  exact hu
theorem wanted_go {c:Bool} {A B:Prop} (h:c=true) (a:A):if c=true then A else B:=by rw [if_pos h];exact a
theorem take_snoc_flat {cols:List (List Int)} {k:Nat} {c:List Int} (h:cols[k]?=some c):(cols.take (k+1)).flatten=(cols.take k).flatten++c:=by
 have hk:k < cols.length:=(List.getElem?_eq_some_iff.1 h).1
 rw [List.take_add_one,h]
 simp
theorem once_at {cols:List (List Int)} (ok:Tl.OkT cols) {k m:Nat} {c:List Int} (h:cols[k]?=some c) (hm:m < c.length):c[m] ∉ (cols.take k).flatten++c.take m:=by
 have hn:=ok.once
 have hk:k < cols.length:=(List.getElem?_eq_some_iff.1 h).1
 have hc:cols[k]=c:=by simpa [hk] using h
 rw [at_split cols k hk,List.flatten_append,List.flatten_cons,hc, ←List.append_assoc] at hn
 have h2:=(List.nodup_append.1 hn).1
 have e:(cols.take k).flatten++c=((cols.take k).flatten++c.take m)++c[m]::c.drop (m+1):=by
  conv=>lhs;rw [at_split c m hm]
  rw [List.append_assoc]
 rw [e] at h2
 have h3:=List.nodup_append.1 h2
 intro hmem
 exact h3.2.2 _ hmem _ (List.mem_cons_self ..) rfl
set_option maxHeartbeats 8000000 in
theorem fit_any (w:World) (S:Srv) (L:Lay) (h:SrvIn w S L):
  Calls Tryz.prog 45 #[.pointer (some ⟨L.sb,0,none⟩)] w fun e w'=>e=.returned (.tuple #[])∧∃ L',SrvTo w S L {S with v:=fitV S.v} L' w':=by
 have HS:Hid (SrvIn w S L):=h
 have HI0:Hid (FitInv w S L [] w):=⟨L,by rw [show fitL S []=S by unfold fitL;rw [fitK_nil]];exact SrvTo.refl h,rfl,rfl,rfl⟩
 have HEND:Hid (∀ wr,FitInv w S L S.v.cols.flatten wr→∃ L',SrvTo w S L {S with v:=fitV S.v} L' wr):=fun wr ⟨L',h1,_⟩=>⟨L',by rw [←fitK_all];exact h1⟩
 have hlen:L.l.its.length≤6:=by
  have h6:=Tl.good_len h.ok.t
  rw [h.cols] at h6
  simpa using h6
 have HCOL:Hid (S.v.cols=colsOf L.l.its∧Tl.OkT S.v.cols∧S.v.cols.length=L.l.its.length):=⟨h.cols,h.ok.t,by rw [h.cols];simp⟩
 obtain⟨co,hco⟩:∃ co,co=L.l.co:=⟨_,rfl⟩
 have HCO:Hid (co=L.l.co):=hco
 have HWH0:Hid (∀ (p:Int) W l,FitInv w S L l W→Calls Tryz.prog 28 #[tval co L.l.its.length L.l.cap,.int .i64 S.v.wide,.int .i64 S.v.high,.int .i64 p] W fun e w'=>e=.returned (rval (S.v.place p))∧Below W.heap.size W w'):=fun p W l hr=>by rw [hco];exact Tl.where_any L.l.its L.l.co L.l.cap S.v.wide S.v.high p W hr.rd h.few.1 h.few.2 _ (by rw [←h.cols];rfl)
 have HCE:Hid (∀ l W,FitInv w S L l W→W.cell? ⟨L.sb,0,none⟩=some (.slice co L.l.its.length L.l.cap)∧W.cell? ⟨L.sb,55,none⟩=some (.int .i64 S.v.wide)∧W.cell? ⟨L.sb,56,none⟩=some (.int .i64 S.v.high)):=fun l W hr=>by rw [hco];exact hr.cells
 have HRD:Hid (∀ l W,FitInv w S L l W→RdT W co L.l.its):=fun l W hr=>by rw [hco];exact hr.rd
 have HWK:Hid (WkS S):=h.ok
 obtain⟨f0,f1,f2⟩:=HCE.out [] w HI0.out
 have hlt:=(Array.getElem?_eq_some_iff.1 h.box).1
 clear h hco
 go_enter Tryz.func45,Tryz.ntmps45
 go_wp2
 go_loopw [17] (fun i wr=>∃ k:Nat,k≤L.l.its.length∧i=.int .i64 k∧FitInv w S L (S.v.cols.take k).flatten wr) (fun i _=>L.l.its.length - (intOf i).toNat)
 case atStart=>exact⟨0,Nat.zero_le _,rfl,by simpa using HI0.out⟩
 case round=>
  obtain⟨k,hk,rfl,hi⟩:=hrel
  have HIk:Hid (FitInv w S L (S.v.cols.take k).flatten wr):=hi
  clear hi f0 f1 f2
  by_cases hkl:k < L.l.its.length
  ·have hkl':(k:Int) < (L.l.its.length:Int):=by omega
   have hk0:(0:Int)≤(k:Int):=by omega
   obtain⟨b,off,rfl,hrow⟩:=(HRD.out _ _ HIk.out).row.resolve_left (by intro e;rw [e] at hkl;simp at hkl)
   have hcell:=hrow k hkl
   obtain⟨x,hx⟩:∃ x,x=L.l.its[k]:=⟨_,rfl⟩
   rw [←hx] at hcell
   have HX:Hid (x∈L.l.its∧S.v.cols[k]?=some x.1):=⟨by rw [hx];exact List.getElem_mem hkl,by rw [HCOL.out.1,hx];simp [hkl]⟩
   have hxl:x.1.length≤3:=(HCOL.out.2.1.tall x.1 (List.mem_of_getElem? HX.out.2)).2
   obtain⟨xl,xo,xc⟩:=x
   simp only [Tl.cv] at hcell hxl
   clear hrow hx
   go_wp2
   go_loopw [23] (fun i wr2=>∃ m:Nat,m≤xl.length∧i=.int .i64 m∧FitInv w S L ((S.v.cols.take k).flatten++xl.take m) wr2) (fun i _=>xl.length - (intOf i).toNat)
   case atStart=>exact⟨0,Nat.zero_le _,rfl,by simpa using HIk.out⟩
   case round=>
    obtain⟨m,hm,rfl,hi⟩:=hrel
    rename_i wr0 wr
    obtain⟨l,hl⟩:∃ l,l=(S.v.cols.take k).flatten++xl.take m:=⟨_,rfl⟩
    rw [←hl] at hi
    have HL:Hid (l=(S.v.cols.take k).flatten++xl.take m):=hl
    have HI:Hid (FitInv w S L l wr):=hi
    clear hi hl hcell
    by_cases hml:m < xl.length
    ·have hml':(m:Int) < (xl.length:Int):=by omega
     have hm0:(0:Int)≤(m:Int):=by omega
     obtain⟨xb,xf,hxo,hxc⟩:=(((HRD.out _ _ HI.out).each _ HX.out.1).1).resolve_left (by intro e;simp only at e;rw [e] at hml;simp at hml)
     simp only at hxo hxc
     subst hxo
     have hpc:=hxc m hml
     obtain⟨q,hq⟩:∃ q,q=xl.getD m 0:=⟨_,rfl⟩
     rw [←hq] at hpc
     have hqe:q=xl[m]:=by rw [hq];simp [hml]
     have hqp:0≤q∧q < 6:=has_pane HCOL.out.2.1 (Tl.hasT_iff.2 (List.mem_flatten.2 ⟨xl,List.mem_of_getElem? HX.out.2,by rw [hqe];exact List.getElem_mem hml⟩))
     obtain⟨P,rfl⟩:=Int.eq_ofNat_of_zero_le hqp.1
     have hP6:P < 6:=by omega
     have hP6':(P:Int) < 6:=by omega
     have hP0:(0:Int)≤(P:Int):=by omega
     have HXX:Hid ((P:Int) ∉ l):=by rw [HL.out];show (P:Int) ∉ _;rw [hqe];exact once_at HCOL.out.2.1 HX.out.2 hml
     have HNX:Hid (l++[(P:Int)]=(S.v.cols.take k).flatten++xl.take (m+1)):=by
      show l++[(P:Int)]=_
      rw [HL.out,hqe,List.append_assoc,List.take_add_one,List.getElem?_eq_getElem hml]
      rfl
     obtain⟨r,hr⟩:∃ r,r=S.v.place P:=⟨_,rfl⟩
     have HPR:Hid (r=S.v.place P):=hr
     have HWH:Hid (∀ W,FitInv w S L l W→Calls Tryz.prog 28 #[tval (some ⟨b,off,none⟩) L.l.its.length L.l.cap,.int .i64 S.v.wide,.int .i64 S.v.high,.int .i64 P] W fun e w'=>e=.returned (rval r)∧Below W.heap.size W w'):=fun W h=>by rw [hr];exact HWH0.out P W l h
     obtain⟨f0,f1,f2⟩:=HCE.out l wr HI.out
     have hltr:L.sb < wr.heap.size:=Nat.lt_of_lt_of_le hlt HI.out.size
     clear hxc hq hqe hqp hr
     go_wp2_with fail
     go_cut [7] from 27 to 40 (fun t7 wx=>FitMid w S L l r t7 wx)
     case first=>
      refine bg (fun w'=>w'.cell? ⟨L.sb,0,none⟩=some (.slice (some ⟨b,off,none⟩) L.l.its.length L.l.cap)∧w'.cell? ⟨L.sb,55,none⟩=some (.int .i64 S.v.wide)∧w'.cell? ⟨L.sb,56,none⟩=some (.int .i64 S.v.high)) ⟨f0,f1,f2⟩ (fun hHeld=>?_)
      refine tk 0 hHeld ?_
      refine tk 1 hHeld ?_
      refine tk 2 hHeld ?_
      refine tk 3 hHeld ?_
      refine tk 4 hHeld ?_
      refine tk 5 hHeld ?_
      refine tk 6 hHeld ?_
      refine tk 7 hHeld ?_
      refine tk 8 hHeld ?_
      refine tk 9 hHeld ?_
      refine tk 10 hHeld ?_
      refine tk 11 hHeld ?_
      refine tk 12 hHeld ?_
      refine wpAnyH_ready (rs:=[13,14]) (by kernel_rfl) (by simp) ?_
      refine AllReadyH.cons rfl (fun K hK=>?_) (AllReadyH.cons rfl (fun K hK=>?_) AllReadyH.nil)
      ·go_simp
       go_at_call 28
       refine(HWH.out _ (HI.out.below ((Below.refl _ _).drew))).mono ?_
       rintro e w3 ⟨rfl,hb3⟩
       have HI3:Hid (FitInv w S L l w3):=HI.out.below (undrewS hb3)
       obtain⟨f0,f1,f2⟩:=HCE.out _ _ HI3.out
       (try go_simp)
       refine hK.out _ _ ⟨f0,f1,f2⟩ (fun hHeld=>?_)
       clear hK K
       refine pt ?_
       refine wpAnyH_ready (rs:=[14]) (by kernel_rfl) (by simp) ?_
       refine AllReadyH.cons rfl (fun K hK=>?_) AllReadyH.nil
       go_simp
       obtain⟨f0,f1,f2⟩:=HCE.out _ _ (HI3.out.below (below1 w3 (Tl.rbox Tl.noRc)))
       refine hK.out _ _ ⟨f0,f1,f2⟩ (fun hHeld=>?_)
       clear hK K
       refine pt ?_
       refine wpAnyH_ready (rs:=[15]) (by kernel_rfl) (by simp) ?_
       refine AllReadyH.cons rfl (fun K hK=>?_) AllReadyH.nil
       go_simp
       obtain⟨f0,f1,f2⟩:=HCE.out _ _ (HI3.out.below (below1 w3 (Tl.rbox r)))
       refine hK.out _ _ ⟨f0,f1,f2⟩ (fun hHeld=>?_)
       clear hK K
       refine pt ?_
       refine dn ?_
       go_wp2_with fail
       go_meet
       exact⟨w3.heap.size,rfl,at_new _ _,HI3.out.below (below1 _ _)⟩
      ·go_simp
       have HI2:Hid (FitInv w S L l (wr.alloc (Tl.rbox Tl.noRc)).drew):=HI.out.below ((below1 wr _).drew)
       obtain⟨f0,f1,f2⟩:=HCE.out _ _ HI2.out
       refine hK.out _ _ ⟨f0,f1,f2⟩ (fun hHeld=>?_)
       clear hK K
       refine pt ?_
       refine wpAnyH_ready (rs:=[13]) (by kernel_rfl) (by simp) ?_
       refine AllReadyH.cons rfl (fun K hK=>?_) AllReadyH.nil
       go_simp
       go_at_call 28
       refine(HWH.out _ HI2.out).mono ?_
       rintro e w3 ⟨rfl,hb3⟩
       have hb3':Below (wr.alloc (Tl.rbox Tl.noRc)).heap.size (wr.alloc (Tl.rbox Tl.noRc)) w3:=undrewS hb3
       have HI3:Hid (FitInv w S L l w3):=HI.out.below ((below1 wr _).trans (hb3'.mono (by simp)))
       have HT3:Hid (w3.heap[wr.heap.size]?=some (Tl.rbox Tl.noRc)):=below_block hb3' (at_new _ _) (by simp)
       clear hb3
       obtain⟨f0,f1,f2⟩:=HCE.out _ _ HI3.out
       (try go_simp)
       refine hK.out _ _ ⟨f0,f1,f2⟩ (fun hHeld=>?_)
       clear hK K
       refine pt ?_
       obtain⟨⟨t0,t1,t2,t3⟩,tf⟩:=four HT3.out
       have HI4:Hid (FitInv w S L l ((((w3.setCell ⟨wr.heap.size,0,none⟩ (.int .i64 r.row)).setCell ⟨wr.heap.size,1,none⟩ (.int .i64 r.col)).setCell ⟨wr.heap.size,2,none⟩ (.int .i64 r.high)).setCell ⟨wr.heap.size,3,none⟩ (.int .i64 r.wide))):=HI3.out.rect HT3.out (HI.out.size) _ _ _ _
       refine wpAnyH_ready (rs:=[15]) (by kernel_rfl) (by simp) ?_
       refine AllReadyH.cons rfl (fun K hK=>?_) AllReadyH.nil
       go_simp
       obtain⟨f0,f1,f2⟩:=HCE.out _ _ HI4.out
       refine hK.out _ _ ⟨f0,f1,f2⟩ (fun hHeld=>?_)
       clear hK K
       refine pt ?_
       refine dn ?_
       go_wp2_with fail
       go_meet
       exact⟨wr.heap.size,rfl,rect_set HT3.out r,HI4.out⟩
     case rest=>
      obtain⟨T,rfl,hT,L2,hto,hl2⟩:=hcut
      have HT:Hid (wc.heap[T]?=some (Tl.rbox r)):=hT
      have HM:Hid (SrvTo w S L (fitL S l) L2 wc∧L2.l.co=L.l.co∧L2.l.its=L.l.its∧L2.l.cap=L.l.cap):=⟨hto,hl2⟩
      have HL2:Hid (Gl wc (L2.l.ga P) (L2.l.gc P) ((fitK S.v l).gs P)):=hto.srv.gs P hP6
      have HG:Hid (∀ w',Below wc.heap.size wc w'→w'.rangeAt L.sb (1+P*9) (gcells ((fitK S.v l).gs P) (L2.l.ga P) (L2.l.gc P)).toList):=fun w' hb=>by
       have:=(hto.srv.below hb).grid P hP6
       rwa [hto.sb] at this
      obtain⟨⟨t0,t1,t2,t3⟩,tf⟩:=four hT
      obtain⟨x,hx⟩:∃ x,x=fittedG ((fitK S.v l).gs P) (max (S.v.place P).wide 1) (max (S.v.place P).high 1):=⟨_,rfl⟩
      have HX2:Hid (x=fittedG ((fitK S.v l).gs P) (max (S.v.place P).wide 1) (max (S.v.place P).high 1)∧OkG x):=by
       refine⟨hx,?_⟩
       have hs:=place_sides HWK.out.w1 HWK.out.w2 HWK.out.h1 HWK.out.h2 (P:Int)
       rw [hx]
       exact(fitted_ok (hto.srv.ok.grid P hP6) (by simp only [sidesS,decide_eq_true_eq];omega)).1
      have HFD:Hid (∀ W,Gl W (L2.l.ga P) (L2.l.gc P) ((fitK S.v l).gs P)→Calls Tryz.prog 80 #[gval ((fitK S.v l).gs P) (L2.l.ga P) (L2.l.gc P),.int .i64 (max r.wide 1),.int .i64 (max r.high 1)] W fun e w'=>∃ ao' cap',e=.returned (gval x ao' cap')∧Gl w' ao' cap' x∧Below W.heap.size W w'):=fun W hl=>by rw [HPR.out];exact fitted_any _ _ _ (hto.srv.ok.grid P hP6) _ _ W hl x hx
      have HF1:Hid (∀ w4 ao4 c4,Gl w4 ao4 c4 x→SrvTo w S L (fitL S l) L2 w4→FitOne w S L l P x ao4 c4 w4):=fun w4 ao4 c4 h1 h2=>fit_one HX2.out hP6 h1 ⟨h2,HM.out.2⟩ HXX.out
      have hTlt:=(Array.getElem?_eq_some_iff.1 hT).1
      clear HX2
      have hltc:L.sb < wc.heap.size:=by have:=hto.kp.size;omega
      generalize L2.l.ga P=ga at*
      generalize L2.l.gc P=gc at*
      generalize (fitK S.v l).gs P=G at*
      clear hT hto hl2 hx f0 f1 f2 HI HWH
      go_wp2_with fail
      refine bg (fun w'=>w'.cell? ⟨T,3,none⟩=some (.int .i64 r.wide)∧w'.cell? ⟨T,2,none⟩=some (.int .i64 r.high)) ⟨t3,t2⟩ (fun hHeld=>?_)
      refine tk 0 hHeld ?_
      refine tk 1 hHeld ?_
      refine tk 2 hHeld ?_
      refine tk 3 hHeld ?_
      refine tk 4 hHeld ?_
      refine tk 5 hHeld ?_
      refine tk 6 hHeld ?_
      refine tk 8 hHeld ?_
      refine tk 9 hHeld ?_
      refine tk 10 hHeld ?_
      refine tk 11 hHeld ?_
      refine tk 12 hHeld ?_
      refine tk 13 hHeld ?_
      refine tk 15 hHeld ?_
      refine tk 16 hHeld ?_
      refine wpAnyH_ready (rs:=[7]) (by kernel_rfl) (by simp) ?_
      refine AllReadyH.cons rfl (fun K hK=>?_) AllReadyH.nil
      refine wanted_go (by kernel_rfl) ?_
      refine wp_load_mid 40 _ rfl L.sb (1+P*9) rfl (gcells G ga gc).toList _ (HG.out _ ((Below.refl _ _).drew)) Tryz.underlying40 rfl Pt.infoG ?_
      refine hK.out _ _ ⟨t3,t2⟩ (fun hHeld=>?_)
      clear hK K
      refine pt ?_
      refine wpAnyH_ready (rs:=[14]) (by kernel_rfl) (by simp) ?_
      refine AllReadyH.cons rfl (fun K hK=>?_) AllReadyH.nil
      go_simp
      go_at_call 80
      refine(HFD.out _ (HL2.out.below ((Below.refl _ _).drew))).mono ?_
      rintro e w4 ⟨ao4,c4,rfl,hl4,hb4⟩
      have HI4:Hid (FitOne w S L l P x ao4 c4 w4):=HF1.out w4 ao4 c4 hl4 (HM.out.1.later (undrewS hb4))
      have hT4:=below_block (undrewS hb4) HT.out (Array.getElem?_eq_some_iff.1 HT.out).1
      obtain⟨⟨t0,t1,t2,t3⟩,tf⟩:=four hT4
      (try go_simp)
      refine hK.out _ _ ⟨t3,t2⟩ (fun hHeld=>?_)
      clear hK K
      refine pt ?_
      refine tk 17 hHeld ?_
      refine wpAnyH_ready (rs:=[18]) (by kernel_rfl) (by simp) ?_
      refine AllReadyH.cons rfl (fun K hK=>?_) AllReadyH.nil
      refine wanted_go (by kernel_rfl) ?_
      refine wp_store_mid 40 _ _ rfl L.sb (1+P*9) (gcells x ao4 c4) rfl rfl HI4.out.there Pt.infoG (gone _ _ _) ?_
      refine hK.out _ _ ⟨HI4.out.rect hT4 (rect_wide r),HI4.out.rect hT4 (rect_high r)⟩ (fun hHeld=>?_)
      clear hK K
      refine pt ?_
      refine dn ?_
      have HN5:Hid (FitInv w S L ((S.v.cols.take k).flatten++xl.take (m+1)) (w4.setCells L.sb (1+P*9) (gcells x ao4 c4).toList)):=by rw [←HNX.out];exact HI4.out.next
      clear HI4 hT4 t0 t1 t2 t3 tf
      generalize w4.setCells L.sb (1+P*9) (gcells x ao4 c4).toList=w5 at*
      go_wp2
      go_roundw
      case rel=>exact⟨m+1,by omega,by go_num,HN5.out⟩
      case measure=>simp [intOf];omega
    ·have hge:(xl.length:Int)≤(m:Int):=by omega
     have HE:Hid (l=(S.v.cols.take (k+1)).flatten):=by
      show l=_
      rw [HL.out,take_snoc_flat HX.out.2,List.take_of_length_le (l:=xl) (by omega)]
     go_wp2_with fail
     go_roundw
     case rel=>exact⟨k+1,by omega,by go_num,by rw [←HE.out];exact HI.out⟩
     case measure=>simp [intOf];omega
  ·have hge:(L.l.its.length:Int)≤(k:Int):=by omega
   have HE:Hid ((S.v.cols.take k).flatten=S.v.cols.flatten):=by
    show (S.v.cols.take k).flatten=_
    rw [List.take_of_length_le (by have:=HCOL.out.2.2;omega)]
   go_wp2
   go_end0
   exact⟨rfl,HEND.out _ (by rw [←HE.out];exact HIk.out)⟩
end Go.Proofs.YtjikokfjnbhngaaGreatDoor.Sv

/- All has other sides; a pane is split. -/
namespace Go.Proofs.YtjikokfjnbhngaaGreatDoor.Sv
open Go.RowKit
open Go.Proofs.YtjikokfjnbhngaaGreatDoor.Tl (colsOf RdT TyT CIt tval tbox hasT splitT)
set_option maxRecDepth 100000
set_option maxHeartbeats 1000000 in
theorem resize_srv (wide high:Int) (w:World) (S:Srv) (L:Lay) (h:SrvIn w S L):
  Calls Tryz.prog 71 #[.pointer (some ⟨L.sb,0,none⟩),.int .i64 wide,.int .i64 high] w fun e w'=>e=.returned (.int .i64 (resizeS S wide high).2)∧∃ L',SrvTo w S L (resizeS S wide high).1 L' w':=by
 have HS:Hid (SrvIn w S L):=h
 cases hs:sidesS wide high
 ·have HG:Hid (∀ w,Calls Tryz.prog 91 #[.int .i64 wide,.int .i64 high] w fun e w'=>e=.returned (.bool false)∧w'=w):=fun w=>by rw [←hs];exact goodSides_any wide high w
  have HD:Hid (resizeS S wide high=(S,1)):=by show resizeS S wide high=_;unfold resizeS;rw [hs];rfl
  clear h hs
  go_enter Tryz.func71,Tryz.ntmps71
  go_wp2_with (go_at_call 91;refine(HG.out _).mono ?_;rintro e w2 ⟨rfl,hw2⟩;subst w2)
  go_ret
  rw [HD.out]
  exact⟨rfl,L,SrvTo.refl HS.out⟩
 ·have HG:Hid (∀ w,Calls Tryz.prog 91 #[.int .i64 wide,.int .i64 high] w fun e w'=>e=.returned (.bool true)∧w'=w):=fun w=>by rw [←hs];exact goodSides_any wide high w
  have HD:Hid (resizeS S wide high=({S with v:=fitV {S.v with wide:=wide,high:=high}},0)):=by show resizeS S wide high=_;unfold resizeS;rw [hs];rfl
  have HT:Hid (SrvTo w S L {S with v:={S.v with wide:=wide,high:=high}} L ((w.setCell ⟨L.sb,55,none⟩ (.int .i64 wide)).setCell ⟨L.sb,56,none⟩ (.int .i64 high))):=sides_to h wide high hs
  obtain⟨s1,s2,s3⟩:=h.sides
  have hf:=h.frozen
  have hlt:=(Array.getElem?_eq_some_iff.1 h.box).1
  clear h hs
  go_enter Tryz.func71,Tryz.ntmps71
  go_wp2_with (first
   | (go_at_call 91;refine(HG.out _).mono ?_;rintro e w2 ⟨rfl,hw2⟩;subst w2)
   | (go_at_call 45;refine(fit_any _ {S with v:={S.v with wide:=wide,high:=high}} L HT.out.srv).mono ?_;rintro e w3 ⟨rfl,L3,h3⟩;have HE:Hid (SrvTo w S L {S with v:=fitV {S.v with wide:=wide,high:=high}} L3 w3):=HT.out.trans h3;clear h3))
  go_ret
  rw [HD.out]
  exact⟨rfl,L3,HE.out⟩
theorem panes_to {w w2:World} {S:Srv} {L:Lay} (h:SrvIn w S L) (hb:Below w.heap.size w w2) {cols:List (List Int)} {co:Option Addr} {cap:Nat} {its:List CIt} (ok:Tl.OkT cols) (hc:colsOf its=cols) (hrt:RdT w2 co its∧TyT w2 co its) (n:Int) (o:Obj):
  SrvTo w S L {S with v:={S.v with cols:=cols,focus:=n}} {L with l:={L.l with co:=co,cap:=cap,its:=its}} (((w2.setCell ⟨L.sb,0,none⟩ (.slice co its.length cap)).setCell ⟨L.sb,57,none⟩ (.int .i64 n)).alloc o):=by
 have h1:=tiles_to (h.below hb) cols co cap its ok hc.symm hrt.1 hrt.2
 exact(SrvTo.from hb (h1.trans (focus_to h1.srv n))).later (below1 _ _)
theorem reply_in {w:World} {S:Srv} {L:Lay} (h:SrvIn w S L) {B:Nat} {r:Rp} (hb:w.heap[B]?=some (rpbox r)):¬ Mut S L B:=h.other hb (by decide) (by decide)
theorem tl_foreign:¬ Ours 55:=by unfold Ours;decide
set_option maxHeartbeats 2000000 in
theorem split_srv (p:Int) (right:Bool) (w:World) (S:Srv) (L:Lay) (h:SrvIn w S L):
  Calls Tryz.prog 40 #[.pointer (some ⟨L.sb,0,none⟩),.int .i64 p,.bool right] w fun e w'=>e=.returned (rpval (splitS S p right).2)∧∃ L',SrvTo w S L (splitS S p right).1 L' w':=by
 have HS:Hid (SrvIn w S L):=h
 have HB:Hid (∀ o:Obj,Below w.heap.size w (w.alloc o)):=fun o=>below1 w o
 obtain⟨n,hn⟩:∃ n,n=unusedT S.v.cols:=⟨_,rfl⟩
 have HU:Hid (∀ w,SrvIn w S L→Calls Tryz.prog 65 #[.pointer (some ⟨L.sb,0,none⟩)] w fun e w'=>e=.returned (.int .i64 n)∧Below w.heap.size w w'):=fun w h=>by rw [hn];exact unused_any w S L h
 by_cases h6:n=6
 ·have HD:Hid (splitS S p right=(S,err 5)):=by show splitS S p right=_;unfold splitS;rw [←hn,if_pos h6]
  subst h6
  clear h hn
  go_enter Tryz.func40,Tryz.ntmps40
  go_wp2_with (go_at_call 65;refine(HU.out _ (HS.out.alloc _)).mono ?_;rintro e w1 ⟨rfl,hb1⟩;have HB1:Hid (Below w.heap.size w w1∧w1.heap[w.heap.size]?=some (rpbox (err 0))):=⟨below_up hb1,below_block hb1 (at_new w _) (by simp)⟩;obtain⟨⟨r0,r1,r2⟩,rf⟩:=three HB1.out.2;clear hb1)
  refine bodyPost_ret (v:=rpval (err 5)) (by simp [results,Tryz.results40,go_sem, *];exact⟨rfl,rfl,rfl⟩) rfl ?_
  rw [HD.out]
  exact⟨rfl,L,((SrvTo.refl HS.out).later HB1.out.1).reply HB1.out.2 (Nat.le_refl _) _ _ _⟩
 ·obtain⟨r,hr⟩:∃ r,r=splitT S.v.cols p n right:=⟨_,rfl⟩
  have hn6:n < 6:=by rw [hn] at h6 ⊢;exact(unused_has h6).1
  have e6:((n:Int)==6)=false:=by simp;omega
  have HSP:Hid (∀ w,SrvIn w S L→Calls Tryz.prog 66 #[tval L.l.co L.l.its.length L.l.cap,.int .i64 p,.int .i64 n,.bool right] w (Tl.SpEndT w r)):=fun w h=>Tl.split_anyT L.l.its L.l.co L.l.cap p n right w h.rd h.few.1 h.few.2 r (by rw [hr,h.cols])
  obtain⟨r1,r2⟩:=r
  have HR:Hid ((r1,r2)=splitT S.v.cols p n right):=hr
  have HB2:Hid (∀ w1 w2:World,Below (w.alloc (rpbox (err 0))).heap.size (w.alloc (rpbox (err 0))) w1→Below w1.heap.size w1 w2→Below w.heap.size w w2∧w2.heap[w.heap.size]?=some (rpbox (err 0))):=fun w1 w2 h1 h2=>by
   have h3:=h1.trans (h2.mono h1.size)
   exact⟨below_up h3,below_block h3 (at_new w _) (by simp)⟩
  by_cases he:r2=0
  ·have hu:unusedT S.v.cols≠6:=by rw [←hn];exact h6
   have HD:Hid (splitS S p right=({S with v:=fitV {S.v with cols:=r1,focus:=n}},⟨0,n,[]⟩)):=by
    show splitS S p right=_
    unfold splitS
    rw [if_neg hu, ←hn, ←hr,if_pos he]
   have HOK:Hid (Tl.OkT r1):=by
    have:=(split_ok h.ok.t (p:=p) (n:=n) (right:=right) (by rw [←hr];exact he)).1
    rwa [←hr] at this
   have HW3:Hid (∀ w2:World,w2.heap[w.heap.size]?=some (rpbox (err 0))→∀ (u v:Value) (o:Obj),(((w2.setCell ⟨L.sb,0,none⟩ u).setCell ⟨L.sb,57,none⟩ v).alloc o).heap[w.heap.size]?=some (rpbox (err 0))):=fun w2 hw u v o=>by
    have hlt:=(Array.getElem?_eq_some_iff.1 h.box).1
    refine at_old ?_ o
    rw [Below.heap_setCell _ _ _ _ (by simp;omega),Below.heap_setCell _ _ _ _ (by simp;omega)]
    exact hw
   subst he
   clear h hn hr hu h6
   go_enter Tryz.func40,Tryz.ntmps40
   go_wp2_with (first
    | (go_at_call 65;refine(HU.out _ (HS.out.alloc _)).mono ?_;rintro e w1 ⟨rfl,hb1⟩;have HB1:Hid (Below (w.alloc (rpbox (err 0))).heap.size (w.alloc (rpbox (err 0))) w1):=hb1;have hin1:=(HS.out.alloc (rpbox (err 0))).below hb1;have ht1:=hin1.tiles;have hlt1:=(Array.getElem?_eq_some_iff.1 hin1.box).1;clear hin1 hb1)
    | (go_at_call 66;refine(HSP.out _ ((HS.out.alloc (rpbox (err 0))).below HB1.out)).mono ?_;rintro e w2 ⟨co2,c2,its2,rfl,hc2,hrt2,hb2⟩;have HW2:Hid (colsOf its2=r1∧(RdT w2 co2 its2∧TyT w2 co2 its2)∧Below w1.heap.size w1 w2):=⟨hc2,hrt2,hb2⟩;have hin2:=((HS.out.alloc (rpbox (err 0))).below HB1.out).below hb2;have ht2:=hin2.tiles;have hs2:=hin2.sides.2.2;have hf2:=hin2.frozen;have hlt2:=(Array.getElem?_eq_some_iff.1 hin2.box).1;clear hin2 hc2 hrt2 hb2 ht1)
    | (go_at_call 45;have hto:=panes_to HS.out (below_up (HB1.out.trans (HW2.out.2.2.mono HB1.out.size))) HOK.out HW2.out.1 HW2.out.2.1 (cap:=c2) n (tbox co2 its2.length c2);refine(fit_any _ _ _ hto.srv).mono ?_;rintro e w3 ⟨rfl,L3,h3⟩;have HE:Hid (SrvTo w S L {S with v:=fitV {S.v with cols:=r1,focus:=n}} L3 w3∧w3.heap[w.heap.size]?=some (rpbox (err 0))):=⟨hto.trans h3,h3.kp.at (HW3.out w2 (HB2.out w1 w2 HB1.out HW2.out.2.2).2 _ _ _) (reply_in hto.srv (HW3.out w2 (HB2.out w1 w2 HB1.out HW2.out.2.2).2 _ _ _))⟩;obtain⟨⟨q0,q1,q2⟩,qf⟩:=three HE.out.2;clear hto h3 ht2 hs2 hf2))
   refine bodyPost_ret (v:=rpval ⟨0,n,[]⟩) (by simp [results,Tryz.results40,go_sem, *]) rfl ?_
   rw [HD.out]
   exact⟨rfl,L3,HE.out.1.reply HE.out.2 (Nat.le_refl _) _ _ _⟩
  ·have hu:unusedT S.v.cols≠6:=by rw [←hn];exact h6
   have HD:Hid (splitS S p right=(S,err r2)):=by
    show splitS S p right=_
    unfold splitS
    rw [if_neg hu, ←hn, ←hr,if_neg he]
   have e2:(r2 !=0)=true:=by simpa using he
   clear h hn hr hu h6 he
   go_enter Tryz.func40,Tryz.ntmps40
   go_wp2_with (first
    | (go_at_call 65;refine(HU.out _ (HS.out.alloc _)).mono ?_;rintro e w1 ⟨rfl,hb1⟩;have HB1:Hid (Below (w.alloc (rpbox (err 0))).heap.size (w.alloc (rpbox (err 0))) w1):=hb1;have hin1:=(HS.out.alloc (rpbox (err 0))).below hb1;have ht1:=hin1.tiles;have hlt1:=(Array.getElem?_eq_some_iff.1 hin1.box).1;clear hin1 hb1)
    | (go_at_call 66;refine(HSP.out _ ((HS.out.alloc (rpbox (err 0))).below HB1.out)).mono ?_;rintro e w2 ⟨co2,c2,its2,rfl,_,_,hb2⟩;have HW2:Hid (Below w.heap.size w w2∧w2.heap[w.heap.size]?=some (rpbox (err 0))):=HB2.out w1 w2 HB1.out hb2;obtain⟨⟨q0,q1,q2⟩,qf⟩:=three HW2.out.2;have hltr:=(Array.getElem?_eq_some_iff.1 HW2.out.2).1;clear hb2 ht1))
   refine bodyPost_ret (v:=rpval (err r2)) (by simp [results,Tryz.results40,go_sem, *];exact⟨rfl,rfl,rfl⟩) rfl ?_
   rw [HD.out]
   have hto:=((SrvTo.refl HS.out).later HW2.out.1).reply HW2.out.2 (Nat.le_refl _) (.int .i64 r2) (.int .i64 0) (.string ⟨#[]⟩)
   exact⟨rfl,L,hto.later (below1 _ _)⟩
end Go.Proofs.YtjikokfjnbhngaaGreatDoor.Sv

/- A pane is killed. -/
namespace Go.Proofs.YtjikokfjnbhngaaGreatDoor.Sv
open Go.RowKit
open Go.Proofs.YtjikokfjnbhngaaGreatDoor.Tl (colsOf RdT TyT CIt tval tbox hasT killT)
set_option maxRecDepth 100000
theorem infoP4:(Tryz.prog.info? 37).map (·.size)=some 4:=by kernel_rfl
theorem pone (s:Ps.PS) (ao:Option Addr) (cap:Nat):(pcells s ao cap).toArray.all (·.oneCell')=true:=by simp [Value.oneCell']
theorem cell0 {w:World} {b:Nat} {c0:Value} {t:TypeId} (h:w.heap[b]?=some (.cells #[c0] t (0,0))):w.cell? ⟨b,0,none⟩=some c0:=cell_of_row w b 0 _ t _ h
@[reducible] def goneS (S:Srv) (cols:List (List Int)) (P:Nat):Srv:={S with v:={S.v with cols:=cols,gs:=upd S.v.gs P noG},ps:=upd S.ps P Ps.ground}
structure KillIn (w:World) (S:Srv) (L:Lay) (cols:List (List Int)) (P TB:Nat) (co:Option Addr) (cap:Nat) (its:List CIt) (wr:World):Prop where
 there:∀ w',Below wr.heap.size wr w'→w'.there L.sb (1+P*9) 9
 there2:∀ w',Below wr.heap.size wr w'→(w'.setCells L.sb (1+P*9) (gcells noG none 0).toList).there L.sb (58+P*4) 4
 next:∀ w',Below wr.heap.size wr w'→∃ L',SrvTo w S L (goneS S cols P) L' ((w'.setCells L.sb (1+P*9) (gcells noG none 0).toList).setCells L.sb (58+P*4) (pcells Ps.ground none 0))∧L'.l.co=co∧L'.l.its=its∧
  ((w'.setCells L.sb (1+P*9) (gcells noG none 0).toList).setCells L.sb (58+P*4) (pcells Ps.ground none 0)).heap[TB]?=some (tbox co its.length cap)
theorem kill_in {w w2:World} {S:Srv} {L:Lay} (h:SrvIn w S L) (hb:Below w.heap.size w w2) {cols:List (List Int)} {co:Option Addr} {cap:Nat} {its:List CIt} (ok:Tl.OkT cols) (hc:colsOf its=cols) (hrt:RdT w2 co its∧TyT w2 co its) {P:Nat} (hP:P < 6):
  KillIn w S L cols P w2.heap.size co cap its ((w2.setCell ⟨L.sb,0,none⟩ (.slice co its.length cap)).alloc (tbox co its.length cap)):=by
 have h1:=tiles_to (h.below hb) cols co cap its ok hc.symm hrt.1 hrt.2
 have h2:=(SrvTo.from hb h1).later (below1 _ (tbox co its.length cap))
 have hTB:((w2.setCell ⟨L.sb,0,none⟩ (.slice co its.length cap)).alloc (tbox co its.length cap)).heap[w2.heap.size]?=some (tbox co its.length cap):=by
  have:=at_new (w2.setCell ⟨L.sb,0,none⟩ (.slice co its.length cap)) (tbox co its.length cap)
  simpa using this
 have hne:w2.heap.size≠L.sb:=by
  have:=(Array.getElem?_eq_some_iff.1 (h.below hb).box).1
  omega
 refine⟨fun w' hb'=>(h2.srv.below hb').there _ _ (by omega),fun w' hb'=>?_,fun w' hb'=>?_⟩
 ·have h3:=grid_to (h2.srv.below hb') P hP noG none 0 (.inl rfl) (.inl ⟨rfl,rfl,rfl⟩)
  exact h3.srv.there (58+P*4) 4 (by omega)
 ·have h3:=grid_to (h2.srv.below hb') P hP noG none 0 (.inl rfl) (.inl ⟨rfl,rfl,rfl⟩)
  have h4:=par_to h3.srv P hP Ps.ground none 0 Ps.good_ground (World.ownsRow_nil _ _ _ _)
  refine⟨_,(h2.later hb').trans (h3.trans h4),rfl,rfl,?_⟩
  rw [(setCells_kp L.sb _ _ _).block w2.heap.size ?_ hne,(setCells_kp L.sb _ _ _).block w2.heap.size ?_ hne]
  ·exact below_block hb' hTB (Array.getElem?_eq_some_iff.1 hTB).1
  ·have:=(Array.getElem?_eq_some_iff.1 hTB).1
   have:=hb'.size
   omega
  ·have:=(setCells_kp L.sb (gcells noG none 0).toList (1+P*9) w').size
   have:=(Array.getElem?_eq_some_iff.1 hTB).1
   have:=hb'.size
   omega
set_option maxHeartbeats 4000000 in
theorem kill_srv (p:Int) (w:World) (S:Srv) (L:Lay) (h:SrvIn w S L):
  Calls Tryz.prog 68 #[.pointer (some ⟨L.sb,0,none⟩),.int .i64 p] w fun e w'=>e=.returned (.int .i64 (killS S p).2)∧∃ L',SrvTo w S L (killS S p).1 L' w':=by
 have HS:Hid (SrvIn w S L):=h
 have ht:=h.tiles
 have hlt:=(Array.getElem?_eq_some_iff.1 h.box).1
 obtain⟨r,hr⟩:∃ r,r=killT S.v.cols p:=⟨_,rfl⟩
 have HKL:Hid (∀ w,SrvIn w S L→Calls Tryz.prog 89 #[tval L.l.co L.l.its.length L.l.cap,.int .i64 p] w (Tl.SpEndT w r)):=fun w h=>Tl.kill_anyT L.l.its L.l.co L.l.cap p w h.rd h.few.1 h.few.2 r (by rw [hr,h.cols])
 obtain⟨r1,r2⟩:=r
 by_cases he:r2=0
 ·have hk:=kill_ok h.ok.t (p:=p) (by rw [←hr];exact he)
  rw [←hr] at hk
  have ok1:=hk.1
  have hp:=hk.2.1
  clear hk
  obtain⟨p1,p2⟩:=has_pane h.ok.t hp
  obtain⟨P,rfl⟩:=Int.eq_ofNat_of_zero_le p1
  have hP6:P < 6:=by omega
  have hP6':(P:Int) < 6:=by omega
  have hP0:(0:Int)≤(P:Int):=by omega
  have HD:Hid (killS S (P:Int)=({S with v:=fitV {S.v with cols:=r1,gs:=upd S.v.gs P noG,focus:=if S.v.focus=(P:Int) then firstT r1 else S.v.focus},ps:=upd S.ps P Ps.ground},0)):=by
   show killS S _=_
   unfold killS
   rw [←hr,if_pos he,Int.toNat_natCast]
  have HOK:Hid (Tl.OkT r1):=ok1
  have hs:=h.sides.2.2
  have hf:=h.frozen
  subst he
  clear h hr hp p1 p2 ok1
  go_enter Tryz.func68,Tryz.ntmps68
  go_wp2_with (go_at_call 89;refine(HKL.out _ HS.out).mono ?_;rintro e w2 ⟨co2,c2,its2,rfl,hc2,hrt2,hb2⟩;have HW2:Hid (colsOf its2=r1∧Below w.heap.size w w2):=⟨hc2,hb2⟩;have H5:Hid (KillIn w S L r1 P w2.heap.size co2 c2 its2 ((w2.setCell ⟨L.sb,0,none⟩ (.slice co2 its2.length c2)).alloc (tbox co2 its2.length c2))):=kill_in HS.out hb2 HOK.out hc2 hrt2 hP6;have hin2:=HS.out.below hb2;have ht2:=hin2.tiles;have hf2:=hin2.frozen;have hlt2:=(Array.getElem?_eq_some_iff.1 hin2.box).1;clear hin2 hc2 hrt2 hb2 ht hs hf)
  generalize hTB:w2.heap.size=TB at*
  generalize (w2.setCell ⟨L.sb,0,none⟩ (.slice co2 its2.length c2)).alloc (tbox co2 its2.length c2)=W5 at*
  clear hTB ht2 hf2 hlt2
  have hbd:Below W5.heap.size W5 W5.drew:=(Below.refl _ _).drew
  have hth1:Hid (W5.drew.there L.sb (1+P*9) 9):=H5.out.there W5.drew hbd
  have HN5:Hid (∃ L',SrvTo w S L (goneS S r1 P) L' ((W5.drew.setCells L.sb (1+P*9) (gcells noG none 0).toList).setCells L.sb (58+P*4) (pcells Ps.ground none 0).toArray.toList)∧L'.l.co=co2∧L'.l.its=its2∧((W5.drew.setCells L.sb (1+P*9) (gcells noG none 0).toList).setCells L.sb (58+P*4) (pcells Ps.ground none 0).toArray.toList).heap[TB]?=some (tbox co2 its2.length c2)):=H5.out.next W5.drew hbd
  have hth2:Hid ((W5.drew.setCells L.sb (1+P*9) (gcells noG none 0).toList).there L.sb (58+P*4) 4):=H5.out.there2 W5.drew hbd
  refine bg (fun _=>True) trivial (fun hHeld=>?_)
  refine tk 0 hHeld ?_
  refine tk 1 hHeld ?_
  refine tk 2 hHeld ?_
  refine tk 3 hHeld ?_
  refine tk 4 hHeld ?_
  refine tk 5 hHeld ?_
  refine tk 6 hHeld ?_
  refine tk 7 hHeld ?_
  refine tk 8 hHeld ?_
  refine tk 9 hHeld ?_
  refine tk 11 hHeld ?_
  refine tk 12 hHeld ?_
  refine wpAnyH_ready (rs:=[10]) (by kernel_rfl) (by simp) ?_
  refine AllReadyH.cons rfl (fun K hK=>?_) AllReadyH.nil
  refine wanted_go (by kernel_rfl) ?_
  refine wp_store_mid 40 _ _ rfl L.sb (1+P*9) (gcells noG none 0) rfl rfl hth1.out Pt.infoG (gone _ _ _) ?_
  refine hK.out _ _ trivial (fun hHeld=>?_)
  clear hK K
  generalize W5.drew.setCells L.sb (1+P*9) (gcells noG none 0).toList=W55 at*
  refine pt ?_
  refine tk 13 hHeld ?_
  refine wpAnyH_ready (rs:=[14]) (by kernel_rfl) (by simp) ?_
  refine AllReadyH.cons rfl (fun K hK=>?_) AllReadyH.nil
  refine wanted_go (by kernel_rfl) ?_
  refine wp_store_mid 37 _ _ rfl L.sb (58+P*4) (pcells Ps.ground none 0).toArray rfl rfl hth2.out infoP4 (pone _ _ _) ?_
  refine hK.out _ _ trivial (fun hHeld=>?_)
  clear hK K
  generalize W55.setCells L.sb (58+P*4) (pcells Ps.ground none 0).toArray.toList=W6 at*
  refine pt ?_
  refine dn ?_
  obtain⟨L6,h6,hco6,hits6,htb6⟩:=HN5.out
  clear HN5
  have H6:Hid (SrvTo w S L (goneS S r1 P) L6 W6∧L6.l.co=co2∧L6.l.its=its2∧W6.heap[TB]?=some (tbox co2 its2.length c2)):=⟨h6,hco6,hits6,htb6⟩
  have hs6:=h6.srv.sides.2.2
  have hf6:=h6.srv.frozen
  rw [h6.sb] at hs6 hf6
  have hlt6:L.sb < W6.heap.size:=Nat.lt_of_lt_of_le hlt h6.kp.size
  have htc:=cell0 htb6
  have hTBne:TB≠L.sb:=fun e=>by
   have hb:=h6.srv.box
   rw [h6.sb, ←e,htb6] at hb
   simp only [Option.some.injEq,Obj.cells.injEq] at hb
   exact absurd hb.2.1 (by decide)
  have hTBne2:L.sb≠TB:=fun e=>hTBne e.symm
  have hTBlt:=(Array.getElem?_eq_some_iff.1 htb6).1
  -- the first of the panes that are left
  have hpos:0 < its2.length:=by
   have:=HOK.out.some
   rw [←HW2.out.1] at this
   simpa using this
  have hrd6:=h6.srv.rd
  rw [hco6,hits6] at hrd6
  obtain⟨b6,o6,hcob,hrow6⟩:=hrd6.row.resolve_left (by intro e;rw [e] at hpos;simp at hpos)
  have hrow0:=hrow6 0 hpos
  obtain⟨x0,hx0⟩:∃ x,x=its2[0]:=⟨_,rfl⟩
  rw [←hx0] at hrow0
  have hx0m:x0∈its2:=by rw [hx0];exact List.getElem_mem hpos
  have hx0c:r1[0]?=some x0.1:=by rw [←HW2.out.1,hx0];simp [hpos]
  have hx0l:1≤x0.1.length:=(HOK.out.tall x0.1 (List.mem_of_getElem? hx0c)).1
  obtain⟨b7,o7,hxo,hxc⟩:=((hrd6.each x0 hx0m).1).resolve_left (by intro e;rw [e] at hx0l;simp at hx0l)
  have hfirst:=hxc 0 hx0l
  have hfe:x0.1.getD 0 0=firstT r1:=by
   unfold firstT
   simp [List.getD,hx0c]
  rw [hfe] at hfirst
  obtain⟨xl,xo,xc⟩:=x0
  simp only [Tl.cv] at hrow0 hxo hx0l
  subst hxo
  subst hcob
  rw [Nat.add_zero] at hfirst hrow0
  obtain⟨F,hF⟩:∃ F,F=firstT r1:=⟨_,rfl⟩
  rw [←hF] at hfirst
  have HFF:Hid (F=firstT r1):=hF
  have hlen':(0:Int) < (its2.length:Int):=by omega
  have hxl':(0:Int) < (xl.length:Int):=by omega
  clear hrd6 hrow6 hx0m hx0c hxc hfe hF h6 hco6 hits6 htb6 hbd hth1 hth2 H5 hx0
  by_cases hfo:S.v.focus=(P:Int)
  ·have e1:(S.v.focus==(P:Int))=true:=by simpa using hfo
   have HFO:Hid (S.v.focus=(P:Int)):=hfo
   clear hfo
   go_wp2_with (go_at_call 45;have h7:=focus_to H6.out.1.srv F;rw [H6.out.1.sb] at h7;have h8:=fit_any _ _ _ h7.srv;rw [H6.out.1.sb] at h8;refine h8.mono ?_;rintro e w9 ⟨rfl,L9,h9⟩;have HE:Hid (SrvTo w S L {S with v:=fitV {S.v with cols:=r1,gs:=upd S.v.gs P noG,focus:=F},ps:=upd S.ps P Ps.ground} L9 w9):=(H6.out.1.trans h7).trans h9;clear h7 h8 h9)
   go_ret
   rw [HD.out,if_pos HFO.out, ←HFF.out]
   exact⟨rfl,L9,HE.out⟩
  ·have e1:(S.v.focus==(P:Int))=false:=by simpa using hfo
   have HFO:Hid (¬ S.v.focus=(P:Int)):=hfo
   clear hfo
   go_wp2_with (go_at_call 45;have h8:=fit_any _ _ _ H6.out.1.srv;rw [H6.out.1.sb] at h8;refine h8.mono ?_;rintro e w9 ⟨rfl,L9,h9⟩;have HE:Hid (SrvTo w S L {S with v:=fitV {S.v with cols:=r1,gs:=upd S.v.gs P noG},ps:=upd S.ps P Ps.ground} L9 w9):=H6.out.1.trans h9;clear h8 h9)
   go_ret
   rw [HD.out,if_neg HFO.out]
   exact⟨rfl,L9,HE.out⟩
 ·have HD:Hid (killS S p=(S,r2)):=by
   show killS S p=_
   unfold killS
   rw [←hr,if_neg he]
  have e2:(r2 !=0)=true:=by simpa using he
  clear h hr he
  go_enter Tryz.func68,Tryz.ntmps68
  go_wp2_with (go_at_call 89;refine(HKL.out _ HS.out).mono ?_;rintro e w2 ⟨co2,c2,its2,rfl,_,_,hb2⟩;have HW2:Hid (Below w.heap.size w w2):=hb2;clear hb2)
  go_ret
  rw [HD.out]
  exact⟨rfl,L,((SrvTo.refl HS.out).later HW2.out).later (below1 _ _)⟩
end Go.Proofs.YtjikokfjnbhngaaGreatDoor.Sv
