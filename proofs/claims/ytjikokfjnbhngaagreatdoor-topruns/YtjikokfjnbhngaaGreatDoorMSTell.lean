/- Several texts in one, each as it was: STell, SPure, SGet, SOut. -/
import Derived.Test.YtjikokfjnbhngaaGreatDoorZTake
import Derived.Test.YtjikokfjnbhngaaGreatDoorMSPut
import Derived.Test.YtjikokfjnbhngaaGreatDoorMFFeed
import Derived.Test.YtjikokfjnbhngaaGreatDoorMGCsiB
import Derived.Test.YtjikokfjnbhngaaGreatDoorSPlay

/- Bytes of a pane: its parser, and its screen. -/
namespace Go.Proofs.YtjikokfjnbhngaaGreatDoor.Sv
open Go.RowKit
open Go.Proofs.YtjikokfjnbhngaaGreatDoor.Tl (colsOf RdT TyT CIt tval tbox hasT)
set_option maxRecDepth 100000
@[reducible] def pbox (s:Ps.PS) (ao:Option Addr) (cap:Nat):Obj:=.cells (pcells s ao cap).toArray 37
theorem feed_good (s:Ps.PS) (hs:Ps.GoodS s) (ao:Option Addr) (cap:Nat) (l:List UInt8) (hl:l.length≤1048576) (w:World) (hp:Pl w ao cap s.ps):
  Calls Tryz.prog 43 #[pval s ao cap,.string (bs l)] w fun e w'=>∃ ao' cap' tq tc,∃ evs:List Ps.Item,e=.returned (.tuple #[pval (Ps.feedS s l) ao' cap',.slice tq evs.length tc,.int .i64 0])∧
   Pl w' ao' cap' (Ps.feedS s l).ps∧Ps.Told w.heap.size w' tq tc evs∧evs.map (·.1)=Ps.feedE s l∧Below w.heap.size w w':=by
 have hd:(bs l).data.toList=l:=by simp
 have hz:(bs l).size=l.length:=by simp [ByteArray.size]
 have h4:=hs.len
 refine(Ps.feed_any s ao cap (bs l) w hp.rd hp.none (by omega) (by omega)).mono ?_
 rintro e w' ⟨hb,_,hg⟩
 obtain⟨ao',cap',tq,tc,evs,he,ho,ht,hm⟩:=hg ((Ps.goodB_iff _).2 hs)
 rw [hd] at he ho hm
 exact⟨ao',cap',tq,tc,evs,he,Ps.row_mono ho (Nat.zero_le _),ht,hm,hb⟩
theorem all_told {g:Gr} (ok:OkG g) {s:Ps.PS} (hs:Ps.GoodS s) {l:List UInt8} (hl:l.length≤1048576) (ao:Option Addr) (cap:Nat) (w:World) (hg:Gl w ao cap g) {base:Nat} {tq:Option Addr} {tc:Nat} {evs:List Ps.Item} (ht:Ps.Told base w tq tc evs) (hm:evs.map (·.1)=Ps.feedE s l) (x:Gr) (hx:x=(allG g ((Ps.feedE s l).map toE)).1):
  Calls Tryz.prog 44 #[gval g ao cap,.slice tq evs.length tc] w (AllEnd w (x,0)):=by
 have hlen:evs.length≤1048576:=by
  have h1:=congrArg List.length hm
  have h2:=Ps.feed_len l s
  simp only [List.length_map] at h1
  omega
 obtain⟨m1,m2,_⟩:=ok.nums
 have hmap:=told_evs hm
 have key:=alls_any g ao cap tq (evs.map toIt) tc w hg.rd hg.none (by omega) (told_read ht) (by simp;omega) (fun y hy=>?_) (x,0) ?_
 ·rwa [List.length_map] at key
 ·have h1:y.1∈(Ps.feedE s l).map toE:=by rw [←hmap];exact List.mem_map_of_mem hy
  obtain⟨v,hv,he⟩:=List.mem_map.1 h1
  have h2:=Ps.small_feed l s ⟨hs.len,hs.size⟩ v hv
  rw [←he]
  have e1:(toE v).ps.length=v.ps.length:=rfl
  have e2:(toE v).pl.size=v.pl.size:=rfl
  obtain⟨q1,q2⟩:=h2
  omega
 ·rw [hmap,hx]
  have hd:=told_did g s l
  unfold Did at hd
  unfold allR
  by_cases hnil:(Ps.feedE s l).map toE=[]
  ·rw [if_pos hnil,hnil]
   rfl
  ·rw [if_neg hnil,if_pos ((goodG_iff g).2 ok)]
   exact hd.symm
theorem told_setCells {base:Nat} {tq:Option Addr} {tc:Nat} {evs:List Ps.Item} {B:Nat} (hB:B < base):∀ (vs:List Value) (o:Nat) (w:World),Ps.Told base w tq tc evs→Ps.Told base (w.setCells B o vs) tq tc evs
 | [],_,_,h=>h
 | v::r,o,_w,h=>told_setCells hB r (o+1) _ (Ps.told_set h hB v)
theorem yields_pbox {ops:Array Oper} {T:World→Prop} {op:Oper} {a:Act} (hw:Region.wanted op (yielded ops a.tmps)=true) (x:Operand) (ho:op.op=.load 37 x) (b:Nat) (hx:a.eval x=.pointer (some ⟨b,0,none⟩)) (s:Ps.PS) (ao:Option Addr) (cap:Nat) (hS:∀ w,T w→w.heap[b]?=some (pbox s ao cap)):YieldsIf Tryz.prog ops T op (pval s ao cap) a:=
 yieldsIf_load_mid (P:=Tryz.prog) hw 37 x ho b 0 hx (pcells s ao cap) _ (fun w h j v hv=>by rw [Nat.zero_add,cell_of_row w b j _ _ _ (hS w h)];simpa using hv) Tryz.underlying37 rfl infoP4
structure TellIn (w:World) (S:Srv) (L:Lay) (B:Nat) (s':Ps.PS) (a1:Option Addr) (c1:Nat) (base:Nat) (tq:Option Addr) (tc:Nat) (evs:List Ps.Item) (wr:World):Prop where
 srv:SrvTo w S L S L wr
 box:wr.heap[B]?=some (pbox s' a1 c1)
 pl:Pl wr a1 c1 s'.ps
 told:Ps.Told base wr tq tc evs
 lt:L.sb < base
theorem TellIn.below {w:World} {S:Srv} {L:Lay} {B:Nat} {s':Ps.PS} {a1:Option Addr} {c1 base:Nat} {tq:Option Addr} {tc:Nat} {evs:List Ps.Item} {wr w':World} (h:TellIn w S L B s' a1 c1 base tq tc evs wr) (hb:Below wr.heap.size wr w'):TellIn w S L B s' a1 c1 base tq tc evs w':=
 ⟨h.srv.later hb,below_block hb h.box (Array.getElem?_eq_some_iff.1 h.box).1,h.pl.keep fun b _ hx=>hb.block b (Array.getElem?_eq_some_iff.1 hx).1,h.told.later hb,h.lt⟩
structure TellOut (w:World) (S:Srv) (L:Lay) (P:Nat) (x:Gr) (s':Ps.PS) (ao:Option Addr) (cap:Nat) (w4:World):Prop where
 there:w4.there L.sb (1+P*9) 9
 next:∃ L',SrvTo w S L (withG (withP S P s') P x) L' (w4.setCells L.sb (1+P*9) (gcells x ao cap).toList)
theorem infoP:(Tryz.prog.info? 37).map (fun i=>(i.zero,i.size))=some (some (.agg #[.int .i64 0,.slice none 0 0,.string ⟨#[]⟩,.bool false]),4):=by kernel_rfl
set_option maxHeartbeats 4000000 in
theorem tell_any (P:Nat) (hP:P < 6) (l:List UInt8) (hl:l.length≤1048576) (w:World) (S:Srv) (L:Lay) (h:SrvIn w S L) (okg:OkG (S.v.gs P)):
  Calls Tryz.prog 90 #[.pointer (some ⟨L.sb,0,none⟩),.int .i64 P,.string (bs l)] w fun e w'=>e=.returned (.tuple #[])∧∃ L',SrvTo w S L (tellS S P l) L' w':=by
 have HS:Hid (SrvIn w S L):=h
 have hs:=h.ok.par P hP
 have hlt:=(Array.getElem?_eq_some_iff.1 h.box).1
 obtain⟨s,hse⟩:∃ s,s=S.ps P:=⟨_,rfl⟩
 obtain⟨s',hs'⟩:∃ s',s'=Ps.feedS s l:=⟨_,rfl⟩
 obtain⟨x,hx⟩:∃ x,x=(allG (S.v.gs P) ((Ps.feedE s l).map toE)).1:=⟨_,rfl⟩
 have HEND:Hid (tellS S P l=withG (withP S P s') P x):=by
  show tellS S P l=_
  unfold tellS
  rw [hs',hx,hse]
 have HPA:Hid (w.rangeAt L.sb (58+P*4) (pcells s (L.pa P) (L.pc P))):=by rw [hse];exact h.par P hP
 rw [←hse] at hs
 have HGS:Hid (Ps.GoodS s'):=by rw [hs'];exact Ps.good_feed s hs l
 have HFD:Hid (Calls Tryz.prog 43 #[pval s (L.pa P) (L.pc P),.string (bs l)] w fun e w'=>∃ ao' cap' tq tc,∃ evs:List Ps.Item,e=.returned (.tuple #[pval s' ao' cap',.slice tq evs.length tc,.int .i64 0])∧Pl w' ao' cap' s'.ps∧Ps.Told w.heap.size w' tq tc evs∧evs.map (·.1)=Ps.feedE s l∧Below w.heap.size w w'):=by
  rw [hs']
  exact feed_good s hs _ _ l hl w (by rw [hse];exact h.ps P hP)
 have HAL0:Hid (∀ W ao cap (base:Nat) tq tc (evs:List Ps.Item),Gl W ao cap (S.v.gs P)→Ps.Told base W tq tc evs→evs.map (·.1)=Ps.feedE s l→Calls Tryz.prog 44 #[gval (S.v.gs P) ao cap,.slice tq evs.length tc] W (AllEnd W (x,0))):=fun W ao cap base tq tc evs h1 h2 h3=>all_told okg hs hl ao cap W h1 h2 h3 x hx
 have HXO:Hid (OkG x):=by rw [hx];exact(did_ok (told_did (S.v.gs P) s l) okg).1
 have hP6':(P:Int) < 6:=by omega
 have hP0:(0:Int)≤(P:Int):=by omega
 clear h hs hse hs' hx okg
 go_enter Tryz.func90,Tryz.ntmps90
 go_wp2_with (first
  | (refine wpList_load_mid rfl 37 _ rfl L.sb (58+P*4) rfl (pcells s (L.pa P) (L.pc P)) _ HPA.out Tryz.underlying37 rfl infoP4 ?_)
  | (go_at_call 43;refine HFD.out.mono ?_;rintro e w2 ⟨a1,c1,tq,tc,evs,rfl,hp2,ht2,hm2,hb2⟩;have HI2:Hid (TellIn w S L w2.heap.size s' a1 c1 w.heap.size tq tc evs (w2.alloc (pbox s' a1 c1))∧evs.map (·.1)=Ps.feedE s l):=⟨⟨((SrvTo.refl HS.out).later hb2).later (below1 _ _),at_new _ _,hp2.keep (fun b _ hx=>(below1 w2 (pbox s' a1 c1)).block b (Array.getElem?_eq_some_iff.1 hx).1),ht2.later (below1 _ _),hlt⟩,hm2⟩;clear hp2 ht2 hm2 hb2))
 show Code.wp _ _ _ _ (w2.alloc (pbox s' a1 c1))
 generalize w2.heap.size=B at*
 generalize w2.alloc (pbox s' a1 c1)=W0 at*
 have HI3:Hid (SrvTo w S L (withP S P s') (layP L P a1 c1) (W0.drew.setCells L.sb (58+P*4) (pcells s' a1 c1).toArray.toList)∧Ps.Told w.heap.size (W0.drew.setCells L.sb (58+P*4) (pcells s' a1 c1).toArray.toList) tq tc evs):=by
  have h0:=HI2.out.1.below ((Below.refl _ _).drew)
  exact⟨h0.srv.trans (par_to h0.srv.srv P hP s' a1 c1 HGS.out h0.pl),told_setCells h0.lt _ _ _ h0.told⟩
 have hth1:Hid (W0.drew.there L.sb (58+P*4) 4):=(HI2.out.1.srv.srv.drew).there _ _ (by omega)
 have hbox1:Hid ((W0.drew.setCells L.sb (58+P*4) (pcells s' a1 c1).toArray.toList).heap[B]?=some (pbox s' a1 c1)):=by
  have hne:B≠L.sb:=fun e=>by
   have hb:=HI2.out.1.srv.srv.box
   rw [←e,HI2.out.1.box] at hb
   simp only [Option.some.injEq,Obj.cells.injEq] at hb
   exact absurd hb.2.1 (by decide)
  exact((setCells_kp L.sb (pcells s' a1 c1).toArray.toList (58+P*4) W0.drew).block B (Array.getElem?_eq_some_iff.1 HI2.out.1.box).1 hne).trans HI2.out.1.box
 refine bg (fun w'=>w'.heap[B]?=some (pbox s' a1 c1)) HI2.out.1.box (fun hHeld=>?_)
 refine tk 0 hHeld ?_
 refine tk 1 hHeld ?_
 refine ty 2 rfl (pval s' a1 c1) (yields_pbox (by rfl) _ rfl B rfl s' a1 c1 (fun w0 h=>h)) hHeld ?_
 refine tk 3 hHeld ?_
 refine tk 4 hHeld ?_
 refine tk 5 hHeld ?_
 refine wpAnyH_ready (rs:=[6]) (by kernel_rfl) (by simp) ?_
 refine AllReadyH.cons rfl (fun K hK=>?_) AllReadyH.nil
 refine wanted_go (by kernel_rfl) ?_
 refine wp_store_mid 37 _ _ rfl L.sb (58+P*4) (pcells s' a1 c1).toArray rfl rfl hth1.out infoP4 (pone _ _ _) ?_
 refine hK.out _ _ hbox1.out (fun hHeld=>?_)
 clear hK K
 generalize W0.drew.setCells L.sb (58+P*4) (pcells s' a1 c1).toArray.toList=W1 at*
 refine pt ?_
 refine dn ?_
 have hth2:Hid (W1.drew.rangeAt L.sb (1+P*9) (gcells (S.v.gs P) (L.l.ga P) (L.l.gc P)).toList):=HI3.out.1.srv.drew.grid P hP
 have HAL:Hid (Calls Tryz.prog 44 #[gval (S.v.gs P) (L.l.ga P) (L.l.gc P),.slice tq evs.length tc] W1.drew (AllEnd W1.drew (x,0))):=HAL0.out W1.drew (L.l.ga P) (L.l.gc P) w.heap.size tq tc evs (HI3.out.1.srv.drew.gs P hP) (HI3.out.2.later ((Below.refl _ _).drew)) HI2.out.2
 have HTO:Hid (∀ w4 ao4 c4,Copied W1.drew x.n x.f ao4 c4 w4→TellOut w S L P x s' ao4 c4 w4):=fun w4 ao4 c4 hcp=>by
  have h4:=HI3.out.1.later ((Below.refl W1.heap.size W1).drew.trans hcp.2.2)
  refine⟨h4.srv.there _ _ (by omega),_,h4.trans (grid_to h4.srv P hP x ao4 c4 (.inr HXO.out) (gl_copied (ok_pos HXO.out) hcp))⟩
 generalize S.v.gs P=G at hth2 HAL
 generalize L.l.ga P=ga at hth2 HAL
 generalize L.l.gc P=gc at hth2 HAL
 have hgr:=hth2
 clear HI2 HI3 hth1 hbox1 HFD HAL0 HPA
 go_wp2_with fail
 refine bg (fun _=>True) trivial (fun hHeld=>?_)
 refine tk 0 hHeld ?_
 refine tk 1 hHeld ?_
 refine tk 2 hHeld ?_
 refine tk 3 hHeld ?_
 refine tk 4 hHeld ?_
 refine tk 5 hHeld ?_
 refine tk 6 hHeld ?_
 refine tk 7 hHeld ?_
 refine tk 9 hHeld ?_
 refine tk 14 hHeld ?_
 refine tk 15 hHeld ?_
 refine tk 16 hHeld ?_
 refine wpAnyH_ready (rs:=[8]) (by kernel_rfl) (by simp) ?_
 refine AllReadyH.cons rfl (fun K hK=>?_) AllReadyH.nil
 refine wanted_go (by kernel_rfl) ?_
 refine wp_load_mid 40 _ rfl L.sb (1+P*9) rfl (gcells G ga gc).toList _ hgr.out Tryz.underlying40 rfl Pt.infoG ?_
 refine hK.out _ _ trivial (fun hHeld=>?_)
 clear hK K
 refine pt ?_
 refine wpAnyH_ready (rs:=[10]) (by kernel_rfl) (by simp) ?_
 refine AllReadyH.cons rfl (fun K hK=>?_) AllReadyH.nil
 go_simp
 go_at_call 44
 refine HAL.out.mono ?_
 rintro e w4 ⟨ao4,c4,rfl,hcp⟩
 have H4:Hid (TellOut w S L P x s' ao4 c4 w4):=HTO.out w4 ao4 c4 hcp
 have hth4:Hid (w4.there L.sb (1+P*9) 9):=H4.out.there
 clear hcp
 (try go_simp)
 refine hK.out _ _ trivial (fun hHeld=>?_)
 clear hK K
 refine pt ?_
 refine tk 11 hHeld ?_
 refine tk 12 hHeld ?_
 refine tk 13 hHeld ?_
 refine tk 17 hHeld ?_
 refine wpAnyH_ready (rs:=[18]) (by kernel_rfl) (by simp) ?_
 refine AllReadyH.cons rfl (fun K hK=>?_) AllReadyH.nil
 refine wanted_go (by kernel_rfl) ?_
 refine wp_store_mid 40 _ _ rfl L.sb (1+P*9) (gcells x ao4 c4) rfl rfl hth4.out Pt.infoG (gone _ _ _) ?_
 refine hK.out _ _ trivial (fun hHeld=>?_)
 clear hK K
 have HEN:=H4.out.next
 generalize w4.setCells L.sb (1+P*9) (gcells x ao4 c4).toList=W5 at*
 refine pt ?_
 refine dn ?_
 go_wp2
 go_end0
 rw [HEND.out]
 exact⟨rfl,HEN⟩
end Go.Proofs.YtjikokfjnbhngaaGreatDoor.Sv

/- What the statements of the whole want of the plain machine; nothing of the program is in it. -/
namespace Go.Proofs.YtjikokfjnbhngaaGreatDoor.Sv
open Go.Proofs.YtjikokfjnbhngaaGreatDoor.Tl (hasT inR)
open Go.Proofs.YtjikokfjnbhngaaGreatDoor.Pt (Vw screenV cellT paneAt inRb)
def withA (S:Srv) (n:Nat):Srv:={S with acts:=n}
theorem split_w (S:Srv) (n:Nat) (p:Int) (r:Bool):splitS (withA S n) p r=(withA (splitS S p r).1 n,(splitS S p r).2):=by
 unfold splitS withA
 dsimp only
 split
 ·rfl
 ·split <;>rfl
theorem kill_w (S:Srv) (n:Nat) (p:Int):killS (withA S n) p=(withA (killS S p).1 n,(killS S p).2):=by
 unfold killS withA
 dsimp only
 split <;>rfl
theorem output_w (S:Srv) (n:Nat) (p:Int) (l:List UInt8):outputS (withA S n) p l=(withA (outputS S p l).1 n,(outputS S p l).2):=by
 unfold outputS withA
 dsimp only
 split <;>rfl
theorem focus_w (S:Srv) (n:Nat) (p:Int):focusS (withA S n) p=(withA (focusS S p).1 n,(focusS S p).2):=by
 unfold focusS withA
 dsimp only
 split <;>rfl
theorem resize_w (S:Srv) (n:Nat) (wide high:Int):resizeS (withA S n) wide high=(withA (resizeS S wide high).1 n,(resizeS S wide high).2):=by
 unfold resizeS withA
 dsimp only
 split <;>rfl
theorem attach_w (S:Srv) (n:Nat) (i wide high:Int):attachS (withA S n) i wide high=(withA (attachS S i wide high).1 n,(attachS S i wide high).2):=by
 unfold attachS withA
 dsimp only
 split
 ·split
  ·rfl
  ·split <;>rfl
 ·rfl
theorem here_w (S:Srv) (n:Nat) (i:Int):hereS (withA S n) i=hereS S i:=rfl
theorem detach_w (S:Srv) (n:Nat) (i:Int):detachS (withA S n) i=(withA (detachS S i).1 n,(detachS S i).2):=by
 unfold detachS
 rw [here_w]
 split <;>rfl
theorem drain_w (S:Srv) (n:Nat) (i k:Int):drainS (withA S n) i k=(withA (drainS S i k).1 n,(drainS S i k).2):=by
 unfold drainS
 rw [here_w]
 cases hereS S i <;>rfl
theorem change_w (S:Srv) (n:Nat) (a:Ac):changeS (withA S n) a=(withA (changeS S a).1 n,(changeS S a).2):=by
 unfold changeS
 split
 ·exact kill_w S n _
 ·split
  ·exact output_w S n _ _
  ·split
   ·exact focus_w S n _
   ·split
    ·exact resize_w S n _ _
    ·split
     ·exact attach_w S n _ _ _
     ·split
      ·exact detach_w S n _
      ·split <;>rfl
theorem act_w (S:Srv) (n:Nat) (a:Ac):actS (withA S n) a=(withA (actS S a).1 n,(actS S a).2):=by
 unfold actS
 split
 ·exact split_w S n _ _
 ·split
  ·exact drain_w S n _ _
  ·rw [change_w]
theorem do_eq {S:Srv} (h:S.acts≠300) (a:Ac):doS S a=(withA (actS S a).1 (S.acts+1),(actS S a).2):=by
 unfold doS
 rw [if_neg h]
 exact act_w S (S.acts+1) a
theorem do_acts {S:Srv} (h:S.acts≠300) (a:Ac):(doS S a).1.acts=S.acts+1:=by rw [do_eq h];rfl
theorem act_acts (S:Srv) (a:Ac):(actS S a).1.acts=S.acts:=by
 have:=congrArg (fun x=>x.1.acts) (act_w S S.acts a)
 exact this
def Like (S T:Srv):Prop:=T=withA S T.acts
theorem Like.refl (S:Srv):Like S S:=rfl
theorem Like.v {S T:Srv} (h:Like S T):T.v=S.v:=by
 have:=congrArg Srv.v (show T=withA S T.acts from h)
 exact this
theorem Like.cl {S T:Srv} (h:Like S T):T.cl=S.cl:=by
 have:=congrArg Srv.cl (show T=withA S T.acts from h)
 exact this
theorem like_do {S T:Srv} (h:Like S T) (hS:S.acts≠300) (hT:T.acts≠300) (a:Ac):(doS T a).2=(doS S a).2∧Like (doS S a).1 (doS T a).1:=by
 rw [do_eq hS,do_eq hT]
 rw [show actS T a=actS (withA S T.acts) a from congrArg (fun x=>actS x a) h,act_w]
 exact⟨rfl,rfl⟩
theorem upd_twice {α:Type} (f:Nat→α) (i:Nat) (x y:α):upd (upd f i x) i y=upd f i y:=by
 funext k
 unfold upd
 split <;>rfl
theorem tell_both (S:Srv) (p:Nat) (a b:List UInt8):tellS (tellS S p a) p b=tellS S p (a++b):=by
 unfold tellS
 simp only [upd_at,upd_twice,told_append,Ps.feedS_append]
theorem out_two (S:Srv) (p:Int) (a b:List UInt8):(outputS S p a).2=(outputS S p (a++b)).2∧outputS (outputS S p a).1 p b=outputS S p (a++b):=by
 by_cases h:hasT S.v.cols p=true
 ·have e1:∀ l,outputS S p l=(tellS S p.toNat l,0):=fun l=>by unfold outputS;rw [if_pos h]
  have e2:outputS (tellS S p.toNat a) p b=(tellS (tellS S p.toNat a) p.toNat b,0):=by unfold outputS;rw [if_pos (show hasT (tellS S p.toNat a).v.cols p=true from h)]
  rw [e1,e1]
  exact⟨rfl,by show outputS (tellS S p.toNat a) p b=_;rw [e2,tell_both]⟩
 ·have e1:∀ l,outputS S p l=(S,3):=fun l=>by unfold outputS;rw [if_neg h]
  rw [e1,e1]
  exact⟨rfl,e1 b⟩
theorem act_out (S:Srv) {a:Ac} (h:a.kind=3):actS S a=((outputS S a.p a.bytes).1,err (outputS S a.p a.bytes).2):=by
 unfold actS changeS
 rw [if_neg (by omega),if_neg (by omega),if_neg (by omega),if_pos h]
theorem parts_do {S T:Srv} (h:Like S T) (hS:S.acts≠300) (hT:T.acts+1 < 300) {a:Ac} (hk:a.kind=3) (x y:List UInt8) (hb:a.bytes=x++y):
  (doS T {a with bytes:=x}).2.code=(doS S a).2.code∧(doS (doS T {a with bytes:=x}).1 {a with bytes:=y}).2.code=(doS S a).2.code∧Like (doS S a).1 (doS (doS T {a with bytes:=x}).1 {a with bytes:=y}).1:=by
 have h1:(doS T {a with bytes:=x}).1.acts≠300:=by rw [do_acts (by omega)];omega
 rw [do_eq h1,do_eq hS,do_eq (S:=T) (by omega)]
 have hx:actS T {a with bytes:=x}=(withA (outputS S a.p x).1 T.acts,err (outputS S a.p x).2):=by
  rw [show actS T {a with bytes:=x}=actS (withA S T.acts) {a with bytes:=x} from congrArg (fun z=>actS z {a with bytes:=x}) h,act_w,act_out S (a:={a with bytes:=x}) hk]
 rw [hx,act_out S hk,hb]
 dsimp only
 have hy:actS (withA (withA (outputS S a.p x).1 T.acts) (T.acts+1)) {a with bytes:=y}=(withA (outputS S a.p (x++y)).1 (T.acts+1),err (outputS S a.p (x++y)).2):=by
  rw [show withA (withA (outputS S a.p x).1 T.acts) (T.acts+1)=withA (outputS S a.p x).1 (T.acts+1) from rfl,act_w,act_out _ (a:={a with bytes:=y}) hk]
  rw [(out_two S a.p x y).2]
 rw [hy]
 exact⟨(out_two S a.p x y).1,rfl,rfl⟩
theorem err_no (e:Int):(err e).n=0∧(err e).out=[]:=⟨rfl,rfl⟩
theorem kill_no {S:Srv} {p:Int} (h:(killS S p).2≠0):(killS S p).1=S:=by
 unfold killS at h ⊢
 split at h
 ·exact absurd rfl h
 ·rename_i e;rw [if_neg e]
theorem output_no {S:Srv} {p:Int} {l:List UInt8} (h:(outputS S p l).2≠0):(outputS S p l).1=S:=by
 unfold outputS at h ⊢
 split at h
 ·exact absurd rfl h
 ·rename_i e;rw [if_neg e]
theorem focus_no {S:Srv} {p:Int} (h:(focusS S p).2≠0):(focusS S p).1=S:=by
 unfold focusS at h ⊢
 split at h
 ·exact absurd rfl h
 ·rename_i e;rw [if_neg e]
theorem resize_no {S:Srv} {wide high:Int} (h:(resizeS S wide high).2≠0):(resizeS S wide high).1=S:=by
 unfold resizeS at h ⊢
 split at h
 ·exact absurd rfl h
 ·rename_i e;rw [if_neg e]
theorem attach_no {S:Srv} {i wide high:Int} (h:(attachS S i wide high).2≠0):(attachS S i wide high).1=S:=by
 unfold attachS at h ⊢
 split
 ·split
  ·rfl
  ·split
   ·rename_i e1 e2 e3
    rw [if_pos e1,if_neg e2,if_pos e3] at h
    exact absurd rfl h
   ·rfl
 ·rfl
theorem detach_no {S:Srv} {i:Int} (h:(detachS S i).2≠0):(detachS S i).1=S:=by
 unfold detachS at h ⊢
 split at h
 ·exact absurd rfl h
 ·rename_i e;rw [if_neg e]
theorem change_no {S:Srv} {a:Ac} (h:(changeS S a).2≠0):(changeS S a).1=S:=by
 unfold changeS at h ⊢
 split
 ·rename_i e;rw [if_pos e] at h;exact kill_no h
 rename_i e2;rw [if_neg e2] at h
 split
 ·rename_i e;rw [if_pos e] at h;exact output_no h
 rename_i e3;rw [if_neg e3] at h
 split
 ·rename_i e;rw [if_pos e] at h;exact focus_no h
 rename_i e4;rw [if_neg e4] at h
 split
 ·rename_i e;rw [if_pos e] at h;exact resize_no h
 rename_i e5;rw [if_neg e5] at h
 split
 ·rename_i e;rw [if_pos e] at h;exact attach_no h
 rename_i e6;rw [if_neg e6] at h
 split
 ·rename_i e;rw [if_pos e] at h;exact detach_no h
 rename_i e7;rw [if_neg e7] at h
 split
 ·rename_i e;rw [if_pos e] at h;exact absurd rfl h
 ·rfl
theorem act_no {S:Srv} {a:Ac} (h:(actS S a).2.code≠0):(actS S a).1=S∧(actS S a).2.n=0∧(actS S a).2.out=[]:=by
 unfold actS at h ⊢
 split
 ·rename_i e
  rw [if_pos e] at h
  unfold splitS at h ⊢
  split
  ·exact⟨rfl,rfl,rfl⟩
  ·rename_i e1
   rw [if_neg e1] at h
   split
   ·rename_i e2
    rw [if_pos e2] at h
    exact absurd rfl h
   ·exact⟨rfl,rfl,rfl⟩
 ·rename_i e
  rw [if_neg e] at h
  split
  ·rename_i e9
   rw [if_pos e9] at h
   unfold drainS at h ⊢
   cases hc:hereS S a.p with
   | none=>exact⟨rfl,rfl,rfl⟩
   | some c=>rw [hc] at h;exact absurd rfl h
  ·rename_i e9
   rw [if_neg e9] at h
   exact⟨change_no h,rfl,rfl⟩
theorem refused_do {S:Srv} {a:Ac} (h:(doS S a).2.code≠0):Like S (doS S a).1∧(doS S a).2.n=0∧(doS S a).2.out=[]:=by
 by_cases hf:S.acts=300
 ·unfold doS
  rw [if_pos hf]
  exact⟨rfl,rfl,rfl⟩
 ·rw [do_eq hf] at h ⊢
  obtain⟨h1,h2,h3⟩:=act_no h
  refine⟨?_,h2,h3⟩
  rw [h1]
  rfl
theorem cl_num {i:Int} (h:isCl i=true):0≤i∧i < 3:=by simpa [isCl] using h
theorem act_others {S:Srv} {a:Ac} (h:a.kind=6∨a.kind=7∨a.kind=9):(actS S a).1.v=S.v∧∀ j:Nat,(j:Int)≠a.p→(actS S a).1.cl j=S.cl j:=by
 unfold actS
 rw [if_neg (by omega)]
 split
 ·unfold drainS
  cases hc:hereS S a.p with
  | none=>exact⟨rfl,fun _ _=>rfl⟩
  | some c=>
   refine⟨rfl,fun j hj=>upd_ne _ _ ?_⟩
   obtain⟨h1,h2⟩:=here_at hc
   have:0≤a.p:=by
    unfold hereS at hc
    split at hc
    ·rename_i e;exact(cl_num e).1
    ·cases hc
   omega
 ·rename_i e9
  have:a.kind=6∨a.kind=7:=by omega
  unfold changeS
  rw [if_neg (by omega),if_neg (by omega),if_neg (by omega),if_neg (by omega)]
  split
  ·unfold attachS
   split
   ·rename_i e
    split
    ·exact⟨rfl,fun _ _=>rfl⟩
    ·split
     ·refine⟨rfl,fun j hj=>upd_ne _ _ ?_⟩
      have:=cl_num e
      omega
     ·exact⟨rfl,fun _ _=>rfl⟩
   ·exact⟨rfl,fun _ _=>rfl⟩
  ·rw [if_pos (by omega)]
   unfold detachS
   split
   ·rename_i e
    refine⟨rfl,fun j hj=>upd_ne _ _ ?_⟩
    unfold hereS at e
    split at e
    ·rename_i e'
     have:=cl_num e'
     omega
    ·cases e
   ·exact⟨rfl,fun _ _=>rfl⟩
theorem others_do {S:Srv} {a:Ac} (h:a.kind=6∨a.kind=7∨a.kind=9):(doS S a).1.v=S.v∧∀ j:Nat,(j:Int)≠a.p→(doS S a).1.cl j=S.cl j:=by
 by_cases hf:S.acts=300
 ·unfold doS
  rw [if_pos hf]
  exact⟨rfl,fun _ _=>rfl⟩
 ·rw [do_eq hf]
  exact act_others h
theorem cell_apart (v:Vw) (p:Nat) (x:Gr) {r c:Int} (h:¬ inR (v.place p) r c):cellT {v with gs:=upd v.gs p x} r c=cellT v r c:=by
 have e:∀ q:Int,({v with gs:=upd v.gs p x}:Vw).place q=v.place q:=fun _=>rfl
 unfold cellT
 dsimp only
 have e2:paneAt {v with gs:=upd v.gs p x} r c=paneAt v r c:=rfl
 rw [e2]
 split
 ·split
  ·rename_i q hq
   have hq':(List.range 6).find? (fun p:Nat=>inRb (v.place p) r c)=some q:=hq
   have hb:=List.find?_some hq'
   have hin:=(Pt.inRb_iff _ _ _).1 hb
   have hne:q≠p:=fun e=>h (e ▸ hin)
   rw [upd_ne _ _ hne,e]
  ·rfl
 ·rfl
theorem output_apart {S:Srv} (hf:S.acts≠300) {p:Int} {l:List UInt8} (n m:Int):
  (hasT S.v.cols p=false∧(doS S ⟨3,p,n,m,l⟩).2.code=3∧(doS S ⟨3,p,n,m,l⟩).1.v=S.v)∨
  (hasT S.v.cols p=true∧(doS S ⟨3,p,n,m,l⟩).2.code=0∧∃ x,(doS S ⟨3,p,n,m,l⟩).1.v={S.v with gs:=upd S.v.gs p.toNat x}):=by
 rw [do_eq hf,act_out S (a:=⟨3,p,n,m,l⟩) rfl]
 unfold outputS
 dsimp only
 cases h:hasT S.v.cols p
 ·exact .inl ⟨rfl,rfl,rfl⟩
 ·exact .inr ⟨rfl,rfl,_,rfl⟩
theorem goes_all {l:List UInt8} (h:l.length≤4000):goes 4000 l=l.length:=by unfold goes;omega
theorem drain_all {S:Srv} (ok:OkS S) (hf:S.acts≠300) {i:Nat} (hi:i < 3) {c:Cl} (hc:S.cl i=some c):
  doS S ⟨9,i,4000,0,[]⟩=(withA {S with cl:=upd S.cl i (some {c with q:=[]})} (S.acts+1),⟨0,c.q.length,c.q⟩):=by
 have hh:hereS S (i:Int)=some c:=by
  unfold hereS
  rw [if_pos (by unfold isCl;simp;omega)]
  exact hc
 have e:actS S ⟨9,i,4000,0,[]⟩=drainS S i 4000:=by unfold actS;rw [if_neg (by show ¬ (9:Int)=1;decide),if_pos rfl]
 rw [do_eq hf,e]
 unfold drainS
 rw [hh]
 dsimp only
 rw [goes_all (ok.cl i hi c hc).short,List.drop_length,List.take_length]
 rfl
theorem do_tick {S:Srv} (hf:S.acts≠300) (p n m:Int) (l:List UInt8):doS S ⟨8,p,n,m,l⟩=(withA (tickS S) (S.acts+1),err 0):=by
 rw [do_eq hf]
 rfl
theorem more_short {v:Vw} (h:OkV v) {c:Cl} (k:OkG c.g):(moreC v c).out.length≤2490:=(more_draws h k).short
theorem show_empty {v:Vw} (h:OkV v) {c:Cl} (k:OkC c) (hq:c.q=[]):(showC v c).lost=false:=by
 have:=more_short h k.g
 unfold showC
 rw [if_neg (fun e=>e.2 hq),if_neg (by rw [hq];show ¬ 4000 < 0+_;omega)]
theorem show_lost {v:Vw} (h:OkV v) {c:Cl} (k:OkC c) (hl:(showC v c).lost=true):c.q≠[]∧(showC v c).q=c.q:=by
 have hs:=more_short h k.g
 unfold showC at hl ⊢
 split
 ·rename_i e;exact⟨e.2,rfl⟩
 ·rename_i e1
  split
  ·rename_i e
   refine⟨fun hq=>?_,rfl⟩
   rw [hq] at e
   have e':4000 < 0+(moreC v c).out.length:=e
   omega
  ·rename_i e2
   rw [if_neg e1,if_neg e2] at hl
   cases hl
theorem show_more (v:Vw) (c:Cl):∃ m,(showC v c).q=c.q++m:=by
 unfold showC
 split
 ·exact⟨[],by simp⟩
 ·split
  ·exact⟨[],by simp⟩
  ·exact⟨_,rfl⟩
def zeroTm:Tm:=⟨Ps.ground,noG⟩
def stepP (x:Srv×(Nat→Tm)) (a:Ac):Srv×(Nat→Tm):=((doS x.1 a).1,stepT x.2 a (doS x.1 a).2)
def startP:Srv×(Nat→Tm):=(newS,fun _=>zeroTm)
def playP (l:List Ac):Srv×(Nat→Tm):=l.foldl stepP startP
structure OkP (x:Srv×(Nat→Tm)) (k:Nat):Prop where
 ok:OkS x.1
 tm:TmS x.1 x.2
 okt:OkTs x.1 x.2
 acts:x.1.acts=k
theorem okp_start:OkP startP 0:=⟨ok_newS,fun _ _ _ hc=>(by cases hc),fun _ _ hc=>(by cases hc),rfl⟩
theorem okp_step {x:Srv×(Nat→Tm)} {k:Nat} (h:OkP x k) (hk:k < 300) (a:Ac):OkP (stepP x a) (k+1):=
 ⟨ok_do h.ok a,tm_do h.ok h.tm a,okt_do h.okt a,by have h2:=h.acts;show (doS x.1 a).1.acts=_;rw [do_acts (by omega),h2]⟩
theorem playP_succ (l:List Ac) (a:Ac):playP (l++[a])=stepP (playP l) a:=by unfold playP;rw [List.foldl_append];rfl
theorem okp_all:∀ (l:List Ac) (x:Srv×(Nat→Tm)) (k:Nat),OkP x k→k+l.length≤300→OkP (l.foldl stepP x) (k+l.length)
 | [],_,_,h,_=>h
 | a::l,x,k,h,hl=>by
  simp only [List.length_cons] at hl
  have:=okp_all l (stepP x a) (k+1) (okp_step h (by omega) a) (by omega)
  simp only [List.foldl_cons,List.length_cons]
  rw [show k+(l.length+1)=k+1+l.length by omega]
  exact this
theorem okp_play (l:List Ac) (hl:l.length≤300):OkP (playP l) l.length:=by
 have:=okp_all l startP 0 okp_start (by omega)
 rwa [Nat.zero_add] at this
end Go.Proofs.YtjikokfjnbhngaaGreatDoor.Sv

/- Terminals in memory, and what 'get' makes of one. -/
namespace Go.Proofs.YtjikokfjnbhngaaGreatDoor.Sv
open Go.RowKit
set_option maxRecDepth 100000
structure TmAt (w:World) (B o:Nat) (t:Tm) (pa:Option Addr) (pc:Nat) (ga:Option Addr) (gc:Nat):Prop where
 par:w.rangeAt B o (pcells t.p pa pc)
 grid:w.rangeAt B (o+4) (gcells t.g ga gc).toList
 there:w.there B o 13
 pl:Pl w pa pc t.p.ps
 gl:Gl w ga gc t.g
theorem range_below {w w':World} {B o:Nat} {vs:List Value} (h:w.rangeAt B o vs) (hB:B < w.heap.size) (hb:Below w.heap.size w w'):w'.rangeAt B o vs:=fun j x hx=>(hb.cell (p:=⟨B,o+j,none⟩) hB).trans (h j x hx)
theorem Pl.below {w w':World} {ao:Option Addr} {cap:Nat} {l:List Int} (h:Pl w ao cap l) (hb:Below w.heap.size w w'):Pl w' ao cap l:=h.keep fun b _ hx=>hb.block b (Array.getElem?_eq_some_iff.1 hx).1
def setL (c:Array Value):Nat→List Value→Array Value
 | _,[]=>c
 | o,v::r=>setL (c.setIfInBounds o v) (o+1) r
def setTm (c:Array Value) (o:Nat) (t:Tm) (pa:Option Addr) (pc:Nat) (ga:Option Addr) (gc:Nat):Array Value:=setL (setL c o (pcells t.p pa pc)) (o+4) (gcells t.g ga gc).toList
theorem setL_heap {B:Nat} {ty:TypeId}:∀ (vs:List Value) (o:Nat) (w:World) (c:Array Value),w.heap[B]?=some (.cells c ty (0,0))→(w.setCells B o vs).heap[B]?=some (.cells (setL c o vs) ty (0,0))
 | [],_,_,_,h=>h
 | v::r,o,_w,_c,h=>setL_heap r (o+1) _ _ (set_cells h v)
theorem setL_size (vs:List Value):∀ (o:Nat) (c:Array Value),(setL c o vs).size=c.size:=by
 induction vs with
 | nil=>exact fun _ _=>rfl
 | cons v r ih=>exact fun o c=>(ih (o+1) (c.setIfInBounds o v)).trans (by simp)
theorem there_row {w:World} {B o n:Nat} {c:Array Value} {ty:TypeId} (h:w.heap[B]?=some (.cells c ty (0,0))) (hn:o+n≤c.size):w.there B o n:=fun j hj=>by
 have hlt:o+j < c.size:=by omega
 refine⟨?_,frozen_of_row w B _ _ _ h⟩
 rw [cell_of_row w B (o+j) _ _ _ h,Array.getElem?_eq_getElem hlt]
 rfl
theorem yields_gbox {ops:Array Oper} {T:World→Prop} {op:Oper} {a:Act} (hw:Region.wanted op (yielded ops a.tmps)=true) (x:Operand) (ho:op.op=.load 40 x) (b:Nat) (hx:a.eval x=.pointer (some ⟨b,0,none⟩)) (g:Gr) (ao:Option Addr) (cap:Nat) (hS:∀ w,T w→w.heap[b]?=some (gbox g ao cap)):YieldsIf Tryz.prog ops T op (gval g ao cap) a:=
 yieldsIf_load_mid (P:=Tryz.prog) hw 40 x ho b 0 hx (gcells g ao cap).toList _ (fun w h j v hv=>by rw [Nat.zero_add,cell_of_row w b j _ _ _ (hS w h)];simpa using hv) Tryz.underlying40 rfl Pt.infoG
def GetEnd (w:World) (B o:Nat) (c:Array Value) (ty:TypeId) (t:Tm) (w':World):Prop:=∃ pa pc ga gc,Kp (fun b=>b=B) w w'∧w'.heap[B]?=some (.cells (setTm c o t pa pc ga gc) ty (0,0))∧Pl w' pa pc t.p.ps∧Gl w' ga gc t.g
set_option maxHeartbeats 4000000 in
theorem get_any (t:Tm) (ok:OkTm t) (B o:Nat) (pa:Option Addr) (pc:Nat) (ga:Option Addr) (gc:Nat) (l:List UInt8) (hl:l.length≤1048576) (w:World) (h:TmAt w B o t pa pc ga gc) (c:Array Value) (ty:TypeId) (hc:w.heap[B]?=some (.cells c ty (0,0))) (hs:o+13≤c.size) (hty:¬ Ours ty) (t':Tm) (ht':t'=getT t l):
  Calls Tryz.prog 20 #[.pointer (some ⟨B,o,none⟩),.string (bs l)] w fun e w'=>e=.returned (.bool true)∧GetEnd w B o c ty t' w':=by
 have hlt:=(Array.getElem?_eq_some_iff.1 hc).1
 obtain⟨s',hs'⟩:∃ s',s'=Ps.feedS t.p l:=⟨_,rfl⟩
 obtain⟨x,hx⟩:∃ x,x=(allG t.g ((Ps.feedE t.p l).map toE)).1:=⟨_,rfl⟩
 have HT:Hid (t'=⟨s',x⟩):=by rw [ht',hs',hx];exact rfl
 have HH:Hid (TmAt w B o t pa pc ga gc):=h
 have HC:Hid (w.heap[B]?=some (.cells c ty (0,0))∧¬ Ours ty∧o+13≤c.size):=⟨hc,hty,hs⟩
 have HXO:Hid (OkG x):=by rw [hx];exact(did_ok (told_did t.g t.p l) ok.g).1
 have HFD:Hid (Calls Tryz.prog 43 #[pval t.p pa pc,.string (bs l)] w fun e w'=>∃ ao' cap' tq tc,∃ evs:List Ps.Item,e=.returned (.tuple #[pval s' ao' cap',.slice tq evs.length tc,.int .i64 0])∧Pl w' ao' cap' s'.ps∧Ps.Told w.heap.size w' tq tc evs∧evs.map (·.1)=Ps.feedE t.p l∧Below w.heap.size w w'):=by
  rw [hs']
  exact feed_good t.p ok.p _ _ l hl w h.pl
 have HAL:Hid (∀ W (base:Nat) tq tc (evs:List Ps.Item),Gl W ga gc t.g→Ps.Told base W tq tc evs→evs.map (·.1)=Ps.feedE t.p l→Calls Tryz.prog 44 #[gval t.g ga gc,.slice tq evs.length tc] W (AllEnd W (x,0))):=fun W base tq tc evs h1 h2 h3=>all_told ok.g ok.p hl ga gc W h1 h2 h3 x hx
 have HPA:Hid (w.rangeAt B o (pcells t.p pa pc)):=h.par
 clear h ok hs' hx hc hty hs ht'
 go_enter Tryz.func20,Tryz.ntmps20
 go_wp2_with (first
  | (refine wpList_load_mid rfl 37 _ rfl B o rfl (pcells t.p pa pc) _ HPA.out Tryz.underlying37 rfl infoP4 ?_)
  | (go_at_call 43;refine HFD.out.mono ?_;rintro e w2 ⟨a1,c1,tq,tc,evs,rfl,hp2,ht2,hm2,hb2⟩;have HI2:Hid (Below w.heap.size w w2∧Pl w2 a1 c1 s'.ps∧Ps.Told w.heap.size w2 tq tc evs∧evs.map (·.1)=Ps.feedE t.p l∧(w2.alloc (pbox s' a1 c1)).rangeAt B (o+4) (gcells t.g ga gc).toList∧Gl (w2.alloc (pbox s' a1 c1)) ga gc t.g):=⟨hb2,hp2,ht2,hm2,range_below HH.out.grid hlt (hb2.alloc hb2.size _),HH.out.gl.below (hb2.alloc hb2.size _)⟩;clear hp2 ht2 hm2 hb2)
  | (refine wpList_load_mid rfl 40 _ rfl B (o+4) rfl (gcells t.g ga gc).toList _ HI2.out.2.2.2.2.1 Tryz.underlying40 rfl Pt.infoG ?_)
  | (go_at_call 44;refine(HAL.out _ w.heap.size tq tc evs HI2.out.2.2.2.2.2 (HI2.out.2.2.1.later (below1 _ _)) HI2.out.2.2.2.1).mono ?_;rintro e w4 ⟨a4,c4,rfl,hcp⟩;have HI4:Hid (Copied (w2.alloc (pbox s' a1 c1)) x.n x.f a4 c4 w4):=hcp;clear hcp))
 show Code.wp _ _ _ _ (w4.alloc (gbox x a4 c4))
 have hB5:w2.heap.size < w4.heap.size:=by have:=HI4.out.2.2.size;simp at this;omega
 have h5:Below w.heap.size w (w4.alloc (gbox x a4 c4)):=((HI2.out.1.alloc HI2.out.1.size _).trans (HI4.out.2.2.mono (by have:=HI2.out.1.size;simp;omega))).alloc (by have:=HI2.out.1.size;omega) _
 have HB5:Hid (Below w.heap.size w (w4.alloc (gbox x a4 c4))):=h5
 have HH0:Hid ((w4.alloc (gbox x a4 c4)).heap[w2.heap.size]?=some (pbox s' a1 c1)∧(w4.alloc (gbox x a4 c4)).heap[w4.heap.size]?=some (gbox x a4 c4)):=⟨at_old (below_block HI4.out.2.2 (at_new w2 _) (by simp)) _,at_new w4 _⟩
 have HBX:Hid ((w4.alloc (gbox x a4 c4)).heap[B]?=some (.cells c ty (0,0))):=below_block h5 HC.out.1 hlt
 have HPL:Hid (Pl (w4.alloc (gbox x a4 c4)) a1 c1 s'.ps∧Gl (w4.alloc (gbox x a4 c4)) a4 c4 x):=⟨((HI2.out.2.1.below (below1 _ _)).below HI4.out.2.2).below (below1 _ _),(gl_copied (ok_pos HXO.out) HI4.out).below (below1 _ _)⟩
 have hne5:B≠w2.heap.size:=by have:=HI2.out.1.size;omega
 have hne8:B≠w4.heap.size:=by have:=HI2.out.1.size;omega
 clear HI4 HI2 HFD HAL HPA h5 HXO
 generalize w2.heap.size=B5 at*
 generalize w4.heap.size=B8 at*
 generalize w4.alloc (gbox x a4 c4)=W5 at*
 have HS1:Hid (Kp (fun b=>b=B) W5.drew (W5.drew.setCells B o (pcells s' a1 c1).toArray.toList)):=setCells_kp B _ o _
 have hth1:Hid (W5.drew.there B o 4):=there_row (c:=c) (ty:=ty) HBX.out (by have:=HC.out.2.2;omega)
 have HX1:Hid ((W5.drew.setCells B o (pcells s' a1 c1).toArray.toList).heap[B]?=some (.cells (setL c o (pcells s' a1 c1)) ty (0,0))):=setL_heap _ o W5.drew c HBX.out
 have hth2:Hid ((W5.drew.setCells B o (pcells s' a1 c1).toArray.toList).there B (o+4) 9):=there_row HX1.out (by rw [setL_size];have:=HC.out.2.2;omega)
 have HH1:Hid ((W5.drew.setCells B o (pcells s' a1 c1).toArray.toList).heap[B5]?=some (pbox s' a1 c1)∧(W5.drew.setCells B o (pcells s' a1 c1).toArray.toList).heap[B8]?=some (gbox x a4 c4)):=⟨HS1.out.at HH0.out.1 (fun e=>hne5 e.symm),HS1.out.at HH0.out.2 (fun e=>hne8 e.symm)⟩
 have HS2:Hid (∀ W:World,Kp (fun b=>b=B) W (W.setCells B (o+4) (gcells x a4 c4).toList)):=fun W=>setCells_kp B _ (o+4) W
 have HX2:Hid (((W5.drew.setCells B o (pcells s' a1 c1).toArray.toList).setCells B (o+4) (gcells x a4 c4).toList).heap[B]?=some (.cells (setTm c o ⟨s',x⟩ a1 c1 a4 c4) ty (0,0))):=setL_heap _ (o+4) _ _ HX1.out
 have HH2:Hid (((W5.drew.setCells B o (pcells s' a1 c1).toArray.toList).setCells B (o+4) (gcells x a4 c4).toList).heap[B5]?=some (pbox s' a1 c1)∧((W5.drew.setCells B o (pcells s' a1 c1).toArray.toList).setCells B (o+4) (gcells x a4 c4).toList).heap[B8]?=some (gbox x a4 c4)):=⟨(HS2.out _).at HH1.out.1 (fun e=>hne5 e.symm),(HS2.out _).at HH1.out.2 (fun e=>hne8 e.symm)⟩
 have HK7:Hid (Kp (fun b=>b=B) W5.drew ((W5.drew.setCells B o (pcells s' a1 c1).toArray.toList).setCells B (o+4) (gcells x a4 c4).toList)):=HS1.out.trans (HS2.out _) (fun _ e=>.inl e)
 refine bg (fun w'=>w'.heap[B5]?=some (pbox s' a1 c1)∧w'.heap[B8]?=some (gbox x a4 c4)) HH0.out (fun hHeld=>?_)
 refine tk 0 hHeld ?_
 refine tk 1 hHeld ?_
 refine Go.Proofs.YtjikokfjnbhngaaGreatDoor.ty 2 rfl (pval s' a1 c1) (yields_pbox (by rfl) _ rfl B5 rfl s' a1 c1 (fun w0 h=>h.1)) hHeld ?_
 refine Go.Proofs.YtjikokfjnbhngaaGreatDoor.ty 3 rfl (gval x a4 c4) (yields_gbox (by rfl) _ rfl B8 rfl x a4 c4 (fun w0 h=>h.2)) hHeld ?_
 refine tk 4 hHeld ?_
 refine tk 5 hHeld ?_
 refine wpAnyH_ready (rs:=[6]) (by kernel_rfl) (by simp) ?_
 refine AllReadyH.cons rfl (fun K hK=>?_) AllReadyH.nil
 refine wanted_go (by kernel_rfl) ?_
 refine wp_store_mid 37 _ _ rfl B o (pcells s' a1 c1).toArray rfl rfl hth1.out infoP4 (pone _ _ _) ?_
 refine hK.out _ _ HH1.out (fun hHeld=>?_)
 clear hK K
 generalize W5.drew.setCells B o (pcells s' a1 c1).toArray.toList=W6 at*
 refine pt ?_
 refine tk 7 hHeld ?_
 refine tk 8 hHeld ?_
 refine wpAnyH_ready (rs:=[9]) (by kernel_rfl) (by simp) ?_
 refine AllReadyH.cons rfl (fun K hK=>?_) AllReadyH.nil
 refine wanted_go (by kernel_rfl) ?_
 refine wp_store_mid 40 _ _ rfl B (o+4) (gcells x a4 c4) rfl rfl hth2.out Pt.infoG (gone _ _ _) ?_
 refine hK.out _ _ HH2.out (fun hHeld=>?_)
 clear hK K
 generalize W6.setCells B (o+4) (gcells x a4 c4).toList=W7 at*
 refine pt ?_
 refine dn ?_
 go_wp2
 go_ret
 have hkp:Kp (fun b=>b=B) w W7:=(Kp.of_below _ HB5.out).drew.trans HK7.out (fun _ e=>.inl e)
 have hkeep:∀ (b:Nat) (y:Array Value) (t:TypeId),Ours t→W5.heap[b]?=some (.cells y t (0,0))→W7.heap[b]?=W5.heap[b]?:=fun b y t ho hy=>HK7.out.block b (Array.getElem?_eq_some_iff.1 hy).1 (fun e=>by
  subst e
  rw [HBX.out] at hy
  simp only [Option.some.injEq,Obj.cells.injEq] at hy
  exact HC.out.2.1 (hy.2.1 ▸ ho))
 rw [HT.out]
 refine⟨?_,a1,c1,a4,c4,hkp,HX2.out,HPL.out.1.keep fun b y hy=>hkeep b y 3 (.inr (.inr (.inr (.inr rfl)))) hy,HPL.out.2.keep fun b y hy=>hkeep b y _ (.inr (.inr (.inl rfl))) hy⟩
 rfl
end Go.Proofs.YtjikokfjnbhngaaGreatDoor.Sv

/- What a pane puts out. -/
namespace Go.Proofs.YtjikokfjnbhngaaGreatDoor.Sv
open Go.RowKit
open Go.Proofs.YtjikokfjnbhngaaGreatDoor.Tl (colsOf RdT TyT CIt tval tbox hasT)
set_option maxRecDepth 100000
theorem upd_self {α:Type} (f:Nat→α) (i:Nat):upd f i (f i)=f:=by
 funext k
 unfold upd
 split
 ·rename_i e;rw [e]
 ·rfl
theorem upd_upd {α:Type} (f:Nat→α) (i:Nat) (x y:α):upd (upd f i x) i y=upd f i y:=by
 funext k
 unfold upd
 split <;>rfl
theorem tell_nil (S:Srv) (P:Nat):tellS S P []=S:=by
 unfold tellS
 have e1:(allG (S.v.gs P) ((Ps.feedE (S.ps P) []).map toE)).1=S.v.gs P:=rfl
 have e2:Ps.feedS (S.ps P) []=S.ps P:=rfl
 rw [e1,e2,upd_self,upd_self]
theorem tell_append (S:Srv) (P:Nat) (a b:List UInt8):tellS (tellS S P a) P b=tellS S P (a++b):=by
 unfold tellS
 simp only [upd_at,upd_upd]
 rw [told_append,Ps.feedS_append]
def strLen (v:Value):Nat:=match v with
 | .string b=>b.size
 | _=>0
set_option maxHeartbeats 2000000 in
theorem output_any (p:Int) (l:List UInt8) (hl:l.length≤140737488355328) (w:World) (S:Srv) (L:Lay) (h:SrvIn w S L) (okv:OkV S.v):
  Calls Tryz.prog 69 #[.pointer (some ⟨L.sb,0,none⟩),.int .i64 p,.string (bs l)] w fun e w'=>e=.returned (.int .i64 (outputS S p l).2)∧∃ L',SrvTo w S L (outputS S p l).1 L' w':=by
 have HS:Hid (SrvIn w S L):=h
 have ht:=h.tiles
 have hlt:=(Array.getElem?_eq_some_iff.1 h.box).1
 cases hh:hasT S.v.cols p
 ·have HH:Hid (∀ w,SrvIn w S L→Calls Tryz.prog 32 #[tval L.l.co L.l.its.length L.l.cap,.int .i64 p] w fun e w'=>e=.returned (.bool false)∧Below w.heap.size w w'):=fun w h=>by rw [←hh];exact has_srv p w S L h
  have HD:Hid (outputS S p l=(S,3)):=by show outputS S p l=_;unfold outputS;rw [hh];rfl
  clear h hh
  go_enter Tryz.func69,Tryz.ntmps69
  go_wp2_with (go_at_call 32;refine(HH.out _ HS.out).mono ?_;rintro e w1 ⟨rfl,hb1⟩;have HB1:Hid (Below w.heap.size w w1):=hb1;clear hb1)
  go_ret
  rw [HD.out]
  exact⟨rfl,L,(SrvTo.refl HS.out).later HB1.out⟩
 ·have HH:Hid (∀ w,SrvIn w S L→Calls Tryz.prog 32 #[tval L.l.co L.l.its.length L.l.cap,.int .i64 p] w fun e w'=>e=.returned (.bool true)∧Below w.heap.size w w'):=fun w h=>by rw [←hh];exact has_srv p w S L h
  obtain⟨p1,p2⟩:=has_pane h.ok.t hh
  obtain⟨P,rfl⟩:=Int.eq_ofNat_of_zero_le p1
  have hP6:P < 6:=by omega
  have HD:Hid (outputS S (P:Int) l=(tellS S P l,0)):=by show outputS S _ l=_;unfold outputS;rw [hh];rfl
  have HOK:Hid (∀ a:List UInt8,OkG ((tellS S P a).v.gs P)):=fun a=>by
   show OkG (upd S.v.gs P _ P)
   rw [upd_at]
   exact(did_ok (told_did _ _ _) (okv.here P hP6 hh).1).1
  have HI0:Hid (∀ w1,Below w.heap.size w w1→∃ L',SrvTo w S L (tellS S P []) L' w1):=fun w1 hb=>⟨L,by rw [tell_nil];exact(SrvTo.refl HS.out).later hb⟩
  clear h hh okv p1 p2
  go_enter Tryz.func69,Tryz.ntmps69
  go_wp2_with (go_at_call 32;refine(HH.out _ HS.out).mono ?_;rintro e w1 ⟨rfl,hb1⟩;have HB1:Hid (Below w.heap.size w w1):=hb1;clear hb1)
  go_loopw [2] (fun t wr=>∃ a b:List UInt8,l=a++b∧t=.string (bs b)∧∃ L',SrvTo w S L (tellS S P a) L' wr) (fun t _=>strLen t)
  case atStart=>exact⟨[],l,rfl,rfl,HI0.out w1 HB1.out⟩
  case round=>
   obtain⟨a,b,hab,rfl,L2,h2⟩:=hrel
   have H2:Hid (l=a++b∧SrvTo w S L (tellS S P a) L2 wr):=⟨hab,h2⟩
   have hbl:b.length≤140737488355328:=by rw [hab] at hl;simp at hl;omega
   have hsz:(bs b).size=b.length:=bs_size b
   clear hab h2
   by_cases hb0:b=[]
   ·subst hb0
    have hl0:¬ (0:Int) < (([]:List UInt8).length:Int):=by simp
    have HE:Hid (l=a):=H2.out.1.trans (List.append_nil a)
    go_wp2
    go_ret
    rw [HD.out,HE.out]
    exact⟨rfl,L2,H2.out.2⟩
   ·have hb1:0 < b.length:=List.length_pos_iff.2 hb0
    have hl1:(0:Int) < (b.length:Int):=by omega
    obtain⟨m,hm⟩:∃ m,m=min b.length 4096:=⟨_,rfl⟩
    have hm1:min (b.length:Int) 4096=(m:Int):=by omega
    have hm2:m≤b.length:=by omega
    have hm3:0 < m:=by omega
    have HTL:Hid (∀ W,SrvIn W (tellS S P a) L2→Calls Tryz.prog 90 #[.pointer (some ⟨L.sb,0,none⟩),.int .i64 P,.string (bs (b.take m))] W fun e w'=>e=.returned (.tuple #[])∧∃ L',SrvTo W (tellS S P a) L2 (tellS S P (a++b.take m)) L' w'):=fun W hW=>by
     have:=tell_any P hP6 (b.take m) (by simp;omega) W (tellS S P a) L2 hW (HOK.out a)
     rw [tell_append,H2.out.2.sb] at this
     exact this
    have hex:(bs b).extract 0 m=bs (b.take m):=bs_take b m
    have hex2:(bs b).extract m b.length=bs (b.drop m):=bs_drop b m
    clear hm hb0
    go_wp2_with (go_at_call 90;refine(HTL.out _ H2.out.2.srv).mono ?_;rintro e w3 ⟨rfl,L3,h3⟩;have H3:Hid (SrvTo w S L (tellS S P (a++b.take m)) L3 w3):=H2.out.2.trans h3;clear h3)
    go_roundw
    case rel=>exact⟨a++b.take m,b.drop m,by rw [List.append_assoc,List.take_append_drop];exact H2.out.1,rfl,L3,H3.out⟩
    case measure=>simp only [strLen];show (bs (b.drop m)).size < (bs b).size;rw [bs_size,bs_size,List.length_drop];omega
end Go.Proofs.YtjikokfjnbhngaaGreatDoor.Sv
