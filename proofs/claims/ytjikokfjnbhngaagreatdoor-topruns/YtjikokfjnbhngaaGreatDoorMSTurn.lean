/- Several texts in one, each as it was: STurn, SShow0, SShowT, SShowN. -/
import Derived.Test.YtjikokfjnbhngaaGreatDoorZTake
import Derived.Test.YtjikokfjnbhngaaGreatDoorMSTell
import Derived.Test.YtjikokfjnbhngaaGreatDoorMDShow
import Derived.Test.YtjikokfjnbhngaaGreatDoorDAnew
import Derived.Test.YtjikokfjnbhngaaGreatDoorMPStat
import Derived.Deep.CutRange

/- The bytes that bring a client on. -/
namespace Go.Proofs.YtjikokfjnbhngaaGreatDoor.Sv
open Go.RowKit
set_option maxRecDepth 100000
theorem wp_gbox {op:Oper} {a:Act} {w:World} {K:Act→World→Prop} {Q:Exit→Act→World→Prop} (x y:Operand) (ho:op.op=.store 40 x y) (B:Nat) (g:Gr) (ao:Option Addr) (cap:Nat) (hx:a.eval x=.pointer (some ⟨B,0,none⟩)) (hy:a.eval y=gval g ao cap)
  (old:Array Value) (hg:w.heap[B]?=some (.cells old 40 (0,0))) (hold:old.size=9)
  (h:∀ w',Hid (w'.heap[B]?=some (gbox g ao cap)∧w.grownBy w' (some B))→K (a.put op.dst undef) w'):op.wp Tryz.prog a w K Q:=
 wp_store_row _ x y ho B (gcells g ao cap) hx hy _ old hg infoG9 hold (gone g ao cap) (h _ ⟨setRow_heap w B _ _ _ _ hg,grown_setRow w B _⟩)
theorem yields_gmid {ops:Array Oper} {T:World→Prop} {op:Oper} {a:Act} (hw:Region.wanted op (yielded ops a.tmps)=true) (x:Operand) (ho:op.op=.load 40 x) (b o:Nat) (hx:a.eval x=.pointer (some ⟨b,o,none⟩)) (g:Gr) (ao:Option Addr) (cap:Nat) (hS:∀ w,T w→w.rangeAt b o (gcells g ao cap).toList):YieldsIf Tryz.prog ops T op (gval g ao cap) a:=
 yieldsIf_load_mid (P:=Tryz.prog) hw 40 x ho b o hx (gcells g ao cap).toList _ hS Tryz.underlying40 rfl Pt.infoG
theorem cl_grid {w:World} {B:Nat} {c:Cl} {ao:Option Addr} {cap:Nat} (h:w.heap[B]?=some (clbox c ao cap)):w.rangeAt B 2 (gcells c.g ao cap).toList:=fun j x hx=>by
 have hj:j < 9:=(List.getElem?_eq_some_iff.1 hx).1
 rw [cell_of_row w B (2+j) _ _ _ h, ←hx]
 have:j=0∨j=1∨j=2∨j=3∨j=4∨j=5∨j=6∨j=7∨j=8:=by omega
 rcases this with rfl | rfl | rfl | rfl | rfl | rfl | rfl | rfl | rfl <;>rfl
theorem gbox_range {w:World} {B:Nat} {g:Gr} {ao:Option Addr} {cap:Nat} (h:w.heap[B]?=some (gbox g ao cap)):w.rangeAt B 0 (gcells g ao cap).toList:=fun j x hx=>by
 rw [Nat.zero_add,cell_of_row w B j _ _ _ h]
 simpa using hx
structure TurnMid (w:World) (B:Nat) (c:Cl) (ca:Option Addr) (cc:Nat) (t:Gr) (ta:Option Addr) (ct:Nat) (R:List UInt8×Gr×Int) (ao:Option Addr) (cap:Nat) (w4:World):Prop where
 cl:w4.heap[B]?=some (clbox c ca cc)
 box:w4.heap[w.heap.size]?=some (gbox t ta ct)
 res:w4.heap[w.heap.size+1]?=some gzero
 gl:Copied w R.2.1.n R.2.1.f ao cap w4
structure TurnEnd (w:World) (B:Nat) (c:Cl) (ca:Option Addr) (cc:Nat) (t:Gr) (ta:Option Addr) (ct:Nat) (R:List UInt8×Gr×Int) (ao:Option Addr) (cap:Nat) (w4:World):Prop where
 cl:w4.heap[B]?=some (clbox c ca cc)
 box:w4.heap[w.heap.size]?=some (gbox t ta ct)
 res:w4.heap[w.heap.size+1]?=some (gbox R.2.1 ao cap)
 gl:Copied w R.2.1.n R.2.1.f ao cap w4
theorem copied_grown {w w4 w5:World} {n:Nat} {f:Nat→Cel} {ao:Option Addr} {cap:Nat} {T:Nat} {x:Array Value} {t:TypeId} {fr:Nat×Nat} (h:Copied w n f ao cap w4) (hT:w4.heap[T]?=some (.cells x t fr)) (ht:t≠66) (hB:w.heap.size≤T) (hg:w4.grownBy w5 (some T)):Copied w n f ao cap w5:=by
 have key:∀ b,Scr w4 b n f→Scr w5 b n f:=fun b hs=>by
  obtain⟨cur,h1,_⟩:=id hs
  refine hs.grown hg (fun e=>?_)
  simp only [Option.some.injEq] at e
  rw [e,hT] at h1
  simp only [Option.some.injEq,Obj.cells.injEq] at h1
  exact ht h1.2.1
 refine⟨?_,fun hn=>?_,below_grown h.2.2 hB hg⟩
 ·rcases Nat.eq_zero_or_pos n with h0 | h0
  ·exact .inl h0
  ·obtain⟨b,hb,_,_,hs⟩:=h.2.1 h0
   rw [hb]
   exact(key b hs).rd
 ·obtain⟨b,h1,h2,h3,h4⟩:=h.2.1 hn
  exact⟨b,h1,h2,h3,key b h4⟩
theorem TurnMid.store {w:World} {B:Nat} {c:Cl} {ca:Option Addr} {cc:Nat} {t:Gr} {ta:Option Addr} {ct:Nat} {R:List UInt8×Gr×Int} {ao:Option Addr} {cap:Nat} {w4 w5:World} (h:TurnMid w B c ca cc t ta ct R ao cap w4) (h1:w5.heap[w.heap.size+1]?=some (gbox R.2.1 ao cap)) (hg:w4.grownBy w5 (some (w.heap.size+1))):TurnEnd w B c ca cc t ta ct R ao cap w5:=by
 have hne:B≠w.heap.size+1:=fun e=>by
  have hb:=h.cl
  rw [e,h.res] at hb
  simp only [Option.some.injEq,Obj.cells.injEq] at hb
  exact absurd hb.2.1 (by decide)
 exact⟨grown_block hg h.cl (by simpa using hne),grown_block hg h.box (by simp),h1,copied_grown h.gl h.res (by decide) (by omega) hg⟩
set_option maxHeartbeats 4000000 in
theorem turn_cl (c:Cl) (B:Nat) (ca:Option Addr) (cc:Nat) (t:Gr) (ta:Option Addr) (ct:Nat) (w:World) (hb:w.heap[B]?=some (clbox c ca cc)) (hc:Gl w ca cc c.g) (hcm:c.g.n≤4398046511104) (ht:RdS w ta t.n t.f) (hmt:t.n≤4398046511104) (hct:t.n≤ct):
  Calls Tryz.prog 113 #[.pointer (some ⟨B,0,none⟩),gval t ta ct] w (DrawEnd w (turnR c.g t)):=by
 obtain⟨R,hR⟩:∃ R,R=turnR c.g t:=⟨_,rfl⟩
 rw [←hR]
 have hB2:Below w.heap.size w ((w.alloc (gbox t ta ct)).alloc gzero):=(below1 _ _).alloc (by simp) _
 have hB3:Below w.heap.size w ((w.alloc (gbox t ta ct)).alloc gzero).drew:=hB2.drew
 have HT:Hid (Calls Tryz.prog 131 #[gval c.g ca cc,gval t ta ct] ((w.alloc (gbox t ta ct)).alloc gzero).drew (DrawEnd ((w.alloc (gbox t ta ct)).alloc gzero).drew R)):=by
  rw [hR]
  exact turn_any c.g ca cc t ta ct _ (hc.below hB3).rd hc.none hcm (ht.below hB3) hmt hct
 have HC0:Hid (((w.alloc (gbox t ta ct)).alloc gzero).heap[B]?=some (clbox c ca cc)∧((w.alloc (gbox t ta ct)).alloc gzero).heap[w.heap.size]?=some (gbox t ta ct)∧((w.alloc (gbox t ta ct)).alloc gzero).heap[w.heap.size+1]?=some gzero):=⟨at_old (at_old hb _) _,at_old (at_new w _) _,at_new1 w _ _⟩
 have HM:Hid (∀ w4 ao4 c4,Copied ((w.alloc (gbox t ta ct)).alloc gzero).drew R.2.1.n R.2.1.f ao4 c4 w4→TurnMid w B c ca cc t ta ct R ao4 c4 w4):=fun w4 ao4 c4 hcp=>by
  have hb4:Below ((w.alloc (gbox t ta ct)).alloc gzero).heap.size ((w.alloc (gbox t ta ct)).alloc gzero) w4:=undrewS hcp.2.2
  have hsz:w.heap.size≤((w.alloc (gbox t ta ct)).alloc gzero).heap.size:=hB2.size
  refine⟨below_block hb4 HC0.out.1 (Array.getElem?_eq_some_iff.1 HC0.out.1).1,below_block hb4 HC0.out.2.1 (Array.getElem?_eq_some_iff.1 HC0.out.2.1).1,below_block hb4 HC0.out.2.2 (Array.getElem?_eq_some_iff.1 HC0.out.2.2).1,hcp.1,fun hn=>?_,hB2.trans (hb4.mono hsz)⟩
  obtain⟨b,h1,h2,h3,h4⟩:=hcp.2.1 hn
  exact⟨b,h1,Nat.le_trans hsz h2,h3,h4⟩
 have hlt:=(Array.getElem?_eq_some_iff.1 hb).1
 clear hb hc ht hR hB2 hB3
 go_enter Tryz.func113,Tryz.ntmps113
 go_wp2_with fail
 refine bg (fun w'=>w'.heap[B]?=some (clbox c ca cc)∧w'.heap[w.heap.size]?=some (gbox t ta ct)) ⟨HC0.out.1,HC0.out.2.1⟩ (fun hHeld=>?_)
 refine tk 0 hHeld ?_
 refine tk 1 hHeld ?_
 refine tk 2 hHeld ?_
 refine ty 3 rfl (gval c.g ca cc) (yields_gmid (by rfl) _ rfl B 2 rfl c.g ca cc (fun w0 h=>cl_grid h.1)) hHeld ?_
 refine ty 4 rfl (gval t ta ct) (yields_gmid (by rfl) _ rfl w.heap.size 0 rfl t ta ct (fun w0 h=>gbox_range h.2)) hHeld ?_
 refine wpAnyH_ready (rs:=[5]) (by kernel_rfl) (by simp) ?_
 refine AllReadyH.cons rfl (fun K hK=>?_) AllReadyH.nil
 go_simp
 go_at_call 131
 refine HT.out.mono ?_
 rintro e w4 ⟨ao4,c4,rfl,hcp⟩
 have H4:Hid (TurnMid w B c ca cc t ta ct R ao4 c4 w4):=HM.out w4 ao4 c4 hcp
 clear hcp
 (try go_simp)
 refine hK.out _ _ ⟨H4.out.cl,H4.out.box⟩ (fun hHeld=>?_)
 clear hK K
 refine pt ?_
 refine tk 6 hHeld ?_
 refine tk 7 hHeld ?_
 refine tk 8 hHeld ?_
 refine tk 9 hHeld ?_
 refine wpAnyH_ready (rs:=[10]) (by kernel_rfl) (by simp) ?_
 refine AllReadyH.cons rfl (fun K hK=>?_) AllReadyH.nil
 refine wanted_go (by kernel_rfl) ?_
 refine wp_gbox _ _ rfl (w.heap.size+1) R.2.1 ao4 c4 rfl rfl _ H4.out.res rfl ?_
 intro w5 hw5
 have H5:Hid (TurnEnd w B c ca cc t ta ct R ao4 c4 w5):=H4.out.store hw5.out.1 hw5.out.2
 clear hw5
 refine hK.out _ _ ⟨H5.out.cl,H5.out.box⟩ (fun hHeld=>?_)
 clear hK K
 refine pt ?_
 refine tk 11 hHeld ?_
 refine dn ?_
 obtain⟨⟨u0,u1,u2,u3,u4,u5,u6,u7,u8⟩,uf⟩:=nine H5.out.res
 go_wp2
 refine bodyPost_ret (v:=.tuple #[.string (bs R.1),gval R.2.1 ao4 c4,.int .i64 R.2.2]) (by simp [results,Tryz.results113,go_sem, *]) rfl ?_
 exact⟨ao4,c4,rfl,H5.out.gl⟩
end Go.Proofs.YtjikokfjnbhngaaGreatDoor.Sv

/- A client is shown what it is to see. -/
namespace Go.Proofs.YtjikokfjnbhngaaGreatDoor.Sv
open Go.RowKit
open Go.Proofs.YtjikokfjnbhngaaGreatDoor.Pt (Vw VC RdV screenV)
set_option maxRecDepth 100000
structure ShowIn (w:World) (C:Array Value) (c:Cl) (B:Nat) (ca:Option Addr) (cc:Nat) (wr:World):Prop where
 view:wr.heap[w.heap.size]?=some (Pt.cbox C)
 cl:wr.heap[B]?=some (clbox c ca cc)
 bel:Below w.heap.size w wr
 lt:w.heap.size < wr.heap.size
theorem ShowIn.later {w:World} {C:Array Value} {c:Cl} {B:Nat} {ca:Option Addr} {cc:Nat} {wr w':World} (h:ShowIn w C c B ca cc wr) (hb:Below wr.heap.size wr w'):ShowIn w C c B ca cc w':=
 ⟨below_block hb h.view h.lt,below_block hb h.cl (Array.getElem?_eq_some_iff.1 h.cl).1,h.bel.trans (hb.mono h.bel.size),Nat.lt_of_lt_of_le h.lt hb.size⟩
theorem ShowIn.below {w:World} {C:Array Value} {c:Cl} {B:Nat} {ca:Option Addr} {cc:Nat} {wr w':World} (h:ShowIn w C c B ca cc wr) (hb:Below wr.heap.size wr w'):ShowIn w C c B ca cc w':=h.later hb
theorem ShowIn.drew {w:World} {C:Array Value} {c:Cl} {B:Nat} {ca:Option Addr} {cc:Nat} {wr:World} (h:ShowIn w C c B ca cc wr):ShowIn w C c B ca cc wr.drew:=h.later ((Below.refl _ _).drew)
theorem ShowIn.wide {w:World} {C:Array Value} {c:Cl} {B:Nat} {ca:Option Addr} {cc:Nat} {wr:World} (h:ShowIn w C c B ca cc wr):wr.cell? ⟨B,2,none⟩=some (.int .i64 c.g.wide):=(eleven h.cl).1.2.2.1
theorem ShowIn.high {w:World} {C:Array Value} {c:Cl} {B:Nat} {ca:Option Addr} {cc:Nat} {wr:World} (h:ShowIn w C c B ca cc wr):wr.cell? ⟨B,3,none⟩=some (.int .i64 c.g.high):=(eleven h.cl).1.2.2.2.1
def ShowGl (R:Pen) (ao:Option Addr) (cap:Nat) (wr:World):Prop:=Gl wr ao cap R.g
theorem show_gl {R:Pen} (hp:0 < R.g.n) {W wr:World} {ao:Option Addr} {cap:Nat} (h:Copied W R.g.n R.g.f ao cap wr):ShowGl R ao cap wr:=gl_copied hp h
structure ShowOut (w:World) (c:Cl) (B:Nat) (ca:Option Addr) (cc:Nat) (R:Pen) (ao:Option Addr) (cap:Nat) (T:Nat) (wr:World):Prop where
 box:wr.heap[T]?=some (gbox R.g ao cap)
 gl:Gl wr ao cap R.g
 cl:wr.heap[B]?=some (clbox c ca cc)
 bel:Below w.heap.size w wr
theorem show_new {w:World} {C:Array Value} {c:Cl} {B:Nat} {ca:Option Addr} {cc:Nat} {R:Pen} {ao:Option Addr} {cap:Nat} {w4:World} (h:ShowIn w C c B ca cc w4) (hg:ShowGl R ao cap w4):ShowOut w c B ca cc R ao cap w4.heap.size (w4.alloc (gbox R.g ao cap)):=
 ⟨at_new _ _,Gl.below hg (below1 _ _),at_old h.cl _,(h.below (below1 _ _)).bel⟩
theorem show_store {w:World} {C:Array Value} {c:Cl} {B:Nat} {ca:Option Addr} {cc:Nat} {R:Pen} {ao:Option Addr} {cap T:Nat} {w4 w6:World} (h:ShowIn w C c B ca cc w4) (hg:ShowGl R ao cap w4) (hT:w4.heap[T]?=some gzero) (h6:w6.heap[T]?=some (gbox R.g ao cap)) (hgr:w4.grownBy w6 (some T)) (hTn:w.heap.size < T):
  ShowIn w C c B ca cc w6∧ShowOut w c B ca cc R ao cap T w6:=by
 have hne:B≠T:=fun e=>by
  have hb:=h.cl
  rw [e,hT] at hb
  simp only [Option.some.injEq,Obj.cells.injEq] at hb
  exact absurd hb.2.1 (by decide)
 have hbel:=below_grown h.bel (by omega:w.heap.size≤T) hgr
 have hcl:=grown_block hgr h.cl (by simpa using hne)
 exact⟨⟨grown_block hgr h.view (by simp;omega),hcl,hbel,Nat.lt_of_lt_of_le h.lt hgr.size⟩,h6,Gl.grown hg hT (by decide) hgr,hcl,hbel⟩
def ShowMid (w:World) (c:Cl) (B:Nat) (ca:Option Addr) (cc:Nat) (R:Pen) (t5 t6:Value) (wx:World):Prop:=∃ T ao cap,t5=.string (bs R.out)∧t6=.pointer (some ⟨T,0,none⟩)∧ShowOut w c B ca cc R ao cap T wx
theorem show_nil (C:Array Value) (w:World):Calls Tryz.prog 92 #[.pointer none,.agg C] w fun e w'=>e=.returned (.tuple #[])∧Below w.heap.size w w':=by
 have HB:Hid (Below w.heap.size w (w.alloc (Pt.cbox C))):=below1 _ _
 go_enter Tryz.func92,Tryz.ntmps92
 go_wp2
 exact bodyPost_ret (v:=.tuple #[]) (by simp [results,Tryz.results92,go_sem]) rfl ⟨rfl,HB.out⟩
def ShowEnd (w:World) (B:Nat) (d:Cl) (w':World):Prop:=∃ ca' cc',Kp (fun b=>b=B) w w'∧w'.heap[B]?=some (clbox d ca' cc')∧Gl w' ca' cc' d.g
theorem show_stays (c:Cl) (B:Nat) (ca:Option Addr) (cc:Nat) (C:Array Value) (hl:c.lost=true) (hq:c.q≠[]) (w:World) (hb:w.heap[B]?=some (clbox c ca cc)) (hg:Gl w ca cc c.g):
  Calls Tryz.prog 92 #[.pointer (some ⟨B,0,none⟩),.agg C] w fun e w'=>e=.returned (.tuple #[])∧ShowEnd w B c w':=by
 have HE:Hid (ShowEnd w B c (w.alloc (Pt.cbox C))):=⟨ca,cc,Kp.of_below _ (below1 _ _),at_old hb _,hg.below (below1 _ _)⟩
 obtain⟨⟨c0,c1,_⟩,cf⟩:=eleven hb
 have hlt:=(Array.getElem?_eq_some_iff.1 hb).1
 rw [hl] at c1
 have hne:c.q.isEmpty=false:=by
  cases h:c.q with
  | nil=>exact absurd h hq
  | cons a r=>rfl
 clear hb hg hl hq
 go_enter Tryz.func92,Tryz.ntmps92
 go_wp2
 exact bodyPost_ret (v:=.tuple #[]) (by simp [results,Tryz.results92,go_sem]) rfl ⟨rfl,HE.out⟩
theorem cl_put_q {w:World} {B:Nat} {c:Cl} {ca:Option Addr} {cc:Nat} (h:w.heap[B]?=some (clbox c ca cc)) (m:List UInt8):(w.setCell ⟨B,0,none⟩ (.string (bs c.q++bs m))).heap[B]?=some (clbox {c with q:=c.q++m} ca cc):=by
 rw [set_cells h,bs_append]
 rfl
theorem cl_put_g {w:World} {B:Nat} {c:Cl} {ca:Option Addr} {cc:Nat} (h:w.heap[B]?=some (clbox c ca cc)) (g:Gr) (ao:Option Addr) (cap:Nat):(w.setCells B 2 (gcells g ao cap).toList).heap[B]?=some (clbox {c with g:=g} ao cap):=by
 simp only [World.setCells]
 rw [set_cells (set_cells (set_cells (set_cells (set_cells (set_cells (set_cells (set_cells (set_cells h _) _) _) _) _) _) _) _) _]
 refine congrArg (fun c=>some (Obj.cells c 81 (0,0))) ?_
 kernel_rfl
theorem cl_put_l {w:World} {B:Nat} {c:Cl} {ca:Option Addr} {cc:Nat} (h:w.heap[B]?=some (clbox c ca cc)) (l:Bool):(w.setCell ⟨B,1,none⟩ (.bool l)).heap[B]?=some (clbox {c with lost:=l} ca cc):=by
 rw [set_cells h]
 rfl
theorem cl_there {w:World} {B:Nat} {c:Cl} {ca:Option Addr} {cc:Nat} (h:w.heap[B]?=some (clbox c ca cc)):w.there B 2 9:=fun j hj=>by
 refine⟨?_,frozen_of_row w B _ _ _ h⟩
 rw [cell_of_row w B (2+j) _ _ _ h]
 have:j=0∨j=1∨j=2∨j=3∨j=4∨j=5∨j=6∨j=7∨j=8:=by omega
 rcases this with rfl | rfl | rfl | rfl | rfl | rfl | rfl | rfl | rfl <;>rfl
structure ShowKp (w0:World) (B T:Nat) (g:Gr) (ao:Option Addr) (cap:Nat) (w1:World):Prop where
 kp:Kp (fun b=>b=B) w0 w1
 box:w1.heap[T]?=some (gbox g ao cap)
 gl:Gl w1 ao cap g
theorem ShowKp.next {w0:World} {B T:Nat} {g:Gr} {ao:Option Addr} {cap:Nat} {w1 w2:World} (h:ShowKp w0 B T g ao cap w1) {c:Cl} {ca:Option Addr} {cc:Nat} (hb:w1.heap[B]?=some (clbox c ca cc)) (k:Kp (fun b=>b=B) w1 w2):ShowKp w0 B T g ao cap w2:=by
 refine⟨h.kp.trans k (fun _ e=>.inl e),k.at h.box (fun e=>?_),h.gl.keep fun b x hx=>k.block b (Array.getElem?_eq_some_iff.1 hx).1 (fun e=>?_)⟩
 ·have h2:=h.box
  rw [e,hb] at h2
  simp only [Option.some.injEq,Obj.cells.injEq] at h2
  exact absurd h2.2.1 (by decide)
 ·rw [e,hb] at hx
  simp only [Option.some.injEq,Obj.cells.injEq] at hx
  exact absurd hx.2.1 (by decide)
end Go.Proofs.YtjikokfjnbhngaaGreatDoor.Sv

/- A client that is not lost is shown what it is to see. -/
namespace Go.Proofs.YtjikokfjnbhngaaGreatDoor.Sv
open Go.RowKit
open Go.Proofs.YtjikokfjnbhngaaGreatDoor.Pt (Vw VC RdV screenV)
set_option maxRecDepth 100000
set_option maxHeartbeats 8000000 in
theorem show_turns (c:Cl) (okc:OkC c) (hlost:c.lost=false) (B:Nat) (ca:Option Addr) (cc:Nat) (v:Vw) (l:Pt.Lay) (C:Array Value) (hC:VC v l C) (okv:OkV v) (w:World) (hb:w.heap[B]?=some (clbox c ca cc)) (hg:Gl w ca cc c.g) (hv:RdV w v l):
  Calls Tryz.prog 92 #[.pointer (some ⟨B,0,none⟩),.agg C] w fun e w'=>e=.returned (.tuple #[])∧ShowEnd w B (showC v c) w':=by
 obtain⟨R,hR⟩:∃ R,R=moreC v c:=⟨_,rfl⟩
 obtain⟨x,hx⟩:∃ x,x=screenV v c.g.wide c.g.high:=⟨_,rfl⟩
 have hd:Draws c.g x R:=by rw [hx,hR];exact more_draws okv okc.g
 have HPOS:Hid (0 < R.g.n):=ok_pos hd.ok
 have hshort:R.out.length≤2490:=hd.short
 have hqs:=okc.short
 obtain⟨sx1,sx2,sx3,sx4⟩:=screen_ok okv c.g.wide c.g.high
 rw [←hx] at sx1 sx2 sx3 sx4
 obtain⟨nx1,nx2,_⟩:=sx1.nums
 obtain⟨ng1,ng2,_⟩:=okc.g.nums
 have hlow:Pt.LowV v:=fun p hp=>by
  rcases okv.grid p hp with e | e
  ·rw [e];exact⟨by show (-9223372036854775808:Int)≤0;omega,by show (-9223372036854775808:Int)≤0;omega⟩
  ·have:=e.r1
   have:=e.c1
   exact⟨by omega,by omega⟩
 have HSZ:Hid (C.size=58):=hC.size
 have HSC:Hid (∀ W,ShowIn w C c B ca cc W→Calls Tryz.prog 38 #[.agg C,.int .i64 c.g.wide,.int .i64 c.g.high] W fun e w'=>∃ b,e=.returned (gval x (some ⟨b,0,none⟩) x.n)∧Scr w' b x.n x.f∧Below W.heap.size W w'):=fun W hW=>Pt.screen_any v l C hC c.g.wide c.g.high W (hv.below hW.bel) hlow x hx
 have HNOT:Hid (¬ (c.lost=true∧c.q≠[])):=fun h=>by rw [hlost] at h;simp at h
 have HBT:Hid (∀ W b,ShowIn w C c B ca cc W→Scr W b x.n x.f→Calls Tryz.prog 113 #[.pointer (some ⟨B,0,none⟩),gval x (some ⟨b,0,none⟩) x.n] W (DrawEnd W (R.out,R.g,0))):=fun W b hW hs=>by
  have e:turnR c.g x=(R.out,R.g,0):=by
   have hB:turnB c.g x=true:=(turnB_iff _ _).2 ⟨okc.g,sx1,sx2,by rw [sx3];exact(new_sides okc.g).1.symm,by rw [sx4];exact(new_sides okc.g).2.1.symm⟩
   have hm:R=turnP c.g x:=by rw [hR,hx];unfold moreC;rw [if_neg (by rw [hlost];simp)]
   unfold turnR
   rw [if_pos hB,hm]
  rw [←e]
  exact turn_cl c B ca cc x (some ⟨b,0,none⟩) x.n W hW.cl (hg.below hW.bel) (by omega) hs.rd (by omega) (Nat.le_refl _)
 have HEND1:Hid (∀ w5 T ao cap,4000 < c.q.length+R.out.length→ShowOut w c B ca cc R ao cap T w5→ShowEnd w B (showC v c) (w5.setCell ⟨B,1,none⟩ (.bool true))):=fun w5 T ao cap hlong ho=>by
  have e:showC v c={c with lost:=true}:=by unfold showC;rw [if_neg HNOT.out, ←hR,if_pos hlong]
  rw [e]
  have hcl:Gl w5 ca cc c.g:=hg.below ho.bel
  refine⟨ca,cc,(Kp.of_below _ ho.bel).trans (set_kp w5 B _ _) (fun _ e=>.inl e),cl_put_l ho.cl true,hcl.keep fun b y hy=>Below.heap_setCell _ _ _ _ (fun e=>?_)⟩
  simp only at e
  rw [e,ho.cl] at hy
  simp only [Option.some.injEq,Obj.cells.injEq] at hy
  exact absurd hy.2.1 (by decide)
 have HEND2:Hid (∀ wc w5 T ao cap,¬ 4000 < c.q.length+R.out.length→ShowOut w c B ca cc R ao cap T wc→w5.heap[B]?=some (clbox {c with q:=c.q++R.out,lost:=false,g:=R.g} ao cap)→ShowKp wc B T R.g ao cap w5→ShowEnd w B (showC v c) w5):=fun wc w5 T ao cap hlong ho h5 hk=>by
  have e:showC v c={c with q:=c.q++R.out,lost:=false,g:=R.g}:=by unfold showC;rw [if_neg HNOT.out, ←hR,if_neg hlong]
  rw [e]
  exact⟨ao,cap,(Kp.of_below _ ho.bel).trans hk.kp (fun _ e=>.inl e),h5,hk.gl⟩
 have H0w:Hid (ShowIn w C c B ca cc (w.alloc (Pt.cbox C))):=⟨at_new _ _,at_old hb _,below1 _ _,by simp⟩
 obtain⟨⟨c0,c1,_⟩,cf⟩:=eleven hb
 have hlt:=(Array.getElem?_eq_some_iff.1 hb).1
 rw [hlost] at c1
 have hsz1:(bs c.q).size=c.q.length:=bs_size _
 have hsz2:(bs R.out).size=R.out.length:=bs_size _
 clear hR hx hd okc okv hC hb hg hv hlow sx1 sx2 sx3 sx4 nx1 nx2 ng1 ng2 hlost
 go_enter Tryz.func92,Tryz.ntmps92
 go_wp2_with fail
 show Code.wp _ _ _ _ (w.alloc (Pt.cbox C))
 generalize hW0:w.alloc (Pt.cbox C)=W0 at*
 have H0:Hid (ShowIn w C c B ca cc W0):=H0w.out
 clear hW0 H0w c0 c1 cf
 go_cut [5,6] from 29 to 46 (fun t5 t6 wx=>ShowMid w c B ca cc R t5 t6 wx)
 case first=>
  refine bg (fun w'=>w'.heap[w.heap.size]?=some (Pt.cbox C)∧w'.cell? ⟨B,2,none⟩=some (.int .i64 c.g.wide)∧w'.cell? ⟨B,3,none⟩=some (.int .i64 c.g.high)) ⟨H0.out.view,H0.out.wide,H0.out.high⟩ (fun hHeld=>?_)
  refine tk 0 hHeld ?_
  refine ty 1 rfl (.agg C) (Pt.yields_view (by rfl) _ rfl w.heap.size rfl C HSZ.out (fun w0 h=>h.1)) hHeld ?_
  refine tk 2 hHeld ?_
  refine tk 3 hHeld ?_
  refine tk 4 hHeld ?_
  refine tk 5 hHeld ?_
  refine tk 6 hHeld ?_
  refine tk 7 hHeld ?_
  refine tk 8 hHeld ?_
  refine tk 9 hHeld ?_
  refine tk 10 hHeld ?_
  refine tk 11 hHeld ?_
  refine wpAnyH_ready (rs:=[12,18]) (by kernel_rfl) (by simp) ?_
  refine AllReadyH.cons rfl (fun K hK=>?_) (AllReadyH.cons rfl (fun K hK=>?_) AllReadyH.nil)
  ·go_simp
   go_at_call 38
   refine(HSC.out _ H0.out.drew).mono ?_
   rintro e w3 ⟨b,rfl,hs3,hb3⟩
   have H3:Hid (ShowIn w C c B ca cc w3∧Scr w3 b x.n x.f):=⟨H0.out.below (undrewS hb3),hs3⟩
   have H3a:Hid (ShowIn w C c B ca cc w3):=H3.out.1
   clear hs3 hb3
   (try go_simp)
   refine hK.out _ _ ⟨H3a.out.view,H3a.out.wide,H3a.out.high⟩ (fun hHeld=>?_)
   clear hK K
   refine pt ?_
   refine wpAnyH_ready (rs:=[13,18]) (by kernel_rfl) (by simp) ?_
   refine AllReadyH.cons rfl (fun K hK=>?_) (AllReadyH.cons rfl (fun K hK=>?_) AllReadyH.nil)
   ·go_simp
    go_at_call 113
    refine(HBT.out _ b H3.out.1 H3.out.2).mono ?_
    rintro e w4 ⟨ao4,c4,rfl,hcp⟩
    have H4:Hid (ShowGl R ao4 c4 w4):=show_gl HPOS.out hcp
    have H4a:Hid (ShowIn w C c B ca cc w4):=H3.out.1.below hcp.2.2
    clear hcp
    (try go_simp)
    refine hK.out _ _ ⟨H4a.out.view,H4a.out.wide,H4a.out.high⟩ (fun hHeld=>?_)
    clear hK K
    refine pt ?_
    have HX:Hid (ShowIn w C c B ca cc (w4.alloc gzero)∧(w4.alloc gzero).heap[w4.heap.size]?=some gzero):=⟨H4a.out.below (below1 _ _),at_new _ _⟩
    have HXa:Hid (ShowIn w C c B ca cc (w4.alloc gzero)):=HX.out.1
    have H6:Hid (ShowOut w c B ca cc R ao4 c4 w4.heap.size (w4.alloc (gbox R.g ao4 c4))):=show_new H4a.out H4.out
    have HXb:Hid (ShowIn w C c B ca cc (w4.alloc (gbox R.g ao4 c4))):=H4a.out.below (below1 _ _)
    have hTn:w.heap.size < w4.heap.size:=H4a.out.lt
    refine tk 14 hHeld ?_
    refine tk 15 hHeld ?_
    refine tk 16 hHeld ?_
    refine tk 17 hHeld ?_
    refine wpAnyH_ready (rs:=[18]) (by kernel_rfl) (by simp) ?_
    refine AllReadyH.cons rfl (fun K hK=>?_) AllReadyH.nil
    go_simp
    refine hK.out _ _ ⟨HXa.out.view,HXa.out.wide,HXa.out.high⟩ (fun hHeld=>?_)
    clear hK K
    refine pt ?_
    refine tk 19 hHeld ?_
    refine wpAnyH_ready (rs:=[20]) (by kernel_rfl) (by simp) ?_
    refine AllReadyH.cons rfl (fun K hK=>?_) AllReadyH.nil
    go_simp
    refine hK.out _ _ ⟨HXb.out.view,HXb.out.wide,HXb.out.high⟩ (fun hHeld=>?_)
    clear hK K
    refine pt ?_
    refine tk 21 hHeld ?_
    refine dn ?_
    go_wp2_with fail
    go_meet
    exact⟨w4.heap.size,ao4,c4,rfl,rfl,H6.out⟩
   ·go_simp
    have HX:Hid (ShowIn w C c B ca cc (w3.alloc gzero)∧(w3.alloc gzero).heap[w3.heap.size]?=some gzero∧Scr (w3.alloc gzero) b x.n x.f):=⟨H3.out.1.below (below1 _ _),at_new _ _,H3.out.2.alloc _⟩
    have HXa:Hid (ShowIn w C c B ca cc (w3.alloc gzero)):=HX.out.1
    have hTn:w.heap.size < w3.heap.size:=H3.out.1.lt
    refine hK.out _ _ ⟨HXa.out.view,HXa.out.wide,HXa.out.high⟩ (fun hHeld=>?_)
    clear hK K
    refine pt ?_
    refine wpAnyH_ready (rs:=[13]) (by kernel_rfl) (by simp) ?_
    refine AllReadyH.cons rfl (fun K hK=>?_) AllReadyH.nil
    go_simp
    go_at_call 113
    refine(HBT.out _ b HX.out.1 HX.out.2.2).mono ?_
    rintro e w4 ⟨ao4,c4,rfl,hcp⟩
    have H4:Hid (ShowGl R ao4 c4 w4):=show_gl HPOS.out hcp
    have H4a:Hid (ShowIn w C c B ca cc w4):=HX.out.1.below hcp.2.2
    have H5:Hid (ShowIn w C c B ca cc w4∧w4.heap[w3.heap.size]?=some gzero):=⟨H4a.out,below_block hcp.2.2 HX.out.2.1 (Array.getElem?_eq_some_iff.1 HX.out.2.1).1⟩
    clear hcp
    (try go_simp)
    refine hK.out _ _ ⟨H4a.out.view,H4a.out.wide,H4a.out.high⟩ (fun hHeld=>?_)
    clear hK K
    refine pt ?_
    refine tk 14 hHeld ?_
    refine tk 15 hHeld ?_
    refine tk 16 hHeld ?_
    refine tk 17 hHeld ?_
    refine tk 19 hHeld ?_
    refine wpAnyH_ready (rs:=[20]) (by kernel_rfl) (by simp) ?_
    refine AllReadyH.cons rfl (fun K hK=>?_) AllReadyH.nil
    refine wanted_go (by kernel_rfl) ?_
    refine wp_gbox _ _ rfl w3.heap.size R.g ao4 c4 rfl rfl _ H5.out.2 rfl ?_
    intro w6 hw6
    have H6:Hid (ShowIn w C c B ca cc w6∧ShowOut w c B ca cc R ao4 c4 w3.heap.size w6):=show_store H5.out.1 H4.out H5.out.2 hw6.out.1 hw6.out.2 hTn
    clear hw6
    have H6a:Hid (ShowIn w C c B ca cc w6):=H6.out.1
    refine hK.out _ _ ⟨H6a.out.view,H6a.out.wide,H6a.out.high⟩ (fun hHeld=>?_)
    clear hK K
    refine pt ?_
    refine tk 21 hHeld ?_
    refine dn ?_
    go_wp2_with fail
    go_meet
    exact⟨w3.heap.size,ao4,c4,rfl,rfl,H6.out.2⟩
  ·go_simp
   have HX:Hid (ShowIn w C c B ca cc (W0.alloc gzero).drew∧(W0.alloc gzero).drew.heap[W0.heap.size]?=some gzero):=⟨H0.out.below ((below1 _ _).drew),at_new _ _⟩
   have HXa:Hid (ShowIn w C c B ca cc (W0.alloc gzero).drew):=HX.out.1
   have hTn:w.heap.size < W0.heap.size:=H0.out.lt
   refine hK.out _ _ ⟨HXa.out.view,HXa.out.wide,HXa.out.high⟩ (fun hHeld=>?_)
   clear hK K
   refine pt ?_
   refine wpAnyH_ready (rs:=[12]) (by kernel_rfl) (by simp) ?_
   refine AllReadyH.cons rfl (fun K hK=>?_) AllReadyH.nil
   go_simp
   go_at_call 38
   refine(HSC.out _ HX.out.1).mono ?_
   rintro e w3 ⟨b,rfl,hs3,hb3⟩
   have H3:Hid (ShowIn w C c B ca cc w3∧Scr w3 b x.n x.f∧w3.heap[W0.heap.size]?=some gzero):=⟨HX.out.1.below hb3,hs3,below_block hb3 HX.out.2 (Array.getElem?_eq_some_iff.1 HX.out.2).1⟩
   have H3a:Hid (ShowIn w C c B ca cc w3):=H3.out.1
   clear hs3 hb3
   (try go_simp)
   refine hK.out _ _ ⟨H3a.out.view,H3a.out.wide,H3a.out.high⟩ (fun hHeld=>?_)
   clear hK K
   refine pt ?_
   refine wpAnyH_ready (rs:=[13]) (by kernel_rfl) (by simp) ?_
   refine AllReadyH.cons rfl (fun K hK=>?_) AllReadyH.nil
   go_simp
   go_at_call 113
   refine(HBT.out _ b H3.out.1 H3.out.2.1).mono ?_
   rintro e w4 ⟨ao4,c4,rfl,hcp⟩
   have H4:Hid (ShowGl R ao4 c4 w4):=show_gl HPOS.out hcp
   have H4a:Hid (ShowIn w C c B ca cc w4):=H3.out.1.below hcp.2.2
   have H5:Hid (ShowIn w C c B ca cc w4∧w4.heap[W0.heap.size]?=some gzero):=⟨H4a.out,below_block hcp.2.2 H3.out.2.2 (Array.getElem?_eq_some_iff.1 H3.out.2.2).1⟩
   clear hcp
   (try go_simp)
   refine hK.out _ _ ⟨H4a.out.view,H4a.out.wide,H4a.out.high⟩ (fun hHeld=>?_)
   clear hK K
   refine pt ?_
   refine tk 14 hHeld ?_
   refine tk 15 hHeld ?_
   refine tk 16 hHeld ?_
   refine tk 17 hHeld ?_
   refine tk 19 hHeld ?_
   refine wpAnyH_ready (rs:=[20]) (by kernel_rfl) (by simp) ?_
   refine AllReadyH.cons rfl (fun K hK=>?_) AllReadyH.nil
   refine wanted_go (by kernel_rfl) ?_
   refine wp_gbox _ _ rfl W0.heap.size R.g ao4 c4 rfl rfl _ H5.out.2 rfl ?_
   intro w6 hw6
   have H6:Hid (ShowIn w C c B ca cc w6∧ShowOut w c B ca cc R ao4 c4 W0.heap.size w6):=show_store H5.out.1 H4.out H5.out.2 hw6.out.1 hw6.out.2 hTn
   clear hw6
   have H6a:Hid (ShowIn w C c B ca cc w6):=H6.out.1
   refine hK.out _ _ ⟨H6a.out.view,H6a.out.wide,H6a.out.high⟩ (fun hHeld=>?_)
   clear hK K
   refine pt ?_
   refine tk 21 hHeld ?_
   refine dn ?_
   go_wp2_with fail
   go_meet
   exact⟨W0.heap.size,ao4,c4,rfl,rfl,H6.out.2⟩
 case rest=>
  obtain⟨T,ao5,c5,rfl,rfl,ho⟩:=hcut
  have HO:Hid (ShowOut w c B ca cc R ao5 c5 T wc):=ho
  obtain⟨⟨c0,c1,_⟩,cf⟩:=eleven ho.cl
  have hltc:=(Array.getElem?_eq_some_iff.1 ho.cl).1
  clear ho
  by_cases hlong:4000 < c.q.length+R.out.length
  ·have hl':(4000:Int) < (c.q.length:Int)+(R.out.length:Int):=by omega
   have HE:Hid (ShowEnd w B (showC v c) (wc.setCell ⟨B,1,none⟩ (.bool true))):=HEND1.out wc T ao5 c5 hlong HO.out
   go_wp2
   exact bodyPost_ret (v:=.tuple #[]) (by simp [results,Tryz.results92,go_sem]) rfl ⟨rfl,HE.out⟩
  ·have hl':(c.q.length:Int)+(R.out.length:Int)≤4000:=by omega
   have HLG:Hid (¬ 4000 < c.q.length+R.out.length):=hlong
   have hnov:¬ 9223372036854775807 < c.q.length+R.out.length:=by omega
   have H0b:Hid (wc.drew.heap[T]?=some (gbox R.g ao5 c5)):=HO.out.box
   have H1:Hid ((wc.setCell ⟨B,0,none⟩ (.string (bs c.q++bs R.out))).drew.heap[B]?=some (clbox {c with q:=c.q++R.out} ca cc)∧ShowKp wc B T R.g ao5 c5 (wc.setCell ⟨B,0,none⟩ (.string (bs c.q++bs R.out))).drew):=by
    have hk0:ShowKp wc B T R.g ao5 c5 wc:=⟨Kp.refl _ _,HO.out.box,HO.out.gl⟩
    have hc0:wc.heap[B]?=some (clbox c ca cc):=HO.out.cl
    have hk1:=hk0.next hc0 (set_kp wc B 0 (.string (bs c.q++bs R.out)))
    exact⟨cl_put_q hc0 R.out,hk1.kp.drew,hk1.box,hk1.gl⟩
   clear hlong HSC HBT H0
   go_wp2_with fail
   refine bg (fun w'=>w'.heap[T]?=some (gbox R.g ao5 c5)) H0b.out (fun hHeld=>?_)
   refine tk 0 hHeld ?_
   refine tk 1 hHeld ?_
   refine tk 2 hHeld ?_
   refine tk 3 hHeld ?_
   refine tk 4 hHeld ?_
   refine tk 5 hHeld ?_
   refine tk 7 hHeld ?_
   refine ty 9 rfl (gval R.g ao5 c5) (yields_gmid (by rfl) _ rfl T 0 rfl R.g ao5 c5 (fun w0 h=>gbox_range h)) hHeld ?_
   refine wpAnyH_ready (rs:=[6]) (by kernel_rfl) (by simp) ?_
   refine AllReadyH.cons rfl (fun K hK=>?_) AllReadyH.nil
   go_simp
   refine hK.out _ _ H0b.out (fun hHeld=>?_)
   clear hK K
   refine pt ?_
   refine tk 8 hHeld ?_
   refine tk 10 hHeld ?_
   refine tk 11 hHeld ?_
   refine wpAnyH_ready (rs:=[12]) (by kernel_rfl) (by simp) ?_
   refine AllReadyH.cons rfl (fun K hK=>?_) AllReadyH.nil
   go_simp
   refine hK.out _ _ H1.out.2.box (fun hHeld=>?_)
   clear hK K
   generalize (wc.setCell ⟨B,0,none⟩ (.string (bs c.q++bs R.out))).drew=W1 at*
   have hth:Hid (W1.there B 2 9):=cl_there H1.out.1
   have H2:Hid ((W1.setCells B 2 (gcells R.g ao5 c5).toList).heap[B]?=some (clbox {c with q:=c.q++R.out,g:=R.g} ao5 c5)∧ShowKp wc B T R.g ao5 c5 (W1.setCells B 2 (gcells R.g ao5 c5).toList)):=⟨cl_put_g H1.out.1 R.g ao5 c5,H1.out.2.next H1.out.1 (setCells_kp B _ _ _)⟩
   refine pt ?_
   refine tk 13 hHeld ?_
   refine tk 14 hHeld ?_
   refine wpAnyH_ready (rs:=[15]) (by kernel_rfl) (by simp) ?_
   refine AllReadyH.cons rfl (fun K hK=>?_) AllReadyH.nil
   refine wanted_go (by kernel_rfl) ?_
   refine wp_store_mid 40 _ _ rfl B 2 (gcells R.g ao5 c5) rfl rfl hth.out Pt.infoG (gone _ _ _) ?_
   refine hK.out _ _ H2.out.2.box (fun hHeld=>?_)
   clear hK K
   generalize W1.setCells B 2 (gcells R.g ao5 c5).toList=W2 at*
   obtain⟨⟨_,z1,_⟩,zf⟩:=eleven H2.out.1
   have H3:Hid ((W2.setCell ⟨B,1,none⟩ (.bool false)).heap[B]?=some (clbox {c with q:=c.q++R.out,lost:=false,g:=R.g} ao5 c5)∧ShowKp wc B T R.g ao5 c5 (W2.setCell ⟨B,1,none⟩ (.bool false))):=⟨cl_put_l H2.out.1 false,H2.out.2.next H2.out.1 (set_kp W2 B _ _)⟩
   (try simp only [Act.put,List.getElem_toArray,List.getElem_cons_zero,List.getElem_cons_succ])
   refine tk 16 hHeld ?_
   refine tk 17 hHeld ?_
   refine wpAnyH_ready (rs:=[18]) (by kernel_rfl) (by simp) ?_
   refine AllReadyH.cons rfl (fun K hK=>?_) AllReadyH.nil
   go_simp
   refine hK.out _ _ H3.out.2.box (fun hHeld=>?_)
   clear hK K
   refine pt ?_
   refine dn ?_
   have HE:=HEND2.out wc _ T ao5 c5 HLG.out HO.out H3.out.1 H3.out.2
   go_wp2
   go_end0
   exact⟨rfl,HE⟩
end Go.Proofs.YtjikokfjnbhngaaGreatDoor.Sv

/- A lost client to which nothing waits is shown what it is to see. -/
namespace Go.Proofs.YtjikokfjnbhngaaGreatDoor.Sv
open Go.RowKit
open Go.Proofs.YtjikokfjnbhngaaGreatDoor.Pt (Vw VC RdV screenV)
set_option maxRecDepth 100000
set_option maxHeartbeats 8000000 in
theorem show_anew (c:Cl) (okc:OkC c) (hlost:c.lost=true) (hq0:c.q=[]) (B:Nat) (ca:Option Addr) (cc:Nat) (v:Vw) (l:Pt.Lay) (C:Array Value) (hC:VC v l C) (okv:OkV v) (w:World) (hb:w.heap[B]?=some (clbox c ca cc)) (hg:Gl w ca cc c.g) (hv:RdV w v l):
  Calls Tryz.prog 92 #[.pointer (some ⟨B,0,none⟩),.agg C] w fun e w'=>e=.returned (.tuple #[])∧ShowEnd w B (showC v c) w':=by
 obtain⟨R,hR⟩:∃ R,R=moreC v c:=⟨_,rfl⟩
 obtain⟨x,hx⟩:∃ x,x=screenV v c.g.wide c.g.high:=⟨_,rfl⟩
 have hd:Draws c.g x R:=by rw [hx,hR];exact more_draws okv okc.g
 have HPOS:Hid (0 < R.g.n):=ok_pos hd.ok
 have hshort:R.out.length≤2490:=hd.short
 have hqs:=okc.short
 obtain⟨sx1,sx2,sx3,sx4⟩:=screen_ok okv c.g.wide c.g.high
 rw [←hx] at sx1 sx2 sx3 sx4
 obtain⟨nx1,nx2,_⟩:=sx1.nums
 obtain⟨ng1,ng2,_⟩:=okc.g.nums
 have hlow:Pt.LowV v:=fun p hp=>by
  rcases okv.grid p hp with e | e
  ·rw [e];exact⟨by show (-9223372036854775808:Int)≤0;omega,by show (-9223372036854775808:Int)≤0;omega⟩
  ·have:=e.r1
   have:=e.c1
   exact⟨by omega,by omega⟩
 have HSZ:Hid (C.size=58):=hC.size
 have HSC:Hid (∀ W,ShowIn w C c B ca cc W→Calls Tryz.prog 38 #[.agg C,.int .i64 c.g.wide,.int .i64 c.g.high] W fun e w'=>∃ b,e=.returned (gval x (some ⟨b,0,none⟩) x.n)∧Scr w' b x.n x.f∧Below W.heap.size W w'):=fun W hW=>Pt.screen_any v l C hC c.g.wide c.g.high W (hv.below hW.bel) hlow x hx
 have HNOT:Hid (¬ (c.lost=true∧c.q≠[])):=fun h=>h.2 hq0
 have HBT:Hid (∀ W b,ShowIn w C c B ca cc W→Scr W b x.n x.f→Calls Tryz.prog 114 #[gval x (some ⟨b,0,none⟩) x.n] W (DrawEnd W (R.out,R.g,0))):=fun W b hW hs=>by
  have hm:R=anewP x:=by rw [hR,hx];unfold moreC;rw [if_pos hlost]
  rw [hm]
  exact anew_yes x (some ⟨b,0,none⟩) x.n W hs.rd (Nat.le_refl _) sx1 sx2
 have HEND1:Hid (∀ w5 T ao cap,4000 < c.q.length+R.out.length→ShowOut w c B ca cc R ao cap T w5→ShowEnd w B (showC v c) (w5.setCell ⟨B,1,none⟩ (.bool true))):=fun w5 T ao cap hlong ho=>by
  have e:showC v c={c with lost:=true}:=by unfold showC;rw [if_neg HNOT.out, ←hR,if_pos hlong]
  rw [e]
  have hcl:Gl w5 ca cc c.g:=hg.below ho.bel
  refine⟨ca,cc,(Kp.of_below _ ho.bel).trans (set_kp w5 B _ _) (fun _ e=>.inl e),cl_put_l ho.cl true,hcl.keep fun b y hy=>Below.heap_setCell _ _ _ _ (fun e=>?_)⟩
  simp only at e
  rw [e,ho.cl] at hy
  simp only [Option.some.injEq,Obj.cells.injEq] at hy
  exact absurd hy.2.1 (by decide)
 have HEND2:Hid (∀ wc w5 T ao cap,¬ 4000 < c.q.length+R.out.length→ShowOut w c B ca cc R ao cap T wc→w5.heap[B]?=some (clbox {c with q:=c.q++R.out,lost:=false,g:=R.g} ao cap)→ShowKp wc B T R.g ao cap w5→ShowEnd w B (showC v c) w5):=fun wc w5 T ao cap hlong ho h5 hk=>by
  have e:showC v c={c with q:=c.q++R.out,lost:=false,g:=R.g}:=by unfold showC;rw [if_neg HNOT.out, ←hR,if_neg hlong]
  rw [e]
  exact⟨ao,cap,(Kp.of_below _ ho.bel).trans hk.kp (fun _ e=>.inl e),h5,hk.gl⟩
 have H0w:Hid (ShowIn w C c B ca cc (w.alloc (Pt.cbox C))):=⟨at_new _ _,at_old hb _,below1 _ _,by simp⟩
 obtain⟨⟨c0,c1,_⟩,cf⟩:=eleven hb
 have hlt:=(Array.getElem?_eq_some_iff.1 hb).1
 rw [hlost] at c1
 have hsz1:(bs c.q).size=c.q.length:=bs_size _
 have hsz2:(bs R.out).size=R.out.length:=bs_size _
 clear hR hx hd okc okv hC hb hg hv hlow sx1 sx2 sx3 sx4 nx1 nx2 ng1 ng2 hlost
 go_enter Tryz.func92,Tryz.ntmps92
 go_wp2_with fail
 show Code.wp _ _ _ _ (w.alloc (Pt.cbox C))
 generalize hW0:w.alloc (Pt.cbox C)=W0 at*
 have H0:Hid (ShowIn w C c B ca cc W0):=H0w.out
 clear hW0 H0w c0 c1 cf hq0
 go_cut [5,6] from 29 to 46 (fun t5 t6 wx=>ShowMid w c B ca cc R t5 t6 wx)
 case first=>
  refine bg (fun w'=>w'.heap[w.heap.size]?=some (Pt.cbox C)∧w'.cell? ⟨B,2,none⟩=some (.int .i64 c.g.wide)∧w'.cell? ⟨B,3,none⟩=some (.int .i64 c.g.high)) ⟨H0.out.view,H0.out.wide,H0.out.high⟩ (fun hHeld=>?_)
  refine tk 0 hHeld ?_
  refine ty 1 rfl (.agg C) (Pt.yields_view (by rfl) _ rfl w.heap.size rfl C HSZ.out (fun w0 h=>h.1)) hHeld ?_
  refine tk 2 hHeld ?_
  refine tk 3 hHeld ?_
  refine tk 4 hHeld ?_
  refine tk 5 hHeld ?_
  refine tk 6 hHeld ?_
  refine tk 7 hHeld ?_
  refine tk 8 hHeld ?_
  refine tk 9 hHeld ?_
  refine tk 10 hHeld ?_
  refine tk 11 hHeld ?_
  refine wpAnyH_ready (rs:=[12,18]) (by kernel_rfl) (by simp) ?_
  refine AllReadyH.cons rfl (fun K hK=>?_) (AllReadyH.cons rfl (fun K hK=>?_) AllReadyH.nil)
  ·go_simp
   go_at_call 38
   refine(HSC.out _ H0.out.drew).mono ?_
   rintro e w3 ⟨b,rfl,hs3,hb3⟩
   have H3:Hid (ShowIn w C c B ca cc w3∧Scr w3 b x.n x.f):=⟨H0.out.below (undrewS hb3),hs3⟩
   have H3a:Hid (ShowIn w C c B ca cc w3):=H3.out.1
   clear hs3 hb3
   (try go_simp)
   refine hK.out _ _ ⟨H3a.out.view,H3a.out.wide,H3a.out.high⟩ (fun hHeld=>?_)
   clear hK K
   refine pt ?_
   refine wpAnyH_ready (rs:=[13,18]) (by kernel_rfl) (by simp) ?_
   refine AllReadyH.cons rfl (fun K hK=>?_) (AllReadyH.cons rfl (fun K hK=>?_) AllReadyH.nil)
   ·go_simp
    go_at_call 114
    refine(HBT.out _ b H3.out.1 H3.out.2).mono ?_
    rintro e w4 ⟨ao4,c4,rfl,hcp⟩
    have H4:Hid (ShowGl R ao4 c4 w4):=show_gl HPOS.out hcp
    have H4a:Hid (ShowIn w C c B ca cc w4):=H3.out.1.below hcp.2.2
    clear hcp
    (try go_simp)
    refine hK.out _ _ ⟨H4a.out.view,H4a.out.wide,H4a.out.high⟩ (fun hHeld=>?_)
    clear hK K
    refine pt ?_
    have HX:Hid (ShowIn w C c B ca cc (w4.alloc gzero)∧(w4.alloc gzero).heap[w4.heap.size]?=some gzero):=⟨H4a.out.below (below1 _ _),at_new _ _⟩
    have HXa:Hid (ShowIn w C c B ca cc (w4.alloc gzero)):=HX.out.1
    have H6:Hid (ShowOut w c B ca cc R ao4 c4 w4.heap.size (w4.alloc (gbox R.g ao4 c4))):=show_new H4a.out H4.out
    have HXb:Hid (ShowIn w C c B ca cc (w4.alloc (gbox R.g ao4 c4))):=H4a.out.below (below1 _ _)
    have hTn:w.heap.size < w4.heap.size:=H4a.out.lt
    refine tk 14 hHeld ?_
    refine tk 15 hHeld ?_
    refine tk 16 hHeld ?_
    refine tk 17 hHeld ?_
    refine wpAnyH_ready (rs:=[18]) (by kernel_rfl) (by simp) ?_
    refine AllReadyH.cons rfl (fun K hK=>?_) AllReadyH.nil
    go_simp
    refine hK.out _ _ ⟨HXa.out.view,HXa.out.wide,HXa.out.high⟩ (fun hHeld=>?_)
    clear hK K
    refine pt ?_
    refine tk 19 hHeld ?_
    refine wpAnyH_ready (rs:=[20]) (by kernel_rfl) (by simp) ?_
    refine AllReadyH.cons rfl (fun K hK=>?_) AllReadyH.nil
    go_simp
    refine hK.out _ _ ⟨HXb.out.view,HXb.out.wide,HXb.out.high⟩ (fun hHeld=>?_)
    clear hK K
    refine pt ?_
    refine tk 21 hHeld ?_
    refine dn ?_
    go_wp2_with fail
    go_meet
    exact⟨w4.heap.size,ao4,c4,rfl,rfl,H6.out⟩
   ·go_simp
    have HX:Hid (ShowIn w C c B ca cc (w3.alloc gzero)∧(w3.alloc gzero).heap[w3.heap.size]?=some gzero∧Scr (w3.alloc gzero) b x.n x.f):=⟨H3.out.1.below (below1 _ _),at_new _ _,H3.out.2.alloc _⟩
    have HXa:Hid (ShowIn w C c B ca cc (w3.alloc gzero)):=HX.out.1
    have hTn:w.heap.size < w3.heap.size:=H3.out.1.lt
    refine hK.out _ _ ⟨HXa.out.view,HXa.out.wide,HXa.out.high⟩ (fun hHeld=>?_)
    clear hK K
    refine pt ?_
    refine wpAnyH_ready (rs:=[13]) (by kernel_rfl) (by simp) ?_
    refine AllReadyH.cons rfl (fun K hK=>?_) AllReadyH.nil
    go_simp
    go_at_call 114
    refine(HBT.out _ b HX.out.1 HX.out.2.2).mono ?_
    rintro e w4 ⟨ao4,c4,rfl,hcp⟩
    have H4:Hid (ShowGl R ao4 c4 w4):=show_gl HPOS.out hcp
    have H4a:Hid (ShowIn w C c B ca cc w4):=HX.out.1.below hcp.2.2
    have H5:Hid (ShowIn w C c B ca cc w4∧w4.heap[w3.heap.size]?=some gzero):=⟨H4a.out,below_block hcp.2.2 HX.out.2.1 (Array.getElem?_eq_some_iff.1 HX.out.2.1).1⟩
    clear hcp
    (try go_simp)
    refine hK.out _ _ ⟨H4a.out.view,H4a.out.wide,H4a.out.high⟩ (fun hHeld=>?_)
    clear hK K
    refine pt ?_
    refine tk 14 hHeld ?_
    refine tk 15 hHeld ?_
    refine tk 16 hHeld ?_
    refine tk 17 hHeld ?_
    refine tk 19 hHeld ?_
    refine wpAnyH_ready (rs:=[20]) (by kernel_rfl) (by simp) ?_
    refine AllReadyH.cons rfl (fun K hK=>?_) AllReadyH.nil
    refine wanted_go (by kernel_rfl) ?_
    refine wp_gbox _ _ rfl w3.heap.size R.g ao4 c4 rfl rfl _ H5.out.2 rfl ?_
    intro w6 hw6
    have H6:Hid (ShowIn w C c B ca cc w6∧ShowOut w c B ca cc R ao4 c4 w3.heap.size w6):=show_store H5.out.1 H4.out H5.out.2 hw6.out.1 hw6.out.2 hTn
    clear hw6
    have H6a:Hid (ShowIn w C c B ca cc w6):=H6.out.1
    refine hK.out _ _ ⟨H6a.out.view,H6a.out.wide,H6a.out.high⟩ (fun hHeld=>?_)
    clear hK K
    refine pt ?_
    refine tk 21 hHeld ?_
    refine dn ?_
    go_wp2_with fail
    go_meet
    exact⟨w3.heap.size,ao4,c4,rfl,rfl,H6.out.2⟩
  ·go_simp
   have HX:Hid (ShowIn w C c B ca cc (W0.alloc gzero).drew∧(W0.alloc gzero).drew.heap[W0.heap.size]?=some gzero):=⟨H0.out.below ((below1 _ _).drew),at_new _ _⟩
   have HXa:Hid (ShowIn w C c B ca cc (W0.alloc gzero).drew):=HX.out.1
   have hTn:w.heap.size < W0.heap.size:=H0.out.lt
   refine hK.out _ _ ⟨HXa.out.view,HXa.out.wide,HXa.out.high⟩ (fun hHeld=>?_)
   clear hK K
   refine pt ?_
   refine wpAnyH_ready (rs:=[12]) (by kernel_rfl) (by simp) ?_
   refine AllReadyH.cons rfl (fun K hK=>?_) AllReadyH.nil
   go_simp
   go_at_call 38
   refine(HSC.out _ HX.out.1).mono ?_
   rintro e w3 ⟨b,rfl,hs3,hb3⟩
   have H3:Hid (ShowIn w C c B ca cc w3∧Scr w3 b x.n x.f∧w3.heap[W0.heap.size]?=some gzero):=⟨HX.out.1.below hb3,hs3,below_block hb3 HX.out.2 (Array.getElem?_eq_some_iff.1 HX.out.2).1⟩
   have H3a:Hid (ShowIn w C c B ca cc w3):=H3.out.1
   clear hs3 hb3
   (try go_simp)
   refine hK.out _ _ ⟨H3a.out.view,H3a.out.wide,H3a.out.high⟩ (fun hHeld=>?_)
   clear hK K
   refine pt ?_
   refine wpAnyH_ready (rs:=[13]) (by kernel_rfl) (by simp) ?_
   refine AllReadyH.cons rfl (fun K hK=>?_) AllReadyH.nil
   go_simp
   go_at_call 114
   refine(HBT.out _ b H3.out.1 H3.out.2.1).mono ?_
   rintro e w4 ⟨ao4,c4,rfl,hcp⟩
   have H4:Hid (ShowGl R ao4 c4 w4):=show_gl HPOS.out hcp
   have H4a:Hid (ShowIn w C c B ca cc w4):=H3.out.1.below hcp.2.2
   have H5:Hid (ShowIn w C c B ca cc w4∧w4.heap[W0.heap.size]?=some gzero):=⟨H4a.out,below_block hcp.2.2 H3.out.2.2 (Array.getElem?_eq_some_iff.1 H3.out.2.2).1⟩
   clear hcp
   (try go_simp)
   refine hK.out _ _ ⟨H4a.out.view,H4a.out.wide,H4a.out.high⟩ (fun hHeld=>?_)
   clear hK K
   refine pt ?_
   refine tk 14 hHeld ?_
   refine tk 15 hHeld ?_
   refine tk 16 hHeld ?_
   refine tk 17 hHeld ?_
   refine tk 19 hHeld ?_
   refine wpAnyH_ready (rs:=[20]) (by kernel_rfl) (by simp) ?_
   refine AllReadyH.cons rfl (fun K hK=>?_) AllReadyH.nil
   refine wanted_go (by kernel_rfl) ?_
   refine wp_gbox _ _ rfl W0.heap.size R.g ao4 c4 rfl rfl _ H5.out.2 rfl ?_
   intro w6 hw6
   have H6:Hid (ShowIn w C c B ca cc w6∧ShowOut w c B ca cc R ao4 c4 W0.heap.size w6):=show_store H5.out.1 H4.out H5.out.2 hw6.out.1 hw6.out.2 hTn
   clear hw6
   have H6a:Hid (ShowIn w C c B ca cc w6):=H6.out.1
   refine hK.out _ _ ⟨H6a.out.view,H6a.out.wide,H6a.out.high⟩ (fun hHeld=>?_)
   clear hK K
   refine pt ?_
   refine tk 21 hHeld ?_
   refine dn ?_
   go_wp2_with fail
   go_meet
   exact⟨W0.heap.size,ao4,c4,rfl,rfl,H6.out.2⟩
 case rest=>
  obtain⟨T,ao5,c5,rfl,rfl,ho⟩:=hcut
  have HO:Hid (ShowOut w c B ca cc R ao5 c5 T wc):=ho
  obtain⟨⟨c0,c1,_⟩,cf⟩:=eleven ho.cl
  have hltc:=(Array.getElem?_eq_some_iff.1 ho.cl).1
  clear ho
  by_cases hlong:4000 < c.q.length+R.out.length
  ·have hl':(4000:Int) < (c.q.length:Int)+(R.out.length:Int):=by omega
   have HE:Hid (ShowEnd w B (showC v c) (wc.setCell ⟨B,1,none⟩ (.bool true))):=HEND1.out wc T ao5 c5 hlong HO.out
   go_wp2
   exact bodyPost_ret (v:=.tuple #[]) (by simp [results,Tryz.results92,go_sem]) rfl ⟨rfl,HE.out⟩
  ·have hl':(c.q.length:Int)+(R.out.length:Int)≤4000:=by omega
   have HLG:Hid (¬ 4000 < c.q.length+R.out.length):=hlong
   have hnov:¬ 9223372036854775807 < c.q.length+R.out.length:=by omega
   have H0b:Hid (wc.drew.heap[T]?=some (gbox R.g ao5 c5)):=HO.out.box
   have H1:Hid ((wc.setCell ⟨B,0,none⟩ (.string (bs c.q++bs R.out))).drew.heap[B]?=some (clbox {c with q:=c.q++R.out} ca cc)∧ShowKp wc B T R.g ao5 c5 (wc.setCell ⟨B,0,none⟩ (.string (bs c.q++bs R.out))).drew):=by
    have hk0:ShowKp wc B T R.g ao5 c5 wc:=⟨Kp.refl _ _,HO.out.box,HO.out.gl⟩
    have hc0:wc.heap[B]?=some (clbox c ca cc):=HO.out.cl
    have hk1:=hk0.next hc0 (set_kp wc B 0 (.string (bs c.q++bs R.out)))
    exact⟨cl_put_q hc0 R.out,hk1.kp.drew,hk1.box,hk1.gl⟩
   clear hlong HSC HBT H0
   go_wp2_with fail
   refine bg (fun w'=>w'.heap[T]?=some (gbox R.g ao5 c5)) H0b.out (fun hHeld=>?_)
   refine tk 0 hHeld ?_
   refine tk 1 hHeld ?_
   refine tk 2 hHeld ?_
   refine tk 3 hHeld ?_
   refine tk 4 hHeld ?_
   refine tk 5 hHeld ?_
   refine tk 7 hHeld ?_
   refine ty 9 rfl (gval R.g ao5 c5) (yields_gmid (by rfl) _ rfl T 0 rfl R.g ao5 c5 (fun w0 h=>gbox_range h)) hHeld ?_
   refine wpAnyH_ready (rs:=[6]) (by kernel_rfl) (by simp) ?_
   refine AllReadyH.cons rfl (fun K hK=>?_) AllReadyH.nil
   go_simp
   refine hK.out _ _ H0b.out (fun hHeld=>?_)
   clear hK K
   refine pt ?_
   refine tk 8 hHeld ?_
   refine tk 10 hHeld ?_
   refine tk 11 hHeld ?_
   refine wpAnyH_ready (rs:=[12]) (by kernel_rfl) (by simp) ?_
   refine AllReadyH.cons rfl (fun K hK=>?_) AllReadyH.nil
   go_simp
   refine hK.out _ _ H1.out.2.box (fun hHeld=>?_)
   clear hK K
   generalize (wc.setCell ⟨B,0,none⟩ (.string (bs c.q++bs R.out))).drew=W1 at*
   have hth:Hid (W1.there B 2 9):=cl_there H1.out.1
   have H2:Hid ((W1.setCells B 2 (gcells R.g ao5 c5).toList).heap[B]?=some (clbox {c with q:=c.q++R.out,g:=R.g} ao5 c5)∧ShowKp wc B T R.g ao5 c5 (W1.setCells B 2 (gcells R.g ao5 c5).toList)):=⟨cl_put_g H1.out.1 R.g ao5 c5,H1.out.2.next H1.out.1 (setCells_kp B _ _ _)⟩
   refine pt ?_
   refine tk 13 hHeld ?_
   refine tk 14 hHeld ?_
   refine wpAnyH_ready (rs:=[15]) (by kernel_rfl) (by simp) ?_
   refine AllReadyH.cons rfl (fun K hK=>?_) AllReadyH.nil
   refine wanted_go (by kernel_rfl) ?_
   refine wp_store_mid 40 _ _ rfl B 2 (gcells R.g ao5 c5) rfl rfl hth.out Pt.infoG (gone _ _ _) ?_
   refine hK.out _ _ H2.out.2.box (fun hHeld=>?_)
   clear hK K
   generalize W1.setCells B 2 (gcells R.g ao5 c5).toList=W2 at*
   obtain⟨⟨_,z1,_⟩,zf⟩:=eleven H2.out.1
   have H3:Hid ((W2.setCell ⟨B,1,none⟩ (.bool false)).heap[B]?=some (clbox {c with q:=c.q++R.out,lost:=false,g:=R.g} ao5 c5)∧ShowKp wc B T R.g ao5 c5 (W2.setCell ⟨B,1,none⟩ (.bool false))):=⟨cl_put_l H2.out.1 false,H2.out.2.next H2.out.1 (set_kp W2 B _ _)⟩
   (try simp only [Act.put,List.getElem_toArray,List.getElem_cons_zero,List.getElem_cons_succ])
   refine tk 16 hHeld ?_
   refine tk 17 hHeld ?_
   refine wpAnyH_ready (rs:=[18]) (by kernel_rfl) (by simp) ?_
   refine AllReadyH.cons rfl (fun K hK=>?_) AllReadyH.nil
   go_simp
   refine hK.out _ _ H3.out.2.box (fun hHeld=>?_)
   clear hK K
   refine pt ?_
   refine dn ?_
   have HE:=HEND2.out wc _ T ao5 c5 HLG.out HO.out H3.out.1 H3.out.2
   go_wp2
   go_end0
   exact⟨rfl,HE⟩
end Go.Proofs.YtjikokfjnbhngaaGreatDoor.Sv
