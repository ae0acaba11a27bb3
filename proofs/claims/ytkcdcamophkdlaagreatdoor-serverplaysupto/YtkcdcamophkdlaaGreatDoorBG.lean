import Derived.Test.YtkcdcamophkdlaaGreatDoorBA
import Derived.Test.YtkcdcamophkdlaaGreatDoorBD
import Derived.Test.YtkcdcamophkdlaaGreatDoorBF
set_option maxHeartbeats 8000000
set_option maxRecDepth 100000
open Go.Proofs.Tryz
namespace Go.Proofs.YtkcdcamophkdlaaGreatDoor.Sv
open Go.RowKit
variable {w w4 w5:World} {ao:Option Addr} {cap B:Nat} {op:Oper} {a:Act} {c:Cl}
theorem GH {K:Act->World->Prop} {Q:Exit->Act->World->Prop} (x y:Operand) (f:op.op=.store 33 x y) (B:Nat) (g:Gr) (ao:Option Addr) (cap:Nat) (l:a.eval x=.pointer (some ⟨B,0,none⟩)) (m:a.eval y=ay g ao cap) (b:Array Value) (e:w.heap[B]?=some (.cells b 33 (0,0))) (d:b.size=9) (h:∀ w',Hid (w'.heap[B]?=some (aB g ao cap)∧w.grownBy w' (some B))->K (a.put op.dst undef) w'):op.wp prog a w K Q:=
 wp_store_row _ x y f B (bE g ao cap) l m _ b e RP d (gone g ao cap) (h _ ⟨setRow_heap w B _ _ _ _ e,yX w B _⟩)
theorem Kh {ops:Array Oper} {T:World->Prop} (f:Region.wanted op (yielded ops a.tmps)=true) (x:Operand) (e:op.op=.load 33 x) (b o:Nat) (h:a.eval x=.pointer (some ⟨b,o,none⟩)) (g:Gr) (ao:Option Addr) (cap:Nat) (d:∀ w,T w->w.rangeAt b o (bE g ao cap).toList):YieldsIf prog ops T op (ay g ao cap) a:=
 yieldsIf_load_mid (P:=prog) f 33 x e b o h (bE g ao cap).toList _ d underlying33 rfl Pt.nJ
theorem X3 (h:w.heap[B]?=some (dR c ao cap)):w.rangeAt B 2 (bE c.g ao cap).toList:=fun j x b=>by
 have d:j < 9:=(gL b).1
 rw [cell_of_row w B (2+j) _ _ _ h, <-b]
 have:j=0∨j=1∨j=2∨j=3∨j=4∨j=5∨j=6∨j=7∨j=8:=by omega
 rcases this with rfl | rfl | rfl | rfl | rfl | rfl | rfl | rfl | rfl <;>rfl
theorem Mx {g:Gr} (h:w.heap[B]?=some (aB g ao cap)):w.rangeAt B 0 (bE g ao cap).toList:=fun j x b=>by
 rw [Nat.zero_add,cell_of_row w B j _ _ _ h]
 simpa using b
structure Il (w:World) (B:Nat) (c:Cl) (ca:Option Addr) (cc:Nat) (t:Gr) (ta:Option Addr) (ct:Nat) (R:List UInt8×Gr×Int) (ao:Option Addr) (cap:Nat) (w4:World):Prop where
 cl:w4.heap[B]?=some (dR c ca cc)
 box:w4.heap[w.heap.size]?=some (aB t ta ct)
 res:w4.heap[w.heap.size+1]?=some aV
 gl:eH w R.2.1.n R.2.1.f ao cap w4
structure PY (w:World) (B:Nat) (c:Cl) (ca:Option Addr) (cc:Nat) (t:Gr) (ta:Option Addr) (ct:Nat) (R:List UInt8×Gr×Int) (ao:Option Addr) (cap:Nat) (w4:World):Prop where
 cl:w4.heap[B]?=some (dR c ca cc)
 box:w4.heap[w.heap.size]?=some (aB t ta ct)
 res:w4.heap[w.heap.size+1]?=some (aB R.2.1 ao cap)
 gl:eH w R.2.1.n R.2.1.f ao cap w4
theorem Ym {n:Nat} {f:Nat->aH} {T:Nat} {x:Array Value} {t:TypeId} {p:Nat×Nat} (h:eH w n f ao cap w4) (v:w4.heap[T]?=some (.cells x t p)) (D:t≠65) (u:w.heap.size<=T) (o:w4.grownBy w5 (some T)):eH w n f ao cap w5:=by
 have g:∀ b,av w4 b n f->av w5 b n f:=fun b l=>by
  obtain⟨_,d,_⟩:=id l;refine l.grown o (fun e=>?_);simp only [Option.some.injEq] at e;rw [e,v] at d;simp only [Option.some.injEq,Obj.cells.injEq] at d;exact D d.2.1
 refine⟨?_,fun z=>?_,below_grown h.2.2 u o⟩
 ·rcases Nat.eq_zero_or_pos n with m | m
  ·exact .inl m
  ·obtain⟨b,y,_,_,l⟩:=h.2.1 m;rw [y];exact(g b l).rd
 ·obtain⟨b,d,q,r,s⟩:=h.2.1 z;exact⟨b,d,q,r,g b s⟩
theorem Il.store {ca:Option Addr} {cc:Nat} {t:Gr} {l:Option Addr} {g:Nat} {R:List UInt8×Gr×Int} (h:Il w B c ca cc t l g R ao cap w4) (m:w5.heap[w.heap.size+1]?=some (aB R.2.1 ao cap)) (d:w4.grownBy w5 (some (w.heap.size+1))):PY w B c ca cc t l g R ao cap w5:=by
 have f:B≠w.heap.size+1:=fun e=>by
  have b:=h.cl;rw [e,h.res] at b;simp only [Option.some.injEq,Obj.cells.injEq] at b;exact absurd b.2.1 (by decide)
 exact⟨bH d h.cl (by simpa using f),bH d h.box (by simp),m,Ym h.gl h.res (by decide) (by omega) d⟩
theorem aho (c:Cl) (B:Nat) (ca:Option Addr) (cc:Nat) (t:Gr) (l:Option Addr) (e:Nat) (w:World) (F:w.heap[B]?=some (dR c ca cc)) (G:Gl w ca cc c.g) (H:c.g.n<=4398046511104) (N:aL w l t.n t.f) (J:t.n<=4398046511104) (I:t.n<=e):
  kC 91 #[.pointer (some ⟨B,0,none⟩),ay t l e] w (yx w (DT c.g t)):=by
 obtain⟨R,E⟩:∃ R,R=DT c.g t:=⟨_,rfl⟩;rw [<-E];have o:Below w.heap.size w ((w.alloc (aB t l e)).alloc aV):=(aM _ _).alloc (by simp) _;have u:Below w.heap.size w ((w.alloc (aB t l e)).alloc aV).drew:=o.drew;have P:Hid (kC 106 #[ay c.g ca cc,ay t l e] ((w.alloc (aB t l e)).alloc aV).drew (yx ((w.alloc (aB t l e)).alloc aV).drew R)):=by
  rw [E];exact ahn c.g ca cc t l e _ (G.below u).rd G.none H (N.below u) J I
 have s:Hid (((w.alloc (aB t l e)).alloc aV).heap[B]?=some (dR c ca cc)∧((w.alloc (aB t l e)).alloc aV).heap[w.heap.size]?=some (aB t l e)∧((w.alloc (aB t l e)).alloc aV).heap[w.heap.size+1]?=some aV):=⟨aF (aF F _) _,aF (at_new w _) _,bK w _ _⟩;have O:Hid (∀ w4 q r,eH ((w.alloc (aB t l e)).alloc aV).drew R.2.1.n R.2.1.f q r w4->Il w B c ca cc t l e R q r w4):=fun w4 q r m=>by
  have p:Below ((w.alloc (aB t l e)).alloc aV).heap.size ((w.alloc (aB t l e)).alloc aV) w4:=jq m.2.2;have y:w.heap.size<=((w.alloc (aB t l e)).alloc aV).heap.size:=o.size;refine⟨aG p s.out.1 (gQ s.out.1).1,aG p s.out.2.1 (gQ s.out.2.1).1,aG p s.out.2.2 (gQ s.out.2.2).1,m.1,fun Y=>?_,o.trans (p.mono y)⟩;obtain⟨b,U,V,W,X⟩:=m.2.1 Y;exact⟨b,U,Nat.le_trans y V,W,X⟩
 have:=(gQ F).1;clear F G N E o u;go_enter func91,ntmps91;go_wp2_with fail;refine bg (fun w'=>w'.heap[B]?=some (dR c ca cc)∧w'.heap[w.heap.size]?=some (aB t l e)) ⟨s.out.1,s.out.2.1⟩ (fun d=>?_);refine tk 0 d ?_;refine tk 1 d ?_;refine tk 2 d ?_;refine ty 3 rfl (ay c.g ca cc) (Kh (by rfl) _ rfl B 2 rfl c.g ca cc (fun Z h=>X3 h.1)) d ?_;refine ty 4 rfl (ay t l e) (Kh (by rfl) _ rfl w.heap.size 0 rfl t l e (fun Z h=>Mx h.2)) d ?_;refine rA 5 fun K x=>?_;go_simp;go_at_call 106;refine P.out.mono ?_;rintro _ w4 ⟨q,r,rfl,m⟩;have z:=gH (O.out w4 q r m);clear m
 (try go_simp)
 refine x.out _ _ ⟨z.out.cl,z.out.box⟩ (fun d=>?_);clear x K;refine pt ?_;refine tk 6 d ?_;refine tk 7 d ?_;refine tk 8 d ?_;refine tk 9 d ?_;refine rA 10 fun K x=>?_;refine fM (by kernel_rfl) ?_;refine GH _ _ rfl (w.heap.size+1) R.2.1 q r rfl rfl _ z.out.res rfl ?_;intro w5 M;have D:=gH (z.out.store M.out.1 M.out.2);clear M;refine x.out _ _ ⟨D.out.cl,D.out.box⟩ (fun d=>?_);clear x K;refine pt ?_;refine tk 11 d ?_;refine dn ?_;obtain⟨⟨_,_,_,_,_,_,_,_,_⟩,_⟩:=nine D.out.res;go_wp2;refine bodyPost_ret (v:=.tuple #[.string (bs R.1),ay R.2.1 q r,.int .i64 R.2.2]) (by simp [results,results91,go_sem, *]) rfl ?_;exact⟨q,r,rfl,D.out.gl⟩
open Go.Proofs.YtkcdcamophkdlaaGreatDoor.Pt (Vw VC dw mD)
variable {c:Cl} {B cc cap T:Nat} {ca ao:Option Addr} {w wr w' w4:World} {C:Array Value} {R:bU}
structure bY (w:World) (C:Array Value) (c:Cl) (B:Nat) (ca:Option Addr) (cc:Nat) (wr:World):Prop where
 view:wr.heap[w.heap.size]?=some (Pt.bf C)
 cl:wr.heap[B]?=some (dR c ca cc)
 nY:Below w.heap.size w wr
 lt:w.heap.size < wr.heap.size
theorem bY.later (h:bY w C c B ca cc wr) (b:Below wr.heap.size wr w'):bY w C c B ca cc w':=
 ⟨aG b h.view h.lt,aG b h.cl (gQ h.cl).1,h.nY.trans (b.mono h.nY.size),Nat.lt_of_lt_of_le h.lt b.size⟩
theorem bY.below (h:bY w C c B ca cc wr) (b:Below wr.heap.size wr w'):bY w C c B ca cc w':=h.later b
theorem bY.drew (h:bY w C c B ca cc wr):bY w C c B ca cc wr.drew:=h.later ((Below.refl _ _).drew)
theorem bY.wide (h:bY w C c B ca cc wr):wr.cell? ⟨B,2,none⟩=some (.int .i64 c.g.wide):=(eleven h.cl).1.2.2.1
theorem bY.high (h:bY w C c B ca cc wr):wr.cell? ⟨B,3,none⟩=some (.int .i64 c.g.high):=(eleven h.cl).1.2.2.2.1
def wW (R:bU) (ao:Option Addr) (cap:Nat) (wr:World):Prop:=Gl wr ao cap R.g
theorem Dy (b:0 < R.g.n) {W:World} (h:eH W R.g.n R.g.f ao cap wr):wW R ao cap wr:=MC b h
structure pK (w:World) (c:Cl) (B:Nat) (ca:Option Addr) (cc:Nat) (R:bU) (ao:Option Addr) (cap:Nat) (T:Nat) (wr:World):Prop where
 box:wr.heap[T]?=some (aB R.g ao cap)
 gl:Gl wr ao cap R.g
 cl:wr.heap[B]?=some (dR c ca cc)
 nY:Below w.heap.size w wr
theorem Uw (h:bY w C c B ca cc w4) (b:wW R ao cap w4):pK w c B ca cc R ao cap w4.heap.size (w4.alloc (aB R.g ao cap)):=
 ⟨at_new _ _,Gl.below b (aM _ _),aF h.cl _,(h.below (aM _ _)).nY⟩
theorem JQ {l:World} (h:bY w C c B ca cc w4) (q:wW R ao cap w4) (o:w4.heap[T]?=some aV) (p:l.heap[T]?=some (aB R.g ao cap)) (b:w4.grownBy l (some T)) (r:w.heap.size < T):
  bY w C c B ca cc l∧pK w c B ca cc R ao cap T l:=by
 have n:B≠T:=fun e=>by
  have m:=h.cl;rw [e,o] at m;simp only [Option.some.injEq,Obj.cells.injEq] at m;exact absurd m.2.1 (by decide)
 have d:=below_grown h.nY (by omega:w.heap.size<=T) b;have f:=bH b h.cl (by simpa using n);exact⟨⟨bH b h.view (by simp;omega),f,d,Nat.lt_of_lt_of_le h.lt b.size⟩,p,Gl.grown q o (by decide) b,f,d⟩
def PV (w:World) (c:Cl) (B:Nat) (ca:Option Addr) (cc:Nat) (R:bU) (t5 t6:Value) (wx:World):Prop:=∃ T ao cap,t5=.string (bs R.out)∧t6=.pointer (some ⟨T,0,none⟩)∧pK w c B ca cc R ao cap T wx
theorem agm (C:Array Value) (w:World):kA 74 #[.pointer none,.agg C] w (.tuple #[]):=by
 have b:Hid (Below w.heap.size w (w.alloc (Pt.bf C))):=aM _ _;go_enter func74,ntmps74;go_wp2;exact bodyPost_ret (v:=.tuple #[]) (by simp [results,results74,go_sem]) rfl ⟨rfl,b.out⟩
def uy (w:World) (B:Nat) (d:Cl) (w':World):Prop:=∃ ca' cc',Kp (fun b=>b=B) w w'∧w'.heap[B]?=some (dR d ca' cc')∧Gl w' ca' cc' d.g
theorem agn (c:Cl) (B:Nat) (ca:Option Addr) (cc:Nat) (C:Array Value) (f:c.lost=true) (l:c.q≠[]) (w:World) (b:w.heap[B]?=some (dR c ca cc)) (d:Gl w ca cc c.g):
  kC 74 #[.pointer (some ⟨B,0,none⟩),.agg C] w fun e w'=>e=.returned (.tuple #[])∧uy w B c w':=by
 have m:Hid (uy w B c (w.alloc (Pt.bf C))):=⟨ca,cc,Kp.of_below _ (aM _ _),aF b _,d.below (aM _ _)⟩;obtain⟨⟨_,n,_⟩,_⟩:=eleven b;have:=(gQ b).1;rw [f] at n;have:c.q.isEmpty=false:=by
  cases h:c.q with
  | nil=>exact absurd h l
  | cons a r=>rfl
 clear b d f l;go_enter func74,ntmps74;go_wp2;exact bodyPost_ret (v:=.tuple #[]) (by simp [results,results74,go_sem]) rfl ⟨rfl,m.out⟩
theorem Qp (h:w.heap[B]?=some (dR c ca cc)) (m:List UInt8):(w.setCell ⟨B,0,none⟩ (.string (bs c.q++bs m))).heap[B]?=some (dR {c with q:=c.q++m} ca cc):=by
 rw [bG h,Xo]
 rfl
theorem Qo (h:w.heap[B]?=some (dR c ca cc)) (g:Gr) (ao:Option Addr) (cap:Nat):(w.setCells B 2 (bE g ao cap).toList).heap[B]?=some (dR {c with g:=g} ao cap):=by
 simp only [World.setCells];rw [bG (bG (bG (bG (bG (bG (bG (bG (bG h _) _) _) _) _) _) _) _) _];refine congrArg (fun c=>some (Obj.cells c 68 (0,0))) ?_
 kernel_rfl
theorem IB (h:w.heap[B]?=some (dR c ca cc)) (l:Bool):(w.setCell ⟨B,1,none⟩ (.bool l)).heap[B]?=some (dR {c with lost:=l} ca cc):=by
 rw [bG h]
 rfl
theorem Qr (h:w.heap[B]?=some (dR c ca cc)):w.there B 2 9:=fun j b=>by
 refine⟨?_,frozen_of_row w B _ _ _ h⟩
 rw [cell_of_row w B (2+j) _ _ _ h]
 have:j=0∨j=1∨j=2∨j=3∨j=4∨j=5∨j=6∨j=7∨j=8:=by omega
 rcases this with rfl | rfl | rfl | rfl | rfl | rfl | rfl | rfl | rfl <;>rfl
structure qV (w0:World) (B T:Nat) (g:Gr) (ao:Option Addr) (cap:Nat) (w1:World):Prop where
 kp:Kp (fun b=>b=B) w0 w1
 box:w1.heap[T]?=some (aB g ao cap)
 gl:Gl w1 ao cap g
theorem qV.next {n:World} {g:Gr} {l o:World} (h:qV n B T g ao cap l) (m:l.heap[B]?=some (dR c ca cc)) (k:Kp (fun b=>b=B) l o):qV n B T g ao cap o:=by
 refine⟨h.kp.trans k (fun _ e=>.inl e),k.at h.box (fun e=>?_),h.gl.keep fun b x d=>k.block b (gQ d).1 (fun e=>?_)⟩
 ·have f:=h.box;rw [e,m] at f;simp only [Option.some.injEq,Obj.cells.injEq] at f;exact absurd f.2.1 (by decide)
 ·rw [e,m] at d;simp only [Option.some.injEq,Obj.cells.injEq] at d;exact absurd d.2.1 (by decide)
theorem agp (c:Cl) (X:su c) (zh:c.lost=false) (B:Nat) (ca:Option Addr) (cc:Nat) (v:Vw) (l:Pt.Lay) (C:Array Value) (hC:VC v l C) (gU:lV v) (w:World) (hb:w.heap[B]?=some (dR c ca cc)) (hg:Gl w ca cc c.g) (hv:dw w v l):
  kC 74 #[.pointer (some ⟨B,0,none⟩),.agg C] w fun e w'=>e=.returned (.tuple #[])∧uy w B (iW v c) w':=by
 obtain⟨R,hR⟩:∃ R,R=xP v c:=⟨_,rfl⟩;obtain⟨x,hx⟩:∃ x,x=mD v c.g.wide c.g.high:=⟨_,rfl⟩;have hd:Draws c.g x R:=by rw [hx,hR];exact NS gU X.g
 have iQ:=gH (A9 hd.ok);have ab:R.out.length<=2490:=hd.short;have al:=X.short;obtain⟨yc,Bn,DL,DN⟩:=OO gU c.g.wide c.g.high;rw [<-hx] at yc Bn DL DN;obtain⟨Ob,Oc,_⟩:=yc.nums;obtain⟨NY,NZ,_⟩:=X.g.nums;have O:Pt.Ii v:=fun p hp=>by
  rcases gU.grid p hp with e | e
  ·rw [e];exact⟨by show (-9223372036854775808:Int)<=0;omega,by show (-9223372036854775808:Int)<=0;omega⟩
  ·have:=e.r1;have:=e.c1;exact⟨by omega,by omega⟩
 have Lb:=gH hC.size;have jN:Hid (∀ W,bY w C c B ca cc W->kC 93 #[.agg C,.int .i64 c.g.wide,.int .i64 c.g.high] W fun e w'=>∃ b,e=.returned (ay x (some ⟨b,0,none⟩) x.n)∧av w' b x.n x.f∧Below W.heap.size W w'):=fun W hW=>Pt.Un v l C hC c.g.wide c.g.high W (hv.below hW.nY) O x hx;have Ej:Hid (¬ (c.lost=true∧c.q≠[])):=fun h=>by rw [zh] at h;simp at h
 have ny:Hid (∀ W b,bY w C c B ca cc W->av W b x.n x.f->kC 91 #[.pointer (some ⟨B,0,none⟩),ay x (some ⟨b,0,none⟩) x.n] W (yx W (R.out,R.g,0))):=fun W b hW hs=>by
  have e:DT c.g x=(R.out,R.g,0):=by
   have hB:Bp c.g x=true:=(UU _ _).2 ⟨X.g,yc,Bn,by rw [DL];exact(Dm X.g).1.symm,by rw [DN];exact(Dm X.g).2.1.symm⟩;have hm:R=wG c.g x:=(by rw [hR,hx];unfold xP;rw [if_neg (by rw [zh];simp)]);unfold DT;rw [if_pos hB,hm]
  rw [<-e];exact aho c B ca cc x (some ⟨b,0,none⟩) x.n W hW.cl (hg.below hW.nY) (by omega) hs.rd (by omega) (Nat.le_refl _)
 have Ky:Hid (∀ w5 T ao cap,4000 < c.q.length+R.out.length->pK w c B ca cc R ao cap T w5->uy w B (iW v c) (w5.setCell ⟨B,1,none⟩ (.bool true))):=fun w5 T ao cap o G=>by
  have e:iW v c={c with lost:=true}:=(by unfold iW;rw [if_neg Ej.out, <-hR,if_pos o]);rw [e];have ad:Gl w5 ca cc c.g:=hg.below G.nY;refine⟨ca,cc,(Kp.of_below _ G.nY).trans (jF w5 B _ _) (fun _ e=>.inl e),IB G.cl true,ad.keep fun b y hy=>Below.heap_setCell _ _ _ _ (fun e=>?_)⟩;simp only at e;rw [e,G.cl] at hy;simp only [Option.some.injEq,Obj.cells.injEq] at hy;exact absurd hy.2.1 (by decide)
 have Kz:Hid (∀ wc w5 T ao cap,¬ 4000 < c.q.length+R.out.length->pK w c B ca cc R ao cap T wc->w5.heap[B]?=some (dR {c with q:=c.q++R.out,lost:=false,g:=R.g} ao cap)->qV wc B T R.g ao cap w5->uy w B (iW v c) w5):=fun wc w5 T ao cap o G h5 hk=>by
  have e:iW v c={c with q:=c.q++R.out,lost:=false,g:=R.g}:=(by unfold iW;rw [if_neg Ej.out, <-hR,if_neg o]);rw [e];exact⟨ao,cap,(Kp.of_below _ G.nY).trans hk.kp (fun _ e=>.inl e),h5,hk.gl⟩
 have DY:Hid (bY w C c B ca cc (w.alloc (Pt.bf C))):=⟨at_new _ _,aF hb _,aM _ _,by simp⟩;obtain⟨⟨c0,c1,_⟩,cf⟩:=eleven hb;have ak:=(gQ hb).1;rw [zh] at c1;have ah:(bs c.q).size=c.q.length:=qz _;have ai:(bs R.out).size=R.out.length:=qz _;clear hR hx hd X gU hC hb hg hv O yc Bn DL DN Ob Oc NY NZ zh;go_enter func74,ntmps74;go_wp2_with fail;show Code.wp _ _ _ _ (w.alloc (Pt.bf C));generalize ac:w.alloc (Pt.bf C)=W0 at*;have J:=gH DY.out;clear ac DY c0 c1 cf;go_cut [5,6] from 29 to 46 (fun t5 t6 wx=>PV w c B ca cc R t5 t6 wx)
 case first=>
  refine bg (fun w'=>w'.heap[w.heap.size]?=some (Pt.bf C)∧w'.cell? ⟨B,2,none⟩=some (.int .i64 c.g.wide)∧w'.cell? ⟨B,3,none⟩=some (.int .i64 c.g.high)) ⟨J.out.view,J.out.wide,J.out.high⟩ (fun d=>?_);refine tk 0 d ?_;refine ty 1 rfl (.agg C) (Pt.Ki (by rfl) _ rfl w.heap.size rfl C Lb.out (fun w0 h=>h.1)) d ?_;refine tk 2 d ?_;refine tk 3 d ?_;refine tk 4 d ?_;refine tk 5 d ?_;refine tk 6 d ?_;refine tk 7 d ?_;refine tk 8 d ?_;refine tk 9 d ?_;refine tk 10 d ?_;refine tk 11 d ?_;refine rB 12 18 (fun K m=>?_) (fun K m=>?_)
  ·go_simp;go_at_call 93;refine(jN.out _ J.out.drew).mono ?_;rintro e E ⟨b,rfl,H,F⟩;have s:Hid (bY w C c B ca cc E∧av E b x.n x.f):=⟨J.out.below (jq F),H⟩;have Y:=gH s.out.1;clear H F
   (try go_simp)
   refine m.out _ _ ⟨Y.out.view,Y.out.wide,Y.out.high⟩ (fun d=>?_);clear m K;refine pt ?_;refine rB 13 18 (fun K m=>?_) (fun K m=>?_)
   ·go_simp;go_at_call 91;refine(ny.out _ b s.out.1 s.out.2).mono ?_;rintro e w4 ⟨M,N,rfl,r⟩;have H4:=gH (Dy iQ.out r);have t:=gH (s.out.1.below r.2.2);clear r
    (try go_simp)
    refine m.out _ _ ⟨t.out.view,t.out.wide,t.out.high⟩ (fun d=>?_);clear m K;refine pt ?_;have D:Hid (bY w C c B ca cc (w4.alloc aV)∧(w4.alloc aV).heap[w4.heap.size]?=some aV):=⟨t.out.below (aM _ _),at_new _ _⟩;have I:=gH D.out.1;have U:=gH (Uw t.out H4.out);have zX:Hid (bY w C c B ca cc (w4.alloc (aB R.g M N))):=t.out.below (aM _ _);have vS:w.heap.size < w4.heap.size:=t.out.lt;refine tk 14 d ?_;refine tk 15 d ?_;refine tk 16 d ?_;refine tk 17 d ?_;refine rA 18 fun K m=>?_;go_simp;refine m.out _ _ ⟨I.out.view,I.out.wide,I.out.high⟩ (fun d=>?_);clear m K;refine pt ?_;refine tk 19 d ?_;refine rA 20 fun K m=>?_;go_simp;refine m.out _ _ ⟨zX.out.view,zX.out.wide,zX.out.high⟩ (fun d=>?_);clear m K;refine pt ?_;refine tk 21 d ?_;refine dn ?_;go_wp2_with fail;go_meet;exact⟨w4.heap.size,M,N,rfl,rfl,U.out⟩
   ·go_simp;have D:Hid (bY w C c B ca cc (E.alloc aV)∧(E.alloc aV).heap[E.heap.size]?=some aV∧av (E.alloc aV) b x.n x.f):=⟨s.out.1.below (aM _ _),at_new _ _,s.out.2.alloc _⟩;have I:=gH D.out.1;have vS:w.heap.size < E.heap.size:=s.out.1.lt;refine m.out _ _ ⟨I.out.view,I.out.wide,I.out.high⟩ (fun d=>?_);clear m K;refine pt ?_;refine rA 13 fun K m=>?_;go_simp;go_at_call 91;refine(ny.out _ b D.out.1 D.out.2.2).mono ?_;rintro e w4 ⟨M,N,rfl,r⟩;have H4:=gH (Dy iQ.out r);have t:=gH (D.out.1.below r.2.2);have P:Hid (bY w C c B ca cc w4∧w4.heap[E.heap.size]?=some aV):=⟨t.out,aG r.2.2 D.out.2.1 (gQ D.out.2.1).1⟩;clear r
    (try go_simp)
    refine m.out _ _ ⟨t.out.view,t.out.wide,t.out.high⟩ (fun d=>?_);clear m K;refine pt ?_;refine tk 14 d ?_;refine tk 15 d ?_;refine tk 16 d ?_;refine tk 17 d ?_;refine tk 19 d ?_;refine rA 20 fun K m=>?_;refine fM (by kernel_rfl) ?_;refine GH _ _ rfl E.heap.size R.g M N rfl rfl _ P.out.2 rfl ?_;intro w6 pX;have U:=gH (JQ P.out.1 H4.out P.out.2 pX.out.1 pX.out.2 vS);clear pX;have Z:=gH U.out.1;refine m.out _ _ ⟨Z.out.view,Z.out.wide,Z.out.high⟩ (fun d=>?_);clear m K;refine pt ?_;refine tk 21 d ?_;refine dn ?_;go_wp2_with fail;go_meet;exact⟨E.heap.size,M,N,rfl,rfl,U.out.2⟩
  ·go_simp;have D:Hid (bY w C c B ca cc (W0.alloc aV).drew∧(W0.alloc aV).drew.heap[W0.heap.size]?=some aV):=⟨J.out.below ((aM _ _).drew),at_new _ _⟩;have I:=gH D.out.1;have vS:w.heap.size < W0.heap.size:=J.out.lt;refine m.out _ _ ⟨I.out.view,I.out.wide,I.out.high⟩ (fun d=>?_);clear m K;refine pt ?_;refine rA 12 fun K m=>?_;go_simp;go_at_call 93;refine(jN.out _ D.out.1).mono ?_;rintro e E ⟨b,rfl,H,F⟩;have s:Hid (bY w C c B ca cc E∧av E b x.n x.f∧E.heap[W0.heap.size]?=some aV):=⟨D.out.1.below F,H,aG F D.out.2 (gQ D.out.2).1⟩;have Y:=gH s.out.1;clear H F
   (try go_simp)
   refine m.out _ _ ⟨Y.out.view,Y.out.wide,Y.out.high⟩ (fun d=>?_);clear m K;refine pt ?_;refine rA 13 fun K m=>?_;go_simp;go_at_call 91;refine(ny.out _ b s.out.1 s.out.2.1).mono ?_;rintro e w4 ⟨M,N,rfl,r⟩;have H4:=gH (Dy iQ.out r);have t:=gH (s.out.1.below r.2.2);have P:Hid (bY w C c B ca cc w4∧w4.heap[W0.heap.size]?=some aV):=⟨t.out,aG r.2.2 s.out.2.2 (gQ s.out.2.2).1⟩;clear r
   (try go_simp)
   refine m.out _ _ ⟨t.out.view,t.out.wide,t.out.high⟩ (fun d=>?_);clear m K;refine pt ?_;refine tk 14 d ?_;refine tk 15 d ?_;refine tk 16 d ?_;refine tk 17 d ?_;refine tk 19 d ?_;refine rA 20 fun K m=>?_;refine fM (by kernel_rfl) ?_;refine GH _ _ rfl W0.heap.size R.g M N rfl rfl _ P.out.2 rfl ?_;intro w6 pX;have U:=gH (JQ P.out.1 H4.out P.out.2 pX.out.1 pX.out.2 vS);clear pX;have Z:=gH U.out.1;refine m.out _ _ ⟨Z.out.view,Z.out.wide,Z.out.high⟩ (fun d=>?_);clear m K;refine pt ?_;refine tk 21 d ?_;refine dn ?_;go_wp2_with fail;go_meet;exact⟨W0.heap.size,M,N,rfl,rfl,U.out.2⟩
 case rest=>
  obtain⟨T,z,u,rfl,rfl,G⟩:=hcut;have HO:=gH G;obtain⟨⟨c0,c1,_⟩,cf⟩:=eleven G.cl;have Da:=(gQ G.cl).1;clear G;by_cases o:4000 < c.q.length+R.out.length
  ·have af:(4000:Int) < (c.q.length:Int)+(R.out.length:Int):=(by omega);have HE:=gH (Ky.out wc T z u o HO.out);go_wp2;exact bodyPost_ret (v:=.tuple #[]) (by simp [results,results74,go_sem]) rfl ⟨rfl,HE.out⟩
  ·have af:(c.q.length:Int)+(R.out.length:Int)<=4000:=(by omega);have KN:=gH o;have aj:¬ 9223372036854775807 < c.q.length+R.out.length:=(by omega);have DX:=gH HO.out.box;have H1:Hid ((wc.setCell ⟨B,0,none⟩ (.string (bs c.q++bs R.out))).drew.heap[B]?=some (dR {c with q:=c.q++R.out} ca cc)∧qV wc B T R.g z u (wc.setCell ⟨B,0,none⟩ (.string (bs c.q++bs R.out))).drew):=by
    have ae:qV wc B T R.g z u wc:=⟨Kp.refl _ _,HO.out.box,HO.out.gl⟩;have aa:wc.heap[B]?=some (dR c ca cc):=HO.out.cl;have V:=ae.next aa (jF wc B 0 (.string (bs c.q++bs R.out)));exact⟨Qp aa R.out,V.kp.drew,V.box,V.gl⟩
   clear o jN ny J;go_wp2_with fail;refine bg (fun w'=>w'.heap[T]?=some (aB R.g z u)) DX.out (fun d=>?_);refine tk 0 d ?_;refine tk 1 d ?_;refine tk 2 d ?_;refine tk 3 d ?_;refine tk 4 d ?_;refine tk 5 d ?_;refine tk 7 d ?_;refine ty 9 rfl (ay R.g z u) (Kh (by rfl) _ rfl T 0 rfl R.g z u (fun w0 h=>Mx h)) d ?_;refine rA 6 fun K m=>?_;go_simp;refine m.out _ _ DX.out (fun d=>?_);clear m K;refine pt ?_;refine tk 8 d ?_;refine tk 10 d ?_;refine tk 11 d ?_;refine rA 12 fun K m=>?_;go_simp;refine m.out _ _ H1.out.2.box (fun d=>?_);clear m K;generalize (wc.setCell ⟨B,0,none⟩ (.string (bs c.q++bs R.out))).drew=W1 at*;have ag:=gH (Qr H1.out.1);have H2:Hid ((W1.setCells B 2 (bE R.g z u).toList).heap[B]?=some (dR {c with q:=c.q++R.out,g:=R.g} z u)∧qV wc B T R.g z u (W1.setCells B 2 (bE R.g z u).toList)):=⟨Qo H1.out.1 R.g z u,H1.out.2.next H1.out.1 (oI B _ _ _)⟩;refine pt ?_;refine tk 13 d ?_;refine tk 14 d ?_;refine rA 15 fun K m=>?_;refine fM (by kernel_rfl) ?_;refine wp_store_mid 33 _ _ rfl B 2 (bE R.g z u) rfl rfl ag.out Pt.nJ (gone _ _ _) ?_;refine m.out _ _ H2.out.2.box (fun d=>?_);clear m K;generalize W1.setCells B 2 (bE R.g z u).toList=W2 at*;obtain⟨⟨_,z1,_⟩,zf⟩:=eleven H2.out.1;have s:Hid ((W2.setCell ⟨B,1,none⟩ (.bool false)).heap[B]?=some (dR {c with q:=c.q++R.out,lost:=false,g:=R.g} z u)∧qV wc B T R.g z u (W2.setCell ⟨B,1,none⟩ (.bool false))):=⟨IB H2.out.1 false,H2.out.2.next H2.out.1 (jF W2 B _ _)⟩
   (try simp only [Act.put,List.getElem_toArray,List.getElem_cons_zero,List.getElem_cons_succ])
   refine tk 16 d ?_;refine tk 17 d ?_;refine rA 18 fun K m=>?_;go_simp;refine m.out _ _ s.out.2.box (fun d=>?_);clear m K;refine pt ?_;refine dn ?_;have HE:=Kz.out wc _ T z u KN.out HO.out s.out.1 s.out.2;go_wp2;go_end0;exact⟨rfl,HE⟩
theorem agk (c:Cl) (mo:su c) (zh:c.lost=true) (ab:c.q=[]) (B:Nat) (ca:Option Addr) (cc:Nat) (v:Vw) (l:Pt.Lay) (C:Array Value) (hC:VC v l C) (gU:lV v) (w:World) (hb:w.heap[B]?=some (dR c ca cc)) (hg:Gl w ca cc c.g) (hv:dw w v l):
  kC 74 #[.pointer (some ⟨B,0,none⟩),.agg C] w fun e w'=>e=.returned (.tuple #[])∧uy w B (iW v c) w':=by
 obtain⟨R,hR⟩:∃ R,R=xP v c:=⟨_,rfl⟩;obtain⟨x,hx⟩:∃ x,x=mD v c.g.wide c.g.high:=⟨_,rfl⟩;have hd:Draws c.g x R:=by rw [hx,hR];exact NS gU mo.g
 have iQ:=gH (A9 hd.ok);have ac:R.out.length<=2490:=hd.short;have am:=mo.short;obtain⟨yc,Bn,DL,DN⟩:=OO gU c.g.wide c.g.high;rw [<-hx] at yc Bn DL DN;obtain⟨Ob,Oc,_⟩:=yc.nums;obtain⟨NY,NZ,_⟩:=mo.g.nums;have O:Pt.Ii v:=fun p hp=>by
  rcases gU.grid p hp with e | e
  ·rw [e];exact⟨by show (-9223372036854775808:Int)<=0;omega,by show (-9223372036854775808:Int)<=0;omega⟩
  ·have:=e.r1;have:=e.c1;exact⟨by omega,by omega⟩
 have Lb:=gH hC.size;have jN:Hid (∀ W,bY w C c B ca cc W->kC 93 #[.agg C,.int .i64 c.g.wide,.int .i64 c.g.high] W fun e w'=>∃ b,e=.returned (ay x (some ⟨b,0,none⟩) x.n)∧av w' b x.n x.f∧Below W.heap.size W w'):=fun W hW=>Pt.Un v l C hC c.g.wide c.g.high W (hv.below hW.nY) O x hx;have Ej:Hid (¬ (c.lost=true∧c.q≠[])):=fun h=>h.2 ab;have ny:Hid (∀ W b,bY w C c B ca cc W->av W b x.n x.f->kC 92 #[ay x (some ⟨b,0,none⟩) x.n] W (yx W (R.out,R.g,0))):=fun W b hW hs=>by
  have hm:R=yP x:=(by rw [hR,hx];unfold xP;rw [if_pos zh]);rw [hm];exact WT x (some ⟨b,0,none⟩) x.n W hs.rd (Nat.le_refl _) yc Bn
 have Ky:Hid (∀ w5 T ao cap,4000 < c.q.length+R.out.length->pK w c B ca cc R ao cap T w5->uy w B (iW v c) (w5.setCell ⟨B,1,none⟩ (.bool true))):=fun w5 T ao cap o G=>by
  have e:iW v c={c with lost:=true}:=(by unfold iW;rw [if_neg Ej.out, <-hR,if_pos o]);rw [e];have ae:Gl w5 ca cc c.g:=hg.below G.nY;refine⟨ca,cc,(Kp.of_below _ G.nY).trans (jF w5 B _ _) (fun _ e=>.inl e),IB G.cl true,ae.keep fun b y hy=>Below.heap_setCell _ _ _ _ (fun e=>?_)⟩;simp only at e;rw [e,G.cl] at hy;simp only [Option.some.injEq,Obj.cells.injEq] at hy;exact absurd hy.2.1 (by decide)
 have Kz:Hid (∀ wc w5 T ao cap,¬ 4000 < c.q.length+R.out.length->pK w c B ca cc R ao cap T wc->w5.heap[B]?=some (dR {c with q:=c.q++R.out,lost:=false,g:=R.g} ao cap)->qV wc B T R.g ao cap w5->uy w B (iW v c) w5):=fun wc w5 T ao cap o G h5 hk=>by
  have e:iW v c={c with q:=c.q++R.out,lost:=false,g:=R.g}:=(by unfold iW;rw [if_neg Ej.out, <-hR,if_neg o]);rw [e];exact⟨ao,cap,(Kp.of_below _ G.nY).trans hk.kp (fun _ e=>.inl e),h5,hk.gl⟩
 have DY:Hid (bY w C c B ca cc (w.alloc (Pt.bf C))):=⟨at_new _ _,aF hb _,aM _ _,by simp⟩;obtain⟨⟨c0,c1,_⟩,cf⟩:=eleven hb;have al:=(gQ hb).1;rw [zh] at c1;have ai:(bs c.q).size=c.q.length:=qz _;have aj:(bs R.out).size=R.out.length:=qz _;clear hR hx hd mo gU hC hb hg hv O yc Bn DL DN Ob Oc NY NZ zh;go_enter func74,ntmps74;go_wp2_with fail;show Code.wp _ _ _ _ (w.alloc (Pt.bf C));generalize ad:w.alloc (Pt.bf C)=W0 at*;have J:=gH DY.out;clear ad DY c0 c1 cf ab;go_cut [5,6] from 29 to 46 (fun t5 t6 wx=>PV w c B ca cc R t5 t6 wx)
 case first=>
  refine bg (fun w'=>w'.heap[w.heap.size]?=some (Pt.bf C)∧w'.cell? ⟨B,2,none⟩=some (.int .i64 c.g.wide)∧w'.cell? ⟨B,3,none⟩=some (.int .i64 c.g.high)) ⟨J.out.view,J.out.wide,J.out.high⟩ (fun d=>?_);refine tk 0 d ?_;refine ty 1 rfl (.agg C) (Pt.Ki (by rfl) _ rfl w.heap.size rfl C Lb.out (fun w0 h=>h.1)) d ?_;refine tk 2 d ?_;refine tk 3 d ?_;refine tk 4 d ?_;refine tk 5 d ?_;refine tk 6 d ?_;refine tk 7 d ?_;refine tk 8 d ?_;refine tk 9 d ?_;refine tk 10 d ?_;refine tk 11 d ?_;refine rB 12 18 (fun K m=>?_) (fun K m=>?_)
  ·go_simp;go_at_call 93;refine(jN.out _ J.out.drew).mono ?_;rintro e E ⟨b,rfl,H,F⟩;have s:Hid (bY w C c B ca cc E∧av E b x.n x.f):=⟨J.out.below (jq F),H⟩;have X:=gH s.out.1;clear H F
   (try go_simp)
   refine m.out _ _ ⟨X.out.view,X.out.wide,X.out.high⟩ (fun d=>?_);clear m K;refine pt ?_;refine rB 13 18 (fun K m=>?_) (fun K m=>?_)
   ·go_simp;go_at_call 92;refine(ny.out _ b s.out.1 s.out.2).mono ?_;rintro e w4 ⟨M,N,rfl,r⟩;have H4:=gH (Dy iQ.out r);have t:=gH (s.out.1.below r.2.2);clear r
    (try go_simp)
    refine m.out _ _ ⟨t.out.view,t.out.wide,t.out.high⟩ (fun d=>?_);clear m K;refine pt ?_;have D:Hid (bY w C c B ca cc (w4.alloc aV)∧(w4.alloc aV).heap[w4.heap.size]?=some aV):=⟨t.out.below (aM _ _),at_new _ _⟩;have I:=gH D.out.1;have U:=gH (Uw t.out H4.out);have zX:Hid (bY w C c B ca cc (w4.alloc (aB R.g M N))):=t.out.below (aM _ _);have vS:w.heap.size < w4.heap.size:=t.out.lt;refine tk 14 d ?_;refine tk 15 d ?_;refine tk 16 d ?_;refine tk 17 d ?_;refine rA 18 fun K m=>?_;go_simp;refine m.out _ _ ⟨I.out.view,I.out.wide,I.out.high⟩ (fun d=>?_);clear m K;refine pt ?_;refine tk 19 d ?_;refine rA 20 fun K m=>?_;go_simp;refine m.out _ _ ⟨zX.out.view,zX.out.wide,zX.out.high⟩ (fun d=>?_);clear m K;refine pt ?_;refine tk 21 d ?_;refine dn ?_;go_wp2_with fail;go_meet;exact⟨w4.heap.size,M,N,rfl,rfl,U.out⟩
   ·go_simp;have D:Hid (bY w C c B ca cc (E.alloc aV)∧(E.alloc aV).heap[E.heap.size]?=some aV∧av (E.alloc aV) b x.n x.f):=⟨s.out.1.below (aM _ _),at_new _ _,s.out.2.alloc _⟩;have I:=gH D.out.1;have vS:w.heap.size < E.heap.size:=s.out.1.lt;refine m.out _ _ ⟨I.out.view,I.out.wide,I.out.high⟩ (fun d=>?_);clear m K;refine pt ?_;refine rA 13 fun K m=>?_;go_simp;go_at_call 92;refine(ny.out _ b D.out.1 D.out.2.2).mono ?_;rintro e w4 ⟨M,N,rfl,r⟩;have H4:=gH (Dy iQ.out r);have t:=gH (D.out.1.below r.2.2);have P:Hid (bY w C c B ca cc w4∧w4.heap[E.heap.size]?=some aV):=⟨t.out,aG r.2.2 D.out.2.1 (gQ D.out.2.1).1⟩;clear r
    (try go_simp)
    refine m.out _ _ ⟨t.out.view,t.out.wide,t.out.high⟩ (fun d=>?_);clear m K;refine pt ?_;refine tk 14 d ?_;refine tk 15 d ?_;refine tk 16 d ?_;refine tk 17 d ?_;refine tk 19 d ?_;refine rA 20 fun K m=>?_;refine fM (by kernel_rfl) ?_;refine GH _ _ rfl E.heap.size R.g M N rfl rfl _ P.out.2 rfl ?_;intro w6 Z;have U:=gH (JQ P.out.1 H4.out P.out.2 Z.out.1 Z.out.2 vS);clear Z;have Y:=gH U.out.1;refine m.out _ _ ⟨Y.out.view,Y.out.wide,Y.out.high⟩ (fun d=>?_);clear m K;refine pt ?_;refine tk 21 d ?_;refine dn ?_;go_wp2_with fail;go_meet;exact⟨E.heap.size,M,N,rfl,rfl,U.out.2⟩
  ·go_simp;have D:Hid (bY w C c B ca cc (W0.alloc aV).drew∧(W0.alloc aV).drew.heap[W0.heap.size]?=some aV):=⟨J.out.below ((aM _ _).drew),at_new _ _⟩;have I:=gH D.out.1;have vS:w.heap.size < W0.heap.size:=J.out.lt;refine m.out _ _ ⟨I.out.view,I.out.wide,I.out.high⟩ (fun d=>?_);clear m K;refine pt ?_;refine rA 12 fun K m=>?_;go_simp;go_at_call 93;refine(jN.out _ D.out.1).mono ?_;rintro e E ⟨b,rfl,H,F⟩;have s:Hid (bY w C c B ca cc E∧av E b x.n x.f∧E.heap[W0.heap.size]?=some aV):=⟨D.out.1.below F,H,aG F D.out.2 (gQ D.out.2).1⟩;have X:=gH s.out.1;clear H F
   (try go_simp)
   refine m.out _ _ ⟨X.out.view,X.out.wide,X.out.high⟩ (fun d=>?_);clear m K;refine pt ?_;refine rA 13 fun K m=>?_;go_simp;go_at_call 92;refine(ny.out _ b s.out.1 s.out.2.1).mono ?_;rintro e w4 ⟨M,N,rfl,r⟩;have H4:=gH (Dy iQ.out r);have t:=gH (s.out.1.below r.2.2);have P:Hid (bY w C c B ca cc w4∧w4.heap[W0.heap.size]?=some aV):=⟨t.out,aG r.2.2 s.out.2.2 (gQ s.out.2.2).1⟩;clear r
   (try go_simp)
   refine m.out _ _ ⟨t.out.view,t.out.wide,t.out.high⟩ (fun d=>?_);clear m K;refine pt ?_;refine tk 14 d ?_;refine tk 15 d ?_;refine tk 16 d ?_;refine tk 17 d ?_;refine tk 19 d ?_;refine rA 20 fun K m=>?_;refine fM (by kernel_rfl) ?_;refine GH _ _ rfl W0.heap.size R.g M N rfl rfl _ P.out.2 rfl ?_;intro w6 Z;have U:=gH (JQ P.out.1 H4.out P.out.2 Z.out.1 Z.out.2 vS);clear Z;have Y:=gH U.out.1;refine m.out _ _ ⟨Y.out.view,Y.out.wide,Y.out.high⟩ (fun d=>?_);clear m K;refine pt ?_;refine tk 21 d ?_;refine dn ?_;go_wp2_with fail;go_meet;exact⟨W0.heap.size,M,N,rfl,rfl,U.out.2⟩
 case rest=>
  obtain⟨T,z,u,rfl,rfl,G⟩:=hcut;have HO:=gH G;obtain⟨⟨c0,c1,_⟩,cf⟩:=eleven G.cl;have Da:=(gQ G.cl).1;clear G;by_cases o:4000 < c.q.length+R.out.length
  ·have ag:(4000:Int) < (c.q.length:Int)+(R.out.length:Int):=(by omega);have HE:=gH (Ky.out wc T z u o HO.out);go_wp2;exact bodyPost_ret (v:=.tuple #[]) (by simp [results,results74,go_sem]) rfl ⟨rfl,HE.out⟩
  ·have ag:(c.q.length:Int)+(R.out.length:Int)<=4000:=(by omega);have KN:=gH o;have ak:¬ 9223372036854775807 < c.q.length+R.out.length:=(by omega);have DX:=gH HO.out.box;have H1:Hid ((wc.setCell ⟨B,0,none⟩ (.string (bs c.q++bs R.out))).drew.heap[B]?=some (dR {c with q:=c.q++R.out} ca cc)∧qV wc B T R.g z u (wc.setCell ⟨B,0,none⟩ (.string (bs c.q++bs R.out))).drew):=by
    have af:qV wc B T R.g z u wc:=⟨Kp.refl _ _,HO.out.box,HO.out.gl⟩;have aa:wc.heap[B]?=some (dR c ca cc):=HO.out.cl;have V:=af.next aa (jF wc B 0 (.string (bs c.q++bs R.out)));exact⟨Qp aa R.out,V.kp.drew,V.box,V.gl⟩
   clear o jN ny J;go_wp2_with fail;refine bg (fun w'=>w'.heap[T]?=some (aB R.g z u)) DX.out (fun d=>?_);refine tk 0 d ?_;refine tk 1 d ?_;refine tk 2 d ?_;refine tk 3 d ?_;refine tk 4 d ?_;refine tk 5 d ?_;refine tk 7 d ?_;refine ty 9 rfl (ay R.g z u) (Kh (by rfl) _ rfl T 0 rfl R.g z u (fun w0 h=>Mx h)) d ?_;refine rA 6 fun K m=>?_;go_simp;refine m.out _ _ DX.out (fun d=>?_);clear m K;refine pt ?_;refine tk 8 d ?_;refine tk 10 d ?_;refine tk 11 d ?_;refine rA 12 fun K m=>?_;go_simp;refine m.out _ _ H1.out.2.box (fun d=>?_);clear m K;generalize (wc.setCell ⟨B,0,none⟩ (.string (bs c.q++bs R.out))).drew=W1 at*;have ah:=gH (Qr H1.out.1);have H2:Hid ((W1.setCells B 2 (bE R.g z u).toList).heap[B]?=some (dR {c with q:=c.q++R.out,g:=R.g} z u)∧qV wc B T R.g z u (W1.setCells B 2 (bE R.g z u).toList)):=⟨Qo H1.out.1 R.g z u,H1.out.2.next H1.out.1 (oI B _ _ _)⟩;refine pt ?_;refine tk 13 d ?_;refine tk 14 d ?_;refine rA 15 fun K m=>?_;refine fM (by kernel_rfl) ?_;refine wp_store_mid 33 _ _ rfl B 2 (bE R.g z u) rfl rfl ah.out Pt.nJ (gone _ _ _) ?_;refine m.out _ _ H2.out.2.box (fun d=>?_);clear m K;generalize W1.setCells B 2 (bE R.g z u).toList=W2 at*;obtain⟨⟨_,z1,_⟩,zf⟩:=eleven H2.out.1;have s:Hid ((W2.setCell ⟨B,1,none⟩ (.bool false)).heap[B]?=some (dR {c with q:=c.q++R.out,lost:=false,g:=R.g} z u)∧qV wc B T R.g z u (W2.setCell ⟨B,1,none⟩ (.bool false))):=⟨IB H2.out.1 false,H2.out.2.next H2.out.1 (jF W2 B _ _)⟩
   (try simp only [Act.put,List.getElem_toArray,List.getElem_cons_zero,List.getElem_cons_succ])
   refine tk 16 d ?_;refine tk 17 d ?_;refine rA 18 fun K m=>?_;go_simp;refine m.out _ _ s.out.2.box (fun d=>?_);clear m K;refine pt ?_;refine dn ?_;have HE:=Kz.out wc _ T z u KN.out HO.out s.out.1 s.out.2;go_wp2;go_end0;exact⟨rfl,HE⟩
theorem agl (c:Cl) (p:su c) (B:Nat) (ca:Option Addr) (cc:Nat) (v:Vw) (l:Pt.Lay) (C:Array Value) (n:VC v l C) (m:lV v) (w:World) (d:w.heap[B]?=some (dR c ca cc)) (f:Gl w ca cc c.g) (o:dw w v l):
  kC 74 #[.pointer (some ⟨B,0,none⟩),.agg C] w fun e w'=>e=.returned (.tuple #[])∧uy w B (iW v c) w':=by
 cases b:c.lost with
 | false=>exact agp c p b B ca cc v l C n m w d f o
 | true=>
  by_cases h:c.q=[]
  ·exact agk c p b h B ca cc v l C n m w d f o
  ·have e:iW v c=c:=(by unfold iW;rw [if_pos ⟨b,h⟩]);rw [e];exact agn c B ca cc C b h w d f
open Go.Proofs.YtkcdcamophkdlaaGreatDoor.Pt (Vw VC dw mD jg bP vc vX)
variable (A:Nat->Option Addr) (S:aD) (i k j:Nat) {w:World} {L:Lay} {T:aD} {ops:Array Oper} {rest:List Oper} {op:Oper} {a:Act} {Q:Exit->Act->World->Prop}
def qm (S:aD) (i:Nat):aD:=match S.cl i with
 | none=>S
 | some c=>{S with cl:=upd S.cl i (some (iW S.v c))}
def nN (S:aD):Nat->aD
 | 0=>S
 | k+1=>qm (nN S k) k
theorem agj:(qm S i).v=S.v:=by unfold qm;cases S.cl i <;>rfl
theorem agi:(qm S i).ps=S.ps:=by unfold qm;cases S.cl i <;>rfl
theorem agf:(qm S i).acts=S.acts:=by unfold qm;cases S.cl i <;>rfl
theorem agh:(qm S i).cl i=(S.cl i).map (iW S.v):=by
 unfold qm;cases h:S.cl i with
 | none=>exact h
 | some c=>exact dY _ _ _
theorem Uv {j:Nat} (b:j≠i):(qm S i).cl j=S.cl j:=by
 unfold qm;cases h:S.cl i with
 | none=>rfl
 | some c=>exact upd_ne _ _ b
theorem Gu:(nN S k).v=S.v:=by
 induction k with
 | zero=>rfl
 | succ k ih=>exact(agj _ _).trans ih
theorem agc:(nN S k).ps=S.ps:=by
 induction k with
 | zero=>rfl
 | succ k ih=>exact(agi _ _).trans ih
theorem aga:(nN S k).acts=S.acts:=by
 induction k with
 | zero=>rfl
 | succ k ih=>exact(agf _ _).trans ih
theorem Uu (h:k<=j):(nN S k).cl j=S.cl j:=by
 induction k with
 | zero=>rfl
 | succ k ih=>exact(Uv _ _ (by omega)).trans (ih (by omega))
theorem agb (h:j < k):(nN S k).cl j=(S.cl j).map (iW S.v):=by
 induction k with
 | zero=>omega
 | succ k ih=>
  by_cases e:j=k
  ·subst e;exact(agh _ _).trans (by rw [Uu S j j (Nat.le_refl _),Gu])
  ·exact(Uv _ _ e).trans (ih (by omega))
theorem aS.congr {S:aD} (h:aS w S L) (d:T.v=S.v) (l:T.ps=S.ps) (q:T.acts=S.acts) (f:∀ i,i < 3->T.cl i=S.cl i):aS w T L:=by
 have m:∀ i,i < 3->jk T L i=jk S L i:=fun i b=>by unfold jk;rw [f i b]
 refine⟨⟨by rw [d];exact h.ok.t,by rw [d];exact h.ok.w1,by rw [d];exact h.ok.w2,by rw [d];exact h.ok.h1,by rw [d];exact h.ok.h2,by rw [d];exact h.ok.grid,by rw [l];exact h.ok.par,fun i b c e=>h.ok.cl i b c (by rw [<-f i b];exact e)⟩,?_,by rw [d];exact h.aj,h.rd,h.ty,by rw [d];exact h.gs,by rw [l];exact h.ps,fun i b c e=>h.cl i b c (by rw [<-f i b];exact e),fun i j b n g o p=>h.apart i j b n g (by rw [<-f i b];exact o) (by rw [<-f j n];exact p)⟩;have e:lK T L=lK S L:=by
  unfold lK tC Bj Ga;rw [m 0 (by omega),m 1 (by omega),m 2 (by omega),d,l,q]
 rw [e];exact h.box
theorem aY.congr {w':World} {S U:aD} {b:Lay} (h:aY w S L T b w') (m:U.v=T.v) (g:U.ps=T.ps) (f:U.acts=T.acts) (d:∀ i,i < 3->U.cl i=T.cl i):aY w S L U b w':=
 ⟨h.bO.congr m g f d,h.sb,h.kp,fun i e l=>h.cb i e (by rw [<-d i e];exact l)⟩
def sD (w:World) (S:aD) (L:Lay) (k:Nat) (wr:World):Prop:=∃ L',aY w S L (nN S k) L' wr∧L'.cb=L.cb∧L'.l=L.l
theorem ahh {wr:World} {S:aD} (h:sD w S L 3 wr):∃ b,aY w S L (zF S) b wr:=by
 obtain⟨b,d,_,_⟩:=h;exact⟨b,d.congr (Gu S 3).symm (agc S 3).symm (aga S 3).symm fun i e=>(agb S 3 i e).symm⟩
theorem ahi {S:aD} (z:lV S.v) {k:Nat} (t:k < 3) (W:World) (h:sD w S L k W):
  kC 74 #[.pointer (jk S L k),.agg (bP S.v L.l)] W fun e w'=>e=.returned (.tuple #[])∧sD w S L (k+1) w':=by
 obtain⟨f,g,d,x⟩:=h;have y:(nN S k).cl k=S.cl k:=Uu S k k (Nat.le_refl _);cases p:S.cl k with
 | none=>
  have q:jk S L k=none:=(by unfold jk;rw [p];rfl);have r:nN S (k+1)=nN S k:=(by show qm (nN S k) k=_;unfold qm;rw [y,p]);rw [q];refine(agm (bP S.v L.l) W).mono ?_;rintro e w' ⟨rfl,o⟩;exact⟨rfl,f,by rw [r];exact g.later o,d,x⟩
 | some c=>
  have q:jk S L k=some ⟨L.cb k,0,none⟩:=(by unfold jk;rw [p];rfl);have b:(nN S k).cl k=some c:=y.trans p;have E:=g.bO.ok.cl k t c b;have r:nN S (k+1)={nN S k with cl:=upd (nN S k).cl k (some (iW S.v c))}:=by
   show qm (nN S k) k=_;unfold qm;rw [b];exact congrArg (fun u=>{nN S k with cl:=upd (nN S k).cl k (some (iW u c))}) (Gu S k)
  obtain⟨o,F⟩:=g.bO.cl k t c b;have D:=g.bO.xX;rw [Gu,x] at D;rw [d] at o;rw [q];refine(agl c E (L.cb k) (f.ca k) (f.cc k) S.v L.l (bP S.v L.l) (vc _ _) z W o F D).mono ?_;rintro e w' ⟨rfl,ca,cc,n,m,s⟩;refine⟨rfl,{f with ca:=upd f.ca k ca,cc:=upd f.cc k cc},?_,d,x⟩;rw [r];rw [<-d] at n m;exact g.trans (Qq g.bO t b _ ca cc (SY z E) n m s)
theorem info3:(prog.info? 56).map (·.size)=some 3:=by kernel_rfl
theorem aS.ptrs {w:World} {S:aD} {L:Lay} (h:aS w S L):w.rangeAt L.sb 82 [.pointer (jk S L 0),.pointer (jk S L 1),.pointer (jk S L 2)]:=fun j x b=>by
 match j,b with
 | 0,b=>exact(h.ptr 0 (by omega)).trans b
 | 1,b=>exact(h.ptr 1 (by omega)).trans b
 | 2,b=>exact(h.ptr 2 (by omega)).trans b
theorem Vj (C:Array Value) (g:C.size=58) (d:op.guard=none) (x:Operand) (f:op.op=.load 36 x) (b:Nat) (l:a.eval x=.pointer (some ⟨b,0,none⟩)) (e:w.rangeAt b 0 C.toList) (h:wpList prog ops Q rest (a.put op.dst (.agg C)) w):wpList prog ops Q (op::rest) a w:=
 wpList_load_mid d 36 x f b 0 l C.toList _ e underlying36 rfl (by rw [Array.length_toList,g];exact vX) (by simpa using h)
theorem afK (p:Nat) (d:p < 3) (w:World):(Instr.index 56 (.agg #[.pointer (A 0),.pointer (A 1),.pointer (A 2)]) (.int .i64 p)).run prog w=.ok (.pointer (A p)) w:=by
 have b:p=0∨p=1∨p=2:=by omega
 rcases b with rfl | rfl | rfl <;>simp [Instr.index,asIntOf,part,go_sem]
theorem ahT (b:op.guard=none) (x d:Operand) (g:op.op=.index 56 x d) (m:a.eval x=.agg #[.pointer (A 0),.pointer (A 1),.pointer (A 2)]) (p:Nat) (f:a.eval d=.int .i64 p) (l:p < 3) (h:wpList prog ops Q rest (a.put op.dst (.pointer (A p))) w):wpList prog ops Q (op::rest) a w:=
 wpList_plain b fun K e=>by
  unfold Oper.wp execOp
  simp only [g,m,f,Sem.run_bind,afK A p l,Result.andThen_ok,Sem.run_pure]
  exact e _ _ h
theorem ahg (w:World) (S:aD) (L:Lay) (h:aS w S L) (t:lV S.v):
  kC 47 #[.pointer (some ⟨L.sb,0,none⟩)] w fun e w'=>e=.returned (.int .i64 0)∧∃ p,aY w S L (zF S) p w':=by
 have r:Hid (sD w S L 0 w):=⟨L,aY.refl h,rfl,rfl⟩;obtain⟨C,m⟩:∃ C,C=bP S.v L.l:=⟨_,rfl⟩;obtain⟨A,q⟩:∃ A,A=jk S L:=⟨_,rfl⟩;have F:Hid (C.size=58):=by rw [m];exact(vc S.v L.l).size
 have s:Hid (w.rangeAt L.sb 82 [.pointer (A 0),.pointer (A 1),.pointer (A 2)]):=by rw [q];exact h.ptrs
 have E:Hid (∀ k W,sD w S L k W->W.rangeAt L.sb 0 C.toList):=fun k W f=>by
  obtain⟨p,d,_,J⟩:=f;have:=d.bO.view;rw [Gu,J,d.sb] at this;rw [m];exact this
 have G:Hid (∀ k W,sD w S L k W->L.sb < W.heap.size):=fun k W f=>by
  obtain⟨p,d,_,_⟩:=f;have:=(gQ d.bO.box).1;rwa [d.sb] at this
 have o:Hid (∀ k W,k < 3->sD w S L k W->kC 74 #[.pointer (A k),.agg C] W fun e w'=>e=.returned (.tuple #[])∧sD w S L (k+1) w'):=fun k W x f=>by
  rw [q,m];exact ahi t x W f
 have K:=(gQ h.box).1;clear h t m q;go_enter func47,ntmps47;go_wp2_with (refine wpList_load_mid rfl 56 _ rfl L.sb 82 rfl [.pointer (A 0),.pointer (A 1),.pointer (A 2)] _ s.out underlying56 rfl info3 ?_);go_loopw [9] (fun i wr=>∃ k:Nat,k<=3∧i=.int .i64 k∧sD w S L k wr) (fun i _=>3 - (intOf i).toNat)
 case atStart=>exact⟨0,by omega,rfl,r.out⟩
 case round=>
  obtain⟨k,x,rfl,b⟩:=hrel;have n:=gH b;have y:=G.out k wr b;clear b r s;by_cases g:k < 3
  ·have H:=gH (o.out k wr g n.out);have I:(k:Int) < 3:=(by omega);go_wp2_with first
    | (refine ahT A rfl _ _ rfl rfl k rfl g ?_)
    | (refine Vj C F.out rfl _ rfl L.sb rfl (E.out _ _ n.out) ?_)
    | (go_at_call 74;refine H.out.mono ?_;rintro e _ ⟨rfl,u⟩;have z:=gH u;clear u)
   go_roundw
   case rel=>exact⟨k+1,by omega,by go_num,z.out⟩
   case measure=>simp [intOf];omega
  ·obtain rfl:k=3:=(by omega);have D:=gH (ahh n.out);go_wp2;go_ret;exact⟨rfl,D.out⟩
end Go.Proofs.YtkcdcamophkdlaaGreatDoor.Sv
