import Derived.Test.YtkcdcamophkdlaaGreatDoorBW
set_option maxHeartbeats 4000000
set_option maxRecDepth 4000
open Go.Proofs.Tryz
namespace Go.Proofs.YtkcdcamophkdlaaGreatDoor
open Go.RowKit
variable (g:Gr) {w wx:World}
theorem lM.col {x:Gr} (h:lM w x wx) (k:Int):lM w {x with col:=k} (wx.setCell ⟨w.heap.size,4,none⟩ (.int .i64 k)):=by
 obtain⟨c,a,d,e,j,i,f,b⟩:=h;exact⟨c,a,heap_setCell_same wx w.heap.size 4 _ _ (.int .i64 k) d,cO e (by omega),j.set (by show w.heap.size≠c;omega) _,i,f,b.setCell (Nat.le_refl _) _⟩
theorem yO {g:Gr} {a cap':Nat} (h:wx.heap[w.heap.size]?=some (aB g (some ⟨a,0,none⟩) cap')∧wx.heap[w.heap.size+2]?=some aV∧av wx a g.n g.f∧g.n<=cap'∧Below w.heap.size w wx∧w.heap.size+3<=a):lM w g wx:=
 ⟨a,cap',h.1,h.2.1,h.2.2.1,h.2.2.2.1,h.2.2.2.2.2,h.2.2.2.2.1⟩
theorem Wj (r:OkG g) (b:Option Addr) (cap:Nat) (J:List Int) (I:ByteArray) (G:Option Addr) (F:Nat) (w:World) (p:aL w b g.n g.f) (hn:b=none->g.n=0∧cap=0) (x:Gr) (hx:x={g with col:=0}):
  kC 28 #[ay g b cap,eval ⟨2,13,J,I⟩ G F] w (oQ w b (x,0)):=by
 have H:g.n<=4398046511104:=by obtain⟨s,t,_⟩:=r.nums;omega
 have HR:=gH p;have iQ:Hid (0 < g.n):=by
  obtain⟨s,t,_,_,_⟩:=r.nums;have:=r.w1;have:=r.r1;show 0 < g.n;omega
 have dZ:Hid (∀ w,aL w b g.n g.f->kA 54 #[ay g b cap] w (.bool true)):=fun w p=>rz g b cap w p H true ((iT g).2 r).symm;have fG:Hid (∀ w,aL w b g.n g.f->kC 55 #[ay g b cap] w (nk w g)):=fun w p=>vQ g b cap w p hn H;have HX:=gH hx;clear p H hx r hn;go_enter func28,ntmps28;go_upto_region 6 with (go_at_call 54;refine(dZ.out _ (HR.out.below (ji _ _ _ _))).mono ?_;rintro e h ⟨rfl,c⟩;have C:=aG c (aF (aF (at_new w _) _) _) (by simp;omega);have s:=aG c (aF (bK w _ _) _) (by simp);have t:=aG c (kM w _ _ _) (by simp);have u:Hid (Below w.heap.size w h∧h.heap[w.heap.size]?=some (aB g b cap)∧h.heap[w.heap.size+1]?=some (fC (⟨2,13,J,I⟩,G,F))∧h.heap[w.heap.size+2]?=some aV):=⟨(ji _ _ _ _).trans (c.mono (by simp;omega)),C,s,t⟩;obtain⟨⟨U,V,W,X,Y,Z,x6,x7,x8⟩,z⟩:=nine C;obtain⟨⟨y0,y1,y2,y3⟩,z3⟩:=four s;obtain⟨⟨K,L,M,N,O,P,Q,R,S⟩,T⟩:=nine t;have:w.heap.size < h.heap.size:=(gQ C).1;have:w.heap.size+1 < h.heap.size:=(gQ s).1;have:w.heap.size+1+1 < h.heap.size:=(gQ t).1;clear c C s t);go_cut [5] from 21 to 22 (fun _ wx=>tY w g (⟨2,13,J,I⟩,G,F) b cap h.heap.size wx)
 case first=>
  go_wp2_with (go_at_call 55;refine(fG.out _ (HR.out.below (u.out.1.alloc u.out.1.size _))).mono ?_;rintro e w4 ⟨_,y,rfl,i,_,_⟩;obtain⟨l,rfl,A,d,B⟩:=i.2.1 iQ.out;obtain⟨⟨_,_,_,_,_,_,_,_,_⟩,_⟩:=nine (aG i.2.2 (aF u.out.2.1 _) (by have:=(gQ u.out.2.1).1;simp;omega));have HE:Hid (av w4 l g.n g.f∧g.n<=y∧(h.alloc (aB g b cap)).heap.size<=l∧Below (h.alloc (aB g b cap)).heap.size (h.alloc (aB g b cap)) w4):=⟨B,d,A,i.2.2⟩;clear B d A i);go_meet;obtain⟨f1,f2,f3,f4⟩:=HE.out;obtain⟨g1,g2,g3,g4⟩:=u.out;exact vM f1 f2 f3 f4 g1 g2 g3 g4
 case rest=>
  obtain⟨l,j,m,h1,o,h3,q,d,_,_,a⟩:=hcut;have HC:Hid (wc.heap[w.heap.size]?=some (aB g (some ⟨l,0,none⟩) j)∧wc.heap[w.heap.size+2]?=some aV∧av wc l g.n g.f∧g.n<=j∧Below w.heap.size w wc∧w.heap.size+3<=l):=⟨m,o,q,d,a,by omega⟩;have:w.heap.size+3<=l:=(by omega);clear U V W X Y Z x6 x7 x8 z y0 y1 y2 y3 z3 K L M N O P Q R S T;obtain⟨⟨U,V,W,X,Y,Z,x6,x7,x8⟩,z⟩:=nine m;obtain⟨⟨y0,y1,y2,y3⟩,z3⟩:=four h1;obtain⟨⟨K,L,M,N,O,P,Q,R,S⟩,T⟩:=nine o;obtain⟨⟨a0,a1,a2,a3,a4,a5,a6,a7,a8⟩,az⟩:=nine h3;have:w.heap.size+3<=wc.heap.size:=(by have:=q.lt;omega);clear m h1 o h3 q d a;go_upto_block 0 with fail;go_cut [5] from 25 to 136 (fun _ wx=>lM w x wx)
  case first=>
   go_wp2;go_meet;rw [HX.out];exact(yO HC.out).col 0
  case rest=>
   obtain⟨E,k,m,o,q,d,c,a⟩:=hcut;have D:Hid (av _ E x.n x.f∧w.heap.size+3<=E∧Below w.heap.size w _):=⟨q,c,a⟩;obtain⟨⟨_,_,_,_,_,_,_,_,_⟩,_⟩:=nine m;obtain⟨⟨_,_,_,_,_,_,_,_,_⟩,_⟩:=nine o;clear m o q d a U V W X Y Z x6 x7 x8 z K L M N O P Q R S T a0 a1 a2 a3 a4 a5 a6 a7 a8 az;go_wp2;refine bodyPost_ret (v:=.tuple #[ay x (some ⟨E,0,none⟩) k,.int .i64 0]) (by simp [results,results28,go_sem, *]) rfl ?_;exact xu (cap':=k) D.out.1 D.out.2.1 D.out.2.2 _ _ _ _ _ _ _ _ _
theorem Wq (o:OkG g) (d:Option Addr) (cap:Nat) (X:List Int) (W:ByteArray) (O:Option Addr) (N:Nat) (w:World) (s:aL w d g.n g.f) (hn:d=none->g.n=0∧cap=0) (x:Gr) (hx:x=iB g):
  kC 28 #[ay g d cap,eval ⟨2,10,X,W⟩ O N] w (oQ w d (x,0)):=by
 have U:g.n<=4398046511104:=by obtain⟨u,y,_⟩:=o.nums;omega
 have HR:=gH s;have iQ:Hid (0 < g.n):=by
  obtain⟨u,y,_,_,_⟩:=o.nums;have:=o.w1;have:=o.r1;show 0 < g.n;omega
 have dZ:Hid (∀ w,aL w d g.n g.f->kA 54 #[ay g d cap] w (.bool true)):=fun w s=>rz g d cap w s U true ((iT g).2 o).symm;have fG:Hid (∀ w,aL w d g.n g.f->kC 55 #[ay g d cap] w (nk w g)):=fun w s=>vQ g d cap w s hn U;have rY:Hid (∀ (H:World) (h a:Nat),av H h g.n g.f->g.n<=a->kC 56 #[ay g (some ⟨h,0,none⟩) a] H (wV H h x)):=fun H h a hS b=>Sy g o h a H hS b x hx;clear s U hx o hn;go_enter func28,ntmps28;go_upto_region 6 with (go_at_call 54;refine(dZ.out _ (HR.out.below (ji _ _ _ _))).mono ?_;rintro e j ⟨rfl,i⟩;have J:=aG i (aF (aF (at_new w _) _) _) (by simp;omega);have u:=aG i (aF (bK w _ _) _) (by simp);have y:=aG i (kM w _ _ _) (by simp);have A:Hid (Below w.heap.size w j∧j.heap[w.heap.size]?=some (aB g d cap)∧j.heap[w.heap.size+1]?=some (fC (⟨2,10,X,W⟩,O,N))∧j.heap[w.heap.size+2]?=some aV):=⟨(ji _ _ _ _).trans (i.mono (by simp;omega)),J,u,y⟩;obtain⟨⟨x0,x1,x2,x3,x4,x5,x6,x7,x8⟩,z⟩:=nine J;obtain⟨⟨y0,y1,y2,y3⟩,z3⟩:=four u;obtain⟨⟨Y,Z,r2,r3,r4,r5,r6,r7,r8⟩,rv⟩:=nine y;have:w.heap.size < j.heap.size:=(gQ J).1;have:w.heap.size+1 < j.heap.size:=(gQ u).1;have:w.heap.size+1+1 < j.heap.size:=(gQ y).1;clear i J u y);go_cut [5] from 21 to 22 (fun _ wx=>tY w g (⟨2,10,X,W⟩,O,N) d cap j.heap.size wx)
 case first=>
  go_wp2_with (go_at_call 55;refine(fG.out _ (HR.out.below (A.out.1.alloc A.out.1.size _))).mono ?_;rintro e w4 ⟨_,B,rfl,k,_,_⟩;obtain⟨h,rfl,D,b,F⟩:=k.2.1 iQ.out;obtain⟨⟨s0,s1,s2,s3,s4,s5,s6,s7,s8⟩,sz⟩:=nine (aG k.2.2 (aF A.out.2.1 _) (by have:=(gQ A.out.2.1).1;simp;omega));have K:Hid (av w4 h g.n g.f∧g.n<=B∧(j.alloc (aB g d cap)).heap.size<=h∧Below (j.alloc (aB g d cap)).heap.size (j.alloc (aB g d cap)) w4):=⟨F,b,D,k.2.2⟩;clear F b D k);go_meet;obtain⟨P,Q,R,S⟩:=K.out;obtain⟨g1,g2,g3,g4⟩:=A.out;exact vM P Q R S g1 g2 g3 g4
 case rest=>
  obtain⟨h,a,q,h1,r,h3,t,b,_,_,c⟩:=hcut;have p:Hid (wc.heap[w.heap.size]?=some (aB g (some ⟨h,0,none⟩) a)∧wc.heap[w.heap.size+2]?=some aV∧av wc h g.n g.f∧g.n<=a∧Below w.heap.size w wc∧w.heap.size+3<=h):=⟨q,r,t,b,c,by omega⟩;have:w.heap.size+3<=h:=(by omega);clear x0 x1 x2 x3 x4 x5 x6 x7 x8 z y0 y1 y2 y3 z3 Y Z r2 r3 r4 r5 r6 r7 r8 rv;obtain⟨⟨x0,x1,x2,x3,x4,x5,x6,x7,x8⟩,z⟩:=nine q;obtain⟨⟨y0,y1,y2,y3⟩,z3⟩:=four h1;obtain⟨⟨Y,Z,r2,r3,r4,r5,r6,r7,r8⟩,rv⟩:=nine r;obtain⟨⟨a0,a1,a2,a3,a4,a5,a6,a7,a8⟩,az⟩:=nine h3;have lZ:w.heap.size+3<=wc.heap.size:=(by have:=t.lt;omega);clear q h1 r h3 t b c;go_upto_block 0 with fail;go_cut [5] from 25 to 136 (fun _ wx=>lM w x wx)
  case first=>
   go_wp2_with (go_at_call 56;refine(rY.out _ h a p.out.2.2.1 p.out.2.2.2.1).mono ?_;rintro e I ⟨b5,C,rfl,G,oW,T,l⟩;have V:=aG l p.out.1 (by omega);have qy:=aG l p.out.2.1 (by omega);have E:Below w.heap.size w I:=p.out.2.2.2.2.1.trans (l.mono (by omega));have hz:w.heap.size+3<=wc.heap.size:=lZ;have K:Hid (av I b5 x.n x.f∧x.n<=C∧w.heap.size+3<=b5∧Below w.heap.size w I∧I.heap[w.heap.size]?=some (aB g (some ⟨h,0,none⟩) a)∧I.heap[w.heap.size+2]?=some aV):=⟨G,oW,by have:=p.out.2.2.2.2.2;omega,E,V,qy⟩;obtain⟨⟨s0,s1,s2,s3,s4,s5,s6,s7,s8⟩,sz⟩:=nine V;clear G oW l T V qy E hz);go_meet;obtain⟨P,Q,R,S,f5,f6⟩:=K.out;exact EO P Q R S f5 f6
  case rest=>
   obtain⟨M,m,q,r,t,b,i,c⟩:=hcut;have L:Hid (av _ M x.n x.f∧w.heap.size+3<=M∧Below w.heap.size w _):=⟨t,i,c⟩;obtain⟨⟨_,_,_,_,_,_,_,_,_⟩,_⟩:=nine q;obtain⟨⟨_,_,_,_,_,_,_,_,_⟩,_⟩:=nine r;clear q r t b c x0 x1 x2 x3 x4 x5 x6 x7 x8 z Y Z r2 r3 r4 r5 r6 r7 r8 rv a0 a1 a2 a3 a4 a5 a6 a7 a8 az;go_wp2;refine bodyPost_ret (v:=.tuple #[ay x (some ⟨M,0,none⟩) m,.int .i64 0]) (by simp [results,results28,go_sem, *]) rfl ?_;exact xu (cap':=m) L.out.1 L.out.2.1 L.out.2.2 _ _ _ _ _ _ _ _ _
theorem Wh (j:OkG g) (b:Option Addr) (cap:Nat) (R:List Int) (Q:ByteArray) (L:Option Addr) (K:Nat) (w:World) (s:aL w b g.n g.f) (hn:b=none->g.n=0∧cap=0) (x:Gr) (hx:x={g with col:=max (aZ g - 1) 0}):
  kC 28 #[ay g b cap,eval ⟨2,8,R,Q⟩ L K] w (oQ w b (x,0)):=by
 have M:g.n<=4398046511104:=by obtain⟨u,y,_⟩:=j.nums;omega
 have HR:=gH s;have iQ:Hid (0 < g.n):=by
  obtain⟨u,y,_,_,_⟩:=j.nums;have:=j.w1;have:=j.r1;show 0 < g.n;omega
 have dZ:Hid (∀ w,aL w b g.n g.f->kA 54 #[ay g b cap] w (.bool true)):=fun w s=>rz g b cap w s M true ((iT g).2 j).symm;have fG:Hid (∀ w,aL w b g.n g.f->kC 55 #[ay g b cap] w (nk w g)):=fun w s=>vQ g b cap w s hn M;have:=j.c1;have:=j.c2;have:=j.w1;have:=j.w2;have G:Hid (∀ k:Int,k=max (min g.col (g.wide - 1) - 1) 0->x={g with col:=k}):=by
  intro k hk;rw [hx,hk]
  rfl
 clear s M hx j hn;go_enter func28,ntmps28;go_upto_region 6 with (go_at_call 54;refine(dZ.out _ (HR.out.below (ji _ _ _ _))).mono ?_;rintro e h ⟨rfl,c⟩;have H:=aG c (aF (aF (at_new w _) _) _) (by simp;omega);have u:=aG c (aF (bK w _ _) _) (by simp);have y:=aG c (kM w _ _ _) (by simp);have A:Hid (Below w.heap.size w h∧h.heap[w.heap.size]?=some (aB g b cap)∧h.heap[w.heap.size+1]?=some (fC (⟨2,8,R,Q⟩,L,K))∧h.heap[w.heap.size+2]?=some aV):=⟨(ji _ _ _ _).trans (c.mono (by simp;omega)),H,u,y⟩;obtain⟨⟨x0,x1,x2,x3,x4,x5,x6,x7,x8⟩,z⟩:=nine H;obtain⟨⟨y0,y1,y2,y3⟩,z3⟩:=four u;obtain⟨⟨S,T,U,V,W,X,Y,Z,r8⟩,rv⟩:=nine y;have:w.heap.size < h.heap.size:=(gQ H).1;have:w.heap.size+1 < h.heap.size:=(gQ u).1;have:w.heap.size+1+1 < h.heap.size:=(gQ y).1;clear c H u y);go_cut [5] from 21 to 22 (fun _ wx=>tY w g (⟨2,8,R,Q⟩,L,K) b cap h.heap.size wx)
 case first=>
  go_wp2_with (go_at_call 55;refine(fG.out _ (HR.out.below (A.out.1.alloc A.out.1.size _))).mono ?_;rintro e w4 ⟨_,C,rfl,l,_,_⟩;obtain⟨p,rfl,D,d,E⟩:=l.2.1 iQ.out;obtain⟨⟨_,_,_,_,_,_,_,_,_⟩,_⟩:=nine (aG l.2.2 (aF A.out.2.1 _) (by have:=(gQ A.out.2.1).1;simp;omega));have HE:Hid (av w4 p g.n g.f∧g.n<=C∧(h.alloc (aB g b cap)).heap.size<=p∧Below (h.alloc (aB g b cap)).heap.size (h.alloc (aB g b cap)) w4):=⟨E,d,D,l.2.2⟩;clear E d D l);go_meet;obtain⟨f1,f2,f3,f4⟩:=HE.out;obtain⟨g1,g2,g3,g4⟩:=A.out;exact vM f1 f2 f3 f4 g1 g2 g3 g4
 case rest=>
  obtain⟨p,m,q,h1,r,h3,t,d,_,_,a⟩:=hcut;have F:Hid (wc.heap[w.heap.size]?=some (aB g (some ⟨p,0,none⟩) m)∧wc.heap[w.heap.size+2]?=some aV∧av wc p g.n g.f∧g.n<=m∧Below w.heap.size w wc∧w.heap.size+3<=p):=⟨q,r,t,d,a,by omega⟩;have:w.heap.size+3<=p:=(by omega);clear x0 x1 x2 x3 x4 x5 x6 x7 x8 z y0 y1 y2 y3 z3 S T U V W X Y Z r8 rv;obtain⟨⟨x0,x1,x2,x3,x4,x5,x6,x7,x8⟩,z⟩:=nine q;obtain⟨⟨y0,y1,y2,y3⟩,z3⟩:=four h1;obtain⟨⟨S,T,U,V,W,X,Y,Z,r8⟩,rv⟩:=nine r;obtain⟨⟨a0,a1,a2,a3,a4,a5,a6,a7,a8⟩,az⟩:=nine h3;have:w.heap.size+3<=wc.heap.size:=(by have:=t.lt;omega);clear q h1 r h3 t d a;go_upto_block 0 with fail;go_cut [5] from 25 to 136 (fun _ wx=>lM w x wx)
  case first=>
   by_cases i:g.col=g.wide
   ·have P:(g.col==g.wide)=true:=(by simp [i]);have B:=gH i;clear i;by_cases N:0 < g.col - 1
    ·go_wp2;go_meet;have i:=B.out;rw [G.out (g.col - 1 - 1) (by omega)];exact((yO F.out).col (g.col - 1)).col (g.col - 1 - 1)
    ·have O:g.col - 1<=0:=(by omega);clear N;go_wp2;go_meet;have i:=B.out;rw [G.out (g.col - 1) (by omega)];exact(yO F.out).col (g.col - 1)
   ·have P:(g.col==g.wide)=false:=(by simp [i]);have B:=gH i;clear i;by_cases N:0 < g.col
    ·go_wp2;go_meet;have i:=B.out;rw [G.out (g.col - 1) (by omega)];exact(yO F.out).col (g.col - 1)
    ·have O:g.col<=0:=(by omega);clear N;go_wp2;go_meet;have i:=B.out;rw [G.out g.col (by omega)];exact yO F.out
  case rest=>
   obtain⟨J,o,q,r,t,d,c,a⟩:=hcut;have I:Hid (av _ J x.n x.f∧w.heap.size+3<=J∧Below w.heap.size w _):=⟨t,c,a⟩;obtain⟨⟨_,_,_,_,_,_,_,_,_⟩,_⟩:=nine q;obtain⟨⟨_,_,_,_,_,_,_,_,_⟩,_⟩:=nine r;clear q r t d a x0 x1 x2 x3 x4 x5 x6 x7 x8 z S T U V W X Y Z r8 rv a0 a1 a2 a3 a4 a5 a6 a7 a8 az;go_wp2;refine bodyPost_ret (v:=.tuple #[ay x (some ⟨J,0,none⟩) o,.int .i64 0]) (by simp [results,results28,go_sem, *]) rfl ?_;exact xu (cap':=o) I.out.1 I.out.2.1 I.out.2.2 _ _ _ _ _ _ _ _ _
theorem LC (s:OkG g) (b:Option Addr) (cap:Nat) (c:Int) (M:List Int) (L:ByteArray) (J:Option Addr) (I:Nat) (w:World) (q:aL w b g.n g.f) (hn:b=none->g.n=0∧cap=0) (C:c≠13) (B:c≠10) (h9:c≠9) (h8:c≠8) (x:Gr) (hx:x=g):
  kC 28 #[ay g b cap,eval ⟨2,c,M,L⟩ J I] w (oQ w b (x,0)):=by
 have K:g.n<=4398046511104:=by obtain⟨t,u,_⟩:=s.nums;omega
 have HR:=gH q;have iQ:Hid (0 < g.n):=by
  obtain⟨t,u,_,_,_⟩:=s.nums;have:=s.w1;have:=s.r1;show 0 < g.n;omega
 have dZ:Hid (∀ w,aL w b g.n g.f->kA 54 #[ay g b cap] w (.bool true)):=fun w q=>rz g b cap w q K true ((iT g).2 s).symm;have fG:Hid (∀ w,aL w b g.n g.f->kC 55 #[ay g b cap] w (nk w g)):=fun w q=>vQ g b cap w q hn K;have HX:=gH hx;have:(c==13)=false:=by simp [C]
 have:(c==10)=false:=by simp [B]
 have:(c==9)=false:=by simp [h9]
 have:(c==8)=false:=by simp [h8]
 clear q K hx s hn C B h9 h8;go_enter func28,ntmps28;go_upto_region 6 with (go_at_call 54;refine(dZ.out _ (HR.out.below (ji _ _ _ _))).mono ?_;rintro e i ⟨rfl,d⟩;have F:=aG d (aF (aF (at_new w _) _) _) (by simp;omega);have t:=aG d (aF (bK w _ _) _) (by simp);have u:=aG d (kM w _ _ _) (by simp);have y:Hid (Below w.heap.size w i∧i.heap[w.heap.size]?=some (aB g b cap)∧i.heap[w.heap.size+1]?=some (fC (⟨2,c,M,L⟩,J,I))∧i.heap[w.heap.size+2]?=some aV):=⟨(ji _ _ _ _).trans (d.mono (by simp;omega)),F,t,u⟩;obtain⟨⟨X,Y,Z,x3,x4,x5,x6,x7,x8⟩,z⟩:=nine F;obtain⟨⟨y0,y1,y2,y3⟩,z3⟩:=four t;obtain⟨⟨N,O,P,Q,R,S,T,U,V⟩,W⟩:=nine u;have:w.heap.size < i.heap.size:=(gQ F).1;have:w.heap.size+1 < i.heap.size:=(gQ t).1;have:w.heap.size+1+1 < i.heap.size:=(gQ u).1;clear d F t u);go_cut [5] from 21 to 22 (fun _ wx=>tY w g (⟨2,c,M,L⟩,J,I) b cap i.heap.size wx)
 case first=>
  go_wp2_with (go_at_call 55;refine(fG.out _ (HR.out.below (y.out.1.alloc y.out.1.size _))).mono ?_;rintro e w4 ⟨_,A,rfl,j,_,_⟩;obtain⟨m,rfl,D,h,E⟩:=j.2.1 iQ.out;obtain⟨⟨_,_,_,_,_,_,_,_,_⟩,_⟩:=nine (aG j.2.2 (aF y.out.2.1 _) (by have:=(gQ y.out.2.1).1;simp;omega));have HE:Hid (av w4 m g.n g.f∧g.n<=A∧(i.alloc (aB g b cap)).heap.size<=m∧Below (i.alloc (aB g b cap)).heap.size (i.alloc (aB g b cap)) w4):=⟨E,h,D,j.2.2⟩;clear E h D j);go_meet;obtain⟨f1,f2,f3,f4⟩:=HE.out;obtain⟨g1,g2,g3,g4⟩:=y.out;exact vM f1 f2 f3 f4 g1 g2 g3 g4
 case rest=>
  obtain⟨m,k,o,h1,p,h3,r,h,_,_,a⟩:=hcut;have HC:Hid (wc.heap[w.heap.size]?=some (aB g (some ⟨m,0,none⟩) k)∧wc.heap[w.heap.size+2]?=some aV∧av wc m g.n g.f∧g.n<=k∧Below w.heap.size w wc∧w.heap.size+3<=m):=⟨o,p,r,h,a,by omega⟩;have:w.heap.size+3<=m:=(by omega);clear X Y Z x3 x4 x5 x6 x7 x8 z y0 y1 y2 y3 z3 N O P Q R S T U V W;obtain⟨⟨X,Y,Z,x3,x4,x5,x6,x7,x8⟩,z⟩:=nine o;obtain⟨⟨y0,y1,y2,y3⟩,z3⟩:=four h1;obtain⟨⟨N,O,P,Q,R,S,T,U,V⟩,W⟩:=nine p;obtain⟨⟨a0,a1,a2,a3,a4,a5,a6,a7,a8⟩,az⟩:=nine h3;have:w.heap.size+3<=wc.heap.size:=(by have:=r.lt;omega);clear o h1 p h3 r h a;go_upto_block 0 with fail;go_cut [5] from 25 to 136 (fun _ wx=>lM w x wx)
  case first=>
   go_wp2;go_meet;rw [HX.out];exact yO HC.out
  case rest=>
   obtain⟨H,l,o,p,r,h,d,a⟩:=hcut;have G:Hid (av _ H x.n x.f∧w.heap.size+3<=H∧Below w.heap.size w _):=⟨r,d,a⟩;obtain⟨⟨_,_,_,_,_,_,_,_,_⟩,_⟩:=nine o;obtain⟨⟨_,_,_,_,_,_,_,_,_⟩,_⟩:=nine p;clear o p r h a X Y Z x3 x4 x5 x6 x7 x8 z N O P Q R S T U V W a0 a1 a2 a3 a4 a5 a6 a7 a8 az;go_wp2;refine bodyPost_ret (v:=.tuple #[ay x (some ⟨H,0,none⟩) l,.int .i64 0]) (by simp [results,results28,go_sem, *]) rfl ?_;exact xu (cap':=l) G.out.1 G.out.2.1 G.out.2.2 _ _ _ _ _ _ _ _ _
theorem Wx (g:Gr) (m:OkG g) (i:Option Addr) (cap:Nat) (ps:List Int) (pl:ByteArray) (eo:Option Addr) (ec:Nat) (w:World) (y:aL w i g.n g.f) (hn:i=none->g.n=0∧cap=0) (x:Gr) (hx:x={g with col:=min ((g.col / 8+1)*8) (g.wide - 1)}):
  kC 28 #[ay g i cap,eval ⟨2,9,ps,pl⟩ eo ec] w (oQ w i (x,0)):=by
 have hm:g.n<=4398046511104:=by obtain⟨A,B,_⟩:=m.nums;omega
 have HR:=gH y;have iQ:Hid (0 < g.n):=by
  obtain⟨A,B,_,_,_⟩:=m.nums;have:=m.w1;have:=m.r1;show 0 < g.n;omega
 have dZ:Hid (∀ w,aL w i g.n g.f->kA 54 #[ay g i cap] w (.bool true)):=fun w y=>rz g i cap w y hm true ((iT g).2 m).symm;have fG:Hid (∀ w,aL w i g.n g.f->kC 55 #[ay g i cap] w (nk w g)):=fun w y=>vQ g i cap w y hn hm;have af:=m.c1;have ag:=m.c2;have aj:=m.w1;have ak:=m.w2;obtain⟨T,hT⟩:∃ T:Int,T=(g.col / 8+1)*8:=⟨_,rfl⟩;have ac:g.col+1<=T:=by omega
 have ad:T<=g.col+8:=by omega
 have HT:=gH hT;have HX:Hid (∀ k:Int,k=min T (g.wide - 1)->x={g with col:=k}):=by
  intro k hk;rw [hx,hk,hT]
 clear y hm hx m hn hT;go_enter func28,ntmps28;go_upto_region 6 with (go_at_call 54;refine(dZ.out _ (HR.out.below (ji _ _ _ _))).mono ?_;rintro e l ⟨rfl,h⟩;have M:=aG h (aF (aF (at_new w _) _) _) (by simp;omega);have A:=aG h (aF (bK w _ _) _) (by simp);have B:=aG h (kM w _ _ _) (by simp);have C:Hid (Below w.heap.size w l∧l.heap[w.heap.size]?=some (aB g i cap)∧l.heap[w.heap.size+1]?=some (fC (⟨2,9,ps,pl⟩,eo,ec))∧l.heap[w.heap.size+2]?=some aV):=⟨(ji _ _ _ _).trans (h.mono (by simp;omega)),M,A,B⟩;obtain⟨⟨Y,Z,x2,x3,x4,x5,x6,x7,x8⟩,z⟩:=nine M;obtain⟨⟨y0,y1,y2,y3⟩,z3⟩:=four A;obtain⟨⟨N,O,P,Q,R,S,U,V,W⟩,X⟩:=nine B;have m0:w.heap.size < l.heap.size:=(gQ M).1;have m1:w.heap.size+1 < l.heap.size:=(gQ A).1;have m2:w.heap.size+1+1 < l.heap.size:=(gQ B).1;clear h M A B);go_cut [5] from 21 to 22 (fun _ wx=>tY w g (⟨2,9,ps,pl⟩,eo,ec) i cap l.heap.size wx)
 case first=>
  go_wp2_with (go_at_call 55;refine(fG.out _ (HR.out.below (C.out.1.alloc C.out.1.size _))).mono ?_;rintro e w4 ⟨_,E,rfl,p,_,_⟩;obtain⟨t,rfl,F,b,J⟩:=p.2.1 iQ.out;obtain⟨⟨_,_,_,_,_,_,_,_,_⟩,_⟩:=nine (aG p.2.2 (aF C.out.2.1 _) (by have:=(gQ C.out.2.1).1;simp;omega));have HE:Hid (av w4 t g.n g.f∧g.n<=E∧(l.alloc (aB g i cap)).heap.size<=t∧Below (l.alloc (aB g i cap)).heap.size (l.alloc (aB g i cap)) w4):=⟨J,b,F,p.2.2⟩;clear J b F p);go_meet;obtain⟨f1,f2,f3,f4⟩:=HE.out;obtain⟨g1,g2,g3,g4⟩:=C.out;exact vM f1 f2 f3 f4 g1 g2 g3 g4
 case rest=>
  obtain⟨t,q,o,h1,r,h3,s,b,_,_,a⟩:=hcut;have HC:Hid (wc.heap[w.heap.size]?=some (aB g (some ⟨t,0,none⟩) q)∧wc.heap[w.heap.size+2]?=some aV∧av wc t g.n g.f∧g.n<=q∧Below w.heap.size w wc∧w.heap.size+3<=t):=⟨o,r,s,b,a,by omega⟩;have ae:w.heap.size+3<=t:=(by omega);clear Y Z x2 x3 x4 x5 x6 x7 x8 z y0 y1 y2 y3 z3 N O P Q R S U V W X;obtain⟨⟨Y,Z,x2,x3,x4,x5,x6,x7,x8⟩,z⟩:=nine o;obtain⟨⟨y0,y1,y2,y3⟩,z3⟩:=four h1;obtain⟨⟨N,O,P,Q,R,S,U,V,W⟩,X⟩:=nine r;obtain⟨⟨a0,a1,a2,a3,a4,a5,a6,a7,a8⟩,az⟩:=nine h3;have lZ:w.heap.size+3<=wc.heap.size:=(by have:=s.lt;omega);clear o h1 r h3 s b a;go_upto_block 0 with fail;go_cut [5] from 25 to 136 (fun _ wx=>lM w x wx)
  case first=>
   go_wp2;go_loopg [84] 40 (fun gh _ wr=>∃ c:Int,g.col+1<=c∧c<=T∧(T - c).toNat<=gh∧lM w {g with col:=c} wr)
   case atStart=>exact⟨g.col+1,by omega,by omega,by omega,(yO HC.out).col (g.col+1)⟩
   case round=>
    obtain⟨c,_,_,I,Fu⟩:=hrel;have Bt:=gH Fu;have D:=gH I;obtain⟨K,j,o,r,s,b,h,a⟩:=Fu;obtain⟨⟨k0,k1,k2,k3,k4,k5,k6,k7,k8⟩,kz⟩:=nine o;clear o r s b a Y Z x2 x3 x4 x5 x6 x7 x8 z N O P Q R S U V W X a0 a1 a2 a3 a4 a5 a6 a7 a8 az I;obtain⟨d,hd⟩:∃ d,c.tmod 8=d:=⟨_,rfl⟩;have G:d=c % 8:=(by rw [<-hd,Int.tmod_eq_emod_of_nonneg (by omega)]);have ah:0<=d:=(by omega);have ai:d<=7:=(by omega);by_cases L:c=T
    ·have H:d=0:=(by have:=HT.out;omega);subst H;have u:=gH L;clear L G;by_cases aa:g.wide - 1 < c
     ·go_wp2;go_meet;rw [HX.out (g.wide - 1) (by have:=u.out;omega)];exact Bt.out.col (g.wide - 1)
     ·have ab:c<=g.wide - 1:=(by omega);clear aa;go_wp2;go_meet;rw [HX.out c (by have:=u.out;omega)];exact Bt.out.col c
    ·have H:(d==0)=false:=by
      have:d≠0:=(by have:=HT.out;omega);simp [this]
     have u:=gH L;clear L G;go_wp2;go_roundg (gk - 1)
     case measure=>have:=u.out;have:=D.out;omega
     case rel=>exact⟨c+1,by omega,by have:=u.out;omega,by have:=u.out;have:=D.out;omega,Bt.out.col (c+1)⟩
  case rest=>
   obtain⟨K,j,o,r,s,b,h,a⟩:=hcut;have HF:Hid (av _ K x.n x.f∧w.heap.size+3<=K∧Below w.heap.size w _):=⟨s,h,a⟩;obtain⟨⟨k0,k1,k2,k3,k4,k5,k6,k7,k8⟩,kz⟩:=nine o;obtain⟨⟨_,_,_,_,_,_,_,_,_⟩,_⟩:=nine r;clear o r s b a Y Z x2 x3 x4 x5 x6 x7 x8 z N O P Q R S U V W X a0 a1 a2 a3 a4 a5 a6 a7 a8 az;go_wp2;refine bodyPost_ret (v:=.tuple #[ay x (some ⟨K,0,none⟩) j,.int .i64 0]) (by simp [results,results28,go_sem, *]) rfl ?_;exact xu (cap':=j) HF.out.1 HF.out.2.1 HF.out.2.2 _ _ _ _ _ _ _ _ _
variable (g:Gr)
theorem WH {w wx:World} {y:Gr} {a cap':Nat} (j:wx.heap[w.heap.size]?=some (aB y (some ⟨a,0,none⟩) cap')) (l:wx.heap[w.heap.size+2]?=some aV) (q:av wx a y.n y.f) (o:y.n<=cap') (m:w.heap.size+3<=a) (b:Below w.heap.size w wx) (i o0 o1 o2 o3:Nat) (k:aH) (p:i < y.n) (c:o0=i*4) (d:o1=i*4+1) (e:o2=i*4+2) (h:o3=i*4+3):
  lM w {y with f:=gV y.f i k} ((((wx.setCell ⟨a,o0,none⟩ (.int .i64 k.ch)).setCell ⟨a,o1,none⟩ (.int .i64 k.aA)).setCell ⟨a,o2,none⟩ (.int .i64 k.aJ)).setCell ⟨a,o3,none⟩ (.bool k.bold)):=
 ⟨a,cap',cO (cO (cO (cO j (by omega)) (by omega)) (by omega)) (by omega),cO (cO (cO (cO l (by omega)) (by omega)) (by omega)) (by omega),q.put i o0 o1 o2 o3 k p c d e h,o,m,(((b.setCell (by show _<=a;omega) _).setCell (by show _<=a;omega) _).setCell (by show _<=a;omega) _).setCell (by show _<=a;omega) _⟩
theorem Xd:iB {g with col:=0}={iB g with col:=0}:=by
 unfold iB;split <;>rfl
theorem Wo (p:OkG g) (a:Option Addr) (cap:Nat) (c:Int) (K:List Int) (J:ByteArray) (E:Option Addr) (D:Nat) (w:World) (o:aL w a g.n g.f) (N:a=none->g.n=0∧cap=0) (m:c < 32∨126 < c):
  kC 28 #[ay g a cap,eval ⟨1,c,K,J⟩ E D] w (oQ w a (g,6)):=by
 have H:g.n<=4398046511104:=by obtain⟨q,r,_⟩:=p.nums;omega
 have A:=gH o;have iQ:Hid (0 < g.n):=by
  obtain⟨q,r,_,_,_⟩:=p.nums;have:=p.w1;have:=p.r1;show 0 < g.n;omega
 have dZ:Hid (∀ w,aL w a g.n g.f->kA 54 #[ay g a cap] w (.bool true)):=fun w o=>rz g a cap w o H true ((iT g).2 p).symm;have fG:Hid (∀ w,aL w a g.n g.f->kC 55 #[ay g a cap] w (nk w g)):=fun w o=>vQ g a cap w o N H;have C:c < 32∨(32<=c∧126 < c):=by omega
 clear o H p N m;go_enter func28,ntmps28;go_upto_region 6 with (go_at_call 54;refine(dZ.out _ (A.out.below (ji _ _ _ _))).mono ?_;rintro e h ⟨rfl,b⟩;have y:=aG b (aF (aF (at_new w _) _) _) (by simp;omega);have q:=aG b (aF (bK w _ _) _) (by simp);have r:=aG b (kM w _ _ _) (by simp);have s:Hid (Below w.heap.size w h∧h.heap[w.heap.size]?=some (aB g a cap)∧h.heap[w.heap.size+1]?=some (fC (⟨1,c,K,J⟩,E,D))∧h.heap[w.heap.size+2]?=some aV):=⟨(ji _ _ _ _).trans (b.mono (by simp;omega)),y,q,r⟩;obtain⟨⟨x0,x1,x2,x3,x4,x5,x6,x7,x8⟩,z⟩:=nine y;obtain⟨⟨y0,y1,y2,y3⟩,z3⟩:=four q;obtain⟨⟨O,P,Q,R,S,T,U,V,W⟩,Y⟩:=nine r;have:w.heap.size < h.heap.size:=(gQ y).1;have:w.heap.size+1 < h.heap.size:=(gQ q).1;have:w.heap.size+1+1 < h.heap.size:=(gQ r).1;clear b y q r);go_cut [5] from 21 to 22 (fun _ wx=>tY w g (⟨1,c,K,J⟩,E,D) a cap h.heap.size wx)
 case first=>
  go_wp2_with (go_at_call 55;refine(fG.out _ (A.out.below (s.out.1.alloc s.out.1.size _))).mono ?_;rintro e Z ⟨_,t,rfl,i,_,_⟩;obtain⟨l,rfl,u,d,x⟩:=i.2.1 iQ.out;obtain⟨⟨_,_,_,_,_,_,_,_,_⟩,_⟩:=nine (aG i.2.2 (aF s.out.2.1 _) (by have:=(gQ s.out.2.1).1;simp;omega));have HE:Hid (av Z l g.n g.f∧g.n<=t∧(h.alloc (aB g a cap)).heap.size<=l∧Below (h.alloc (aB g a cap)).heap.size (h.alloc (aB g a cap)) Z):=⟨x,d,u,i.2.2⟩;clear x d u i);go_meet;obtain⟨f1,f2,f3,f4⟩:=HE.out;obtain⟨g1,g2,g3,g4⟩:=s.out;exact vM f1 f2 f3 f4 g1 g2 g3 g4
 case rest=>
  obtain⟨l,j,F,L,G,M,I,d,_,_,k⟩:=hcut;have HC:Hid (wc.heap[w.heap.size]?=some (aB g (some ⟨l,0,none⟩) j)∧wc.heap[w.heap.size+2]?=some aV∧av wc l g.n g.f∧g.n<=j∧Below w.heap.size w wc∧w.heap.size+3<=l):=⟨F,G,I,d,k,by omega⟩;have:w.heap.size+3<=l:=(by omega);clear x0 x1 x2 x3 x4 x5 x6 x7 x8 z y0 y1 y2 y3 z3 O P Q R S T U V W Y;obtain⟨⟨x0,x1,x2,x3,x4,x5,x6,x7,x8⟩,z⟩:=nine F;obtain⟨⟨y0,y1,y2,y3⟩,z3⟩:=four L;obtain⟨⟨O,P,Q,R,S,T,U,V,W⟩,Y⟩:=nine G;obtain⟨⟨_,_,_,_,_,_,_,_,_⟩,_⟩:=nine M;have:w.heap.size+3<=wc.heap.size:=(by have:=I.lt;omega);clear F L G M I d k;rcases C with m | ⟨aa,m⟩
  all_goals (
   go_wp2
   refine bodyPost_ret (v:=.tuple #[ay g a cap,.int .i64 6]) (by simp [results,results28,go_sem, *]) rfl ?_
   have X:=iZ HC.out.2.2.2.2.1 (B:=w.heap.size+2) (by omega) (.int .i64 g.wide) (.int .i64 g.high) (.slice a g.n cap) (.int .i64 g.row) (.int .i64 g.col) (.int .i64 g.aA) (.bool g.bold) (.int .i64 g.top) (.int .i64 g.bottom)
   exact⟨a,cap,rfl,A.out.below X,X,.inl rfl⟩)
theorem Ww (E:OkG g) (m:Option Addr) (cap:Nat) (c:Int) (R:List Int) (Q:ByteArray) (M:Option Addr) (L:Nat) (w:World) (N:aL w m g.n g.f) (hn:m=none->g.n=0∧cap=0) (am:32<=c) (an:c<=126) (y x:Gr) (hy:y=lX g) (hx:x=xW y c):
  kC 28 #[ay g m cap,eval ⟨1,c,R,Q⟩ M L] w (oQ w m (x,0)):=by
 have hm:g.n<=4398046511104:=by obtain⟨F,G,_⟩:=E.nums;omega
 have HR:=gH N;have iQ:Hid (0 < g.n):=by
  obtain⟨F,G,q3,q4,_⟩:=E.nums;have:=E.w1;have:=E.r1;show 0 < g.n;omega
 have dZ:Hid (∀ w,aL w m g.n g.f->kA 54 #[ay g m cap] w (.bool true)):=fun w N=>rz g m cap w N hm true ((iT g).2 E).symm;have fG:Hid (∀ w,aL w m g.n g.f->kC 55 #[ay g m cap] w (nk w g)):=fun w N=>vQ g m cap w N hn hm;obtain⟨r,FP,_,_,ah⟩:=Od E;rw [<-hy] at r FP ah;have aj:Hid (OkG y∧y.col < y.wide):=⟨r,FP⟩;have HX:=gH hx;have rY:Hid (∀ (D:World) (o b:Nat),av D o g.n g.f->g.n<=b->kC 56 #[ay g (some ⟨o,0,none⟩) b] D (wV D o (iB g))):=fun D o b hS d=>Sy g E o b D hS d _ rfl;have Lf:Hid ((g.col=g.wide->y={iB g with col:=0})∧(g.col≠g.wide->y=g)):=by
  constructor
  ·intro h;rw [hy];unfold lX;rw [if_pos h];exact Xd g
  ·intro h;rw [hy];unfold lX;rw [if_neg h]
 obtain⟨K,ai⟩:∃ K,K=iB g:=⟨_,rfl⟩;rw [<-ai] at rY Lf;clear N hm hx E hn hy ai r FP ah;go_enter func28,ntmps28;go_upto_region 6 with (go_at_call 54;refine(dZ.out _ (HR.out.below (ji _ _ _ _))).mono ?_;rintro e A ⟨rfl,i⟩;have q0:=aG i (aF (aF (at_new w _) _) _) (by simp;omega);have F:=aG i (aF (bK w _ _) _) (by simp);have G:=aG i (kM w _ _ _) (by simp);have HB:Hid (Below w.heap.size w A∧A.heap[w.heap.size]?=some (aB g m cap)∧A.heap[w.heap.size+1]?=some (fC (⟨1,c,R,Q⟩,M,L))∧A.heap[w.heap.size+2]?=some aV):=⟨(ji _ _ _ _).trans (i.mono (by simp;omega)),q0,F,G⟩;obtain⟨⟨S,T,U,V,W,X,Y,Z,x8⟩,z⟩:=nine q0;obtain⟨⟨y0,y1,y2,y3⟩,z3⟩:=four F;obtain⟨⟨r0,r1,r2,r3,r4,r5,r6,r7,r8⟩,rv⟩:=nine G;have:w.heap.size < A.heap.size:=(gQ q0).1;have:w.heap.size+1 < A.heap.size:=(gQ F).1;have:w.heap.size+1+1 < A.heap.size:=(gQ G).1;clear i q0 F G);go_cut [5] from 21 to 22 (fun _ wx=>tY w g (⟨1,c,R,Q⟩,M,L) m cap A.heap.size wx)
 case first=>
  go_wp2_with (go_at_call 55;refine(fG.out _ (HR.out.below (HB.out.1.alloc HB.out.1.size _))).mono ?_;rintro e w4 ⟨_,aa,rfl,C,_,_⟩;obtain⟨o,rfl,ac,d,af⟩:=C.2.1 iQ.out;obtain⟨⟨s0,s1,s2,s3,s4,s5,s6,s7,s8⟩,sz⟩:=nine (aG C.2.2 (aF HB.out.2.1 _) (by have:=(gQ HB.out.2.1).1;simp;omega));have HE:Hid (av w4 o g.n g.f∧g.n<=aa∧(A.alloc (aB g m cap)).heap.size<=o∧Below (A.alloc (aB g m cap)).heap.size (A.alloc (aB g m cap)) w4):=⟨af,d,ac,C.2.2⟩;clear af d ac C);go_meet;obtain⟨f1,f2,f3,f4⟩:=HE.out;obtain⟨g1,g2,g3,g4⟩:=HB.out;exact vM f1 f2 f3 f4 g1 g2 g3 g4
 case rest=>
  obtain⟨o,b,p,h1,s,h3,q,d,_,_,a⟩:=hcut;have H:Hid (wc.heap[w.heap.size]?=some (aB g (some ⟨o,0,none⟩) b)∧wc.heap[w.heap.size+2]?=some aV∧av wc o g.n g.f∧g.n<=b∧Below w.heap.size w wc∧w.heap.size+3<=o):=⟨p,s,q,d,a,by omega⟩;have:w.heap.size+3<=o:=(by omega);clear S T U V W X Y Z x8 z y0 y1 y2 y3 z3 r0 r1 r2 r3 r4 r5 r6 r7 r8 rv;obtain⟨⟨S,T,U,V,W,X,Y,Z,x8⟩,z⟩:=nine p;obtain⟨⟨y0,y1,y2,y3⟩,z3⟩:=four h1;obtain⟨⟨r0,r1,r2,r3,r4,r5,r6,r7,r8⟩,rv⟩:=nine s;obtain⟨⟨a0,a1,a2,a3,a4,a5,a6,a7,a8⟩,az⟩:=nine h3;have lZ:w.heap.size+3<=wc.heap.size:=(by have:=q.lt;omega);clear p s h3 q d a;have zK:=gH h1;clear h1;go_upto_block 0 with fail;go_cut [5] from 25 to 136 (fun _ wx=>lM w x wx)
  case first=>
   go_upto_if 40 with fail;go_cut [5] from 40 to 43 (fun _ wx=>lM w y wx∧wx.heap[w.heap.size+1]?=some (fC (⟨1,c,R,Q⟩,M,L)))
   case first=>
    by_cases O:g.col=g.wide
    ·have al:(g.col==g.wide)=true:=(by simp [O]);have HW:=gH O;clear O;go_upto_region 12 with fail;go_cut [5] from 40 to 42 (fun _ wx=>lM w K wx∧wx.heap[w.heap.size+1]?=some (fC (⟨1,c,R,Q⟩,M,L)))
     case first=>
      go_wp2_with (go_at_call 56;refine(rY.out _ o b H.out.2.2.1 H.out.2.2.2.1).mono ?_;rintro e w5 ⟨b5,ab,rfl,ag,oW,ak,t⟩;have mK:=aG t H.out.1 (by omega);have qy:=aG t H.out.2.1 (by omega);have ad:Below w.heap.size w w5:=H.out.2.2.2.2.1.trans (t.mono (by omega));have Qc:=aG t zK.out (by omega);have Kw:=gH Qc;have hz:w.heap.size+3<=wc.heap.size:=lZ;have HE:Hid (av w5 b5 K.n K.f∧K.n<=ab∧w.heap.size+3<=b5∧Below w.heap.size w w5∧w5.heap[w.heap.size]?=some (aB g (some ⟨o,0,none⟩) b)∧w5.heap[w.heap.size+2]?=some aV):=⟨ag,oW,by have:=H.out.2.2.2.2.2;omega,ad,mK,qy⟩;obtain⟨⟨s0,s1,s2,s3,s4,s5,s6,s7,s8⟩,sz⟩:=nine mK;clear ag oW t ak mK Qc qy ad hz);go_meet;obtain⟨f1,f2,f3,f4,f5,f6⟩:=HE.out;exact⟨EO f1 f2 f3 f4 f5 f6,zC Kw.out (by omega) _ _ _ _ _ _ _ _ _⟩
     case rest=>
      obtain⟨Fu,Fy⟩:=hcut;have Bt:Hid (lM w K wc∧wc.heap[w.heap.size+1]?=some (fC (⟨1,c,R,Q⟩,M,L))):=⟨Fu,Fy⟩;obtain⟨B,l,p,s,q,d,i,a⟩:=Fu;obtain⟨⟨k0,k1,k2,k3,k4,k5,k6,k7,k8⟩,kz⟩:=nine p;clear p s q d a S T U V W X Y Z x8 z r0 r1 r2 r3 r4 r5 r6 r7 r8 rv a0 a1 a2 a3 a4 a5 a6 a7 a8 az Fy;go_wp2;go_meet;rw [Lf.out.1 HW.out];exact⟨Bt.out.1.col 0,cO Bt.out.2 (by omega)⟩
    ·have al:(g.col==g.wide)=false:=(by simp [O]);have HW:=gH O;clear O;go_wp2;go_meet;rw [Lf.out.2 HW.out];exact⟨yO H.out,zK.out⟩
   case rest=>
    obtain⟨⟨B,l,p,s,q,d,i,a⟩,Fy⟩:=hcut;obtain⟨r,FP⟩:=aj.out;have:=r.w1;have:=r.c1;have:=r.r1;have:y.row<=10:=(by have:=r.r2;have:=r.h2;omega);have:=r.w2;obtain⟨F,G,q3,q4,_⟩:=r.nums;have HP:Hid (wc.heap[w.heap.size]?=some (aB y (some ⟨B,0,none⟩) l)∧wc.heap[w.heap.size+2]?=some aV∧av wc B y.n y.f∧y.n<=l∧Below w.heap.size w wc):=⟨p,s,q,d,a⟩;clear S T U V W X Y Z x8 z y0 y1 y2 y3 z3 r0 r1 r2 r3 r4 r5 r6 r7 r8 rv a0 a1 a2 a3 a4 a5 a6 a7 a8 az;obtain⟨⟨S,T,U,V,W,X,Y,Z,x8⟩,z⟩:=nine p;obtain⟨⟨y0,y1,y2,y3⟩,z3⟩:=four Fy;obtain⟨P,hP⟩:∃ P:Nat,y.row*y.wide=P:=⟨(y.row*y.wide).toNat,by omega⟩;obtain⟨I,hI⟩:∃ I:Nat,(P:Int)+y.col=I:=⟨((P:Int)+y.col).toNat,by omega⟩;have:IntKind.i64.wrap (y.row*y.wide)=(P:Int):=(by rw [hP,IntKind.wrap_i64];omega);have:IntKind.i64.wrap ((P:Int)+y.col)=(I:Int):=(by rw [hI,IntKind.wrap_i64];omega);have:IntKind.i64.wrap (I:Int)=(I:Int):=(by rw [IntKind.wrap_i64];omega);have J:I < y.n:=(by omega);have:(0:Int)<=(I:Int):=(by omega);have:(I:Int) < (y.n:Int):=(by omega);obtain⟨t0,t1,t2,t3⟩:=q.cells I J;have:∀ j,wc.frozen? ⟨B,j,none⟩=false:=q.free;have HI:Hid (I=(y.row*y.wide+y.col).toNat∧I < y.n):=⟨by omega,J⟩;obtain⟨k0,ae⟩:∃ k,k=y.f I:=⟨_,rfl⟩;rw [<-ae] at t0 t1 t2 t3;have:∀ (D:World) (j:Nat) (u:Value) (k:Nat),(D.setCell ⟨B,j,none⟩ u).cell? ⟨w.heap.size,k,none⟩=D.cell? ⟨w.heap.size,k,none⟩:=fun D j u k=>World.cell?_setCell_other _ _ _ _ (by intro e;simp only [Addr.mk.injEq] at e;omega);have:y.col<=24:=(by omega);clear p s q d a Fy r F G q3 q4 hP J ae FP;go_wp2;go_meet;obtain⟨g1,g2,g3,g4,g5⟩:=HP.out;obtain⟨i1,i2⟩:=HI.out;have hq:=(WH g1 g2 g3 g4 i g5 I (I*4) (I*4+1) (I*4+2) (I*4+3) ⟨c,y.aA,0,y.bold⟩ i2 rfl rfl rfl rfl).col (y.col+1);rw [HX.out];unfold xW;rw [<-i1];exact hq
  case rest=>
   obtain⟨B,l,p,s,q,d,i,a⟩:=hcut;have HF:Hid (av _ B x.n x.f∧w.heap.size+3<=B∧Below w.heap.size w _):=⟨q,i,a⟩;obtain⟨⟨k0,k1,k2,k3,k4,k5,k6,k7,k8⟩,kz⟩:=nine p;obtain⟨⟨_,_,_,_,_,_,_,_,_⟩,_⟩:=nine s;clear p s q d a S T U V W X Y Z x8 z r0 r1 r2 r3 r4 r5 r6 r7 r8 rv a0 a1 a2 a3 a4 a5 a6 a7 a8 az;go_wp2;refine bodyPost_ret (v:=.tuple #[ay x (some ⟨B,0,none⟩) l,.int .i64 0]) (by simp [results,results28,go_sem, *]) rfl ?_;exact xu (cap':=l) HF.out.1 HF.out.2.1 HF.out.2.2 _ _ _ _ _ _ _ _ _
theorem V6 (g:Gr) (h:Option Addr) (cap:Nat) (e:gM) (j:Option Addr) (k:Nat) (w:World) (m:aL w h g.n g.f) (p:h=none->g.n=0∧cap=0) (J:g.n<=4398046511104) (I:bV w j e.ps) (t:e.ps.length<=140737488355328) (z:e.pl.size<=140737488355328) (r:Gr×Int) (u:r=qX g e):
  kC 28 #[ay g h cap,eval e j k] w (oQ w h r):=by
 cases x:kE g
 ·have:r=(g,1):=(by rw [u];unfold qX;rw [x];rfl);rw [this];exact V7 g h cap e j k w m J x
 ·have o:=(iT g).1 x;have i:r=if dV e=0 then (nZ g e,0) else (g,dV e):=(by rw [u];unfold qX;rw [x];rfl);obtain⟨a,c,d,b⟩:=e;by_cases C:a=1
  ·subst C;by_cases y:jJ c=true
   ·have l:dV ⟨1,c,d,b⟩=0:=(by unfold dV;simp [y]);rw [i,if_pos l];have v:32<=c∧c<=126:=(by simpa [jJ] using y);exact Ww g o h cap c d b j k w m p v.1 v.2 _ _ rfl rfl
   ·have l:dV ⟨1,c,d,b⟩=6:=(by unfold dV;simp [y]);rw [i,l];have v:c < 32∨126 < c:=by
     have:¬(32<=c∧c<=126):=(by simpa [jJ] using y);omega
    exact Wo g o h cap c d b j k w m p v
  by_cases D:a=2
  ·subst D;have l:dV ⟨2,c,d,b⟩=0:=rfl;rw [i,if_pos l];by_cases s:c=13
   ·subst s;exact Wj g o h cap d b j k w m p _ rfl
   by_cases q:c=10
   ·subst q;exact Wq g o h cap d b j k w m p _ rfl
   by_cases B:c=9
   ·subst B;exact Wx g o h cap d b j k w m p _ rfl
   by_cases A:c=8
   ·subst A;exact Wh g o h cap d b j k w m p _ rfl
   refine LC g o h cap c d b j k w m p s q B A _ ?_;show uG g c=g;unfold uG;rw [if_neg A,if_neg B,if_neg q,if_neg s]
  by_cases E:a=3
  ·subst E;have l:dV ⟨3,c,d,b⟩=0:=rfl;rw [i,if_pos l];exact Wm g o h cap c d b j k w m p I t _ rfl
  by_cases F:a=4
  ·subst F;have l:dV ⟨4,c,d,b⟩=0:=rfl;rw [i,if_pos l];exact Wv g o h cap c d b j k w m p z _ rfl
  by_cases G:a=5
  ·subst G;have l:dV ⟨5,c,d,b⟩=0:=rfl;rw [i,if_pos l];exact Ws g o h cap c d b j k w m p _ rfl
  ·have H:a < 1∨5 < a:=(by omega);have l:dV ⟨a,c,d,b⟩=2:=(by unfold dV;simp only;rw [if_neg C,if_neg (by omega)]);rw [i,l];exact Wp g o h cap ⟨a,c,d,b⟩ j k w m H
end Go.Proofs.YtkcdcamophkdlaaGreatDoor
