import Derived.Test.YtkcdcamophkdlaaGreatDoorAT
set_option maxHeartbeats 2000000
set_option maxRecDepth 100000
open Go.Proofs.Tryz
namespace Go.Proofs.YtkcdcamophkdlaaGreatDoor.Sv
open Go.RowKit
open Go.Proofs.YtkcdcamophkdlaaGreatDoor.Tl (ak aI dK)
variable {w w':World} {S S':aD} {L:Lay}
theorem Dw (h:aS w S L) (C:Kp (fun b=>b=L.sb) w w') {d:Lay} (s:d.sb=L.sb) (D:lq S') (f:w'.heap[L.sb]?=some (lK S' d)) (aj:S'.v.aj=ak d.l.its) (F:aI w d.l.co d.l.its) (z:dK w d.l.co d.l.its) (A:∀ p,p < 6->Gl w (d.l.ga p) (d.l.gc p) (S'.v.gs p)) (E:∀ p,p < 6->Pl w (d.pa p) (d.pc p) (S'.ps p).ps) (n:∀ i,i < 3->∀ c,S'.cl i=some c->w.heap[d.cb i]?=some (dR c (d.ca i) (d.cc i))∧Gl w (d.ca i) (d.cc i) c.g) (m:∀ i j,i < 3->j < 3->i≠j->(S'.cl i).isSome=true->(S'.cl j).isSome=true->d.cb i≠d.cb j):aS w' S' d:=by
 have k:∀ (b:Nat) (x:Array Value) (t:TypeId),t≠58->w.heap[b]?=some (.cells x t (0,0))->w'.heap[b]?=w.heap[b]?:=fun b x t u f=>by
  refine C.block b (gQ f).1 (fun e=>?_);rw [e,h.box] at f;simp only [Option.some.injEq,Obj.cells.injEq] at f;exact u f.2.1.symm
 have y:∀ (b:Nat) (x:Array Value) (t:TypeId),t=38∨t=3->w.heap[b]?=some (.cells x t (0,0))->w'.heap[b]?=w.heap[b]?:=fun b x t u f=>by
  rcases u with e | e
  ·exact k b x t (by rw [e];decide) f
  ·exact k b x t (by rw [e];decide) f
 exact⟨D,by rw [s];exact f,aj,aI.keep F z y,dK.keep z y,fun p r=>(A p r).keep fun b x f=>k b x _ (by decide) f,fun p r=>(E p r).keep fun b x f=>k b x 3 (by decide) f,
  fun i q c o=>⟨by rw [k _ _ _ (by decide) (n i q c o).1];exact(n i q c o).1,(n i q c o).2.keep fun b x f=>k b x _ (by decide) f⟩,m⟩
theorem Kp.sb (c:Kp (fun b=>b=L.sb) w w'):Kp (qx S L) w w':=
 ⟨c.os,c.tape,c.output,c.size,fun b d f=>c.block b d (fun e=>f (.inl e))⟩
theorem Gp (h:aS w S L) (l:Kp (fun b=>b=L.sb) w w') (y:lq S') (s:w'.heap[L.sb]?=some (lK S' L)) (m:S'.v.aj=S.v.aj) (n:S'.v.gs=S.v.gs) (o:S'.ps=S.ps) (d:S'.cl=S.cl):aY w S L S' L w':=
 ⟨Dw h l rfl y s (m.trans h.aj) h.rd h.ty (fun p k=>by rw [n];exact h.gs p k) (fun p k=>by rw [o];exact h.ps p k) (fun i e c t=>h.cl i e c (by rw [<-d];exact t)) (fun i j e u f q r=>h.apart i j e u f (by rw [<-d];exact q) (by rw [<-d];exact r)),rfl,l.sb,fun i _ x=>.inl ⟨by rw [<-d];exact x,rfl⟩⟩
theorem TS (h:aS w S L) (i:Nat) (e:i < 3) (x:Option Cl) (B:Nat) (b:Nat->Option Addr) (c:Nat->Nat) (u:Option Addr) (d:u=if x.isSome then some ⟨B,0,none⟩ else none):(w.setCell ⟨L.sb,82+i,none⟩ (.pointer u)).heap[L.sb]?=some (lK {S with cl:=upd S.cl i x} {L with cb:=upd L.cb i B,ca:=b,cc:=c}):=by
 rw [bG h.box];congr 1;subst d;have:i=0∨i=1∨i=2:=by omega
 rcases this with rfl | rfl | rfl <;>rfl
theorem Y0 (i:Int) (w:World) (S:aD) (L:Lay) (h:aS w S L):
  kC 46 #[.pointer (some ⟨L.sb,0,none⟩),.int .i64 i] w fun e w'=>e=.returned (.int .i64 (jB S i).2)∧∃ G,aY w S L (jB S i).1 G w':=by
 have r:Hid (∀ w,aS w S L->kD 18 #[.pointer (some ⟨L.sb,0,none⟩),.int .i64 i] w (.pointer (ru S L i))):=fun w h=>yU i w S L h;have u:=gH h;rcases M5 S L i with ⟨o,s⟩ | ⟨c,o,v,s,C⟩
 ·have t:Hid (jB S i=(S,3)):=(by show jB S i=_;unfold jB;rw [o];rfl);rw [s] at r;clear h o s;go_enter func46,ntmps46;go_wp2_with (go_at_call 18;refine(r.out _ u.out).mono ?_;rintro e A ⟨rfl,z⟩;subst A);go_ret;rw [t.out];exact⟨rfl,L,aY.refl u.out⟩
 ·simp only [jo,decide_eq_true_eq] at v;obtain⟨n,rfl⟩:=Int.eq_ofNat_of_zero_le v.1;have E:n < 3:=(by omega);have t:Hid (jB S (n:Int)=({S with cl:=upd S.cl n none},0)):=(by show jB S _=_;unfold jB;rw [o];rfl);have F:Hid (aY w S L {S with cl:=upd S.cl n none} {L with cb:=upd L.cb n (L.cb n)} (w.setCell ⟨L.sb,82+n,none⟩ (.pointer none))):=by
   have q:∀ j c,upd S.cl n none j=some c->S.cl j=some c:=fun j c f=>by
    by_cases e:j=n
    ·rw [e,dY] at f;cases f
    ·rwa [upd_ne _ _ e] at f
   have l:upd L.cb n (L.cb n)=L.cb:=by
    funext k;unfold upd;split
    ·rename_i e;rw [e]
    ·rfl
   have D:Kp (fun b=>b=L.sb) w (w.setCell ⟨L.sb,82+n,none⟩ (.pointer none)):=jF w L.sb _ _;have d:∀ j,((upd S.cl n none) j).isSome=true->(S.cl j).isSome=true:=fun j m=>by
    obtain⟨c,f⟩:=Option.isSome_iff_exists.1 m;rw [q j c f];rfl
   refine⟨Dw h D rfl (J2 h.ok n none (fun c e=>by cases e)) (TS h n E none (L.cb n) L.ca L.cc none rfl) h.aj h.rd h.ty h.gs h.ps (fun j m c f=>?_) (fun j k m x y H I=>?_),rfl,D.sb,fun j m N=>.inl ⟨d j N,by rw [l]⟩⟩
   ·show w.heap[upd L.cb n (L.cb n) j]?=_∧_;rw [l];exact h.cl j m c (q j c f)
   ·show upd L.cb n (L.cb n) j≠upd L.cb n (L.cb n) k;rw [l];exact h.apart j k m x y (d j H) (d k I)
  rw [C] at r;have P:=h.ptr n E;have O:=h.frozen (82+n);have K:(n:Int) < 3:=(by omega);have M:(0:Int)<=(n:Int):=(by omega);have J:=(gQ h.box).1;clear h o s C v;go_enter func46,ntmps46;go_wp2_with (go_at_call 18;refine(r.out _ u.out).mono ?_;rintro e A ⟨rfl,z⟩;subst A);go_ret;rw [t.out];exact⟨rfl,_,F.out⟩
open Go.Proofs.YtkcdcamophkdlaaGreatDoor.Tl (ak aI dK tval aR)
variable (p:Int) {w:World} {S:aD} {L:Lay} {aj:List (List Int)}
theorem aS.few (h:aS w S L):L.l.its.length<=5864062014805∧∀ x∈L.l.its,x.1.length<=17592186044416:=⟨h.xX.m1,h.xX.m2⟩
theorem Fw (w:World) (S:aD) (L:Lay) (h:aS w S L):kA 66 #[tval L.l.co L.l.its.length L.l.cap,.int .i64 p] w (.bool (aR S.v.aj p)):=
 Tl.vT L.l.its L.l.co L.l.cap p w h.rd h.few.1 h.few.2 _ (by rw [h.aj])
theorem TQ (h:aS w S L) (p:Int):(w.setCell ⟨L.sb,57,none⟩ (.int .i64 p)).heap[L.sb]?=some (lK {S with v:={S.v with focus:=p}} L):=by
 rw [bG h.box]
 rfl
theorem adR (h:aS w S L):(w.setCell ⟨L.sb,85,none⟩ (.int .i64 ((S.acts:Int)+1))).heap[L.sb]?=some (lK (aC S) L):=by
 rw [bG h.box]
 rfl
theorem ZV (w:World) (S:aD) (L:Lay) (h:aS w S L):
  kC 43 #[.pointer (some ⟨L.sb,0,none⟩),.int .i64 p] w fun e w'=>e=.returned (.int .i64 (jc S p).2)∧∃ s,aY w S L (jc S p).1 s w':=by
 have f:=gH h;have u:=h.kJ;have:=(gQ h.box).1;cases i:aR S.v.aj p
 ·have m:Hid (∀ w,aS w S L->kA 66 #[tval L.l.co L.l.its.length L.l.cap,.int .i64 p] w (.bool false)):=fun w h=>(by rw [<-i];exact Fw p w S L h);have k:Hid (jc S p=(S,3)):=(by show jc S p=_;unfold jc;rw [i];rfl);clear h i;go_enter func43,ntmps43;go_wp2_with (go_at_call 66;refine(m.out _ f.out).mono ?_;rintro e d ⟨rfl,b⟩;have j:=gH b;clear b);go_ret;rw [k.out];exact⟨rfl,L,(aY.refl f.out).later j.out⟩
 ·have m:Hid (∀ w,aS w S L->kA 66 #[tval L.l.co L.l.its.length L.l.cap,.int .i64 p] w (.bool true)):=fun w h=>(by rw [<-i];exact Fw p w S L h);have k:Hid (jc S p=({S with v:={S.v with focus:=p}},0)):=(by show jc S p=_;unfold jc;rw [i];rfl);have q:Hid (lq {S with v:={S.v with focus:=p}}):=⟨h.ok.t,h.ok.w1,h.ok.w2,h.ok.h1,h.ok.h2,h.ok.grid,h.ok.par,h.ok.cl⟩;have o:Hid (∀ d,Below w.heap.size w d->aY w S L {S with v:={S.v with focus:=p}} L (d.setCell ⟨L.sb,57,none⟩ (.int .i64 p))):=fun d n=>aY.from n (Gp (f.out.below n) (jF d L.sb _ _) q.out (TQ (f.out.below n) p) rfl rfl rfl rfl);clear h i;go_enter func43,ntmps43;go_wp2_with (go_at_call 66;refine(m.out _ f.out).mono ?_;rintro e d ⟨rfl,b⟩;have r:=gH (o.out d b);have c:=f.out.below b;have:=c.sides.2.2;have:=c.frozen 57;clear b c u);go_ret;rw [k.out];exact⟨rfl,L,r.out⟩
theorem U0 (aj:List (List Int)):fU aj=((([0,1,2,3,4,5]:List Nat).find? fun n:Nat=>!aR aj n).getD 6):=rfl
theorem U2 (h:∀ j:Nat,j < 6->aR aj j=true):fU aj=6:=by
 rw [U0];simp only [List.find?_cons,h 0 (by omega),h 1 (by omega),h 2 (by omega),h 3 (by omega),h 4 (by omega),h 5 (by omega)]
 rfl
theorem UZ {k:Nat} (c:k < 6) (h:∀ j:Nat,j < k->aR aj j=true) (b:aR aj k=false):fU aj=k:=by
 rw [U0];have:k=0∨k=1∨k=2∨k=3∨k=4∨k=5:=by omega
 rcases this with rfl | rfl | rfl | rfl | rfl | rfl
 ·simp only [List.find?_cons,b];rfl
 ·simp only [List.find?_cons,h 0 (by omega),b];rfl
 ·simp only [List.find?_cons,h 0 (by omega),h 1 (by omega),b];rfl
 ·simp only [List.find?_cons,h 0 (by omega),h 1 (by omega),h 2 (by omega),b];rfl
 ·simp only [List.find?_cons,h 0 (by omega),h 1 (by omega),h 2 (by omega),h 3 (by omega),b];rfl
 ·simp only [List.find?_cons,h 0 (by omega),h 1 (by omega),h 2 (by omega),h 3 (by omega),h 4 (by omega),b];rfl
theorem uR {a b:Int} (h:a=b):Ending.returned (.int .i64 a)=.returned (.int .i64 b):=by rw [h]
theorem ahr (w:World) (S:aD) (L:Lay) (h:aS w S L):
  kA 38 #[.pointer (some ⟨L.sb,0,none⟩)] w (.int .i64 (fU S.v.aj)):=by
 have o:=gH h;have n:Hid (∀ p w,aS w S L->kA 66 #[tval L.l.co L.l.its.length L.l.cap,.int .i64 p] w (.bool (aR S.v.aj p))):=fun p w h=>Fw p w S L h;clear h;go_enter func38,ntmps38;go_wp2;go_loopw [3] (fun i wr=>∃ k:Nat,k<=6∧i=.int .i64 k∧(∀ j:Nat,j < k->aR S.v.aj j=true)∧Below w.heap.size w wr) (fun i _=>6 - (intOf i).toNat)
 case atStart=>exact⟨0,Nat.zero_le _,rfl,fun j r=>by omega,Below.refl _ _⟩
 case round=>
  obtain⟨k,_,rfl,r,q⟩:=hrel;have s:=gH r;have c:=gH q;have:=(o.out.below q).kJ;have:=(gQ (o.out.below q).box).1;clear r q;by_cases u:k < 6
  ·have:(k:Int) < 6:=(by omega);cases f:aR S.v.aj k
   ·have m:=gH (UZ u s.out f);have t:Hid (∀ w,aS w S L->kA 66 #[tval L.l.co L.l.its.length L.l.cap,.int .i64 k] w (.bool false)):=fun w h=>(by rw [<-f];exact n.out k w h);clear f n;go_wp2_with (go_at_call 66;refine(t.out _ (o.out.below c.out)).mono ?_;rintro e x ⟨rfl,b⟩;have d:=gH (c.out.trans (b.mono c.out.size));clear b);go_ret;exact⟨uR (by rw [m.out]),d.out⟩
   ·have m:Hid (∀ j:Nat,j < k+1->aR S.v.aj j=true):=fun j r=>by
     by_cases e:j=k
     ·rw [e];exact f
     ·exact s.out j (by omega)
    have t:Hid (∀ w,aS w S L->kA 66 #[tval L.l.co L.l.its.length L.l.cap,.int .i64 k] w (.bool true)):=fun w h=>(by rw [<-f];exact n.out k w h);clear f n;go_wp2_with (go_at_call 66;refine(t.out _ (o.out.below c.out)).mono ?_;rintro e x ⟨rfl,b⟩;have d:=gH (c.out.trans (b.mono c.out.size));clear b);go_roundw
    case rel=>exact⟨k+1,by omega,by go_num,m.out,d.out⟩
    case measure=>simp [intOf];omega
  ·obtain rfl:k=6:=(by omega);have m:=gH (U2 s.out);go_wp2;go_ret;exact⟨uR (by rw [m.out]),c.out⟩
variable {w:World} {ops:Array Oper} {rest:List Oper} {op:Oper} {a:Act} {Q:Exit->Act->World->Prop} {B:Nat}
theorem Vg (e:op.guard=none) (c:TypeId) (x y:Operand) (k:op.op=.store c x y) (B:Nat) (cs:Array Value) (l:a.eval x=.pointer (some ⟨B,0,none⟩)) (m:a.eval y=.agg cs) (b:Array Value) (f:w.heap[B]?=some (.cells b c (0,0))) (j:(prog.info? c).map (·.size)=some cs.size) (d:b.size=cs.size) (i:cs.all (·.oneCell')=true) (h:∀ w',Hid (w'.heap[B]?=some (.cells cs c (0,0))∧w.grownBy w' (some B))->wpList prog ops Q rest (a.put op.dst undef) w'):wpList prog ops Q (op::rest) a w:=
 wpList_store_row e c x y k B cs l m c b f j d i (h _ ⟨setRow_heap w B _ _ _ _ f,yX w B cs⟩)
theorem gone (g:Gr) (ao:Option Addr) (cap:Nat):(bE g ao cap).all (·.oneCell')=true:=by simp [Value.oneCell']
theorem RP:(prog.info? 33).map (·.size)=some 9:=by kernel_rfl
theorem Vi (d:op.guard=none) (x y:Operand) (f:op.op=.store 33 x y) (B:Nat) (g:Gr) (ao:Option Addr) (cap:Nat) (i:a.eval x=.pointer (some ⟨B,0,none⟩)) (j:a.eval y=ay g ao cap) (b:Array Value) (e:w.heap[B]?=some (.cells b 33 (0,0))) (c:b.size=9) (h:∀ w',Hid (w'.heap[B]?=some (aB g ao cap)∧w.grownBy w' (some B))->wpList prog ops Q rest (a.put op.dst undef) w'):wpList prog ops Q (op::rest) a w:=
 Vg d _ x y f B (bE g ao cap) i j b e RP c (gone g ao cap) h
theorem Gl.grown {w':World} {ao:Option Addr} {cap:Nat} {g:Gr} (h:Gl w ao cap g) {c:Array Value} {t:TypeId} {f:Nat×Nat} (i:w.heap[B]?=some (.cells c t f)) (k:t≠65) (j:w.grownBy w' (some B)):Gl w' ao cap g:=
 h.keep fun b x d=>j.block b (gQ d).1 (fun e=>by
  simp only [Option.some.injEq] at e
  rw [e,i] at d
  simp only [Option.some.injEq,Obj.cells.injEq] at d
  exact k d.2.1)
theorem below_grown {b c:World} (h:Below w.heap.size w b) (d:w.heap.size<=B) (e:b.grownBy c (some B)):Below w.heap.size w c:=h.trans (rD e h.size d)
variable {w:World} {g:Gr} {ao:Option Addr} {cap B:Nat}
theorem MC {w':World} (i:0 < g.n) (h:eH w g.n g.f ao cap w'):Gl w' ao cap g:=by
 obtain⟨b,c,_,d,e⟩:=h.2.1 i;exact .inr ⟨b,c,e,d⟩
theorem A9 (b:OkG g):0 < g.n:=by
 have c:=b.size;have:1*g.high<=g.wide*g.high:=rR b.w1 (by have:=b.h1;omega);have:=b.h1;omega
theorem Xj {c:World} (h:Below w.heap.size w c) (b:w.heap.size<=B) (u0 u1 u2 u3 u4 u5 u6 u7 u8:Value):
  Below w.heap.size w (((((((((c.setCell ⟨B,0,none⟩ u0).setCell ⟨B,1,none⟩ u1).setCell ⟨B,2,none⟩ u2).setCell ⟨B,3,none⟩ u3).setCell ⟨B,4,none⟩ u4).setCell ⟨B,5,none⟩ u5).setCell ⟨B,6,none⟩ u6).setCell ⟨B,7,none⟩ u7).setCell ⟨B,8,none⟩ u8):=
 ((((((((h.setCell (p:=⟨B,0,none⟩) b u0).setCell (p:=⟨B,1,none⟩) b u1).setCell (p:=⟨B,2,none⟩) b u2).setCell (p:=⟨B,3,none⟩) b u3).setCell (p:=⟨B,4,none⟩) b u4).setCell (p:=⟨B,5,none⟩) b u5).setCell (p:=⟨B,6,none⟩) b u6).setCell (p:=⟨B,7,none⟩) b u7).setCell (p:=⟨B,8,none⟩) b u8
theorem gl9 {x:Gr} {c:Array Value} (h:Gl w ao cap x) (i:w.heap[B]?=some (.cells c 33 (0,0))) (u0 u1 u2 u3 u4 u5 u6 u7 u8:Value):
  Gl (((((((((w.setCell ⟨B,0,none⟩ u0).setCell ⟨B,1,none⟩ u1).setCell ⟨B,2,none⟩ u2).setCell ⟨B,3,none⟩ u3).setCell ⟨B,4,none⟩ u4).setCell ⟨B,5,none⟩ u5).setCell ⟨B,6,none⟩ u6).setCell ⟨B,7,none⟩ u7).setCell ⟨B,8,none⟩ u8) ao cap x:=
 h.keep fun b y f=>by
  have d:b≠B:=fun e=>by
   rw [e,i] at f
   simp only [Option.some.injEq,Obj.cells.injEq] at f
   exact absurd f.2.1 (by decide)
  rw [Below.heap_setCell _ _ _ _ d,Below.heap_setCell _ _ _ _ d,Below.heap_setCell _ _ _ _ d,Below.heap_setCell _ _ _ _ d,Below.heap_setCell _ _ _ _ d,Below.heap_setCell _ _ _ _ d,Below.heap_setCell _ _ _ _ d,Below.heap_setCell _ _ _ _ d,Below.heap_setCell _ _ _ _ d]
theorem ZO (g:Gr) (ao:Option Addr) (cap:Nat) (E:g=dO∨OkG g) (wide high:Int) (w:World) (F:Gl w ao cap g) (x:Gr) (z:x=nE g wide high):
  kC 31 #[ay g ao cap,.int .i64 wide,.int .i64 high] w fun e w'=>∃ O q,e=.returned (ay x O q)∧Gl w' O q x∧Below w.heap.size w w':=by
 have N:=gH F;have i:Hid (∀ T U:Obj,Below w.heap.size w ((w.alloc T).alloc U)):=fun T U=>(aM _ _).alloc (by simp) _;by_cases l:g.wide=0
 ·have d:x=newG wide high:=(by rw [z];unfold nE;rw [if_pos l]);have HN:Hid (∀ w,kC 62 #[.int .i64 wide,.int .i64 high] w fun e w'=>∃ b,e=.returned (ay x (some ⟨b,0,none⟩) x.n)∧av w' b x.n x.f∧w.heap.size<=b∧Below w.heap.size w w'):=fun w=>zo wide high w x d;have e0:(g.wide==0)=true:=(by simpa using l);clear z d E F l;go_enter func31,ntmps31;go_wp2_with (go_at_call 62;refine(HN.out _).mono ?_;rintro e s ⟨b,rfl,D,H,y⟩;have c:Hid (av s b x.n x.f∧Below w.heap.size w s∧s.heap[w.heap.size+1]?=some aV):=⟨D,(i.out _ _).trans (y.mono (by simp;omega)),aG y (bK w _ _) (by simp)⟩;obtain⟨⟨_,_,_,_,_,_,_,_,_⟩,_⟩:=nine c.out.2.2;clear D H y);refine bodyPost_ret (v:=ay x (some ⟨b,0,none⟩) x.n) (by simp [results,results31,go_sem, *]) rfl ?_;exact⟨_,_,rfl,gl9 (.inr ⟨b,rfl,c.out.1,Nat.le_refl _⟩) c.out.2.2 _ _ _ _ _ _ _ _ _,Xj c.out.2.1 (by omega) _ _ _ _ _ _ _ _ _⟩
 ·have A:OkG g:=E.resolve_left (fun e=>l (by rw [e];rfl));have e0:(g.wide==0)=false:=(by simpa using l);by_cases u:g.wide=wide∧g.high=high
  ·obtain rfl:x=g:=(by rw [z];unfold nE;rw [if_neg l,if_pos u]);have P:(x.wide==wide)=true:=(by simpa using u.1);have e2:(x.high==high)=true:=(by simpa using u.2);clear z E l u A F;go_enter func31,ntmps31;go_wp2;refine bodyPost_ret (v:=ay x ao cap) (by simp [results,results31,go_sem, *]) rfl ?_;exact⟨_,_,rfl,N.out.below (i.out _ _),i.out _ _⟩
  ·have d:x=TW g wide high:=(by rw [z];unfold nE;rw [if_neg l,if_neg u,if_pos ((iT g).2 A)]);have R:(x,(0:Int))=JI g wide high:=(by unfold JI;rw [if_pos ((iT g).2 A),d];rfl);have K:0 < x.n:=A9 (by rw [d];exact SV A wide high);obtain⟨q1,q2,_⟩:=A.nums;have HR:Hid (∀ w,Gl w ao cap g->kC 63 #[ay g ao cap,.int .i64 wide,.int .i64 high] w (AllEnd w (x,0))):=fun w h=>aeS g ao cap wide high w h.rd h.none (by omega) h.cap (x,0) R;have J:(g.wide==wide)=true∧(g.high==high)=false∨(g.wide==wide)=false:=by
    by_cases I:g.wide=wide
    ·exact .inl ⟨by simpa using I,by simpa [I] using u⟩
    ·exact .inr (by simpa using I)
   clear z E l u A F d R q1 q2;rcases J with ⟨P,e2⟩ | P
   all_goals (
    go_enter func31,ntmps31
    go_wp2_with (first
     | (go_at_call 63;refine(HR.out _ (N.out.below (i.out _ _))).mono ?_;rintro e s ⟨r,o,rfl,j⟩;have c:Hid (Gl s r o x∧Below w.heap.size w s∧s.heap[w.heap.size]?=some (aB g ao cap)∧s.heap[w.heap.size+1]?=some aV):=⟨MC K j,(i.out _ _).trans (j.2.2.mono (by simp;omega)),aG j.2.2 (aF (at_new w _) _) (by simp;omega),aG j.2.2 (bK w _ _) (by simp)⟩;clear j)
     | (refine Vi rfl _ _ rfl w.heap.size x r o rfl rfl _ c.out.2.2.1 rfl ?_;intro G k;have C:Hid (Gl G r o x∧Below w.heap.size w G∧G.heap[w.heap.size]?=some (aB x r o)∧G.heap[w.heap.size+1]?=some aV):=⟨c.out.1.grown c.out.2.2.1 (by decide) k.out.2,below_grown c.out.2.1 (Nat.le_refl _) k.out.2,k.out.1,bH k.out.2 c.out.2.2.2 (by simp)⟩;clear k;obtain⟨⟨V,W,X,Y,Z,x5,x6,x7,x8⟩,xf⟩:=nine C.out.2.2.1)
     | (refine Vi rfl _ _ rfl (w.heap.size+1) x r o rfl rfl _ C.out.2.2.2 rfl ?_;intro M m;have t:Hid (Gl M r o x∧Below w.heap.size w M∧M.heap[w.heap.size+1]?=some (aB x r o)):=⟨C.out.1.grown C.out.2.2.2 (by decide) m.out.2,below_grown C.out.2.1 (by omega) m.out.2,m.out.1⟩;clear m V W X Y Z x5 x6 x7 x8 xf;obtain⟨⟨V,W,X,Y,Z,x5,x6,x7,x8⟩,xf⟩:=nine t.out.2.2))
    refine bodyPost_ret (v:=ay x r o) (by simp [results,results31,go_sem, *]) rfl ?_
    exact⟨_,_,rfl,t.out.1,t.out.2.1⟩)
end Go.Proofs.YtkcdcamophkdlaaGreatDoor.Sv
