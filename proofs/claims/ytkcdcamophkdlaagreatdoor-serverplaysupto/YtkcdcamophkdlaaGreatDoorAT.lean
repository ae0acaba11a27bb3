import Derived.Test.YtkcdcamophkdlaaGreatDoorAR
import Derived.Test.YtkcdcamophkdlaaGreatDoorAS
import Derived.Lib.SmallJoins
set_option maxHeartbeats 2000000
set_option maxRecDepth 100000
open Go.Proofs.Tryz
namespace Go.Proofs.YtkcdcamophkdlaaGreatDoor.Sv
open Go.RowKit
theorem eleven {w:World} {b:Nat} {c:Cl} {d:Option Addr} {cap:Nat} (h:w.heap[b]?=some (dR c d cap)):
  (w.cell? ⟨b,0,none⟩=some (.string (bs c.q))∧w.cell? ⟨b,1,none⟩=some (.bool c.lost)∧w.cell? ⟨b,2,none⟩=some (.int .i64 c.g.wide)∧w.cell? ⟨b,3,none⟩=some (.int .i64 c.g.high)∧w.cell? ⟨b,4,none⟩=some (.slice d c.g.n cap)∧w.cell? ⟨b,5,none⟩=some (.int .i64 c.g.row)∧w.cell? ⟨b,6,none⟩=some (.int .i64 c.g.col)∧w.cell? ⟨b,7,none⟩=some (.int .i64 c.g.aA)∧w.cell? ⟨b,8,none⟩=some (.bool c.g.bold)∧w.cell? ⟨b,9,none⟩=some (.int .i64 c.g.top)∧w.cell? ⟨b,10,none⟩=some (.int .i64 c.g.bottom))∧
  (∀ j,w.frozen? ⟨b,j,none⟩=false):=
 ⟨⟨cell_of_row w b 0 _ _ _ h,cell_of_row w b 1 _ _ _ h,cell_of_row w b 2 _ _ _ h,cell_of_row w b 3 _ _ _ h,cell_of_row w b 4 _ _ _ h,cell_of_row w b 5 _ _ _ h,cell_of_row w b 6 _ _ _ h,cell_of_row w b 7 _ _ _ h,cell_of_row w b 8 _ _ _ h,cell_of_row w b 9 _ _ _ h,cell_of_row w b 10 _ _ _ h⟩,fun j=>frozen_of_row w b j _ _ h⟩
theorem M5 (S:aD) (L:Lay) (i:Int):(jm S i=none∧ru S L i=none)∨∃ c,jm S i=some c∧jo i=true∧S.cl i.toNat=some c∧ru S L i=some ⟨L.cb i.toNat,0,none⟩:=by
 unfold jm ru jk;cases d:jo i
 ·left;simp
 ·cases b:S.cl i.toNat with
  | none=>left;simp
  | some c=>right;exact⟨c,by simp⟩
def clR (x:Option Cl):Array Value:=match x with
 | none=> #[.string ⟨#[]⟩,.bool false,.bool false]
 | some c=> #[.string (bs c.q),.bool c.lost,.bool true]
theorem X5 (i:Int) (w:World) (S:aD) (L:Lay) (h:aS w S L):kC 8 #[.pointer (some ⟨L.sb,0,none⟩),.int .i64 i] w fun e p=>e=.returned (.tuple (clR (jm S i)))∧∃ n,p=w.drewN n:=by
 have f:=gH (yU i w S L h);rcases M5 S L i with ⟨b,d⟩ | ⟨c,b,o,d,k⟩
 ·rw [d] at f;rw [b];clear h b d;go_enter func8,ntmps8;go_wp2_with (go_at_call 18;refine f.out.mono ?_;rintro e w1 ⟨rfl,j⟩;subst w1);go_ret3;exact⟨rfl,0,rfl⟩
 ·rw [k] at f;rw [b];simp only [jo,decide_eq_true_eq] at o;have g:=(h.cl i.toNat (by omega) c d).1;obtain⟨⟨_,_,_⟩,_⟩:=eleven g;have:=(gQ g).1;generalize L.cb i.toNat=B at*;clear h b d k g;go_enter func8,ntmps8;go_wp2_with (go_at_call 18;refine f.out.mono ?_;rintro e w1 ⟨rfl,j⟩;subst w1);go_region;go_wp2;go_ret3;exact⟨rfl,1,rfl⟩
open Go.Proofs.YtkcdcamophkdlaaGreatDoor.Pt (Vw VC dw bP bf zv zl J3 Vk)
open Go.Proofs.YtkcdcamophkdlaaGreatDoor.Tl (ak tval)
variable {w w1:World} {B:Nat} {a:Act} {C:Array Value} {v:Vw}
@[reducible] def PZ (a:Ac):Array Value:=#[.int .i64 a.kind,.int .i64 a.p,.int .i64 a.n,.int .i64 a.m,.string (bs a.bytes)]
@[reducible] def aval (a:Ac):Value:=.agg (PZ a)
@[reducible] def bN (a:Ac):Obj:=.cells (PZ a) 53
@[reducible] def au (r:Rp):Array Value:=#[.int .i64 r.code,.int .i64 r.n,.string (bs r.out)]
@[reducible] def eF (r:Rp):Value:=.agg (au r)
@[reducible] def bA (r:Rp):Obj:=.cells (au r) 50
theorem three {b:Nat} {c d e:Value} {t:TypeId} (h:w.heap[b]?=some (.cells #[c,d,e] t (0,0))):
  (w.cell? ⟨b,0,none⟩=some c∧w.cell? ⟨b,1,none⟩=some d∧w.cell? ⟨b,2,none⟩=some e)∧(∀ j,w.frozen? ⟨b,j,none⟩=false):=
 ⟨⟨cell_of_row w b 0 _ t _ h,cell_of_row w b 1 _ t _ h,cell_of_row w b 2 _ t _ h⟩,fun j=>frozen_of_row w b j _ t h⟩
theorem OL:¬ nU 50:=by unfold nU;decide
theorem aY.reply {S e:aD} {L d:Lay} (k:aY w S L e d w1) {r:Rp} (c:w1.heap[B]?=some (bA r)) (b:w.heap.size<=B) (u0 u1 u2:Value):aY w S L e d (((w1.setCell ⟨B,0,none⟩ u0).setCell ⟨B,1,none⟩ u1).setCell ⟨B,2,none⟩ u2):=
 ((k.set c OL b 0 u0).set (bG c u0) OL b 1 u1).set (bG (bG c u0) u1) OL b 2 u2
theorem ahy {b:Func} {R:Ending->World->Prop} {p:Tmp} (e:b.results=#[.cell p 36]) (d:a.defers=[]) (f:a.tmps.getD p undef=.pointer (some ⟨B,0,none⟩)) (g:C.size=58) (c:w.heap[B]?=some (bf C)) (h:R (.returned (.agg C)) w):bodyPost prog b R .ret a w:=
 bodyPost_ret (v:=.agg C) (results_cell_row e _ w B 36 C (0,0) _ f c underlying36 rfl (by rw [g];exact Pt.vX)) d h
theorem Vo {c:Array Oper} {T:World->Prop} {d:Oper} (j:Region.wanted d (yielded c a.tmps)=true) (x:Operand) (g:d.op=.load 33 x) (b p:Nat) (i:p < 6) (k:a.eval x=.pointer (some ⟨b,1+p*9,none⟩)) (v:Vw) (l:Pt.Lay) (C:Array Value) (e:VC v l C) (f:∀ w,T w->w.heap[b]?=some (bf C)):YieldsIf prog c T d (ay (v.gs p) (l.ga p) (l.gc p)) a:=
 yieldsIf_load_mid (P:=prog) j 33 x g b (1+p*9) k (bE (v.gs p) (l.ga p) (l.gc p)).toList _ (fun w h=>Pt.LY e (f w h) p i) underlying33 rfl Pt.nJ
structure yM (w:World) (C D:Array Value) (v:Vw) (l m:Pt.Lay) (wr:World):Prop where
 one:wr.heap[w.heap.size]?=some (bf C)
 two:wr.heap[w.heap.size+1]?=some (bf D)
 ra:dw wr v l
 rb:dw wr v m
 below:Below w.heap.size w wr
theorem yM.later {D:Array Value} {l m:Pt.Lay} {wr w':World} (h:yM w C D v l m wr) (b:Below wr.heap.size wr w'):yM w C D v l m w':=
 ⟨aG b h.one (gQ h.one).1,aG b h.two (gQ h.two).1,h.ra.below b,h.rb.below b,h.below.trans (b.mono h.below.size)⟩
theorem jq (h:Below B w.drew w1):Below B w w1:=⟨h.os,h.tape,h.output,h.size,h.block⟩
theorem QD {l:Pt.Lay} (h:dw w v l):dw w.drew v l:=h.below ((Below.refl _ _).drew)
open Go.ChangeShapes Go.WideShapes Go.ChangeAt Go.RowKit Go.Joins
open Go.ChangeMaps (open_string shut_string)
theorem own:ownKnob prog.godebug=none:=by kernel_rfl
theorem laidOut:laidOutB prog=true:=by kernel_rfl
theorem LZ:prog.cellsOf 53=5:=by kernel_rfl
def Cy (w:World) (ao:Option Addr) (l:List Ac):Prop:=l=[]∨∃ b off,ao=some ⟨b,off,none⟩∧∀ k (hk:k < l.length),w.cell? ⟨b,off+k*5,none⟩=some (.int .i64 l[k].kind)∧w.cell? ⟨b,off+k*5+1,none⟩=some (.int .i64 l[k].p)∧w.cell? ⟨b,off+k*5+2,none⟩=some (.int .i64 l[k].n)∧w.cell? ⟨b,off+k*5+3,none⟩=some (.int .i64 l[k].m)∧w.cell? ⟨b,off+k*5+4,none⟩=some (.string (bs l[k].bytes))
theorem Cy.below {w w':World} {f:Option Addr} {l:List Ac} (h:Cy w f l) (j:Below w.heap.size w w'):Cy w' f l:=by
 rcases h with h | ⟨b,d,i,n⟩
 ·exact .inl h
 ·refine .inr ⟨b,d,i,fun k p=>?_⟩;have g:=n k p;have c:=World.block_lt_of_cell? _ _ g.1;have e:∀ o,w'.cell? ⟨b,o,none⟩=w.cell? ⟨b,o,none⟩:=fun o=>World.cell?_of_block (j.block b c);simp only [e];exact g
section
variable {H : Type} {enc : TypeId × Value -> H} {W : World} {base : Nat}
theorem Sj {α:Type} {cs:List α} (h:cs.length=5):∃ b c d e f,cs=[b,c,d,e,f]:=by
 match cs,h with
 | [b,c,d,e,f],_=>exact⟨b,c,d,e,f,rfl⟩
end
theorem Uk (v:Vw) (l m:Pt.Lay) (C D:Array Value) (E:VC v l C) (F:VC v m D) (w:World) (y:dw w v l) (z:dw w v m):
  kA 6 #[.agg C,.agg D] w (.bool true):=by
 have V:Hid (yM w C D v l m ((w.alloc (bf C)).alloc (bf D))):=by
  have c:Below w.heap.size w ((w.alloc (bf C)).alloc (bf D)):=(aM _ _).alloc (by simp) _;exact⟨aF (at_new w _) _,bK w _ _,y.below c,z.below c,c⟩
 have o:Hid (VC v l C∧VC v m D):=⟨E,F⟩;have s:Hid (∀ p,p < 6->∀ w,dw w v l->dw w v m->kA 13 #[ay (v.gs p) (l.ga p) (l.gc p),ay (v.gs p) (m.ga p) (m.gc p)] w (.bool true)):=fun p d w j r=>Pt.afM (v.gs p) _ _ _ _ w (j.gs p d) (r.gs p d) (j.m3 p d);have g:m.its.length=l.its.length:=by
  have:=congrArg List.length (z.aj.symm.trans y.aj);simpa using this
 have t:Hid (∀ w,dw w v l->dw w v m->kA 14 #[tval l.co l.its.length l.cap,tval m.co m.its.length m.cap] w (.bool true)):=fun w j r=>by
  rw [g];exact Tl.afO l.its m.its l.co m.co l.its.length l.cap m.cap w j.rd r.rd (r.aj.symm.trans j.aj) rfl j.m1 j.m2
 clear y z E F g;go_enter func6,ntmps6;go_wp2;go_loopw [6] (fun i wr=>∃ k:Nat,k<=6∧i=.int .i64 k∧yM w C D v l m wr) (fun i _=>6 - (intOf i).toNat)
 case atStart=>exact⟨0,Nat.zero_le _,rfl,V.out⟩
 case round=>
  obtain⟨k,_,rfl,d⟩:=hrel;have f:=gH d;by_cases n:k < 6
  ·have I:(k:Int) < 6:=(by omega);have X:(0:Int)<=(k:Int):=(by omega);clear d;go_wp2_with fail;refine bg (fun J=>J.heap[w.heap.size]?=some (bf C)∧J.heap[w.heap.size+1]?=some (bf D)) ⟨f.out.one,f.out.two⟩ (fun b=>?_);refine tk 0 b ?_;refine tk 1 b ?_;refine tk 2 b ?_;refine ty 3 rfl (ay (v.gs k) (l.ga k) (l.gc k)) (Vo (by rfl) _ rfl w.heap.size k n rfl v l C o.out.1 (fun Y h=>h.1)) b ?_;refine tk 4 b ?_;refine tk 5 b ?_;refine tk 6 b ?_;refine ty 7 rfl (ay (v.gs k) (m.ga k) (m.gc k)) (Vo (by rfl) _ rfl (w.heap.size+1) k n rfl v m D o.out.2 (fun Y h=>h.2)) b ?_;refine rA 8 fun K G=>?_;go_simp;go_at_call 13;refine(s.out k n _ (QD f.out.ra) (QD f.out.rb)).mono ?_;rintro e _ ⟨rfl,A⟩;have u:=gH (f.out.later (jq A))
   (try go_simp)
   refine G.out _ _ ⟨u.out.one,u.out.two⟩ (fun b=>?_);clear G K;refine pt ?_;refine tk 9 b ?_;refine dn ?_;go_wp2;go_roundw
   case rel=>exact⟨k+1,by omega,by go_num,u.out⟩
   case measure=>simp [intOf];omega
  ·obtain rfl:k=6:=(by omega);obtain⟨⟨L,M,N,O⟩,P⟩:=Pt.CF o.out.1 d.one;obtain⟨⟨Q,R,S,T⟩,U⟩:=Pt.CF o.out.2 d.two;clear d;go_wp2_with (go_at_call 14;refine(t.out _ f.out.ra f.out.rb).mono ?_;rintro e _ ⟨rfl,q⟩;have x:=gH (f.out.later q);clear q L M N O P Q R S T U;obtain⟨⟨L,M,N,O⟩,P⟩:=Pt.CF o.out.1 x.out.one;obtain⟨⟨Q,R,S,T⟩,U⟩:=Pt.CF o.out.2 x.out.two);go_ret;exact⟨bD (by simp),x.out.below⟩
variable (l:List UInt8) (w:World) (m:Nat)
theorem Qq {w:World} {S:aD} {L:Lay} (h:aS w S L) {i:Nat} (A:i < 3) {c:Cl} (z:S.cl i=some c) (q:Cl) (s:Option Addr) (cap:Nat) (T:su q) {w':World} (u:Kp (fun b=>b=L.cb i) w w') (n:w'.heap[L.cb i]?=some (dR q s cap)) (P:Gl w' s cap q.g):
  aY w S L {S with cl:=upd S.cl i (some q)} {L with ca:=upd L.ca i s,cc:=upd L.cc i cap} w':=by
 have r:∀ (b:Nat) (x:Array Value) (t:TypeId),t≠68->w.heap[b]?=some (.cells x t (0,0))->w'.heap[b]?=w.heap[b]?:=fun b x t G n=>by
  refine u.block b (gQ n).1 (fun e=>?_);rw [e,(h.cl i A c z).1] at n;simp only [Option.some.injEq,Obj.cells.injEq] at n;exact G n.2.1.symm
 have J:∀ (b:Nat) (x:Array Value) (t:TypeId),t=38∨t=3->w.heap[b]?=some (.cells x t (0,0))->w'.heap[b]?=w.heap[b]?:=fun b x t G n=>by
  rcases G with e | e
  ·exact r b x t (by rw [e];decide) n
  ·exact r b x t (by rw [e];decide) n
 have f:∀ j,((upd S.cl i (some q)) j).isSome=(S.cl j).isSome:=fun j=>by
  by_cases e:j=i
  ·rw [e,dY,z];rfl
  ·rw [upd_ne _ _ e]
 have I:∀ j,jk {S with cl:=upd S.cl i (some q)} {L with ca:=upd L.ca i s,cc:=upd L.cc i cap} j=jk S L j:=fun j=>by
  unfold jk;simp only [f]
 have U:lK {S with cl:=upd S.cl i (some q)} {L with ca:=upd L.ca i s,cc:=upd L.cc i cap}=lK S L:=by
  unfold lK tC Bj;rw [I 0,I 1,I 2]
  rfl
 refine⟨⟨J2 h.ok i _ (fun d e=>by cases e;exact T),?_,h.aj,aI.keep h.rd h.ty J,dK.keep h.ty J,fun p F=>(h.gs p F).keep fun b x n=>r b x _ (by decide) n,fun p F=>(h.ps p F).keep fun b x n=>r b x 3 (by decide) n,fun j y d K=>?_,fun j k y D E N O=>?_⟩,rfl,?_,fun j y R=>.inl ⟨by rw [<-f j];exact R,rfl⟩⟩
 ·rw [U];show w'.heap[L.sb]?=_;rw [u.block L.sb (gQ h.box).1 (fun e=>h.afP A z e)];exact h.box
 ·by_cases e:j=i
  ·subst e;have o:upd S.cl j (some q) j=some d:=K;rw [dY] at o;cases o;show w'.heap[L.cb j]?=some (dR q (upd L.ca j s j) (upd L.cc j cap j))∧Gl w' (upd L.ca j s j) (upd L.cc j cap j) q.g;rw [dY,dY];exact⟨n,P⟩
  ·have o:upd S.cl i (some q) j=some d:=K;rw [upd_ne _ _ e] at o;show w'.heap[L.cb j]?=some (dR d (upd L.ca i s j) (upd L.cc i cap j))∧Gl w' (upd L.ca i s j) (upd L.cc i cap j) d.g;rw [upd_ne _ _ e,upd_ne _ _ e];refine⟨?_,(h.cl j y d o).2.keep fun b x n=>r b x _ (by decide) n⟩;rw [u.block (L.cb j) (gQ (h.cl j y d o).1).1 (fun M=>h.apart j i y A e (by rw [o];rfl) (by rw [z];rfl) M)];exact(h.cl j y d o).1
 ·exact h.apart j k y D E (by rw [<-f j];exact N) (by rw [<-f k];exact O)
 ·exact⟨u.os,u.tape,u.output,u.size,fun b n Q=>u.block b n (fun e=>Q (.inr ⟨i,A,by rw [z];rfl,e⟩))⟩
theorem jF (B j:Nat) (u:Value):Kp (fun b=>b=B) w (w.setCell ⟨B,j,none⟩ u):=Kp.set (M:=fun b=>b=B) w (p:=⟨B,j,none⟩) rfl u
theorem Qe (a b:Nat):(bs l).extract a b=bs ((l.take b).drop a):=by
 apply ByteArray.ext;simp [ByteArray.data_extract,List.extract_toArray,List.extract_eq_take_drop,List.drop_take]
theorem LU:(bs l).extract 0 m=bs (l.take m):=by rw [Qe];rfl
theorem LQ:(bs l).extract m l.length=bs (l.drop m):=by rw [Qe,List.take_length]
theorem ag8 (c:Cl) (j:c.q.length<=4000) (n:Int) (B:Nat) (g:Option Addr) (cap:Nat) (w:World) (d:w.heap[B]?=some (dR c g cap)):
  kC 40 #[.pointer (some ⟨B,0,none⟩),.int .i64 n] w fun e h=>e=.returned (.string (bs (c.q.take (goes n c.q))))∧Kp (fun b=>b=B) w h∧h.heap[B]?=some (dR {c with q:=c.q.drop (goes n c.q)} g cap):=by
 obtain⟨⟨_,_,_,_,_,_,_,_,_,_,_⟩,_⟩:=eleven d;obtain⟨m,f⟩:∃ m,m=goes n c.q:=⟨_,rfl⟩;have:m<=c.q.length:=by rw [f];unfold goes;omega
 have:max 0 (min n (c.q.length:Int))=(m:Int):=by rw [f];unfold goes;omega
 have:(bs c.q).size=c.q.length:=qz _;rw [<-f];have:=(gQ d).1;have i:=gH d;clear f d;go_enter func40,ntmps40;go_wp2;go_ret;refine⟨aeZ (LU _ _),jF w B 0 _,?_⟩;rw [LQ];exact bG i.out _
theorem Zk (i n:Int) (w:World) (S:aD) (L:Lay) (h:aS w S L):
  kC 20 #[.pointer (some ⟨L.sb,0,none⟩),.int .i64 i,.int .i64 n] w fun e F=>e=.returned (eF (jQ S i n).2)∧∃ I,aY w S L (jQ S i n).1 I F:=by
 have A:Hid (∀ w,aS w S L->kD 18 #[.pointer (some ⟨L.sb,0,none⟩),.int .i64 i] w (.pointer (ru S L i))):=fun w h=>yU i w S L h;have r:=gH h;have P:Hid (∀ o:Obj,Below w.heap.size w (w.alloc o)):=fun o=>aM w o;rcases M5 S L i with ⟨t,f⟩ | ⟨c,t,T,f,R⟩
 ·have G:Hid (jQ S i n=(S,err 3)):=(by show jQ S i n=_;unfold jQ;rw [t]);rw [f] at A;clear h t f;go_enter func20,ntmps20;go_wp2_with (go_at_call 18;refine(A.out _ (r.out.alloc _)).mono ?_;rintro e w1 ⟨rfl,O⟩;subst w1);refine bodyPost_ret (v:=eF (err 3)) (by simp [results,results20,go_sem];exact⟨rfl,rfl,rfl⟩) rfl ?_;rw [G.out];exact⟨rfl,L,(aY.refl r.out).later (P.out _)⟩
 ·simp only [jo,decide_eq_true_eq] at T;have d:i.toNat < 3:=(by omega);have U:=(h.ok.cl i.toNat d c f).short;obtain⟨m,D⟩:∃ m,m=goes n c.q:=⟨_,rfl⟩;have G:Hid (jQ S i n=({S with cl:=upd S.cl i.toNat (some {c with q:=c.q.drop m})},⟨0,m,c.q.take m⟩)):=by
   show jQ S i n=_;unfold jQ;rw [t,D]
  have Y:Hid (∀ w,w.heap[L.cb i.toNat]?=some (dR c (L.ca i.toNat) (L.cc i.toNat))->kC 40 #[.pointer (some ⟨L.cb i.toNat,0,none⟩),.int .i64 n] w fun e F=>e=.returned (.string (bs (c.q.take m)))∧Kp (fun b=>b=L.cb i.toNat) w F∧F.heap[L.cb i.toNat]?=some (dR {c with q:=c.q.drop m} (L.ca i.toNat) (L.cc i.toNat))):=fun w J=>(by rw [D];exact ag8 c U n _ _ _ w J);have M:(c.q.take m).length=m:=by
   have:m<=c.q.length:=(by rw [D];unfold goes;omega);simp;omega
  have:(bs (c.q.take m)).size=m:=(qz _).trans M;have X:Hid (∀ j,Kp (fun b=>b=L.cb i.toNat) (w.alloc (bA (err 0))) j->j.heap[L.cb i.toNat]?=some (dR {c with q:=c.q.drop m} (L.ca i.toNat) (L.cc i.toNat))->∃ I,aY w S L {S with cl:=upd S.cl i.toNat (some {c with q:=c.q.drop m})} I j∧j.heap[w.heap.size]?=some (bA (err 0))):=fun j K J=>by
   have k:=r.out.alloc (bA (err 0));have N:w.heap.size≠L.cb i.toNat:=fun e=>by
    have:=(gQ (r.out.cl i.toNat d c f).1).1;omega
   refine⟨_,(aY.from (P.out _) (Qq k d f {c with q:=c.q.drop m} (L.ca i.toNat) (L.cc i.toNat) ⟨(r.out.ok.cl i.toNat d c f).g,by simp only [List.length_drop];omega⟩ K J ?_)),K.at (at_new w _) N⟩;refine(k.cl i.toNat d c f).2.keep fun b x E=>K.block b (gQ E).1 (fun e=>?_);rw [e,(k.cl i.toNat d c f).1] at E;simp only [Option.some.injEq,Obj.cells.injEq] at E;exact aha E.2.1
  have V:Hid ((w.alloc (bA (err 0))).heap[L.cb i.toNat]?=some (dR c (L.ca i.toNat) (L.cc i.toNat))):=aF (h.cl i.toNat d c f).1 _;rw [R] at A;generalize L.cb i.toNat=B at*;clear h t f R T U D d;go_enter func20,ntmps20
  go_wp2_with (first
   | (go_at_call 18;refine(A.out _ (r.out.alloc _)).mono ?_;rintro e w1 ⟨rfl,O⟩;subst w1)
   | (go_at_call 40;refine(Y.out _ V.out).mono ?_;rintro e j ⟨rfl,y,u⟩;obtain⟨Q,z,p⟩:=X.out j y u;have s:Hid (aY w S L {S with cl:=upd S.cl i.toNat (some {c with q:=c.q.drop m})} Q j∧j.heap[w.heap.size]?=some (bA (err 0))):=⟨z,p⟩;obtain⟨⟨_,_,_⟩,_⟩:=three p;clear y u z p))
  refine bodyPost_ret (v:=eF ⟨0,m,c.q.take m⟩) (by simp [results,results20,go_sem, *]) rfl ?_;rw [G.out];exact⟨rfl,Q,s.out.1.reply s.out.2 (Nat.le_refl _) _ _ _⟩
end Go.Proofs.YtkcdcamophkdlaaGreatDoor.Sv
