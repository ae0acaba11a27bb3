import Derived.Test.YtkcdcamophkdlaaGreatDoorBH
set_option maxHeartbeats 1000000
set_option maxRecDepth 100000
open Go.Proofs.Tryz
namespace Go.Proofs.YtkcdcamophkdlaaGreatDoor.Sv
open Go.RowKit
variable (a:Ac) (p n m:Int) (bytes:List UInt8) {w W:World} {S T:aD} {L L2:Lay}
def DV (w:World) (S:aD) (L:Lay) (X:aD×Rp) (e:Ending) (w':World):Prop:=e=.returned (eF X.2)∧∃ L',aY w S L X.1 L' w'
structure nu (w:World) (S:aD) (L:Lay) (a:Ac) (T:aD) (L2:Lay) (w':World):Prop where
 via:aY w S L T L2 w'
 rp:w'.heap[w.heap.size+1]?=some (bA (err 0))
 act:w'.heap[w.heap.size]?=some (bN a)
theorem Mh (h:aS w S L) (a:Ac):nu w S L a (aC S) L (((w.setCell ⟨L.sb,85,none⟩ (.int .i64 ((S.acts:Int)+1))).alloc (bN a)).alloc (bA (err 0))):=by
 have e:=jF w L.sb 85 (.int .i64 ((S.acts:Int)+1));have f:lq (aC S):=⟨h.ok.t,h.ok.w1,h.ok.w2,h.ok.h1,h.ok.h2,h.ok.grid,h.ok.par,h.ok.cl⟩;have d:=Gp h e f (adR h) rfl rfl rfl rfl;have c:(w.setCell ⟨L.sb,85,none⟩ (.int .i64 ((S.acts:Int)+1))).heap.size=w.heap.size:=by simp
 generalize w.setCell ⟨L.sb,85,none⟩ (.int .i64 ((S.acts:Int)+1))=W at*;refine⟨d.later ((aM _ _).alloc (by simp) _),?_,?_⟩
 ·have:=at_new (W.alloc (bN a)) (bA (err 0));rw [<-c];simpa using this
 ·rw [<-c];exact aF (at_new W _) _
theorem nu.next {a:Ac} {U:aD} {c:Lay} {W':World} (h:nu w S L a T L2 W) (k:aY W T L2 U c W'):nu w S L a U c W':=
 ⟨h.via.trans k,k.kp.at h.rp (h.via.bO.other h.rp (by decide) (by decide)),k.kp.at h.act (h.via.bO.other h.act (by decide) (by decide))⟩
theorem nu.reply {a:Ac} (h:nu w S L a T L2 W) (u0 u1 u2:Value):aY w S L T L2 (((W.setCell ⟨w.heap.size+1,0,none⟩ u0).setCell ⟨w.heap.size+1,1,none⟩ u1).setCell ⟨w.heap.size+1,2,none⟩ u2):=
 h.via.reply h.rp (by omega) u0 u1 u2
theorem Xl:(n==1)=decide (n=1):=by
 by_cases h:n=1
 ·rw [h];rfl
 ·rw [decide_eq_false h];exact beq_false_of_ne h
theorem Za (w:World) (S:aD) (L:Lay) (h:aS w S L) (c:S.acts=300):
  kC 9 #[.pointer (some ⟨L.sb,0,none⟩),aval a] w (DV w S L (S,err 5)):=by
 have f:Hid (∀ d e:Obj,aY w S L S L ((w.alloc d).alloc e)):=fun d e=>(aY.refl h).later ((aM _ _).alloc (by simp) _);have g:=h.acts;rw [c] at g;have:=(gQ h.box).1;clear h c;go_enter func9,ntmps9;go_wp2;exact bodyPost_ret (v:=eF (err 5)) (by simp [results,results9,go_sem, *];exact⟨rfl,rfl,rfl⟩) rfl ⟨rfl,L,f.out _ _⟩
theorem Zb (w:World) (S:aD) (L:Lay) (h:aS w S L) (o:S.acts < 300):
  kC 9 #[.pointer (some ⟨L.sb,0,none⟩),aval ⟨1,p,n,m,bytes⟩] w (DV w S L (iX (aC S) p (decide (n=1)))):=by
 have k:Hid (nu w S L ⟨1,p,n,m,bytes⟩ (aC S) L (((w.setCell ⟨L.sb,85,none⟩ (.int .i64 ((S.acts:Int)+1))).alloc (bN ⟨1,p,n,m,bytes⟩)).alloc (bA (err 0)))):=Mh h _;obtain⟨X,d⟩:∃ X:aD×Rp,X=iX (aC S) p (decide (n=1)):=⟨_,rfl⟩;have j:Hid (∀ (W:World) (b:Bool),b=decide (n=1)->nu w S L ⟨1,p,n,m,bytes⟩ (aC S) L W->kC 19 #[.pointer (some ⟨L.sb,0,none⟩),.int .i64 p,.bool b] W fun e w'=>e=.returned (eF X.2)∧∃ L',nu w S L ⟨1,p,n,m,bytes⟩ X.1 L' w'):=fun W b l f=>by
  rw [l,d];refine(agM p (decide (n=1)) W (aC S) L f.via.bO).mono ?_;rintro e w' ⟨rfl,L',c⟩;exact⟨rfl,L',f.next c⟩
 rw [<-d];have y:=h.acts;have u:=(gQ h.box).1;have q:=h.frozen;have x:¬ (S.acts:Int)=300:=by omega
 have t:(S.acts:Int) < 300:=by omega
 have g:0<=(S.acts:Int):=by omega
 clear h d o;generalize (S.acts:Int)=N at*;go_enter func9,ntmps9;go_wp2_with (go_at_call 19;refine(j.out _ (n==1) (Xl n) k.out).mono ?_;rintro e D ⟨rfl,L2,c⟩;have i:=gH c;obtain⟨⟨z,A,B⟩,C⟩:=three c.rp;have r:=(gQ c.rp).1;clear c);refine bodyPost_ret (v:=eF X.2) (by simp [results,results9,go_sem, *]) rfl ?_;exact⟨rfl,L2,i.out.reply _ _ _⟩
theorem Y9 (w:World) (S:aD) (L:Lay) (h:aS w S L) (l:S.acts < 300):
  kC 9 #[.pointer (some ⟨L.sb,0,none⟩),aval ⟨9,p,n,m,bytes⟩] w (DV w S L (jQ (aC S) p n)):=by
 have k:Hid (nu w S L ⟨9,p,n,m,bytes⟩ (aC S) L (((w.setCell ⟨L.sb,85,none⟩ (.int .i64 ((S.acts:Int)+1))).alloc (bN ⟨9,p,n,m,bytes⟩)).alloc (bA (err 0)))):=Mh h _;obtain⟨X,d⟩:∃ X:aD×Rp,X=jQ (aC S) p n:=⟨_,rfl⟩;have j:Hid (∀ (W:World),nu w S L ⟨9,p,n,m,bytes⟩ (aC S) L W->kC 20 #[.pointer (some ⟨L.sb,0,none⟩),.int .i64 p,.int .i64 n] W fun e w'=>e=.returned (eF X.2)∧∃ L',nu w S L ⟨9,p,n,m,bytes⟩ X.1 L' w'):=fun W f=>by
  rw [d];refine(Zk p n W (aC S) L f.via.bO).mono ?_;rintro e w' ⟨rfl,L',c⟩;exact⟨rfl,L',f.next c⟩
 rw [<-d];have x:=h.acts;have t:=(gQ h.box).1;have o:=h.frozen;have u:¬ (S.acts:Int)=300:=by omega
 have r:(S.acts:Int) < 300:=by omega
 have g:0<=(S.acts:Int):=by omega
 clear h d l;generalize (S.acts:Int)=N at*;go_enter func9,ntmps9;go_wp2_with (go_at_call 20;refine(j.out _ k.out).mono ?_;rintro e C ⟨rfl,L2,c⟩;have i:=gH c;obtain⟨⟨y,z,A⟩,B⟩:=three c.rp;have q:=(gQ c.rp).1;clear c);refine bodyPost_ret (v:=eF X.2) (by simp [results,results9,go_sem, *]) rfl ?_;exact⟨rfl,L2,i.out.reply _ _ _⟩
theorem Y8 (i:a.bytes.length<=140737488355328) (w:World) (S:aD) (L:Lay) (h:aS w S L) (f:lV S.v) (q:S.acts < 300) (A:¬ a.kind=1) (B:¬ a.kind=9):
  kC 9 #[.pointer (some ⟨L.sb,0,none⟩),aval a] w (DV w S L ((lC (aC S) a).1,err (lC (aC S) a).2)):=by
 have o:Hid (nu w S L a (aC S) L (((w.setCell ⟨L.sb,85,none⟩ (.int .i64 ((S.acts:Int)+1))).alloc (bN a)).alloc (bA (err 0)))):=Mh h _;obtain⟨X,d⟩:∃ X:aD×Int,X=lC (aC S) a:=⟨_,rfl⟩;have l:Hid (∀ (W:World),nu w S L a (aC S) L W->kC 21 #[.pointer (some ⟨L.sb,0,none⟩),aval a] W fun e w'=>e=.returned (.int .i64 X.2)∧∃ L',nu w S L a X.1 L' w'):=fun W g=>by
  rw [d];refine(XJ a i W (aC S) L g.via.bO f).mono ?_;rintro e w' ⟨rfl,L',c⟩;exact⟨rfl,L',g.next c⟩
 rw [<-d];have z:=h.acts;have x:=(gQ h.box).1;have r:=h.frozen;have y:¬ (S.acts:Int)=300:=by omega
 have u:(S.acts:Int) < 300:=by omega
 have j:0<=(S.acts:Int):=by omega
 clear h d q i f;generalize (S.acts:Int)=N at*;go_enter func9,ntmps9;go_wp2_with (go_at_call 21;refine(l.out _ o.out).mono ?_;rintro e G ⟨rfl,L2,c⟩;have k:=gH c;obtain⟨⟨C,D,E⟩,F⟩:=three c.rp;have t:=(gQ c.rp).1;clear c);refine bodyPost_ret (v:=eF (err X.2)) (by simp [results,results9,go_sem, *];exact⟨rfl,rfl,rfl⟩) rfl ?_;exact⟨rfl,L2,k.out.reply _ _ _⟩
theorem Y7 (j:a.bytes.length<=140737488355328) (w:World) (S:aD) (L:Lay) (h:aS w S L) (i:dJ S):
  kC 9 #[.pointer (some ⟨L.sb,0,none⟩),aval a] w (DV w S L (dW S a)):=by
 unfold dW;by_cases g:S.acts=300
 ·rw [if_pos g];exact Za a w S L h g
 rw [if_neg g];have c:S.acts < 300:=by have:=i.acts;omega
 unfold gG;by_cases d:a.kind=1
 ·rw [if_pos d];obtain⟨f,p,n,m,bytes⟩:=a;simp only at d;subst d;exact Zb p n m bytes w S L h c
 rw [if_neg d];by_cases e:a.kind=9
 ·rw [if_pos e];obtain⟨f,p,n,m,bytes⟩:=a;simp only at e;subst e;exact Y9 p n m bytes w S L h c
 rw [if_neg e];exact Y8 a j w S L h i.v c d e
open Go.Proofs.YtkcdcamophkdlaaGreatDoor.Tl (bn ak aI dK cv)
open Go.Proofs.YtkcdcamophkdlaaGreatDoor.Pt (Vw jg bP)
variable (a b s:Nat) {w:World} {ops:Array Oper} {rest:List Oper} {op:Oper} {ac:Act} {Q:Exit->Act->World->Prop}
def gD:aD:=⟨⟨[[0]],fun _=>dO,20,7,0⟩,fun _=>Ps.ground,fun _=>none,0⟩
def newL (a b s:Nat):Lay:=⟨s,⟨some ⟨b,0,none⟩,1,[([0],some ⟨a,0,none⟩,1)],fun _=>none,fun _=>0⟩,fun _=>none,fun _=>0,fun _=>0,fun _=>none,fun _=>0⟩
theorem acd:newS={gD with v:=jR gD.v}:=rfl
theorem Ph:lq gD:=⟨zu.v.t,zu.v.w1,zu.v.w2,zu.v.h1,zu.v.h2,fun _ _=>.inl rfl,zu.par,fun _ _ _ c=>(by cases c)⟩
@[reducible] def qb:Obj:=.cells #[.int .i64 0] 3
@[reducible] def uE (a:Nat):Obj:=.cells #[.slice (some ⟨a,0,none⟩) 1 1] 38
theorem ace {a b s:Nat} (d:w.heap[a]?=some qb) (e:w.heap[b]?=some (uE a)) (o:w.heap[s]?=some (lK gD (newL a b s))):aS w gD (newL a b s):=by
 refine⟨Ph,o,rfl,⟨?_,?_⟩,⟨?_,?_⟩,fun p _=>.inl ⟨rfl,rfl,rfl⟩,fun p _=>Ps.kP _ _,fun _ _ _ g=>(by cases g),fun _ _ _ _ _ f _=>(by cases f)⟩
 ·intro x c;simp only [newL,List.mem_singleton] at c;subst c;refine⟨.inr ⟨a,0,rfl,fun j i=>?_⟩,fun h=>by cases h⟩;have:j=0:=(by simpa using i);subst this;exact cell_of_row w a 0 _ _ _ d
 ·refine .inr ⟨b,0,rfl,fun k l=>?_⟩;have:k=0:=(by simpa [newL] using l);subst this;exact cell_of_row w b 0 _ _ _ e
 ·intro x c;cases c;exact⟨_,e⟩
 ·intro x c y q;simp only [newL,List.mem_singleton] at c;subst c;cases q;exact⟨_,d⟩
theorem afF (w:World):(Instr.build 36 #[(0,.agg #[.slice (some ⟨b,0,none⟩) 1 1]),(2,.int .i64 20),(3,.int .i64 7)]).run prog w=.ok (.agg (bP gD.v (newL a b s).l)) w:=by
 simp only [Instr.build,Sem.run_bind,Pt.Vq,Result.andThen_ok]
 kernel_rfl
theorem afE (w:World):(Instr.build 58 #[(0,.agg (bP gD.v (newL a b s).l))]).run prog w=.ok (.agg (tC gD (newL a b s))) w:=by
 simp only [Instr.build,Sem.run_bind,zeroValue58,Result.andThen_ok]
 kernel_rfl
theorem Vh (c:op.guard=none) (d e f:Operand) (o:op.op=.build 36 #[(0,d),(2,e),(3,f)]) (g:ac.eval d=.agg #[.slice (some ⟨b,0,none⟩) 1 1]) (j:ac.eval e=.int .i64 20) (k:ac.eval f=.int .i64 7) (h:wpList prog ops Q rest (ac.put op.dst (.agg (bP gD.v (newL a b s).l))) w):wpList prog ops Q (op::rest) ac w:=
 Pt.J5 c (by
  have q:((#[(0,d),(2,e),(3,f)]:Array (Nat×Operand)).map fun(i,x)=>(i,ac.eval x))=#[(0,.agg #[.slice (some ⟨b,0,none⟩) 1 1]),(2,.int .i64 20),(3,.int .i64 7)]:=by simp [g,j,k]
  unfold execOp
  simp only [o,q,Sem.run_bind,afF a b s,Result.andThen_ok,Sem.run_pure]) h
theorem ahR (c:op.guard=none) (d:Operand) (f:op.op=.build 58 #[(0,d)]) (e:ac.eval d=.agg (bP gD.v (newL a b s).l)) (h:wpList prog ops Q rest (ac.put op.dst (.agg (tC gD (newL a b s)))) w):wpList prog ops Q (op::rest) ac w:=
 Pt.J5 c (by
  have g:((#[(0,d)]:Array (Nat×Operand)).map fun(i,x)=>(i,ac.eval x))=#[(0,.agg (bP gD.v (newL a b s).l))]:=by simp [e]
  unfold execOp
  simp only [f,g,Sem.run_bind,afE a b s,Result.andThen_ok,Sem.run_pure]) h
variable (w:World)
theorem acf (a b s:Nat) (c:a=w.heap.size) (d:b=w.heap.size+1) (e:s=w.heap.size+2):aS (((w.alloc qb).alloc (uE a)).alloc (lK gD (newL a b s))) gD (newL a b s):=by
 subst c;subst d;subst e;refine ace (aF (aF (at_new w _) _) _) (aF ?_ _) ?_
 ·have:=at_new (w.alloc qb) (uE w.heap.size);simpa using this
 ·have:=at_new ((w.alloc qb).alloc (uE w.heap.size)) (lK gD (newL w.heap.size (w.heap.size+1) (w.heap.size+2)));simpa using this
theorem zo:kC 4 #[] w fun e w'=>∃ L,e=.returned (.pointer (some ⟨L.sb,0,none⟩))∧aS w' newS L∧w.heap.size<=L.sb∧Below w.heap.size w w':=by
 have x:Hid (aS (((w.alloc qb).alloc (uE w.heap.size)).alloc (lK gD (newL w.heap.size (w.heap.size+1) (w.heap.size+2)))) gD (newL w.heap.size (w.heap.size+1) (w.heap.size+2))):=acf w _ _ _ rfl rfl rfl;have u:Hid (∀ o q r:Obj,Below w.heap.size w (((w.alloc o).alloc q).alloc r)):=fun o q r=>((aM _ _).alloc (by simp) _).alloc (by simp;omega) _;have v:Hid (∀ W,aS W gD (newL w.heap.size (w.heap.size+1) (w.heap.size+2))->Below w.heap.size w W->kC 11 #[.pointer (some ⟨w.heap.size+2,0,none⟩)] W fun e w'=>e=.returned (.tuple #[])∧∃ L,L.sb=w.heap.size+2∧aS w' newS L∧Below w.heap.size w w'):=fun W y d=>by
  refine(Fa W gD _ y).mono ?_;rintro e w' ⟨rfl,L',c⟩;have:=d.size;refine⟨rfl,L',c.sb,c.bO,⟨c.kp.os.trans d.os,c.kp.tape.trans d.tape,c.kp.output.trans d.output,Nat.le_trans d.size c.kp.size,fun i z=>?_⟩⟩;rw [c.kp.block i (by omega) ?_,d.block i z];rintro(e | ⟨j,_,A,_⟩)
  ·have:i=w.heap.size+2:=e;omega
  ·cases A
 go_enter func4,ntmps4
 go_wp2_with (first
  | (refine Vh w.heap.size (w.heap.size+1) (w.heap.size+2) rfl _ _ _ rfl rfl rfl rfl ?_)
  | (refine ahR w.heap.size (w.heap.size+1) (w.heap.size+2) rfl _ rfl rfl ?_)
  | (go_at_call 11;refine(v.out _ x.out (u.out _ _ _)).mono ?_;rintro e t ⟨rfl,g,h,k,l⟩;have f:Hid (g.sb=w.heap.size+2∧aS t newS g∧Below w.heap.size w t):=⟨h,k,l⟩;clear h k l))
 go_ret;exact⟨g,by rw [f.out.1];rfl,f.out.2.1,by rw [f.out.1];omega,f.out.2.2⟩
open Go.Proofs.YtkcdcamophkdlaaGreatDoor.Pt (Vw VC dw bP)
variable {w w0 w':World} {L L':Lay} {S S':aD}
abbrev Bx:=Nat×Array Value×TypeId
structure lW (w0:World) (ks:List Bx) (w:World) (S:aD) (L:Lay):Prop where
 bO:aS w S L
 mine:∀ b,qx S L b->w0.heap.size<=b
 below:Below w0.heap.size w0 w
 ks:∀ k∈ks,w.heap[k.1]?=some (.cells k.2.1 k.2.2 (0,0))∧¬ nU k.2.2
theorem aY.keeps (h:aY w S L S' L' w') (g:aS w S L) {b:Nat} {c:Array Value} {t:TypeId} (d:w.heap[b]?=some (.cells c t (0,0))) (e:58≠t) (f:68≠t):w'.heap[b]?=some (.cells c t (0,0)):=
 h.kp.at d (g.other d e f)
theorem lW.to {ks:List Bx} (h:lW w0 ks w S L) (k:aY w S L S' L' w'):lW w0 ks w' S' L':=by
 have d:=h.below.size;refine⟨k.bO,fun b g=>(k.mut g).elim (h.mine b) (fun e=>by omega),⟨k.kp.os.trans h.below.os,k.kp.tape.trans h.below.tape,k.kp.output.trans h.below.output,Nat.le_trans d k.kp.size,fun i j=>?_⟩,fun x l=>?_⟩
 ·rw [k.kp.block i (by omega) (fun e=>by have:=h.mine i e;omega),h.below.block i j]
 ·obtain⟨f,c⟩:=h.ks x l;exact⟨k.keeps h.bO f (fun e=>c (.inl e.symm)) (fun e=>c (.inr (.inl e.symm))),c⟩
theorem lW.later {ks:List Bx} (h:lW w0 ks w S L) (c:Below w.heap.size w w'):lW w0 ks w' S L:=
 ⟨h.bO.below c,h.mine,h.below.trans (c.mono h.below.size),fun x d=>⟨aG c (h.ks x d).1 (gQ (h.ks x d).1).1,(h.ks x d).2⟩⟩
theorem lW.add {ks:List Bx} (h:lW w0 ks w S L) (c:Array Value) (t:TypeId) (f:¬ nU t):lW w0 ((w.heap.size,c,t)::ks) (w.alloc (.cells c t)) S L:=by
 have d:=h.later (aM w (.cells c t));refine⟨d.bO,d.mine,d.below,fun x g=>?_⟩;rcases List.mem_cons.1 g with e | e
 ·rw [e];exact⟨at_new w _,f⟩
 ·exact d.ks x e
theorem lW.less {ks c:List Bx} (h:lW w0 ks w S L) (d:∀ x∈c,x∈ks):lW w0 c w S L:=⟨h.bO,h.mine,h.below,fun x e=>h.ks x (d x e)⟩
theorem lW.new {ks:List Bx} (d:Below w0.heap.size w0 w) (c:∀ k∈ks,w.heap[k.1]?=some (.cells k.2.1 k.2.2 (0,0))∧¬ nU k.2.2) (j:aS w' newS L) (o:w.heap.size<=L.sb) (h:Below w.heap.size w w'):lW w0 ks w' newS L:=by
 have f:=d.size;refine⟨j,?_,d.trans (h.mono f),fun x g=>⟨aG h (c x g).1 (gQ (c x g).1).1,(c x g).2⟩⟩;rintro _ (e | ⟨i,_,l,_⟩)
 ·rw [e];omega
 ·cases l
theorem jW:(prog.info? 50).map (·.size)=some 3:=by kernel_rfl
theorem jY (r:Rp):(au r).all (·.oneCell')=true:=by simp [Value.oneCell']
theorem ab9 {ks:List Bx} (c:Below w0.heap.size w0 w) (d:∀ k∈ks,w.heap[k.1]?=some (.cells k.2.1 k.2.2 (0,0))∧¬ nU k.2.2):
  kC 4 #[] w fun e w'=>∃ L,e=.returned (.pointer (some ⟨L.sb,0,none⟩))∧w.heap.size<=L.sb∧lW w0 ks w' newS L∧Below w.heap.size w w':=by
 refine(zo w).mono ?_;rintro e w' ⟨L,rfl,h,f,g⟩;exact⟨L,rfl,f,lW.new c d h f g,g⟩
end Go.Proofs.YtkcdcamophkdlaaGreatDoor.Sv
