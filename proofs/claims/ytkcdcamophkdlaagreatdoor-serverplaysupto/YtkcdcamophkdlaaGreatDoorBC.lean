import Derived.Test.YtkcdcamophkdlaaGreatDoorBB
set_option maxHeartbeats 4000000
set_option maxRecDepth 100000
open Go.Proofs.Tryz
namespace Go.Proofs.YtkcdcamophkdlaaGreatDoor
open Go.RowKit
variable {w w1:World} {b n pb cap:Nat} {f:Nat->aH} {oo ao:Option Addr} {q:bU}
theorem aL.shift {d:Nat} (h:aL w (some ⟨b,d,none⟩) n f) (a m o:Nat) (v:a+m<=n) (s:o=d+a*4):aL w (some ⟨b,o,none⟩) m (iL f a):=by
 subst s;rcases h with h | ⟨t,x,e,p⟩
 ·exact .inl (by omega)
 ·simp only [Option.some.injEq,Addr.mk.injEq,and_true] at e;obtain⟨rfl,rfl⟩:=e;refine .inr ⟨b,d+a*4,rfl,fun i u=>?_⟩;have:=p (a+i) (by omega);have e:d+(a+i)*4=d+a*4+i*4:=(by omega);rw [e] at this;exact this
theorem aL.first (h:aL w ao n f) (m:Nat) (p:m<=n):aL w ao m f:=by
 rcases h with h | ⟨b,o,e,a⟩
 ·exact .inl (by omega)
 ·exact .inr ⟨b,o,e,fun i d=>a i (by omega)⟩
theorem aL.congr {g:Nat->aH} (h:aL w ao n f) (e:∀ i,i < n->f i=g i):aL w ao n g:=by
 rcases h with h | ⟨b,o,d,p⟩
 ·exact .inl h
 ·exact .inr ⟨b,o,d,fun i a=>by rw [<-e i a];exact p i a⟩
theorem OC {B:Nat} (h:Below B w w1):Below B w w1.drew:=⟨h.os,h.tape,h.output,h.size,h.block⟩
theorem Pn (h:aW w pb b cap oo q w1) (S:ByteArray) (p:q.out.length+S.size<=1048576) (l:List UInt8) (s:S.data.toList=l):
  kC 109 #[.pointer (some ⟨pb,0,none⟩),.string S] w1 fun e d=>e=.returned (.tuple #[])∧aW w pb b cap oo ⟨q.out++l,q.g⟩ d:=by
 obtain⟨u,o,i,t⟩:=h;subst s;exact(J6 pb b cap u o q S w1 i p).mono fun e d a=>⟨a.1,aW.trans t a.2⟩
theorem Sq (h:aW w pb b cap oo q w1) (z:OkG q.g) (r c:Int) (p:0<=r) (s:r < q.g.high) (t:0<=c) (u:c < q.g.wide) (v:q.out.length<=1000000):
  kC 134 #[.pointer (some ⟨pb,0,none⟩),.int .i64 r,.int .i64 c] w1 fun e d=>e=.returned (.tuple #[])∧aW w pb b cap oo (dh q r c) d:=by
 obtain⟨y,o,i,x⟩:=h;exact(Sn pb b cap y o q z r c p s t u v w1 i).mono fun e d a=>⟨a.1,aW.trans x a.2⟩
theorem aW.clear {l:List UInt8} {y:Gr} (h:aW w pb b cap oo ⟨l,y⟩ w1) {s:World} {a z:Nat} (v:av s b y.n (gT y.f a z)) (d:w1.grownBy s (some b)):aW w pb b cap oo ⟨l,xw y a z⟩ s:=by
 obtain⟨B,u,p,i⟩:=h;refine⟨B,u,⟨bH d p.box (fun e=>p.n1 (Option.some.inj e)),p.own.kept d ?_,v⟩,⟨d.os.trans i.os,d.tape.trans i.tape,d.output.trans i.output,Nat.le_trans i.size d.size,fun k o x t A=>(d.block k (Nat.lt_of_lt_of_le o i.size) (fun e=>t (Option.some.inj e))).trans (i.block k o x t A),i.fresh⟩⟩;rw [F8];exact .inr p.n3
theorem Zv (pb b cap:Nat) (oo:Option Addr) (oc:Nat) (p:bU) (y:OkG p.g) (T:p.g.n<=cap) (r:Nat) (hr:(r:Int) < p.g.high) (want:Nat->aH) (aw:Option Addr) (z:Nat) (W:Nat) (G:W=p.g.wide.toNat) (ac:W<=z) (hl:p.out.length<=100000) (w:World) (h:eO w pb b cap oo oc p) (hw:aL w aw W want):
  kC 154 #[.pointer (some ⟨pb,0,none⟩),.int .i64 r,.slice aw W z] w fun e V=>e=.returned (.tuple #[])∧aW w pb b cap oo (eraseP p r want) V:=by
 have w1:=y.w1;have w2:=y.w2;have hh:=y.h2;have Rk:W<=24:=by omega
 obtain⟨Z,ow,rfl,ab⟩:=hw.resolve_left (by omega);have s:Hid (∀ w1,Below w.heap.size w w1->aL w1 (some ⟨Z,ow,none⟩) W want):=fun w1 a=>hw.below a;clear ab;obtain⟨P,Q⟩:∃ P,P=r*W:=⟨_,rfl⟩;have HC:Hid (∀ w,kC 133 #[ay p.g (some ⟨b,0,none⟩) cap,.int .i64 r] w fun e V=>e=.returned (.slice (some ⟨b,P*4,none⟩) W (cap - P))∧V=w.alloc (aB p.g (some ⟨b,0,none⟩) cap)):=fun w=>by
  have:=EW p.g y b 0 cap r hr T w;rw [Nat.zero_add, <-G, <-Q] at this;exact this
 have I6:P+W<=p.g.n:=by
  have h1:=wE y;have h2:(r+1)*W<=p.g.high.toNat*W:=Nat.mul_le_mul_right _ (by omega);rw [Nat.succ_mul] at h2;rw [h1, <-G];omega
 have H:Hid (∀ w1,Below w.heap.size w w1->aL w1 (some ⟨b,P*4,none⟩) W (iL p.g.f P)):=fun w1 a=>(h.later a).bM.rd.shift P W _ (by omega) (by omega);obtain⟨B,I⟩:∃ B,B=jK (iL p.g.f P) want W W:=⟨_,rfl⟩;have Y:Hid (∀ w1,Below w.heap.size w w1->kA 158 #[.slice (some ⟨b,P*4,none⟩) W (cap - P),.slice (some ⟨Z,ow,none⟩) W z] w1 (.tuple #[.int .i64 B.1,.int .i64 B.2])):=fun w1 a=>by
  rw [I];exact ag2 (iL p.g.f P) want W (by omega) _ _ _ _ w1 (H.out w1 a) (s.out w1 a)
 have F:Hid (eraseP p r want=CO p r want P W B.1 B.2):=by
  show eraseP p r want=_;unfold eraseP;rw [<-G, <-Q, <-I]
 have E:=O6 (iL p.g.f P) want W W;rw [<-I] at E;have yC:Hid (∀ w1,Below w.heap.size w w1->w1.heap[pb]?=some (je p.out.length oo oc p.g b cap)):=fun w1 a=>aG a h.box h.lt;obtain⟨⟨c0,c1,c2,c3,c4,c5,c6,c7,c8,c9⟩,cf⟩:=ten h.box;obtain⟨_,_⟩:=B;simp only at E Y F;rcases E with ⟨a1,a2,_⟩ | ⟨A,L,a1,a2,a3,a4,_⟩
 ·subst a1 a2;have J:Hid (∀ w1,Below w.heap.size w w1->aW w pb b cap oo (eraseP p r want) w1):=fun w1 a=>by
   rw [F.out];unfold CO;rw [if_pos (by omega)];exact h.stay a
  clear h F H s hw y I Q G;go_enter func154,ntmps154
  go_wp2_with (first
   | (go_at_call 133;refine(HC.out _).mono ?_;rintro e v1 ⟨rfl,rfl⟩)
   | (go_at_call 158;refine(Y.out _ (aM _ _)).mono ?_;rintro e v2 ⟨rfl,t⟩;have aa:=gH (J.out v2 (vO t));clear t))
  exact bodyPost_ret (v:=.tuple #[]) (by simp [results,results154,go_sem]) rfl ⟨rfl,aa.out⟩
 ·subst a1 a2;obtain⟨K1,C⟩:∃ K,K=mV (iL p.g.f (P+A)) (iL want A) (W - A):=⟨_,rfl⟩;obtain⟨K2,D⟩:∃ K,K=mV (iL p.g.f P) want (L+1):=⟨_,rfl⟩;have d:Hid (K1=mV (iL p.g.f (P+A)) (iL want A) (W - A)∧K2=mV (iL p.g.f P) want (L+1)):=⟨C,D⟩;have yH:Hid (P=r*W∧W=p.g.wide.toNat):=⟨Q,G⟩;clear I hw Q G;go_enter func154,ntmps154
  go_wp2_with (first
   | (go_at_call 133;refine(HC.out _).mono ?_;rintro e v1 ⟨rfl,rfl⟩)
   | (go_at_call 158;refine(Y.out _ (aM _ _)).mono ?_;rintro e v2 ⟨rfl,t⟩;have x:=gH (vO t);clear t c0 c1 c2 c3 c4 c5 c6 c7 c8 c9 cf))
  have Ee:Hid (∀ w1,Below w.heap.size w w1->kA 159 #[.slice (some ⟨b,P*4+A*4,none⟩) (W - A) (cap - P - A),.slice (some ⟨Z,ow+A*4,none⟩) (W - A) (z - A)] w1 (.int .i64 K1)):=fun w1 a=>by
   rw [C];exact Sb (iL p.g.f (P+A)) (iL want A) (W - A) (by omega) _ _ _ _ w1 ((H.out w1 a).shift A (W - A) _ (by omega) rfl |>.congr (fun i _=>by unfold iL;rw [Nat.add_assoc])) ((s.out w1 a).shift A (W - A) _ (by omega) rfl)
  have Ef:Hid (∀ w1,Below w.heap.size w w1->kA 159 #[.slice (some ⟨b,P*4,none⟩) (L+1) (cap - P),.slice (some ⟨Z,ow,none⟩) (L+1) z] w1 (.int .i64 K2)):=fun w1 a=>by
   rw [D];exact Sb (iL p.g.f P) want (L+1) (by omega) _ _ _ _ w1 ((H.out w1 a).first (L+1) (by omega)) ((s.out w1 a).first (L+1) (by omega))
  have l1:(A:Int)<=(W:Int):=(by omega);have l2:(0:Int)<=(A:Int):=(by omega);have l3:(L:Int)+1<=(W:Int):=(by omega);have l4:W<=cap - P:=(by omega);have l5:(W:Int)<=((cap - P:Nat):Int):=(by omega);have l6:(W:Int)<=(z:Int):=(by omega);have l7:¬ cap - P=A:=(by omega);have l8:¬ z=A:=(by omega);have l9:IntKind.i64.wrap ((L:Int)+1)=(L:Int)+1:=(by rw [IntKind.wrap_i64];omega);have ad:(L:Int)+1<=((cap - P:Nat):Int):=(by omega);have ae:(L:Int)+1<=(z:Int):=(by omega);have af:(0:Int)<=(L:Int)+1:=(by omega);clear C D H s;go_region_held3 (fun _=>True) (first | go_keep | trivial)
   (first
   | (have _t:=o;go_at_call 159;go_must (go_fit (Ef.out v3 o.out));rintro e _ ⟨rfl,S⟩;have qo:=gH (o.out.trans (S.mono o.out.size));clear S)
   | (go_at_call 159;go_must (go_fit (Ee.out v2.drew (OC x.out)));rintro e v3 ⟨rfl,R⟩;have o:Hid (Below w.heap.size w v3):=x.out.trans ((UY R).mono x.out.size);clear R))
  have M:Hid (∀ j:Nat,j < W->∀ w1,Below w.heap.size w w1->kC 134 #[.pointer (some ⟨pb,0,none⟩),.int .i64 r,.int .i64 j] w1 fun e V=>e=.returned (.tuple #[])∧aW w pb b cap oo (dh p r j) V):=fun j hj w1 a=>by
   have:=yH.out.2;exact Sq (h.stay a) y r j (by omega) hr (by omega) (by omega) (by omega)
  have jG:Hid (∀ j:Nat,j < W->(dh p r j).out.length<=100008):=fun j hj=>by
   have:=yH.out.2;have:=(FW y r j (by omega) hr (by omega) (by omega)).1;show (p.out++oC p.g r j).length<=100008;rw [List.length_append];omega
  clear y h HC Y Ee Ef yC x o;by_cases hk:K1<=K2
  ·have J:Hid (eraseP p r want=⟨(dh p r A).out++[27,91,75],xw (dh p r A).g (P+A) (P+A+(W - A))⟩):=by
    show eraseP p r want=_;rw [F.out];unfold CO;have e1:((A:Nat):Int).toNat=A:=(by omega);have e2:((L:Int)+1).toNat=L+1:=(by omega);rw [if_neg (by omega),e1,e2, <-d.out.1, <-d.out.2,if_pos hk,show P+A+(W - A)=P+W by omega]
   clear F d
   go_wp2_with (first
    | (go_at_call 134;refine(M.out A (by omega) _ qo.out).mono ?_;rintro e v5 ⟨rfl,u⟩;have uj:=gH u;clear u)
    | (go_at_call 109;refine(Pn uj.out ⟨#[27,91,75]⟩ (by have:=jG.out A (by omega);show (dh p r A).out.length+3<=1048576;omega) [27,91,75] rfl).mono ?_;rintro e v6 ⟨rfl,X⟩;have KS:=gH X;obtain⟨o6,c6,U,_⟩:=X;obtain⟨v7,r7,O,N⟩:=wB v6 0 b p.g.n p.g.f U.bM (P+A) (W - A) (cap - P - A) (some ⟨b,P*4+A*4,none⟩) (by omega) (fun _=>by rw [Nat.add_mul]);have K6:=gH O;have wK:=gH N;clear U O N))
   go_end0;refine⟨rfl,?_⟩;rw [J.out];exact KS.out.clear K6.out wK.out
  ·have J:Hid (eraseP p r want=⟨(dh p r L).out++[27,91,49,75],xw (dh p r L).g P (P+(L+1))⟩):=by
    show eraseP p r want=_;rw [F.out];unfold CO;have e1:((A:Nat):Int).toNat=A:=(by omega);have e2:((L:Int)+1).toNat=L+1:=(by omega);rw [if_neg (by omega),e1,e2, <-d.out.1, <-d.out.2,if_neg hk]
   clear F d
   go_wp2_with (first
    | (go_at_call 134;refine(M.out L (by omega) _ qo.out).mono ?_;rintro e v5 ⟨rfl,u⟩;have uj:=gH u;clear u)
    | (go_at_call 109;refine(Pn uj.out ⟨#[27,91,49,75]⟩ (by have:=jG.out L (by omega);show (dh p r L).out.length+4<=1048576;omega) [27,91,49,75] rfl).mono ?_;rintro e v6 ⟨rfl,X⟩;have KS:=gH X;obtain⟨o6,c6,U,_⟩:=X;obtain⟨v7,r7,O,N⟩:=wB v6 0 b p.g.n p.g.f U.bM P (L+1) (cap - P) (some ⟨b,P*4,none⟩) (by omega) (fun _=>rfl);have K6:=gH O;have wK:=gH N;clear U O N))
   go_end0;refine⟨rfl,?_⟩;rw [J.out];exact KS.out.clear K6.out wK.out
def fu (g:Gr) (want:Nat->aH) (P c k:Nat):Gr:={g with f:=nC g.f want P c k}
structure j6 (w wr:World) (pb b cap:Nat) (oo:Option Addr) (oc:Nat) (l:List UInt8) (g:Gr) (want:Nat->aH) (P c k m:Nat) (pa:Option Addr) (pc:Nat):Prop where
 pen:eO wr pb b cap oo oc ⟨l,fu g want P c k⟩
 grown:w.grownBy wr (some b)
 pay:wr.ownsRow w.heap.size 5 1 (.slice pa m pc) m (oV (nL g.f want P c m))
 Gd:pb < w.heap.size
 blt:b < w.heap.size
 xR:∀ i,fQ oo=some i->i < w.heap.size
variable {w wr : World} {pb b cap : Nat} {oo : Option Addr} {oc : Nat} {l : List UInt8} {g : Gr} {want : Nat -> aH} {P c k m : Nat} {pa : Option Addr} {pc : Nat}
theorem j6.later (h:j6 w wr pb b cap oo oc l g want P c k m pa pc) {w':World} (a:Below wr.heap.size wr w'):j6 w w' pb b cap oo oc l g want P c k m pa pc:=
 ⟨h.pen.later a,jD h.grown (Below.nO a _),h.pay.kept (Below.nO a none) (by cases d:Value.ownBlock (.slice pa m pc) <;>simp),h.Gd,h.blt,h.xR⟩
theorem j6.kept (h:j6 w wr pb b cap oo oc l g want P c k m pa pc):Kept w wr pb b oo oo:=
 ⟨h.grown.os,h.grown.tape,h.grown.output,h.grown.size,fun i d _ a _=>h.grown.block i d (fun e=>a (Option.some.inj e)),.inl rfl⟩
theorem j6.JC (h:j6 w wr pb b cap oo oc l g want P c k m pa pc):fQ pa≠some b:=fun e=>by
 obtain⟨_,d⟩:=F9 h.pay e
 obtain⟨_,a,_⟩:=h.pen.bM
 exact wm d a O7 rfl
theorem j6.same (h:j6 w wr pb b cap oo oc l g want P c k m pa pc) (a:mh (g.f (P+(c+k))) (want (c+k))=false):j6 w wr pb b cap oo oc l g want P c (k+1) m pa pc:=by
 refine⟨?_,h.grown,h.pay,h.Gd,h.blt,h.xR⟩;have:=h.pen;unfold fu at this ⊢;rw [Qs a];exact this
theorem j6.put (h:j6 w wr pb b cap oo oc l g want P c k m pa pc) (o:mh (g.f (P+(c+k))) (want (c+k))=true) (p:P+(c+k) < g.n) (o0 o1 o2 o3:Nat) (a:o0=(P+(c+k))*4) (d:o1=(P+(c+k))*4+1) (e:o2=(P+(c+k))*4+2) (i:o3=(P+(c+k))*4+3) (x:aH) (s:x=want (c+k)):
  j6 w ((((wr.setCell ⟨b,o0,none⟩ (.int .i64 x.ch)).setCell ⟨b,o1,none⟩ (.int .i64 x.aA)).setCell ⟨b,o2,none⟩ (.int .i64 x.aJ)).setCell ⟨b,o3,none⟩ (.bool x.bold)) pb b cap oo oc l g want P c (k+1) m pa pc:=by
 refine⟨?_,MH h.grown,uQ (uQ (uQ (uQ h.pay h.JC _) h.JC _) h.JC _) h.JC _,h.Gd,h.blt,h.xR⟩;have:=h.pen.put (P+(c+k)) o0 o1 o2 o3 x p a d e i;unfold fu at this ⊢;rw [Qt o, <-s];exact this
theorem Pj {z:World} {D:Array Oper} {t:List Oper} {o:Oper} {a:Act} {Q:Exit->Act->World->Prop} (H:o.guard=none) (R x:Operand)
  (K:o.op=.call {callee:=.builtin .append,args:=#[R,x],argTypes:=#[106,106]})
  (h:j6 w z pb b cap oo oc l g want P c (m+1) m pa pc) (y:Int) (X:y=((nK g.f want P (c+m)).toNat:Int)) (Y:m<=100) (V:a.eval R=.slice pa m pc) (B:Nat) (T:B=z.heap.size) (W:a.eval x=.slice (some ⟨B,0,none⟩) 1 1)
  (I:∀ E p F,Hid (j6 w F pb b cap oo oc l g want P c (m+1) (m+1) (some ⟨E,0,none⟩) p)->wpList prog D Q t (a.put o.dst (.slice (some ⟨E,0,none⟩) (m+1) p)) F):wpList prog D Q (o::t) a (z.alloc (.cells #[.int .u8 y] 5)):=by
 subst T;subst X;obtain⟨i,A,M,N,O⟩:=info_parts info5;have:=h.grown.size;have G:=aM z (.cells #[.int .u8 ((nK g.f want P (c+m)).toNat:Int)] 5);refine wpList_append_lies _ H R x 106 K w.heap.size 5 i (.int .u8 0) 1 1 underlying106 A M N O rfl (by decide) (.slice pa m pc) m _ V (h.pay.alloc _) ⟨z.heap.size,0,none⟩ 1 1 [.int .u8 ((nK g.f want P (c+m)).toNat:Int)] W rfl ?_ ?_ (by decide) (by unfold maxLen;omega) (by omega) (by simp;omega) (z.heap.size+1) (by simp) ?_
 ·exact World.news_of_block (at_new z _)
 ·intro u S;simp only [List.mem_singleton] at S;subst S
  rfl
 ·intro E p F C d _ _;rw [F8] at d;have v:=h.later G;have L:=v.pen;have J:∀ k,fQ pa=some k->w.heap.size<=k:=fun k I=>(h.pay.lt k (by rw [F8];exact I)).1;have s:∀ i,i < w.heap.size->some i≠fQ pa:=fun i A e=>(by have:=J i e.symm;omega);refine I E p F ⟨⟨?_,?_,?_⟩,?_,?_,h.Gd,h.blt,h.xR⟩
  ·exact bH d L.box (s _ h.Gd)
  ·refine L.own.kept d ?_;rw [F8];cases K:fQ oo with
   | none=>exact .inl rfl
   | some j=>exact .inr (s j (h.xR j K))
  ·exact L.bM.grown d (s _ h.blt)
  ·exact⟨d.os.trans v.grown.os,d.tape.trans v.grown.tape,d.output.trans v.grown.output,Nat.le_trans v.grown.size d.size,fun i A U=>(d.block i (Nat.lt_of_lt_of_le A v.grown.size) (s i A)).trans (v.grown.block i A U)⟩
  ·rw [Tz,Qg];exact C
theorem run_text (w:World) (base n oc:Nat) (oo:Option Addr) (l:List UInt8) (u:n=l.length) (h:w.ownsRow base 5 1 (.slice oo n oc) n (oV l)):(convert 106 9 (.slice oo n oc)).run prog w=.ok (.string (bs l)) w:=by
 subst u;rw [run_convert_bytes_string w 106 9 5 oo l.length oc underlying106 underlying5 underlying9];rcases h.2 with ⟨d,p⟩ | ⟨g,c,o,d,_,y,v,_,z,A⟩
 ·simp only [Value.slice.injEq] at d;obtain⟨rfl,_,rfl⟩:=d;have:l=[]:=List.length_eq_zero_iff.1 p;subst this;simp [Conv.bytesToString]
  rfl
 ·simp only [Value.slice.injEq] at d;obtain⟨rfl,_,rfl⟩:=d;have t:oV l=(l.map fun b:UInt8=>(b.toNat:Int)).map (Value.int .u8):=(by simp [oV]);have i:=run_loadCells_list (P:=prog) w ⟨g,0,none⟩ (oV l) (h.cells (g:=g) rfl);have a:(oV l).length=l.length:=(by simp [oV]);rw [a,t] at i;rw [run_bytesToString w ⟨g,0,none⟩ l.length oc _ i];congr 2;have e:∀ (l:List UInt8) (s:ByteArray),(l.map fun b:UInt8=>(b.toNat:Int)).foldl (fun r n=>r.push (UInt8.ofNat n.toNat)) s=⟨s.data++l.toArray⟩:=by
   intro l;induction l with
   | nil=>intro s;simp
   | cons x r ih=>
    intro s;rw [List.map_cons,List.foldl_cons,ih];apply ByteArray.ext;simp [ByteArray.push]
  rw [e];apply ByteArray.ext;simp [ByteArray.empty,ByteArray.emptyWithCapacity]
  rfl
theorem Yh (pb b cap:Nat) (oo:Option Addr) (oc:Nat) (p:bU) (B:OkG p.g) (aa:p.g.n<=cap) (pV:p.g.col < p.g.wide) (want:Nat->aH) (u:∀ j,j < p.g.wide.toNat->bS (want j)=true) (aw:Option Addr) (cw:Nat) (W:Nat) (H:W=p.g.wide.toNat) (_hcw:W<=cw) (hl:p.out.length<=100000) (w:World) (h:eO w pb b cap oo oc p) (hw:∀ s o',Kept w s pb b oo o'->aL s aw W want):
  kC 155 #[.pointer (some ⟨pb,0,none⟩),.slice aw W cw] w fun e s=>e=.returned (.tuple #[])∧aW w pb b cap oo (uF p want) s:=by
 have w1:=B.w1;have w2:=B.w2;have r1:=B.r1;have r2:=B.r2;have k1:=B.c1;have Rk:W<=24:=by omega
 obtain⟨_,_,rfl,_⟩:=(hw w oo (Kept.refl _ _ _ _)).resolve_left (by omega);obtain⟨R,hR⟩:∃ R:Nat,(R:Int)=p.g.row:=⟨p.g.row.toNat,by omega⟩;obtain⟨C,hC⟩:∃ C:Nat,(C:Int)=p.g.col:=⟨p.g.col.toNat,by omega⟩;obtain⟨P,hP⟩:∃ P,P=R*W:=⟨_,rfl⟩;have Y:P=rowAt p.g:=by
  rw [hP,H];unfold rowAt;rw [<-hR,Gh R p.g.wide (by omega)]
 have V:C=p.g.col.toNat:=by omega
 have ap:C < W:=by omega
 have I6:P+W<=p.g.n:=by
  have U:=wE B;have h2:(R+1)*W<=p.g.high.toNat*W:=Nat.mul_le_mul_right _ (by omega);rw [Nat.succ_mul] at h2;rw [U, <-H];omega
 have oK:Hid (∀ w,kC 133 #[ay p.g (some ⟨b,0,none⟩) cap,.int .i64 p.g.row] w fun e s=>e=.returned (.slice (some ⟨b,P*4,none⟩) W (cap - P))∧s=w.alloc (aB p.g (some ⟨b,0,none⟩) cap)):=fun w=>by
  have:=EW p.g B b 0 cap R (by omega) aa w;rw [Nat.zero_add, <-H, <-hP,hR] at this;exact this
 have wI:Hid (uF p want=⟨p.out++27::80::(Lib.trimRightB (nL p.g.f want P C (W - C)) 32++[27,92]),fu p.g want P C (W - C)⟩):=by
  show uF p want=_;unfold uF EZ IC fu leftD;rw [<-Y, <-V, <-H]
 have N:Hid (j6 w (w.alloc (aB p.g (some ⟨b,0,none⟩) cap)).drew pb b cap oo oc p.out p.g want P C 0 0 none 0):=by
  have hb:=OC (aM w (aB p.g (some ⟨b,0,none⟩) cap));refine⟨?_,Below.nO hb _,World.ownsRow_nil _ _ _ _,h.lt,h.blt,fun i hi=>h.xR hi⟩;unfold fu;rw [Qu];exact h.later hb
 have dZ:Hid (∀ j,j < W->bS (want j)=true):=by rw [H];exact u
 have M:=gH hw;obtain⟨⟨c0,c1,c2,c3,c4,c5,c6,c7,c8,c9⟩,cf⟩:=ten h.box;have D:=h.lt;have Eo:=gH h;rw [<-hC] at c5;clear h hw u H hR hP Y V B pV k1 r1 r2;have HC:=gH hC;clear hC;go_enter func155,ntmps155;go_wp2_with fail;go_region_held3 (fun s=>s.cell? ⟨pb,1,none⟩=some (.int .i64 p.g.wide)∧s.cell? ⟨pb,2,none⟩=some (.int .i64 p.g.high)∧s.cell? ⟨pb,3,none⟩=some (.slice (some ⟨b,0,none⟩) p.g.n cap)∧s.cell? ⟨pb,4,none⟩=some (.int .i64 p.g.row)∧s.cell? ⟨pb,5,none⟩=some (.int .i64 C)∧s.cell? ⟨pb,6,none⟩=some (.int .i64 p.g.aA)∧s.cell? ⟨pb,7,none⟩=some (.bool p.g.bold)∧s.cell? ⟨pb,8,none⟩=some (.int .i64 p.g.top)∧s.cell? ⟨pb,9,none⟩=some (.int .i64 p.g.bottom)) (first | go_keep | (simp [*,World.cell?_alloc_past]))
  ((go_at_call 133;rw [HC.out];go_must (go_fit (oK.out w.drew));rintro e _ ⟨rfl,rfl⟩))
 go_wp2_with fail;go_loopw [5,6] (fun pv cv wr=>∃ (J k:Nat) (pa:Option Addr) (pc:Nat),J=C+k∧J<=W∧cv=.int .i64 J∧pv=.slice pa k pc∧j6 w wr pb b cap oo oc p.out p.g want P C k k pa pc) (fun _ cv _=>W - (intOf cv).toNat)
 case atStart=>exact⟨C,0,none,0,rfl,by omega,rfl,rfl,N.out⟩
 case round=>
  obtain⟨J,k,pa,pc,G,_,rfl,rfl,a⟩:=hrel;have F:=gH a;have HJ:=gH G;clear N c0 c1 c2 c3 c4 c5 c6 c7 c8 c9 cf;by_cases D:J < W
  ·obtain⟨_,_,e,C8⟩:=(M.out wr oo a.kept).resolve_left (by omega);simp only [Option.some.injEq,Addr.mk.injEq,and_true] at e;obtain⟨rfl,rfl⟩:=e;obtain⟨t0,t1,t2,t3⟩:=C8 J D;have X:P+J < p.g.n:=(by omega);obtain⟨s0,s1,s2,s3⟩:=a.pen.bM.cells (P+J) X;have ac:(fu p.g want P C k).f (P+J)=p.g.f (P+J):=by
    unfold fu nC;simp only;rw [if_neg (by omega)]
   simp only [ac] at s0 s1 s2 s3;have z:(P+J)*4=P*4+J*4:=(by omega);rw [z] at s0 s1 s2 s3;obtain⟨y,hy⟩:∃ y,y=p.g.f (P+J):=⟨_,rfl⟩;obtain⟨x,I⟩:∃ x,x=want J:=⟨_,rfl⟩;rw [<-hy] at s0 s1 s2 s3;rw [<-I] at t0 t1 t2 t3;have ag:∀ j,wr.frozen? ⟨b,j,none⟩=false:=a.pen.bM.free;have ak:=a.pen.blt;have Ny:=World.block_lt_of_cell? _ _ t0;simp only at Ny;have al:(J:Int) < (W:Int):=(by omega);have aq:(0:Int)<=(J:Int):=(by omega);have av:W<=cap - P:=(by omega);obtain⟨q,hq⟩:∃ q,q=dL y x:=⟨_,rfl⟩;have E2:∀ w,(binOp .neq 65 (.agg #[.int .i64 y.ch,.int .i64 y.aA,.int .i64 y.aJ,.bool y.bold]) (.agg #[.int .i64 x.ch,.int .i64 x.aA,.int .i64 x.aJ,.bool x.bold])).run prog w=.ok (.bool !q) w:=fun w=>(by rw [hq];exact NV y x w);have GR:Hid (mh (p.g.f (P+(C+k))) (want (C+k))=(decide (0 < x.aJ) && !q)):=by
    show mh _ _=_;rw [<-G, <-hy, <-I,hq]
    rfl
   have KT:Hid (nK p.g.f want P (C+k)=if (decide (0 < x.aJ) && !q)=true then UInt8.ofNat (96+x.aJ).toNat else 32):=by
    show nK _ _ _ _=_;unfold nK;rw [GR.out, <-G, <-I]
   have NC:0 < x.aJ->x.aJ<=8:=fun A=>(Rh (by rw [I];exact dZ.out J D) A).2;have af:Hid (x=want (C+k)):=(by rw [<-G];exact I);have Nf:k<=100:=(by omega);clear a C8 hy I hq ac G;by_cases A:0 < x.aJ
   ·have Jd:=NC A;clear NC;cases q
    ·have E:Hid ((96+x.aJ:Int)=((nK p.g.f want P (C+k)).toNat:Int)):=by
      show (96+x.aJ:Int)=_;rw [KT.out];simp [A];omega
     go_wp2_with fail;go_quiet (fail);have ab:Below wr.heap.size wr ((wr.alloc (bf x)).drewN nq):=below_drewN (aM _ _) _;have v:=gH (F.out.later ab);obtain⟨⟨_,_,_,_⟩,_⟩:=four (show ((wr.alloc (bf x)).drewN nq).heap[wr.heap.size]?=some (bf x) from at_new wr _);have y0:=v.out.pen.bM.cells (P+J) X;rw [z] at y0;obtain⟨y0,y1,y2,y3⟩:=y0;have an:=v.out.pen.bM.free;have az:wr.heap.size≠b:=(by omega);have am:b≠wr.heap.size:=(by omega);generalize (wr.alloc (bf x)).drewN nq=W1 at*;obtain⟨Z,hZ⟩:∃ Z,Z=(fu p.g want P C k).f (P+J):=⟨_,rfl⟩;simp only [<-hZ] at y0 y1 y2 y3;clear hZ ab s0 s1 s2 s3 t0 t1 t2 t3 ag F E2;have L:Hid (j6 w ((((W1.setCell ⟨b,P*4+J*4,none⟩ (.int .i64 x.ch)).setCell ⟨b,P*4+J*4+1,none⟩ (.int .i64 x.aA)).setCell ⟨b,P*4+J*4+2,none⟩ (.int .i64 x.aJ)).setCell ⟨b,P*4+J*4+3,none⟩ (.bool x.bold)) pb b cap oo oc p.out p.g want P C (k+1) k pa pc):=by
      have G:=HJ.out;exact v.out.put (by rw [GR.out];simp [A]) (by omega) _ _ _ _ (by omega) (by omega) (by omega) (by omega) x af.out
     have Vv:Hid ((97+x.aJ - 1:Int)=((nK p.g.f want P (C+k)).toNat:Int)):=by
      show (97+x.aJ - 1:Int)=_;rw [<-E.out];omega
     clear v E
     go_wp2_with (first
      | (at_builtin;refine Pj rfl _ _ rfl L.out _ Vv.out Nf rfl _ (by simp) rfl ?_)
      | go_in)
     intro Q t wz O;go_wp2;go_roundw
     case rel=>exact⟨J+1,k+1,some ⟨Q,0,none⟩,t,by have:=HJ.out;omega,by omega,by go_num,rfl,O.out⟩
     case measure=>simp [intOf];omega
    ·have L:Hid (∀ (o:Obj) (nq:Nat),j6 w ((wr.alloc o).drewN nq) pb b cap oo oc p.out p.g want P C (k+1) k pa pc):=fun o nq=>(F.out.same (by rw [GR.out];simp)).later (below_drewN (aM _ _) _);have E:Hid ((32:Int)=((nK p.g.f want P (C+k)).toNat:Int)):=by
      show (32:Int)=_;rw [KT.out];simp
     go_wp2_with fail;go_quiet (fail)
     go_wp2_with (first
      | (at_builtin;refine Pj rfl _ _ rfl (L.out _ _) _ E.out Nf rfl _ (by simp) rfl ?_)
      | go_in)
     intro Q t wz O;go_wp2;go_roundw
     case rel=>exact⟨J+1,k+1,some ⟨Q,0,none⟩,t,by have:=HJ.out;omega,by omega,by go_num,rfl,O.out⟩
     case measure=>simp [intOf];omega
   ·have ai:x.aJ<=0:=(by omega);have L:Hid (∀ (o:Obj) (nq:Nat),j6 w ((wr.alloc o).drewN nq) pb b cap oo oc p.out p.g want P C (k+1) k pa pc):=fun o nq=>(F.out.same (by rw [GR.out];simp [A])).later (below_drewN (aM _ _) _);have E:Hid ((32:Int)=((nK p.g.f want P (C+k)).toNat:Int)):=by
     show (32:Int)=_;rw [KT.out];simp [A]
    have hd:decide (0 < x.aJ)=false:=(by simpa using ai);clear NC A;go_wp2_with fail;go_quiet (fail)
    go_wp2_with (first
     | (at_builtin;refine Pj rfl _ _ rfl (L.out _ _) _ E.out Nf rfl _ (by simp) rfl ?_)
     | go_in)
    intro Q t wz O;go_wp2;go_roundw
    case rel=>exact⟨J+1,k+1,some ⟨Q,0,none⟩,t,by have:=HJ.out;omega,by omega,by go_num,rfl,O.out⟩
    case measure=>simp [intOf];omega
  ·have K:Hid (j6 w wr pb b cap oo oc p.out p.g want P C (W - C) (W - C) pa pc∧k=W - C):=by
    have:k=W - C:=(by omega);rw [<-this];exact⟨F.out,rfl⟩
   obtain⟨d,Je⟩:∃ l,l=nL p.g.f want P C (W - C):=⟨_,rfl⟩;have ad:d.length=W - C:=(by rw [Je];exact Tx _ _ _ _ _);obtain⟨S,hS⟩:∃ S,S=bs d:=⟨_,rfl⟩;have ar:S.size<=24:=(by rw [hS,qz];omega);have ax:(convert 106 9 (.slice pa k pc)).run prog wr=.ok (.string S) wr:=by
    have U:=K.out.1.pay;rw [<-Je] at U;rw [<-K.out.2] at U;rw [hS];exact run_text wr _ k pc pa d (by rw [ad];exact K.out.2) U
   obtain⟨T,hT⟩:∃ T,T=bs (Lib.trimRightB d 32):=⟨_,rfl⟩;have au:T.size<=24:=by
    obtain⟨_,hm⟩:=UR d 32;have:=congrArg List.length hm;rw [List.length_append] at this;rw [hT,qz];omega
   have ae:Hid (∀ w,kD 160 #[.string S,.string ⟨#[32]⟩] w (.string T)):=fun w=>by
    rw [hT,hS];have:=Tryz.strings_TrimRight_one (bs d) 32 (by decide) w (by rw [<-hS];omega);rw [Xp] at this;exact this
   have e1:¬ 9223372036854775807 < 2+T.size:=(by omega);have e2:¬ 9223372036854775807 < 2+T.size+2:=(by omega);have vB:Hid (kC 109 #[.pointer (some ⟨pb,0,none⟩),.string (⟨#[27,80]⟩++T++⟨#[27,92]⟩)] wr fun e s=>e=.returned (.tuple #[])∧aW w pb b cap oo (uF p want) s):=by
    have aj:aW w pb b cap oo ⟨p.out,fu p.g want P C (W - C)⟩ wr:=⟨oo,oc,K.out.1.pen,K.out.1.kept⟩;rw [wI.out, <-Je];exact Pn aj _ (by simp only [ByteArray.size_append];show p.out.length+(2+T.size+2)<=_;omega) _ (by rw [hT];simp)
   clear Je ad hS hT K F M wI dZ Eo oK a
   go_wp2_with (first
    | (go_at_call 160;refine(ae.out _).mono ?_;rintro e _ ⟨rfl,pY⟩;subst pY)
    | (go_at_call 109;refine vB.out.mono ?_;rintro e _ ⟨rfl,ah⟩))
   go_end0;exact⟨rfl,ah⟩
variable {q:bU} {r j:Nat} {want:Nat->aH}
theorem aap {c:aH} (h:bS c=true) (i:¬ 0 < c.aJ):(0<=c.ch∧c.ch<=126)∧(0<=c.aA∧c.aA<=8):=by
 by_cases a:dL c aX=true
 ·rw [yS] at a;subst a;decide
 ·obtain⟨_,d,e⟩:=Rf h i (by simpa using a);simp only [jJ,decide_eq_true_eq] at d;exact⟨by omega,e⟩
theorem XA (h:dL (q.g.f (r*q.g.wide.toNat+j)) (want j)=true):cellP q r want j=q:=by
 unfold cellP;rw [if_pos h]
theorem Xz (h:dL (q.g.f (r*q.g.wide.toNat+j)) (want j)=false) (a:0 < (want j).aJ):cellP q r want j=uF (dh q r j) want:=by
 unfold cellP;rw [if_neg (by rw [h];simp),if_pos a]
theorem XB (h:dL (q.g.f (r*q.g.wide.toNat+j)) (want j)=false) (a:¬ 0 < (want j).aJ):cellP q r want j=zx (dh q r j) (want j):=by
 unfold cellP;rw [if_neg (by rw [h];simp),if_neg a]
theorem agd (pb b cap:Nat) (oo:Option Addr) (oc:Nat) (p:bU) (N:OkG p.g) (F:p.g.n<=cap) (r:Nat) (hr:(r:Int) < p.g.high) (want:Nat->aH) (s:∀ j,j < p.g.wide.toNat->bS (want j)=true) (aw:Option Addr) (R:Nat) (W:Nat) (I:W=p.g.wide.toNat) (aa:W<=R) (hl:p.out.length<=50000) (w:World) (h:eO w pb b cap oo oc p) (hw:∀ a o',Kept w a pb b oo o'->aL a aw W want):
  kC 132 #[.pointer (some ⟨pb,0,none⟩),.int .i64 r,.slice aw W R] w fun e a=>e=.returned (.tuple #[])∧aW w pb b cap oo (rowP p r want) a:=by
 have w1:=N.w1;have w2:=N.w2;have Rk:W<=24:=by omega
 obtain⟨bw,ow,rfl,_⟩:=(hw w oo (Kept.refl _ _ _ _)).resolve_left (by omega);obtain⟨P,hP⟩:∃ P,P=r*W:=⟨_,rfl⟩;have I6:P+W<=p.g.n:=by
  have h1:=wE N;have h2:(r+1)*W<=p.g.high.toNat*W:=Nat.mul_le_mul_right _ (by omega);rw [Nat.succ_mul] at h2;rw [h1, <-I];omega
 -- what the pen is behind k columns
 obtain⟨Q,hQ⟩:∃ Q:Nat->bU,Q=fun k=>CG (eraseP p r want) r want k:=⟨_,rfl⟩;have HQ:Hid (∀ k,k<=W->OkG (Q k).g∧(Q k).g.wide=p.g.wide∧(Q k).g.high=p.g.high∧(Q k).g.n=p.g.n∧(Q k).out.length<=60000):=fun k hk=>by
  obtain⟨aJ,hi⟩:=OH N r hr want s k (by omega);obtain⟨o1,o2,o3,o4⟩:=hi.adds.ok N;obtain⟨_,m1,_,_⟩:=hi.adds.more;rw [hQ];refine⟨o1,o2,o3,o4,?_⟩;show (CG (eraseP p r want) r want k).out.length<=60000;rw [m1,List.length_append];have h1:(if LH (CG (eraseP p r want) r want k).g r k then 8 else 0)<=8:=(by split <;>omega);have h2:(if aJ=true then 36 else 0)<=36:=(by split <;>omega);omega
 have qp:Hid (kC 154 #[.pointer (some ⟨pb,0,none⟩),.int .i64 r,.slice (some ⟨bw,ow,none⟩) W R] w fun e a=>e=.returned (.tuple #[])∧aW w pb b cap oo (Q 0) a):=by
  rw [hQ];exact Zv pb b cap oo oc p N F r hr want _ R W I aa (by omega) w h (hw w oo (Kept.refl _ _ _ _))
 have ae:Hid (∀ k,Q (k+1)=cellP (Q k) r want k):=fun k=>by rw [hQ];rfl
 have dZ:Hid (∀ j,j < W->bS (want j)=true):=by rw [I];exact s
 have Y:=gH hw;have VO:Hid (rowP p r want=Q W):=by show rowP p r want=_;rw [hQ];unfold rowP;rw [I]
 have yH:Hid (P=r*W∧W=p.g.wide.toNat):=⟨hP,I⟩;have L:=h.lt;have oK:Hid (∀ w,kC 133 #[ay (Q 0).g (some ⟨b,0,none⟩) cap,.int .i64 r] w fun e a=>e=.returned (.slice (some ⟨b,P*4,none⟩) W (cap - P))∧a=w.alloc (aB (Q 0).g (some ⟨b,0,none⟩) cap)):=fun w=>by
  obtain⟨U,V,X,z4,_⟩:=HQ.out 0 (Nat.zero_le _);have:=EW (Q 0).g U b 0 cap r (by rw [X];exact hr) (by rw [z4];exact F) w;rw [Nat.zero_add,V, <-I, <-hP] at this;exact this
 clear h hw s I hP N hQ;go_enter func132,ntmps132
 go_wp2_with (first
  | (go_at_call 154;refine qp.out.mono ?_;rintro e _ ⟨rfl,u⟩;have Ee:=gH u;obtain⟨o1,_,d,_⟩:=u;obtain⟨⟨c0,c1,c2,c3,c4,c5,c6,c7,c8,c9⟩,cf⟩:=ten d.box;clear d)
  | (go_at_call 133;refine(oK.out _).mono ?_;rintro e _ ⟨rfl,rfl⟩;clear c0 c1 c2 c3 c4 c5 c6 c7 c8 c9 cf))
 go_loopw [21] (fun i wr=>∃ k:Nat,k<=W∧i=.int .i64 k∧aW w pb b cap oo (Q k) wr) (fun i _=>W - (intOf i).toNat)
 case atStart=>exact⟨0,Nat.zero_le _,rfl,Ee.out.alloc _⟩
 case round=>
  obtain⟨k,hk,rfl,M⟩:=hrel;have HI:=gH M;clear qp oK Ee;by_cases L:k < W
  ·obtain⟨C,D,S,H,T⟩:=HQ.out k hk;obtain⟨Jy,ac,d,u⟩:=M;obtain⟨_,_,e,C8⟩:=(Y.out wr Jy u).resolve_left (by omega);simp only [Option.some.injEq,Addr.mk.injEq,and_true] at e;obtain⟨rfl,rfl⟩:=e;obtain⟨t0,t1,t2,t3⟩:=C8 k L;obtain⟨s0,s1,s2,s3⟩:=d.bM.cells (P+k) (by rw [H];omega);have G:(P+k)*4=P*4+k*4:=(by omega);rw [G] at s0 s1 s2 s3;obtain⟨q,hq⟩:∃ q,q=Q k:=⟨_,rfl⟩;rw [<-hq] at s0 s1 s2 s3 d C D S H T HI;obtain⟨y,hy⟩:∃ y,y=q.g.f (P+k):=⟨_,rfl⟩;obtain⟨x,hx⟩:∃ x,x=want k:=⟨_,rfl⟩;rw [<-hy] at s0 s1 s2 s3;rw [<-hx] at t0 t1 t2 t3;have af:=d.blt;have Ny:=World.block_lt_of_cell? _ _ t0;simp only at Ny;have ag:(k:Int) < (W:Int):=(by omega);have ah:(0:Int)<=(k:Int):=(by omega);obtain⟨c,hc⟩:∃ c,c=dL y x:=⟨_,rfl⟩;have E1:∀ w,(binOp .eql 65 (.agg #[.int .i64 y.ch,.int .i64 y.aA,.int .i64 y.aJ,.bool y.bold]) (.agg #[.int .i64 x.ch,.int .i64 x.aA,.int .i64 x.aJ,.bool x.bold])).run prog w=.ok (.bool c) w:=fun w=>(by rw [hc];exact xB y x w);have Kv:Hid (dL (q.g.f (r*q.g.wide.toNat+k)) (want k)=c):=by
    show dL _ _=_;rw [D, <-yH.out.2, <-yH.out.1, <-hy, <-hx];exact hc.symm
   have HX:Hid (x=want k∧bS x=true):=⟨hx,by rw [hx];exact dZ.out k L⟩;have dF:Hid (Q (k+1)=cellP q r want k):=(by rw [hq];exact ae.out k);have O:Hid (eO wr pb b cap Jy ac q∧Kept w wr pb b oo Jy):=⟨d,u⟩;have iF:Hid (OkG q.g∧q.g.wide=p.g.wide∧q.g.high=p.g.high∧q.g.n=p.g.n∧q.out.length<=60000):=⟨C,D,S,H,T⟩;clear C8 hy hx hc hq d u C D S H T G;cases c
   ·go_wp2_with fail;go_quiet (fail);have K:Below wr.heap.size wr ((wr.alloc (bf x)).drewN nq):=below_drewN (aM _ _) _;have ab:wr.heap.size < ((wr.alloc (bf x)).drewN nq).heap.size:=(by show wr.heap.size < (wr.alloc (bf x)).heap.size;simp);have J:((wr.alloc (bf x)).drewN nq).heap[wr.heap.size]?=some (bf x):=at_new wr _;obtain⟨⟨z0,U,V,X⟩,zf⟩:=four J;have oM:Hid (kC 134 #[.pointer (some ⟨pb,0,none⟩),.int .i64 r,.int .i64 k] ((wr.alloc (bf x)).drewN nq) fun e a=>e=.returned (.tuple #[])∧aW w pb b cap oo (dh q r k) a∧a.heap[wr.heap.size]?=some (bf x)):=by
     obtain⟨C,D,S,H,T⟩:=iF.out;have E:=yH.out.2;refine(Sn pb b cap Jy ac q C r k (by omega) (by omega) (by omega) (by omega) (by omega) _ (O.out.1.later K)).mono fun e a hk=>⟨hk.1,?_⟩;obtain⟨a1,Z⟩:=LJ O.out.1 K hk.2;exact⟨aW.trans O.out.2 a1,(Z _ (Nat.le_refl _) ab).trans J⟩
    generalize (wr.alloc (bf x)).drewN nq=W1 at*;clear K ab J s0 s1 s2 s3 t0 t1 t2 t3 E1 O;by_cases hp:0 < x.aJ
    ·have qP:Hid (∀ v,aW w pb b cap oo (dh q r k) v->kC 155 #[.pointer (some ⟨pb,0,none⟩),.slice (some ⟨bw,ow,none⟩) W R] v fun e a=>e=.returned (.tuple #[])∧aW w pb b cap oo (Q (k+1)) a):=fun v hv=>by
      obtain⟨C,D,S,H,T⟩:=iF.out;have E:=yH.out.2;obtain⟨o2,c2,Z,k2⟩:=hv;rw [dF.out,Xz Kv.out (by rw [<-HX.out.1];exact hp)];refine(Yh pb b cap o2 c2 (dh q r k) (Oi C r k (by omega) (by omega) (by omega) (by omega)) (by show q.g.n<=cap;omega) (by show (k:Int) < q.g.wide;omega) want (by show ∀ j,j < q.g.wide.toNat->_;rw [D, <-E];exact dZ.out) _ R W (by show W=q.g.wide.toNat;rw [D];exact E) aa ?_ v Z (fun a o' t=>Y.out a o' (k2.trans t))).mono fun e a t=>⟨t.1,aW.trans k2 t.2⟩;have:=(FW C r k (by omega) (by omega) (by omega) (by omega)).1;show (q.out++oC q.g r k).length<=100000;rw [List.length_append];omega
     go_wp2_with (first
      | (go_at_call 134;refine oM.out.mono ?_;rintro e v3 ⟨rfl,z,B⟩;have KH:=gH z;clear z0 U V X zf z;obtain⟨⟨z0,U,V,X⟩,zf⟩:=four B;clear B)
      | (go_at_call 155;refine(qP.out _ KH.out).mono ?_;rintro e v4 ⟨rfl,A⟩;have yD:=gH A;clear A))
     go_roundw
     case rel=>exact⟨k+1,by omega,by go_num,yD.out⟩
     case measure=>simp [intOf];omega
    ·have ai:x.aJ<=0:=(by omega);have qP:Hid (∀ v,aW w pb b cap oo (dh q r k) v->kC 156 #[.pointer (some ⟨pb,0,none⟩),cval x] v fun e a=>e=.returned (.tuple #[])∧aW w pb b cap oo (Q (k+1)) a):=fun v hv=>by
      obtain⟨C,D,S,H,T⟩:=iF.out;have E:=yH.out.2;obtain⟨o2,c2,Z,k2⟩:=hv;obtain⟨g1,g2⟩:=aap HX.out.2 hp;rw [dF.out,XB Kv.out (by rw [<-HX.out.1];exact hp), <-HX.out.1];refine(adF pb b cap o2 c2 (dh q r k) (Oi C r k (by omega) (by omega) (by omega) (by omega)) (by show q.g.n<=cap;omega) x g2 g1 (by show (k:Int) < q.g.wide;omega) ?_ v Z).mono fun e a t=>⟨t.1,aW.trans k2 t.2⟩;have:=(FW C r k (by omega) (by omega) (by omega) (by omega)).1;show (q.out++oC q.g r k).length<=100000;rw [List.length_append];omega
     clear hp
     go_wp2_with (first
      | (go_at_call 134;refine oM.out.mono ?_;rintro e v3 ⟨rfl,z,B⟩;have KH:=gH z;clear z0 U V X zf z;obtain⟨⟨z0,U,V,X⟩,zf⟩:=four B;clear B)
      | (go_at_call 156;refine(qP.out _ KH.out).mono ?_;rintro e v4 ⟨rfl,A⟩;have yD:=gH A;clear A))
     go_roundw
     case rel=>exact⟨k+1,by omega,by go_num,yD.out⟩
     case measure=>simp [intOf];omega
   ·have yD:Hid (∀ (o:Obj) (nq:Nat),aW w pb b cap oo (Q (k+1)) ((wr.alloc o).drewN nq)):=fun o nq=>by
     rw [dF.out,XA Kv.out];exact aW.trans O.out.2 (O.out.1.stay (below_drewN (aM _ _) _))
    go_wp2_with fail;go_quiet (fail);go_wp2;go_roundw
    case rel=>exact⟨k+1,by omega,by go_num,yD.out _ _⟩
    case measure=>simp [intOf];omega
  ·have ad:Hid (aW w pb b cap oo (rowP p r want) wr):=by
    rw [VO.out,show W=k by omega];exact HI.out
   clear M HI;go_wp2;go_end0;exact⟨rfl,ad.out⟩
end Go.Proofs.YtkcdcamophkdlaaGreatDoor
