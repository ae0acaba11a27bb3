import Derived.Test.YtkcdcamophkdlaaGreatDoorBK
set_option maxHeartbeats 4000000
set_option maxRecDepth 2000
open Go.Proofs.Tryz
namespace Go.Proofs.YtkcdcamophkdlaaGreatDoor
open Go.RowKit
variable (g a:Gr) {w:World} {n:Nat} {f:Nat->aH}
theorem Uc {base:Nat} {v:Value} (h:w.ownsRow base 65 4 v n (dX f n)):∃ i c,v=.slice i n c∧aL w i n f∧(0 < n->∃ b,i=some ⟨b,0,none⟩∧base<=b∧n<=c∧av w b n f)∧(i=none->n=0∧c=0)∧n<=c:=by
 rcases Nat.eq_zero_or_pos n with j | j
 ·subst j;rcases h.2 with ⟨d,_⟩ | ⟨g,c,q,d,_⟩
  ·exact⟨none,0,d,.inl rfl,fun h=>absurd h (by omega),fun _=>⟨rfl,rfl⟩,Nat.le_refl _⟩
  ·exact⟨_,_,d,.inl rfl,fun h=>absurd h (by omega),(fun h=>by cases h),Nat.zero_le _⟩
 ·obtain⟨g,c,d,r,l,m⟩:=Bg h j;exact⟨_,_,d,m.rd,fun _=>⟨g,rfl,r,l,m⟩,(fun h=>by cases h),l⟩
theorem Mv {a:Addr} (q:aL w (some a) n f):∀ j u,(dX f n)[j]?=some u->w.cell? (a.add j)=some u:=by
 intro j u d;have z:j < n*4:=by have:=(gL d).1;rwa [mQ] at this
 rcases q with y | ⟨b,c,i,m⟩
 ·omega
 ·simp only [Option.some.injEq] at i;subst i;have e:j=(j / 4)*4+j % 4:=(by omega);rw [mJ];obtain⟨r,s,t,x⟩:=m (j / 4) (by omega);rw [e,CP f n _ _ (by omega) (by omega)] at d;rw [<-d];have l:j % 4=0∨j % 4=1∨j % 4=2∨j % 4=3:=(by omega);rcases l with h | h | h | h
  ·rw [h,show c+j=c+j / 4*4 by omega,r];rfl
  ·rw [h,show c+j=c+j / 4*4+1 by omega,s];rfl
  ·rw [h,show c+j=c+j / 4*4+2 by omega,t];rfl
  ·rw [h,show c+j=c+j / 4*4+3 by omega,x];rfl
def nk (w:World) (g:Gr) (e:Ending) (w':World):Prop:=
 ∃ ao cap,e=.returned (ay g ao cap)∧eH w g.n g.f ao cap w'∧(ao=none->g.n=0∧cap=0)∧g.n<=cap
theorem Yn {d:World} {h:Option Addr} {cap:Nat} (r:aL d h n f) (m:0 < n->∃ b,h=some ⟨b,0,none⟩∧w.heap.size+2<=b∧n<=cap∧av d b n f) (i:Below w.heap.size w d) (u u0 u1 u2 u3 u4 u5 u6 u7 u8:Value):
  eH w n f h cap ((((((((((d.setCell ⟨w.heap.size,2,none⟩ u).setCell ⟨w.heap.size+1,0,none⟩ u0).setCell ⟨w.heap.size+1,1,none⟩ u1).setCell ⟨w.heap.size+1,2,none⟩ u2).setCell ⟨w.heap.size+1,3,none⟩ u3).setCell ⟨w.heap.size+1,4,none⟩ u4).setCell ⟨w.heap.size+1,5,none⟩ u5).setCell ⟨w.heap.size+1,6,none⟩ u6).setCell ⟨w.heap.size+1,7,none⟩ u7).setCell ⟨w.heap.size+1,8,none⟩ u8):=by
 have j:=i.setCell (p:=⟨w.heap.size,2,none⟩) (Nat.le_refl _) u;refine⟨?_,?_,iZ j (by omega) _ _ _ _ _ _ _ _ _⟩
 ·rcases Nat.eq_zero_or_pos n with c | c
  ·exact .inl c
  ·obtain⟨b,rfl,i,_,l⟩:=m c;exact(iC (l.set (p:=⟨w.heap.size,2,none⟩) (by simp;omega) _) (by omega) _ _ _ _ _ _ _ _ _).rd
 ·intro c;obtain⟨b,rfl,i,q,l⟩:=m c;exact⟨b,rfl,by omega,q,iC (l.set (p:=⟨w.heap.size,2,none⟩) (by simp;omega) _) (by omega) _ _ _ _ _ _ _ _ _⟩
theorem Yp (a:Addr) (cap:Nat) (w:World) (y:aL w (some a) g.n g.f) (K:g.n<=4398046511104):
  kC 55 #[ay g (some a) cap] w (nk w g):=by
 obtain⟨F,D,q,r,s⟩:=info_parts info49;have C:Hid (∀ j u,(dX g.f g.n)[j]?=some u->((w.alloc (aB g (some a) cap)).alloc aV).cell? (a.add j)=some u):=Mv (y.below (aO w _ _));clear y;go_enter func55,ntmps55;go_wp2_with (first | (at_builtin;refine wpList_append_own _ rfl _ _ 31 rfl (w.heap.size+2) 65 F (.agg #[.int .i64 0,.int .i64 0,.int .i64 0,.bool false]) 4 32 underlying31 D q r s rfl (by decide) _ 0 [] rfl (World.ownsRow_nil _ _ _ _) a g.n cap (dX g.f g.n) rfl (mQ g.f g.n) C.out (Ak g.f g.n) (by unfold maxLen;omega) (by omega) (by simp) ?_) | go_in);intro L t h d _;obtain⟨i,c,rfl,x,l,m,z⟩:=Uc h;obtain⟨⟨_,_,_,_,_,_,_,_,_⟩,_⟩:=nine (bH d (aF (at_new w _) _) (by simp [Value.ownBlock]));obtain⟨⟨_,_,_,_,_,_,_,_,_⟩,v⟩:=nine (bH d (bK w _ _) (by simp [Value.ownBlock]));have A:Hid (Below w.heap.size w t):=(aO w _ _).grown d (by simp;omega) (fun k E=>by simp [Value.ownBlock] at E);have B:Hid (aL t i g.n g.f∧(0 < g.n->∃ b,i=some ⟨b,0,none⟩∧w.heap.size+2<=b∧g.n<=c∧av t b g.n g.f)∧(i=none->g.n=0∧c=0)∧g.n<=c):=⟨x,l,m,z⟩;clear h d x l m z;go_wp2;refine bodyPost_ret (v:=ay g i c) (by simp [results,results55,go_sem, *]) rfl ?_;obtain⟨G,H,I,J⟩:=B.out;exact⟨i,c,rfl,Yn G H A.out _ _ _ _ _ _ _ _ _ _,I,J⟩
theorem Yo (m:g.n=0) (w:World):kC 55 #[ay g none 0] w (nk w g):=by
 obtain⟨s,r,_,_,_⟩:=info_parts info49;have:=fun(t:TypeId) (w:World)=>run_append_owned_none (P:=prog) w 0 31 t 65 s 4 underlying31 r (.slice none 0 0) 0 [] (World.ownsRow_nil _ _ _ _);obtain⟨i,d,n,f,row,j,q,c,l,b⟩:=g;simp only at m;subst m;go_enter func55,ntmps55;go_wp2;refine bodyPost_ret (v:=ay ⟨i,d,0,f,row,j,q,c,l,b⟩ none 0) (by simp [results,results55,go_sem]) rfl ?_;exact⟨none,0,rfl,⟨.inl rfl,fun h=>absurd h (by simp),aO _ _ _⟩,fun _=>⟨rfl,rfl⟩,Nat.le_refl _⟩
theorem vQ (b:Option Addr) (cap:Nat) (w:World) (i:aL w b g.n g.f) (h:b=none->g.n=0∧cap=0) (d:g.n<=4398046511104):
  kC 55 #[ay g b cap] w (nk w g):=by
 cases b with
 | none=>
  obtain⟨c,rfl⟩:=h rfl;exact Yo g c w
 | some a=>exact Yp g a cap w i d
structure Cw (w:World) (a b:Gr) (oa ob:Option Addr) (ca cb:Nat) (wr:World):Prop where
 one:wr.heap[w.heap.size]?=some (aB a oa ca)
 two:wr.heap[w.heap.size+1]?=some (aB b ob cb)
 ra:aL wr oa a.n a.f
 rb:aL wr ob b.n b.f
 below:Below w.heap.size w wr
theorem Cw.later {a b:Gr} {j l:Option Addr} {d i:Nat} {wr w':World} (h:Cw w a b j l d i wr) (c:Below wr.heap.size wr w'):Cw w a b j l d i w':=
 ⟨aG c h.one (gQ h.one).1,aG c h.two (gQ h.two).1,h.ra.below c,h.rb.below c,h.below.trans (c.mono h.below.size)⟩
theorem afL (I D H:Int) (o2:Bool) (A C:Int) (l m:Option Addr) (q r:Nat) (w:World) (E:aL w l a.n a.f) (F:aL w m a.n a.f) (V:a.n<=4398046511104):
  kA 35 #[ay a l q,ay ⟨a.wide,a.high,a.n,a.f,I,D,H,o2,A,C⟩ m r] w (.bool true):=by
 obtain⟨b,c⟩:∃ b:Gr,b=⟨a.wide,a.high,a.n,a.f,I,D,H,o2,A,C⟩:=⟨_,rfl⟩;rw [<-c];have K:b.wide=a.wide:=by rw [c]
 have L:b.high=a.high:=by rw [c]
 have M:b.n=a.n:=by rw [c]
 have z:Hid (b.f=a.f∧b.n=a.n):=by rw [c];exact⟨rfl,rfl⟩
 have J:Hid (Cw w a b l m q r ((w.alloc (aB a l q)).alloc (aB b m r))):=by
  have d:Below w.heap.size w ((w.alloc (aB a l q)).alloc (aB b m r)):=(aM _ _).alloc (by simp) _;exact⟨aF (at_new w _) _,bK w _ _,E.below d,by rw [z.out.1,z.out.2];exact F.below d,d⟩
 clear c E F;go_enter func35,ntmps35;go_wp2;go_loopw [30] (fun i wr=>∃ k:Nat,k<=a.n∧i=.int .i64 k∧Cw w a b l m q r wr) (fun i _=>a.n - (intOf i).toNat)
 case atStart=>exact⟨0,Nat.zero_le _,rfl,J.out⟩
 case round=>
  obtain⟨k,_,rfl,h⟩:=hrel;have B:=gH h;by_cases u:k < a.n
  ·obtain⟨⟨_,_,_,_,_,_,_,_,_⟩,_⟩:=nine h.one;obtain⟨⟨_,_,U,_,_,_,_,_,_⟩,_⟩:=nine h.two;have x:=h.ra;have j:=h.rb;rw [z.out.1,z.out.2] at j;obtain⟨_,_,rfl,s⟩:=x.resolve_left (by omega);obtain⟨_,_,rfl,t⟩:=j.resolve_left (by omega);obtain⟨R,S,A,T⟩:=s k u;obtain⟨N,O,P,Q⟩:=t k u;have:(k:Int) < (a.n:Int):=(by omega);have:(0:Int)<=(k:Int):=(by omega);obtain⟨y,G⟩:∃ y,y=a.f k:=⟨_,rfl⟩;rw [<-G] at R S A T N O P Q;rw [M] at U;clear s t x j h G K L;go_wp2_with fail;go_quiet (fail);go_wp2;go_roundw
   case rel=>exact⟨k+1,by omega,by go_num,B.out.later (below_drewN (Below.refl _ _) _)⟩
   case measure=>simp [intOf];omega
  ·clear h;go_wp2;go_ret;exact⟨rfl,B.out.below⟩
theorem afM (c d:Option Addr) (h i:Nat) (w:World) (l:aL w c a.n a.f) (m:aL w d a.n a.f) (q:a.n<=4398046511104):
  kA 13 #[ay a c h,ay a d i] w (.bool true):=by
 have s:Hid (∀ w,aL w c a.n a.f->aL w d a.n a.f->kA 35 #[ay a c h,ay a d i] w (.bool true)):=fun w t u=>afL a a.row a.col a.aA a.bold a.top a.bottom c d h i w t u q;have j:Hid (aL w c a.n a.f∧aL w d a.n a.f):=⟨l,m⟩;clear l m q;go_enter func13,ntmps13;go_wp2_with (go_at_call 35;refine(s.out _ (j.out.1.below (aO _ _ _)) (j.out.2.below (aO _ _ _))).mono ?_;rintro _ w2 ⟨rfl,b⟩;have r:Hid (Below w.heap.size w w2):=(aO _ _ _).trans (b.mono (by simp;omega));obtain⟨⟨_,_,_,_,_,_,_,_,_⟩,_⟩:=nine (aG b (aF (at_new w _) _) (by simp;omega));obtain⟨⟨_,_,_,_,_,_,_,_,_⟩,_⟩:=nine (aG b (bK w _ _) (by simp));clear b);go_ret;exact⟨rfl,r.out⟩
variable (g:Gr) {w w' w2:World} {base n W sz:Nat} {v:Value} {xs:List Value} {rows:List (Nat->aH)} {items:List (Nat×Nat)} {e:TypeId} {row f:Nat->aH} {p:Nat×Nat} {o:Obj}
theorem kR (h:w.ownsRow base e sz v n xs) (m:Below w.heap.size w w'):w'.ownsRow base e sz v n xs:=by
 refine⟨h.1,?_⟩;rcases h.2 with l | ⟨g,c,d,q,i,j,b⟩
 ·exact .inl l
 ·exact .inr ⟨g,c,d,q,i,aG m j (gQ j).1,b⟩
@[reducible] def rv (W:Nat) (p:Nat×Nat):Value:=.slice (some ⟨p.1,0,none⟩) W p.2
structure LL (w:World) (base:Nat) (v:Value) (W:Nat) (rows:List (Nat->aH)) (items:List (Nat×Nat)):Prop where
 len:items.length=rows.length
 row:w.ownsRow base 31 1 v rows.length (items.map (rv W))
 each:∀ i (h:i < rows.length) (h':i < items.length),0<=items[i].1∧W<=items[i].2∧av w items[i].1 W rows[i]
theorem LL.later (h:LL w base v W rows items) (d:Below w.heap.size w w'):LL w' base v W rows items:=
 ⟨h.len,kR h.row d,fun i j l=>by obtain⟨a,b,c⟩:=h.each i j l;exact⟨a,b,c.below d c.lt⟩⟩
theorem LL.get (h:LL w base v W rows items) (i:Nat) (j:i < rows.length):
  ∃ g b,v=.slice (some ⟨g,0,none⟩) rows.length b∧base<=g∧g < w.heap.size∧w.cell? ⟨g,i,none⟩=some (rv W (items[i]'(by rw [h.len];exact j))):=by
 rcases h.row.2 with ⟨_,s⟩ | ⟨g,b,l,r,m,d,t,_,u,q⟩
 ·omega
 ·refine⟨g,b,r,m,(gQ d).1,?_⟩;have c:i < items.length:=(by rw [h.len];exact j);have e:(items.map (rv W))[i]?=some (rv W items[i]):=(by simp [c]);rw [<-q,List.getElem?_take_of_lt (by omega)] at e;simp only [World.cell?,d];simpa using e
theorem LL.snoc {cap g:Nat} (s:items.length=rows.length) (t:n=rows.length) (c:w.ownsRow base 31 1 (.slice (some ⟨g,0,none⟩) (n+1) cap) (n+1) (items.map (rv W)++[rv W p])) (d:∀ i (h:i < rows.length) (x:i < items.length),0<=items[i].1∧W<=items[i].2∧av w items[i].1 W rows[i]) (u:0<=p.1∧W<=p.2∧av w p.1 W row):
  LL w base (.slice (some ⟨g,0,none⟩) (n+1) cap) W (rows++[row]) (items++[p]):=by
 subst t;refine⟨by simp [s],by simpa using c,fun i r y=>?_⟩;by_cases j:i < rows.length
 ·have b:i < items.length:=(by omega);rw [List.getElem_append_left j,List.getElem_append_left b];exact d i j b
 ·have l:i=rows.length:=(by simp at r;omega);subst l;have m:(items++[p])[rows.length]=p:=by
   rw [List.getElem_append_right (by omega)];simp
  have q:(rows++[row])[rows.length]=row:=(by simp);rw [m,q];exact u
theorem info81:(prog.info? 31).map (fun i=>(i.zero,i.size,i.bytes))=some (some (.slice none 0 0),1,24):=by kernel_rfl
theorem Um {b k:Nat} (j:av w b n f) (h:w.ownsRow base 31 1 v k xs):some b≠v.ownBlock:=by
 obtain⟨_,i,_⟩:=j;rcases h.2 with ⟨rfl,_⟩ | ⟨g,d,l,rfl,_,c,_⟩
 ·simp [Value.ownBlock]
 ·intro e;simp only [Value.ownBlock,Option.some.injEq] at e;subst e;rw [i] at c;simp at c
theorem LL.grow {l cap':Nat} (h:LL w base v W rows items) (j:0<=p.1∧W<=p.2∧av w p.1 W row) (d:w2.ownsRow base 31 1 (.slice (some ⟨l,0,none⟩) (rows.length+1) cap') (rows.length+1) (items.map (rv W)++[rv W p])) (m:(w.alloc o).grownBy w2 v.ownBlock):
  LL w2 base (.slice (some ⟨l,0,none⟩) (rows.length+1) cap') W (rows++[row]) (items++[p]):=by
 refine LL.snoc h.len rfl d (fun i q r=>?_) ⟨j.1,j.2.1,(j.2.2.alloc o).grown m (Um j.2.2 h.row)⟩;obtain⟨a,b,c⟩:=h.each i q r;exact⟨a,b,(c.alloc o).grown m (Um c h.row)⟩
theorem aL.part {d c:Nat} (h:aL w (some ⟨d,c,none⟩) n f) (P W:Nat) (r:P+W<=n):aL w (some ⟨d,c+P*4,none⟩) W (fun j=>f (P+j)):=by
 rcases h with q | ⟨b,o,l,m⟩
 ·left;omega
 ·simp only [Option.some.injEq,Addr.mk.injEq,and_true] at l;obtain⟨rfl,rfl⟩:=l;refine .inr ⟨d,c+P*4,rfl,fun i s=>?_⟩;have:=m (P+i) (by omega);rw [show c+(P+i)*4=c+P*4+i*4 by omega] at this;exact this
def ql (g:Gr) (W r:Nat):Nat->aH:=fun j=>g.f (r*W+j)
def mq (g:Gr) (W k:Nat):List (Nat->aH):=(List.range k).map (ql g W)
theorem afn (W k:Nat):mq g W (k+1)=mq g W k++[ql g W k]:=by
 unfold mq;rw [List.range_succ,List.map_append]
 rfl
theorem zB (W k:Nat):(mq g W k).length=k:=by simp [mq]
theorem kN (w:World) (v:Value) (t:TypeId) (j:Nat) (u:Value) (b:([v]:List Value)[j]?=some u):(w.alloc (.cells #[v] t)).cell? ((⟨w.heap.size,0,none⟩:Addr).add j)=some u:=by
 have c:j=0:=by
  have:=(gL b).1;simpa using this
 subst c;simp only [List.getElem?_cons_zero,Option.some.injEq] at b;subst b;rw [mJ];exact cell_of_row _ _ 0 _ t _ (at_new w _)
theorem uO {j:Nat} (h:w.ownsRow base e sz v n xs) (b:v.ownBlock=some j):base<=j:=by
 rcases h.2 with ⟨rfl,_⟩ | ⟨g,c,d,rfl,i,_⟩
 ·simp [Value.ownBlock] at b
 ·simp only [Value.ownBlock,Option.some.injEq] at b;omega
theorem CB {a:World} (b:Below a.heap.size a w) (h:w.ownsRow base e sz v n xs) (c:a.heap.size<=base) (d:(w.alloc o).grownBy w2 v.ownBlock):Below a.heap.size a w2:=by
 refine(b.alloc b.size o).grown d (by have:=b.size;simp;omega) fun j i=>?_;have:=uO h i;omega
theorem afo (z:OkG g) (t d cap:Nat) (w:World) (hr:aL w (some ⟨t,d,none⟩) g.n g.f) (hc:g.n<=cap) (W H:Nat) (I:g.wide=W) (M:g.high=H):
  kC 94 #[ay g (some ⟨t,d,none⟩) cap] w fun e w'=>∃ v items,e=.returned v∧LL w' (w.heap.size+1) v W (mq g W H) items∧Below w.heap.size w w':=by
 obtain⟨i0,hi,Z,aa,ab⟩:=info_parts info49;obtain⟨i1,hj,V,X,Y⟩:=info_parts info81;have HR:=gH hr;have:=z.w1;have:=z.w2;have:=z.h2;have HN:Hid (∀ k:Nat,k < H->k*W+W<=g.n∧(k:Int)*g.wide=((k*W:Nat):Int)∧((k:Int)+1)*g.wide=((k*W+W:Nat):Int)):=by
  intro k S;have L:=z.nums.1;have h2:(k+1)*W<=H*W:=Nat.mul_le_mul_right _ (by omega);rw [Nat.add_mul] at h2;have:(g.n:Int)=((H*W:Nat):Int):=(by rw [L,I,M];simp);refine⟨by omega,by rw [I];simp,by rw [I,Int.add_mul];simp⟩
 have:g.n<=240:=by obtain⟨_,_,_⟩:=z.nums;omega
 have uV:=gH M;have O:0 < W:=by omega
 have:W<=24:=by omega
 have:H<=10:=by omega
 clear hr z I M;go_enter func94,ntmps94;go_wp2;go_loopw [3,7] (fun l i wr=>∃ (k:Nat) (items:List (Nat×Nat)),k<=H∧i=.int .i64 k∧LL wr (w.heap.size+1) l W (mq g W k) items∧Below w.heap.size w wr∧wr.heap[w.heap.size]?=some (aB g (some ⟨t,d,none⟩) cap)) (fun _ i _=>H - (intOf i).toNat)
 case atStart=>exact⟨0,[],Nat.zero_le _,rfl,⟨rfl,World.ownsRow_nil _ _ _ _,fun i L _=>absurd L (by simp [mq])⟩,aM _ _,at_new w _⟩
 case round=>
  obtain⟨k,items,S,rfl,D,J,r⟩:=hrel;have y:Hid (LL wr (w.heap.size+1) u3 W (mq g W k) items∧Below w.heap.size w wr∧wr.heap[w.heap.size]?=some (aB g (some ⟨t,d,none⟩) cap)):=⟨D,J,r⟩;obtain⟨⟨_,_,_,_,_,_,_,_,_⟩,_⟩:=nine r;have U:w.heap.size < wr.heap.size:=(gQ r).1;clear D r;by_cases T:k < H
  ·have:(k:Int) < g.high:=(by rw [uV.out];omega);have:(0:Int)<=(k:Int):=(by omega);obtain⟨n1,n2,n3⟩:=HN.out k T;have Ia:Hid (∀ P,P=k*W->∀ j u,(dX (ql g W k) W)[j]?=some u->wr.cell? ((⟨t,d+P*4,none⟩:Addr).add j)=some u):=by
    rintro P rfl;exact Mv ((HR.out.below J).part (k*W) W n1)
   obtain⟨P,N⟩:∃ P,P=k*W:=⟨_,rfl⟩;obtain⟨Q,hQ⟩:∃ Q,Q=k*W+W:=⟨_,rfl⟩;have hS:=gH (Ia.out P N);rw [<-N] at n1 n2;rw [<-hQ] at n3;have:IntKind.i64.wrap ((k:Int)*g.wide)=(P:Int):=(by rw [n2,IntKind.wrap_i64];omega);have:IntKind.i64.wrap (((k:Int)+1)*g.wide)=(Q:Int):=(by rw [n3,IntKind.wrap_i64];omega);have:Q - P=W:=(by omega);have:(0:Int)<=(P:Int):=(by omega);have:(P:Int)<=(Q:Int):=(by omega);have:(Q:Int)<=(cap:Int):=(by omega);have:¬ cap=P:=(by omega);clear J n1 n2 n3 N hQ Ia;go_wp2_with (first | (at_builtin;refine wpList_append_own _ rfl _ _ 31 rfl (w.heap.size+1) 65 i0 (.agg #[.int .i64 0,.int .i64 0,.int .i64 0,.bool false]) 4 32 underlying31 hi Z aa ab rfl (by decide) _ 0 [] rfl (World.ownsRow_nil _ _ _ _) ⟨t,d+P*4,none⟩ W (cap - P) (dX (ql g W k) W) rfl (mQ _ _) hS.out (Ak _ _) (by unfold maxLen;omega) (by omega) (by omega) ?_) | fail);intro v' s x m _;obtain⟨_,c,rfl,_,E,_,_⟩:=Uc x;obtain⟨A,rfl,R,C,F⟩:=E O;have h:Below wr.heap.size wr s:=(Below.refl _ _).grown m (Nat.le_refl _) (fun k S=>by simp [Value.ownBlock] at S);have:wr.heap.size<=s.heap.size:=h.size;have K:Hid (LL s (w.heap.size+1) u3 W (mq g W k) items∧Below w.heap.size w s∧s.heap[w.heap.size]?=some (aB g (some ⟨t,d,none⟩) cap)∧(0<=A∧W<=c∧av s A W (ql g W k))):=⟨y.out.1.later h,y.out.2.1.trans (h.mono y.out.2.1.size),aG h y.out.2.2 U,Nat.zero_le _,C,F⟩;clear x m E R C F h hS;go_wp2_with (first | (at_builtin;refine wpList_append_lies _ rfl _ _ 138 rfl (w.heap.size+1) 31 i1 (.slice none 0 0) 1 24 underlying138 hj V X Y rfl (by decide) _ (mq g W k).length (items.map (rv W)) rfl (K.out.1.row.alloc _) ⟨s.heap.size,0,none⟩ 1 1 [rv W (A,c)] rfl rfl ?c1 ?c2 (by decide) ?c3 ?c4 ?c5 (s.heap.size+1) ?c6 ?_) | fail)
   case c1=>exact kN s _ _
   case c2=>intro u hu;simp at hu;subst hu;rfl
   case c3=>unfold maxLen;rw [zB];omega
   case c4=>rw [zB];omega
   case c5=>simp;omega
   case c6=>simp
   ·intro g' B w2 q b _ _;obtain⟨G,f2,f3,f4⟩:=K.out;have HF:Hid (LL w2 (w.heap.size+1) (.slice (some ⟨g',0,none⟩) ((mq g W k).length+1) B) W (mq g W (k+1)) (items++[(A,c)])∧Below w.heap.size w w2∧w2.heap[w.heap.size]?=some (aB g (some ⟨t,d,none⟩) cap)):=by
     refine⟨?_,CB f2 G.row (by omega) b,bH b (aF f3 _) (fun e=>by have:=uO G.row e.symm;omega)⟩;rw [afn];exact G.grow f4 q b
    clear q b G f2 f3 f4 K y;go_wp2;go_roundw
    case rel=>exact⟨k+1,items++[(A,c)],by omega,by go_num,HF.out⟩
    case measure=>simp [intOf];omega
  ·have:g.high<=(k:Int):=(by rw [uV.out];omega);have HK:Hid (k=H):=(by omega:k=H);clear J;go_wp2;go_ret;have hf:=y.out.1;rw [HK.out] at hf;exact⟨_,items,rfl,hf,y.out.2.1⟩
variable (rows:List (Nat->aH)) {n base sz:Nat} {w:World} {e:TypeId} {v:Value} {xs:List Value}
def vP (rows:List (Nat->aH)) (W:Nat):Nat->aH:=fun i=>(rows.getD (i / W) (fun _=>aX)) (i % W)
theorem ZP (h:Nat->aH) (a b:Nat):dX h (a+b)=dX h a++dX (fun j=>h (a+j)) b:=by
 induction b with
 | zero=>simp [dX]
 | succ b ih=>rw [<-Nat.add_assoc,Al,ih,Al,List.append_assoc]
theorem ZQ {h h':Nat->aH} (b:∀ i,i < n->h i=h' i):dX h n=dX h' n:=by
 induction n with
 | zero=>rfl
 | succ n ih=>rw [Al,Al,ih (fun i c=>b i (by omega)),b n (by omega)]
theorem Qi (W k j:Nat) (i:k < rows.length) (b:j < W):vP rows W (k*W+j)=rows[k] j:=by
 unfold vP;have h:0 < W:=by omega
 have c:(k*W+j) / W=k:=by
  rw [Nat.add_comm,Nat.add_mul_div_right _ _ h,Nat.div_eq_of_lt b,Nat.zero_add]
 have d:(k*W+j) % W=j:=by
  rw [Nat.add_comm,Nat.add_mul_mod_self_right];exact Nat.mod_eq_of_lt b
 rw [c,d,List.getD_eq_getElem?_getD,List.getElem?_eq_getElem i]
 rfl
structure Cx (w:World) (g:Gr) (m:Nat) (f:Nat->aH) (ao:Option Addr) (cap:Nat) (wr:World):Prop where
 box:wr.heap[w.heap.size]?=some (aB ⟨g.wide,g.high,m,f,g.row,g.col,g.aA,g.bold,g.top,g.bottom⟩ ao cap)
 res:wr.heap[w.heap.size+1]?=some aV
 row:wr.ownsRow (w.heap.size+2) 65 4 (.slice ao m cap) m (dX f m)
 below:Below w.heap.size w wr
theorem afk (h:w.ownsRow base e sz v n xs) {p:Addr} (q:p.block < base) (u:Value):(w.setCell p u).ownsRow base e sz v n xs:=by
 refine⟨h.1,?_⟩;rcases h.2 with i | ⟨g,c,d,m,j,l,b⟩
 ·exact .inl i
 ·exact .inr ⟨g,c,d,m,j,by rw [Below.heap_setCell _ _ _ _ (by omega)];exact l,b⟩
theorem NU {B:Nat} (h:w.ownsRow base e sz v n xs) (c:B < base):some B≠v.ownBlock:=fun b=>by
 have:=uO h b.symm
 omega
theorem Cx.step {g:Gr} {m W:Nat} {f:Nat->aH} {s:Option Addr} {cap i cap':Nat} {wr d:World} {row:Nat->aH} (h:Cx w g m f s cap wr) (c:∀ j,j < W->f (m+j)=row j) (b:d.ownsRow (w.heap.size+2) 65 4 (.slice (some ⟨i,0,none⟩) (m+W) cap') (m+W) (dX f m++dX row W)) (r:wr.grownBy d (Value.slice s m cap).ownBlock):
  Cx w g (m+W) f (some ⟨i,0,none⟩) cap' (d.setCell ⟨w.heap.size,2,none⟩ (.slice (some ⟨i,0,none⟩) (m+W) cap')):=by
 have t:=h.below;have l:=t.size;have e:dX f m++dX row W=dX f (m+W):=by rw [ZP,ZQ (h:=fun j=>f (m+j)) (h':=row) c]
 rw [e] at b;have u:Below w.heap.size w d:=t.grown r l fun j x=>by have:=uO h.row x;omega
 have q:=bH r h.box (NU h.row (by omega));exact⟨OT q,cO (bH r h.res (NU h.row (by omega))) (by omega),afk b (by simp) _,u.setCell (Nat.le_refl _) _⟩
theorem afm (g:Gr) (H:Option Addr) (A:Nat) (v:Value) (W L base:Nat) (rows:List (Nat->aH)) (items:List (Nat×Nat)) (w:World) (c:LL w base v W rows items) (J:rows.length=L) (ab:0 < L) (ac:L<=10) (C:0 < W) (ad:W<=24) (q:Nat->aH) (D:q=vP rows W):
  kC 95 #[ay g H A,v] w fun e w'=>∃ b h,e=.returned (ay ⟨g.wide,g.high,L*W,q,g.row,g.col,g.aA,g.bold,g.top,g.bottom⟩ (some ⟨b,0,none⟩) h)∧av w' b (L*W) q∧L*W<=h∧w.heap.size<=b∧Below w.heap.size w w':=by
 obtain⟨i0,hi,U,V,X⟩:=info_parts info49;obtain⟨_,_,m,_,_,T⟩:=c.get 0 (by omega);clear T;rw [J] at m;subst m;have HL:=gH c;have HX:Hid (q=vP rows W∧rows.length=L):=⟨D,J⟩;clear c D J;go_enter func95,ntmps95;go_wp2;go_loopw [10] (fun i wr=>∃ (k:Nat) (G:Option Addr) (y:Nat),k<=L∧i=.int .i64 k∧Cx w g (k*W) q G y wr) (fun i _=>L - (intOf i).toNat)
 case atStart=>
  refine⟨0,none,0,Nat.zero_le _,rfl,?_⟩;rw [Nat.zero_mul];exact⟨aF (at_new w _) _,bK w _ _,World.ownsRow_nil _ _ _ _,aO _ _ _⟩
 case round=>
  obtain⟨k,G,y,_,rfl,m⟩:=hrel;have x:=gH m;obtain⟨⟨_,_,x2,_,_,_,_,_,_⟩,_⟩:=nine m.box;obtain⟨⟨_,_,_,_,_,_,_,_,_⟩,v⟩:=nine m.res;have ag:w.heap.size+1 < wr.heap.size:=(gQ m.res).1;by_cases R:k < L
  ·have c:=HL.out.later m.below;have l:k < rows.length:=(by rw [HX.out.2];exact R);obtain⟨_,B,he,_,_,z⟩:=c.get k l;simp only [Value.slice.injEq,Option.some.injEq,Addr.mk.injEq,and_true] at he;obtain⟨rfl,O,rfl⟩:=he;clear O;have E:k < items.length:=(by rw [c.len];exact l);obtain⟨e1,e2,I⟩:=c.each k l E;obtain⟨p,hp⟩:∃ p,p=items[k]:=⟨_,rfl⟩;rw [<-hp] at z e1 e2 I;have Z:=gH (Mv I.rd);have t:Hid (∀ j,j < W->q (k*W+j)=rows[k] j):=fun j hj=>(by rw [HX.out.1];exact Qi rows W k j l hj);have aa:(k:Int) < (L:Int):=(by omega);have af:(0:Int)<=(k:Int):=(by omega);have P:k*W+W<=240:=by
    have:(k+1)*W<=10*W:=Nat.mul_le_mul_right _ (by omega);rw [Nat.add_mul] at this;omega
   obtain⟨row,s⟩:∃ row,row=rows[k]:=⟨_,rfl⟩;rw [<-s] at Z t;obtain⟨M,K⟩:∃ M,M=k*W:=⟨_,rfl⟩;have HM:=gH K;rw [<-K] at x t x2 P;clear c m e1 e2 I hp s K E l;go_wp2_with (first | (at_builtin;refine wpList_append_lies _ rfl _ _ 31 rfl (w.heap.size+2) 65 i0 (.agg #[.int .i64 0,.int .i64 0,.int .i64 0,.bool false]) 4 32 underlying31 hi U V X rfl (by decide) _ M (dX q M) rfl x.out.row ⟨p.1,0,none⟩ W p.2 (dX row W) rfl (mQ _ _) ?c1 ?c2 C ?c3 ?c4 ?c5 wr.heap.size ?c6 ?_) | fail)
   case c1=>intro j u hu;have h9:=Z.out j u hu;simpa [mJ] using h9
   case c2=>exact Ak _ W
   case c3=>unfold maxLen;omega
   case c4=>omega
   case c5=>omega
   case c6=>rfl
   ·intro g' h w1 r d _ _;have HN:=gH (x.out.step t.out r d);obtain⟨⟨_,_,_,_,_,_,_,_,_⟩,_⟩:=nine (bH d x.out.box (NU x.out.row (by omega)));clear r d;go_wp2;go_roundw
    case rel=>exact⟨k+1,some ⟨g',0,none⟩,h,by omega,by go_num,by rw [Nat.add_mul,Nat.one_mul, <-HM.out];exact HN.out⟩
    case measure=>simp [intOf];omega
  ·have Y:Hid (k=L):=(by omega:k=L);have ae:(L:Int)<=(k:Int):=(by omega);clear m;go_wp2;refine bodyPost_ret (v:=ay ⟨g.wide,g.high,k*W,q,g.row,g.col,g.aA,g.bold,g.top,g.bottom⟩ G y) (by simp [results,results95,go_sem, *]) rfl ?_;have F:0 < k*W:=Nat.mul_pos (by have:=Y.out;omega) C;obtain⟨b,B,uK,_,N,S⟩:=Bg x.out.row F;simp only [Value.slice.injEq] at uK;obtain⟨rfl,_,rfl⟩:=uK;have Q:=Y.out;subst Q;exact⟨b,_,rfl,iC S (by omega) _ _ _ _ _ _ _ _ _,N,by omega,iZ x.out.below (by omega) _ _ _ _ _ _ _ _ _⟩
variable (g:Gr) (W:Nat) (fr tt n:Int) (k:Nat)
def qj (g:Gr) (W:Nat) (fr tt n:Int) (r:Nat):Nat->aH:=
 if (r:Int) < fr∨tt<=(r:Int) then ql g W r else if fr<=(r:Int)+n∧(r:Int)+n < tt then ql g W ((r:Int)+n).toNat else fun _=>aX
def gF (g:Gr) (W:Nat) (fr tt n:Int) (k:Nat):List (Nat->aH):=(List.range k).map (qj g W fr tt n)
theorem F5:gF g W fr tt n (k+1)=gF g W fr tt n k++[qj g W fr tt n k]:=by
 unfold gF;rw [List.range_succ,List.map_append]
 rfl
theorem sS:(gF g W fr tt n k).length=k:=by simp [gF]
theorem Ud (H k:Nat) (h:k < (mq g W H).length):(mq g W H)[k]=ql g W k:=by simp [mq]
theorem ae9 (ok:OkG g) (U y cap:Nat) (w:World) (hr:aL w (some ⟨U,y,none⟩) g.n g.f) (hc:g.n<=cap) (W H:Nat) (hW:g.wide=W) (hH:g.high=H) (fr tt n:Int) (aP:0<=fr) (aM:fr<=10) (aS:tt<=H) (aQ:-1000<=n) (aR:n<=1000) (V:Nat->aH) (ai:V=vP (gF g W fr tt n H) W):
  kC 77 #[ay g (some ⟨U,y,none⟩) cap,.int .i64 fr,.int .i64 tt,.int .i64 n] w fun e w'=>∃ b d,e=.returned (ay ⟨g.wide,g.high,H*W,V,g.row,g.col,g.aA,g.bold,g.top,g.bottom⟩ (some ⟨b,0,none⟩) d)∧av w' b (H*W) V∧H*W<=d∧w.heap.size<=b∧Below w.heap.size w w':=by
 obtain⟨i0,hi,am,an,ao⟩:=info_parts info49;obtain⟨i1,R,K,L,M⟩:=info_parts info81;have HR:=gH hr;have K3:Hid (∀ w,aL w (some ⟨U,y,none⟩) g.n g.f->kC 94 #[ay g (some ⟨U,y,none⟩) cap] w fun e w'=>∃ v items,e=.returned v∧LL w' (w.heap.size+1) v W (mq g W H) items∧Below w.heap.size w w'):=fun w h=>afo g ok U y cap w h hc W H hW hH;have aa:0 < W:=by have:=ok.w1;omega
 have ax:W<=24:=by have:=ok.w2;omega
 have af:0 < H:=by have:=ok.h1;omega
 have aw:H<=10:=by have:=ok.h2;omega
 have Ct:=gH hW;have wJ:=gH ai;clear hr ok hW hH hc ai;go_enter func77,ntmps77;go_wp2_with (go_at_call 94;refine(K3.out _ (HR.out.below (aO _ _ _))).mono ?_;rintro e r ⟨v,items,rfl,ab,Q⟩;obtain⟨gl,LX,X,aJ,_,aK⟩:=ab.get 0 (by rw [zB];exact af);clear aJ aK;rw [zB] at X;subst X;have HL:Hid (LL r ((w.heap.size+1+1)+1) (.slice (some ⟨gl,0,none⟩) H LX) W (mq g W H) items∧Below w.heap.size w r∧r.heap[w.heap.size]?=some (aB g (some ⟨U,y,none⟩) cap)∧r.heap[w.heap.size+1]?=some aV):=⟨by simpa using ab,(aO _ _ _).trans (Q.mono (by simp;omega)),aG Q (aF (at_new w _) _) (by simp;omega),aG Q (bK w _ _) (by simp)⟩;clear ab Q);go_loopw [10,16] (fun o i wr=>∃ (k:Nat) (q:List (Nat×Nat)),k<=H∧i=.int .i64 k∧LL wr r.heap.size o W (gF g W fr tt n k) q∧Below r.heap.size r wr) (fun _ i _=>H - (intOf i).toNat)
 case atStart=>exact⟨0,[],Nat.zero_le _,rfl,⟨rfl,World.ownsRow_nil _ _ _ _,fun i h1 _=>absurd h1 (by simp [gF])⟩,Below.refl _ _⟩
 case round=>
  obtain⟨k,q,_,rfl,J,t⟩:=hrel;have G:=gH J;have HB:=gH t;have ak:=t.size;have aq:w.heap.size+1 < r.heap.size:=(gQ HL.out.2.2.2).1;by_cases aE:k < H
  ·have x:=HL.out.1.later t;have F:k < (mq g W H).length:=(by rw [zB];exact aE);have:(k:Int) < (H:Int):=(by omega);have:(0:Int)<=(k:Int):=(by omega);by_cases hA:(k:Int) < fr∨tt<=(k:Int)
   ·have A:Hid (qj g W fr tt n k=ql g W k):=(by show qj g W fr tt n k=_;unfold qj;rw [if_pos hA]);obtain⟨g2,ac,he,_,aD,B⟩:=x.get k F;rw [zB] at he;simp only [Value.slice.injEq,Option.some.injEq,Addr.mk.injEq,and_true,true_and] at he;obtain⟨rfl,rfl⟩:=he;have I:k < items.length:=(by rw [x.len];exact F);obtain⟨Y,Z,O⟩:=x.each k F I;obtain⟨p,hp⟩:∃ p,p=items[k]:=⟨_,rfl⟩;rw [<-hp] at B Y Z O;have HS:Hid (0<=p.1∧W<=p.2∧av wr p.1 W (ql g W k)):=⟨Y,Z,by rw [Ud] at O;exact O⟩;clear J t x Y Z O hp I F;by_cases ae:(k:Int) < fr
    ·clear hA;go_wp2_with (first | (at_builtin;refine wpList_append_lies _ rfl _ _ 138 rfl r.heap.size 31 i1 (.slice none 0 0) 1 24 underlying138 R K L M rfl (by decide) _ (gF g W fr tt n k).length (q.map (rv W)) rfl (G.out.row.alloc _) ⟨wr.heap.size,0,none⟩ 1 1 [rv W p] rfl rfl ?c1 ?c2 (by decide) ?c3 ?c4 ?c5 (wr.heap.size+1) ?c6 ?_) | fail)
     case c1=>exact kN wr _ _
     case c2=>intro u D;simp at D;subst D;rfl
     case c3=>unfold maxLen;rw [sS];omega
     case c4=>rw [sS];omega
     case c5=>simp;omega
     case c6=>simp
     ·intro P d w2 l c _ _;have C:Hid (LL w2 r.heap.size (.slice (some ⟨P,0,none⟩) ((gF g W fr tt n k).length+1) d) W (gF g W fr tt n (k+1)) (q++[p])∧Below r.heap.size r w2):=by
       refine⟨?_,CB HB.out G.out.row (Nat.le_refl _) c⟩;rw [F5,A.out];exact G.out.grow HS.out l c
      clear l c;go_wp2;go_roundw
      case rel=>exact⟨k+1,q++[p],by omega,by go_num,C.out.1,C.out.2⟩
      case measure=>simp [intOf];omega
    ·have ar:tt<=(k:Int):=(by omega);have:fr<=(k:Int):=(by omega);clear hA ae;go_wp2_with (first | (at_builtin;refine wpList_append_lies _ rfl _ _ 138 rfl r.heap.size 31 i1 (.slice none 0 0) 1 24 underlying138 R K L M rfl (by decide) _ (gF g W fr tt n k).length (q.map (rv W)) rfl (G.out.row.alloc _) ⟨wr.heap.size,0,none⟩ 1 1 [rv W p] rfl rfl ?c1 ?c2 (by decide) ?c3 ?c4 ?c5 (wr.heap.size+1) ?c6 ?_) | fail)
     case c1=>exact kN wr _ _
     case c2=>intro u D;simp at D;subst D;rfl
     case c3=>unfold maxLen;rw [sS];omega
     case c4=>rw [sS];omega
     case c5=>simp;omega
     case c6=>simp
     ·intro P d w2 l c _ _;have C:Hid (LL w2 r.heap.size (.slice (some ⟨P,0,none⟩) ((gF g W fr tt n k).length+1) d) W (gF g W fr tt n (k+1)) (q++[p])∧Below r.heap.size r w2):=by
       refine⟨?_,CB HB.out G.out.row (Nat.le_refl _) c⟩;rw [F5,A.out];exact G.out.grow HS.out l c
      clear l c;go_wp2;go_roundw
      case rel=>exact⟨k+1,q++[p],by omega,by go_num,C.out.1,C.out.2⟩
      case measure=>simp [intOf];omega
   ·have ae:fr<=(k:Int):=(by omega);have ar:(k:Int) < tt:=(by omega);by_cases hB:fr<=(k:Int)+n∧(k:Int)+n < tt
    ·obtain⟨m,hm⟩:∃ m:Nat,(k:Int)+n=m:=⟨((k:Int)+n).toNat,by omega⟩;have A:Hid (qj g W fr tt n k=ql g W m):=by
      show qj g W fr tt n k=_;unfold qj;rw [if_neg hA,if_pos hB];congr 1;omega
     have S:m < (mq g W H).length:=(by rw [zB];omega);have:(m:Int) < (H:Int):=(by omega);have:(0:Int)<=(m:Int):=(by omega);have:fr<=(m:Int):=(by omega);have:(m:Int) < tt:=(by omega);obtain⟨g2,ac,he,_,aD,B⟩:=x.get m S;rw [zB] at he;simp only [Value.slice.injEq,Option.some.injEq,Addr.mk.injEq,and_true,true_and] at he;obtain⟨rfl,rfl⟩:=he;have I:m < items.length:=(by rw [x.len];exact S);obtain⟨Y,Z,O⟩:=x.each m S I;obtain⟨p,hp⟩:∃ p,p=items[m]:=⟨_,rfl⟩;rw [<-hp] at B Y Z O;have HS:Hid (0<=p.1∧W<=p.2∧av wr p.1 W (ql g W m)):=⟨Y,Z,by rw [Ud] at O;exact O⟩;clear J t x Y Z O hp I F S hA hB;go_wp2_with (first | (at_builtin;refine wpList_append_lies _ rfl _ _ 138 rfl r.heap.size 31 i1 (.slice none 0 0) 1 24 underlying138 R K L M rfl (by decide) _ (gF g W fr tt n k).length (q.map (rv W)) rfl (G.out.row.alloc _) ⟨wr.heap.size,0,none⟩ 1 1 [rv W p] rfl rfl ?c1 ?c2 (by decide) ?c3 ?c4 ?c5 (wr.heap.size+1) ?c6 ?_) | fail)
     case c1=>exact kN wr _ _
     case c2=>intro u D;simp at D;subst D;rfl
     case c3=>unfold maxLen;rw [sS];omega
     case c4=>rw [sS];omega
     case c5=>simp;omega
     case c6=>simp
     ·intro P d w2 l c _ _;have C:Hid (LL w2 r.heap.size (.slice (some ⟨P,0,none⟩) ((gF g W fr tt n k).length+1) d) W (gF g W fr tt n (k+1)) (q++[p])∧Below r.heap.size r w2):=by
       refine⟨?_,CB HB.out G.out.row (Nat.le_refl _) c⟩;rw [F5,A.out];exact G.out.grow HS.out l c
      clear l c;go_wp2;go_roundw
      case rel=>exact⟨k+1,q++[p],by omega,by go_num,C.out.1,C.out.2⟩
      case measure=>simp [intOf];omega
    ·have A:Hid (qj g W fr tt n k=fun _=>aX):=by
      show qj g W fr tt n k=_;unfold qj;rw [if_neg hA,if_neg hB]
     obtain⟨⟨x0,x1,x2,x3,x4,x5,x6,x7,x8⟩,z⟩:=nine (aG t HL.out.2.2.1 (by omega));rw [Ct.out] at x0;obtain⟨m,hm⟩:∃ m,(k:Int)+n=m:=⟨_,rfl⟩;have aC:m < fr∨(fr<=m∧tt<=m):=(by omega);have aI: -2000<=m∧m<=2000:=(by omega);obtain⟨_,_⟩:=aI;clear J t x F hA hB;rcases aC with az | ⟨az,aN⟩
     ·go_wp2_with (first | (at_make;refine wpList_make_full _ rfl _ _ 31 rfl wr.heap.size 65 i0 (.agg #[.int .i64 0,.int .i64 0,.int .i64 0,.bool false]) 4 underlying31 hi am an .i64 .i64 _ _ W rfl rfl rfl rfl (by rw [ao];omega) (by unfold maxLen;omega) (by simp) ?_) | fail);intro N s E;rw [NP] at s;obtain⟨b',ad,X,_,_,hs⟩:=Bg s aa;simp only [Value.slice.injEq,Option.some.injEq,Addr.mk.injEq,and_true,true_and] at X;obtain⟨rfl,rfl⟩:=X;have T:Below wr.heap.size wr N:=⟨E.os,E.tape,E.output,E.size,fun j R=>E.block j R (by simp)⟩;have al:=T.size;have uh:=gH (G.out.later T);have Kt:=gH (HB.out.trans (T.mono ak));have K5:Hid (0<=(wr.heap.size,W).1∧W<=(wr.heap.size,W).2∧av N (wr.heap.size,W).1 W (fun _=>aX)):=⟨Nat.zero_le _,Nat.le_refl _,hs⟩;clear s E hs T;go_wp2_with (first | (at_builtin;refine wpList_append_lies _ rfl _ _ 138 rfl r.heap.size 31 i1 (.slice none 0 0) 1 24 underlying138 R K L M rfl (by decide) _ (gF g W fr tt n k).length (q.map (rv W)) rfl (uh.out.row.alloc _) ⟨N.heap.size,0,none⟩ 1 1 [rv W (wr.heap.size,W)] rfl rfl (kN N _ _) (by intro u D;simp at D;subst D;rfl) (by decide) (by unfold maxLen;rw [sS];omega) (by rw [sS];omega) (by simp;omega) (N.heap.size+1) (by simp) ?_) | fail)
      ·intro P d w2 l c _ _;have C:Hid (LL w2 r.heap.size (.slice (some ⟨P,0,none⟩) ((gF g W fr tt n k).length+1) d) W (gF g W fr tt n (k+1)) (q++[(wr.heap.size,W)])∧Below r.heap.size r w2):=by
        refine⟨?_,CB Kt.out uh.out.row (Nat.le_refl _) c⟩;rw [F5,A.out];exact uh.out.grow K5.out l c
       clear l c;go_wp2;go_roundw
       case rel=>exact⟨k+1,q++[(wr.heap.size,W)],by omega,by go_num,C.out.1,C.out.2⟩
       case measure=>simp [intOf];omega
     ·go_wp2_with (first | (at_make;refine wpList_make_full _ rfl _ _ 31 rfl wr.heap.size 65 i0 (.agg #[.int .i64 0,.int .i64 0,.int .i64 0,.bool false]) 4 underlying31 hi am an .i64 .i64 _ _ W rfl rfl rfl rfl (by rw [ao];omega) (by unfold maxLen;omega) (by simp) ?_) | fail);intro N s E;rw [NP] at s;obtain⟨b',ad,X,_,_,hs⟩:=Bg s aa;simp only [Value.slice.injEq,Option.some.injEq,Addr.mk.injEq,and_true,true_and] at X;obtain⟨rfl,rfl⟩:=X;have T:Below wr.heap.size wr N:=⟨E.os,E.tape,E.output,E.size,fun j R=>E.block j R (by simp)⟩;have al:=T.size;have uh:=gH (G.out.later T);have Kt:=gH (HB.out.trans (T.mono ak));have K5:Hid (0<=(wr.heap.size,W).1∧W<=(wr.heap.size,W).2∧av N (wr.heap.size,W).1 W (fun _=>aX)):=⟨Nat.zero_le _,Nat.le_refl _,hs⟩;clear s E hs T;go_wp2_with (first | (at_builtin;refine wpList_append_lies _ rfl _ _ 138 rfl r.heap.size 31 i1 (.slice none 0 0) 1 24 underlying138 R K L M rfl (by decide) _ (gF g W fr tt n k).length (q.map (rv W)) rfl (uh.out.row.alloc _) ⟨N.heap.size,0,none⟩ 1 1 [rv W (wr.heap.size,W)] rfl rfl (kN N _ _) (by intro u D;simp at D;subst D;rfl) (by decide) (by unfold maxLen;rw [sS];omega) (by rw [sS];omega) (by simp;omega) (N.heap.size+1) (by simp) ?_) | fail)
      ·intro P d w2 l c _ _;have C:Hid (LL w2 r.heap.size (.slice (some ⟨P,0,none⟩) ((gF g W fr tt n k).length+1) d) W (gF g W fr tt n (k+1)) (q++[(wr.heap.size,W)])∧Below r.heap.size r w2):=by
        refine⟨?_,CB Kt.out uh.out.row (Nat.le_refl _) c⟩;rw [F5,A.out];exact uh.out.grow K5.out l c
       clear l c;go_wp2;go_roundw
       case rel=>exact⟨k+1,q++[(wr.heap.size,W)],by omega,by go_num,C.out.1,C.out.2⟩
       case measure=>simp [intOf];omega
  ·have HK:Hid (k=H):=(by omega:k=H);have:(H:Int)<=(k:Int):=(by omega);have hf:=G.out;rw [HK.out] at hf;have ap:Hid (kC 95 #[ay g (some ⟨U,y,none⟩) cap,u10] wr fun e w'=>∃ b d,e=.returned (ay ⟨g.wide,g.high,H*W,V,g.row,g.col,g.aA,g.bold,g.top,g.bottom⟩ (some ⟨b,0,none⟩) d)∧av w' b (H*W) V∧H*W<=d∧wr.heap.size<=b∧Below wr.heap.size wr w'):=afm g (some ⟨U,y,none⟩) cap u10 W H r.heap.size (gF g W fr tt n H) q wr hf (sS _ _ _ _ _ _) af aw aa ax V wJ.out;obtain⟨⟨x0,x1,x2,x3,x4,x5,x6,x7,x8⟩,z⟩:=nine (aG t HL.out.2.2.1 (by omega));have vv:=gH (aG t HL.out.2.2.2 aq);clear J t hf;go_wp2_with (go_at_call 95;refine ap.out.mono ?_;rintro e w6 ⟨b,d,rfl,aj,ah,ag,FC⟩;have HE:Hid (av w6 b (H*W) V∧H*W<=d∧wr.heap.size<=b∧Below wr.heap.size wr w6):=⟨aj,ah,ag,FC⟩;obtain⟨⟨_,_,_,_,_,_,_,_,_⟩,_⟩:=nine (aG FC vv.out (gQ vv.out).1);clear aj ah ag FC);refine bodyPost_ret (v:=ay ⟨g.wide,g.high,H*W,V,g.row,g.col,g.aA,g.bold,g.top,g.bottom⟩ (some ⟨b,0,none⟩) d) (by simp [results,results77,go_sem, *]) rfl ?_;obtain⟨f1,f2,_,f4⟩:=HE.out;have au:Below w.heap.size w w6:=(HL.out.2.1.trans (HB.out.mono (by omega))).trans (f4.mono (by omega));exact⟨b,d,rfl,iC f1 (by omega) _ _ _ _ _ _ _ _ _,f2,by omega,iZ au (by omega) _ _ _ _ _ _ _ _ _⟩
variable (g:Gr) {W:Nat}
theorem Qj (W H:Nat) (fr tt n:Int) (r c:Nat) (h:r < H) (b:c < W):vP (gF g W fr tt n H) W (r*W+c)=qj g W fr tt n r c:=by
 have d:r < (gF g W fr tt n H).length:=by rw [sS];exact h
 have e:(gF g W fr tt n H)[r]=qj g W fr tt n r:=by simp [gF]
 rw [Qi _ W r c d b,e]
theorem UG {H i:Nat} (b:i < H*W):∃ r c,i=r*W+c∧r < H∧c < W:=by
 have d:0 < W:=by
  rcases Nat.eq_zero_or_pos W with h | h
  ·subst h;simp at b
  ·exact h
 refine⟨i / W,i % W,?_,?_,Nat.mod_lt _ d⟩
 ·rw [Nat.mul_comm];exact(Nat.div_add_mod i W).symm
 ·exact Nat.div_lt_of_lt_mul (by rw [Nat.mul_comm];exact b)
theorem Dj {r t c:Nat} (h:c < W):r*W+c < t*W↔r < t:=by
 constructor
 ·intro d;rcases Nat.lt_or_ge r t with b | b
  ·exact b
  ·have:=Nat.mul_le_mul_right W b;omega
 ·intro d;have:=Nat.mul_le_mul_right W (show r+1<=t by omega);rw [Nat.add_mul] at this;omega
theorem Ua (W H a b m:Nat) (_ha:a<=b) (i:Nat) (l:i < H*W):vP (gF g W a b m H) W i=kK g.f (a*W) (b*W) (min m (b - a)*W) i:=by
 obtain⟨r,c,rfl,s,d⟩:=UG l;rw [Qj g W H a b m r c s d];unfold qj kK ql;have:=Dj (r:=r) (t:=a) d;have:=Dj (r:=r) (t:=b) d;have h:=Dj (r:=r+min m (b - a)) (t:=b) d;rw [Nat.add_mul] at h;by_cases u:r < a∨b<=r
 ·rw [if_pos (by omega),if_neg (by omega)]
 ·rw [if_neg (by omega)];by_cases x:r+m < b
  ·have q:min m (b - a)=m:=(by omega);rw [q] at h ⊢;rw [if_pos (by omega),if_pos (by omega),if_pos (by omega)];have j:((r:Int)+(m:Int)).toNat=r+m:=(by omega);rw [j,Nat.add_mul];congr 1;omega
  ·rw [if_neg (by omega),if_pos (by omega),if_neg (by omega)]
theorem afa (W H a b m:Nat) (_ha:a<=b) (i:Nat) (l:i < H*W):vP (gF g W a b (-(m:Int)) H) W i=mO g.f (a*W) (b*W) (min m (b - a)*W) i:=by
 obtain⟨r,c,rfl,s,d⟩:=UG l;rw [Qj g W H a b _ r c s d];unfold qj mO ql;have:=Dj (r:=r) (t:=a) d;have:=Dj (r:=r) (t:=b) d;have h:=Dj (r:=r) (t:=a+min m (b - a)) d;rw [Nat.add_mul] at h;by_cases u:r < a∨b<=r
 ·rw [if_pos (by omega),if_neg (by omega)]
 ·rw [if_neg (by omega)];by_cases x:a+m<=r
  ·have q:min m (b - a)=m:=(by omega);rw [q] at h ⊢;rw [if_pos (by omega),if_pos (by omega),if_pos (by omega)];have j:((r:Int)+ -(m:Int)).toNat=r - m:=(by omega);have:(r - m)*W+m*W=r*W:=(by rw [<-Nat.add_mul];congr 1;omega);rw [j];congr 1;omega
  ·rw [if_neg (by omega),if_pos (by omega),if_neg (by omega)]
def wV (w:World) (b:Nat) (x:Gr) (e:Ending) (w':World):Prop:=∃ b' cap',e=.returned (ay x (some ⟨b',0,none⟩) cap')∧av w' b' x.n x.f∧x.n<=cap'∧(b'=b∨w.heap.size<=b')∧Below w.heap.size w w'
theorem OG (l:OkG g) (b cap:Nat) (w:World) (A:av w b g.n g.f) (C:g.n<=cap) (fr tt n:Int) (r:0<=fr) (j:fr<=10) (E:tt<=g.high) (t:-1000<=n) (u:n<=1000) (x:Nat->aH) (s:∀ W H:Nat,g.wide=W->g.high=H->∀ i,i < H*W->vP (gF g W fr tt n H) W i=x i):
  kC 77 #[ay g (some ⟨b,0,none⟩) cap,.int .i64 fr,.int .i64 tt,.int .i64 n] w (wV w b ⟨g.wide,g.high,g.n,x,g.row,g.col,g.aA,g.bold,g.top,g.bottom⟩):=by
 obtain⟨H,m⟩:∃ H:Nat,g.high=H:=⟨g.high.toNat,by have:=l.h1;omega⟩;obtain⟨W,q⟩:∃ W:Nat,g.wide=W:=⟨g.wide.toNat,by have:=l.w1;omega⟩;have D:g.n=H*W:=by
  have:(g.n:Int)=((H*W:Nat):Int):=(by rw [l.nums.1,q,m];simp);omega
 refine(ae9 g l b 0 cap w A.rd C W H q m fr tt n r j (by omega) t u _ rfl).mono ?_;rintro _ _ ⟨z,c,rfl,y,h,B,d⟩;rw [<-D] at y h ⊢;refine⟨z,c,rfl,y.congr fun i F=>s W H q m i (by omega),h,.inr B,d⟩
theorem xQ {a w:Int} {A:Nat} (b:a=A) (c:w=W):(a*w).toNat=A*W:=by
 subst b c;rw [<-Int.natCast_mul];exact Int.toNat_natCast _
theorem ab7 {w w2:World} {b c cap':Nat} {x:Gr} {o1 o2:Obj} (l:b < w.heap.size) (m:av w2 c x.n x.f) (j:x.n<=cap') (i:c=b∨((w.alloc o1).alloc o2).heap.size<=c) (d:Below ((w.alloc o1).alloc o2).heap.size ((w.alloc o1).alloc o2) w2) (u0 u1 u2 u3 u4 u5 u6 u7 u8:Value):
  wV w b x (.returned (ay x (some ⟨c,0,none⟩) cap')) (((((((((w2.setCell ⟨w.heap.size+1,0,none⟩ u0).setCell ⟨w.heap.size+1,1,none⟩ u1).setCell ⟨w.heap.size+1,2,none⟩ u2).setCell ⟨w.heap.size+1,3,none⟩ u3).setCell ⟨w.heap.size+1,4,none⟩ u4).setCell ⟨w.heap.size+1,5,none⟩ u5).setCell ⟨w.heap.size+1,6,none⟩ u6).setCell ⟨w.heap.size+1,7,none⟩ u7).setCell ⟨w.heap.size+1,8,none⟩ u8):=by
 have h:Below w.heap.size w w2:=(aO w o1 o2).trans (d.mono (by simp;omega));have:c=b∨w.heap.size+2<=c:=by simp at i;omega
 exact⟨c,cap',rfl,iC m (by omega) _ _ _ _ _ _ _ _ _,j,by omega,iZ h (by omega) _ _ _ _ _ _ _ _ _⟩
theorem Sy (h:OkG g) (b cap:Nat) (w:World) (q:av w b g.n g.f) (C:g.n<=cap) (x:Gr) (D:x=iB g):kC 56 #[ay g (some ⟨b,0,none⟩) cap] w (wV w b x):=by
 have I:=q.lt;have S:1<=g.bottom:=by have:=h.t1;have:=h.t2;omega
 have T:g.bottom<=10:=by have:=h.t3;have:=h.h2;omega
 have Y:=h.r1;have Z:g.row<=10:=by have:=h.r2;have:=h.h2;omega
 have nH:=h.h2;have F:Hid (av w b g.n g.f∧g.n<=cap):=⟨q,C⟩;by_cases c:g.row=g.bottom - 1
 ·have y:x=⟨g.wide,g.high,g.n,kK g.f (g.top*g.wide).toNat (g.bottom*g.wide).toNat g.wide.toNat,g.row,g.col,g.aA,g.bold,g.top,g.bottom⟩:=(by rw [D];unfold iB;rw [if_pos c]);have qQ:Hid (∀ w,av w b g.n g.f->kC 77 #[ay g (some ⟨b,0,none⟩) cap,.int .i64 g.top,.int .i64 g.bottom,.int .i64 1] w (wV w b x)):=by
   intro w q;rw [y];refine OG g h b cap w q C g.top g.bottom 1 h.t1 (by have:=h.t2;omega) h.t3 (by omega) (by omega) _ ?_;intro W H L hH i U;obtain⟨A,J⟩:∃ A:Nat,g.top=A:=⟨g.top.toNat,by have:=h.t1;omega⟩;obtain⟨B,K⟩:∃ B:Nat,g.bottom=B:=⟨g.bottom.toNat,by omega⟩;have R:A < B:=(by have:=h.t2;omega);have:=Ua g W H A B 1 (by omega) i U;rw [show min 1 (B - A)*W=W by rw [show min 1 (B - A)=1 by omega,Nat.one_mul]] at this;rw [xQ J L,xQ K L,show g.wide.toNat=W by omega,J,K];exact this
  have V:(g.row==g.bottom - 1)=true:=(by simp [c]);clear D y q h C c;go_enter func56,ntmps56;go_wp2_with (go_at_call 77;refine(qQ.out _ ((F.out.1.alloc _).alloc _)).mono ?_;rintro _ w2 ⟨z,d,rfl,u,t,s,j⟩;obtain⟨⟨_,_,_,_,_,_,_,_,_⟩,v⟩:=nine (aG j (bK w _ _) (by simp));have M:Hid (∃ l m:Obj,av w2 z x.n x.f∧x.n<=d∧(z=b∨((w.alloc l).alloc m).heap.size<=z)∧Below ((w.alloc l).alloc m).heap.size ((w.alloc l).alloc m) w2):=⟨_,_,u,t,s,j⟩;clear u t s j);refine bodyPost_ret (v:=ay x (some ⟨z,0,none⟩) d) (by simp [results,results56,go_sem, *]) rfl ?_;obtain⟨l,m,N,O,P,Q⟩:=M.out;exact ab7 I N O P Q _ _ _ _ _ _ _ _ _
 ·have V:(g.row==g.bottom - 1)=false:=(by simp [c]);have E:Hid (∀ r:Int,r=min (g.row+1) (g.high - 1)->∀ l m:Obj,wV w b x (.returned (.agg #[.int .i64 g.wide,.int .i64 g.high,.slice (some ⟨b,0,none⟩) g.n cap,.int .i64 r,.int .i64 g.col,.int .i64 g.aA,.bool g.bold,.int .i64 g.top,.int .i64 g.bottom])) ((w.alloc l).alloc m)):=by
   intro r X l m;have:x={g with row:=r}:=(by rw [D,X];unfold iB;rw [if_neg c]);rw [this];exact⟨b,cap,rfl,(F.out.1.alloc _).alloc _,F.out.2,.inl rfl,aO _ _ _⟩
  have G:g.row+1 < g.high∨g.high<=g.row+1:=(by omega);have aa:=h.r2;clear D q h C c;rcases G with G | G
  all_goals (
   go_enter func56,ntmps56
   go_wp2
   refine bodyPost_ret (by simp [results,results56,go_sem];rfl) rfl ?_
   refine E.out _ ?_ _ _
   omega)
end Go.Proofs.YtkcdcamophkdlaaGreatDoor
