import Derived.Test.YtkcdcamophkdlaaGreatDoorAM
set_option maxHeartbeats 2000000
set_option maxRecDepth 100000
open Go.Proofs.Tryz
namespace Go.Proofs.YtkcdcamophkdlaaGreatDoor
open Go.RowKit
theorem eO.wrote {w w1:World} {pb b cap:Nat} {oo d:Option Addr} {oc o:Nat} {p:bU} {s:ByteArray} (h:eO w pb b cap oo oc p)
  (k:w1.ownsRow 0 5 1 (.slice d (p.out.length+s.size) o) (p.out.length+s.size) (oV p.out++Lib.strCells s)∧w.grownBy w1 (fQ oo)∧(fQ d=fQ oo∨∃ k,fQ d=some k∧w.heap.size<=k)):
  aW w pb b cap oo ⟨p.out++s.data.toList,p.g⟩ (w1.setCell ⟨pb,0,none⟩ (.slice d (p.out.length+s.size) o)):=by
 obtain⟨v,i,x⟩:=k;have a:(p.out++s.data.toList).length=p.out.length+s.size:=by simp
 have E:w1.heap[pb]?=some (je p.out.length oo oc p.g b cap):=bH i h.box (fun e=>h.n2 e.symm);have D:fQ d≠some pb:=by
  rcases x with e | ⟨j,e,u⟩
  ·rw [e];exact h.n2
  ·rw [e];have:=h.lt;simp;omega
 refine⟨d,o,⟨?_,?_,?_⟩,⟨i.os,i.tape,i.output,by have:=i.size;simpa using this,fun j u y F z=>?_,x⟩⟩
 ·rw [bG E];show _=some (Obj.cells (dD (p.out++s.data.toList).length d o p.g b cap) _ _);rw [a]
  rfl
 ·show World.ownsRow _ 0 5 1 (.slice d (p.out++s.data.toList).length o) (p.out++s.data.toList).length (oV (p.out++s.data.toList));rw [a,Qg, <-Xv];refine⟨v.1,?_⟩;rcases v.2 with m | ⟨g,c,t,m,A,B,r⟩
  ·exact .inl m
  ·refine .inr ⟨g,c,t,m,A,?_,r⟩;rw [Below.heap_setCell _ _ _ _ (fun e=>D (by simp only [Value.slice.injEq] at m;rw [m.1];simp [fQ,e]))];exact B
 ·exact(h.bM.grown i (fun e=>h.n3 e.symm)).set (fun e=>h.n1 e) _
 ·rw [Below.heap_setCell _ _ _ _ y];exact i.block j u (fun e=>z e.symm)
theorem J6 (pb b cap:Nat) (oo:Option Addr) (oc:Nat) (p:bU) (s:ByteArray) (w:World) (h:eO w pb b cap oo oc p) (m:p.out.length+s.size<=1048576):
  kC 109 #[.pointer (some ⟨pb,0,none⟩),.string s] w fun e w'=>e=.returned (.tuple #[])∧aW w pb b cap oo ⟨p.out++s.data.toList,p.g⟩ w':=by
 have k:=gH h;have j:=gH h.own;obtain⟨⟨_,_,_,_,_,_,_,_,_,_⟩,_⟩:=ten h.box;have i:Hid (∀ w1,w.grownBy w1 (fQ oo)->w1.heap[pb]?=some (je p.out.length oo oc p.g b cap)):=fun w1 o=>bH o h.box (fun e=>h.n2 e.symm);clear h;go_enter func109,ntmps109;go_wp2_with (first | (at_builtin;refine ahQ rfl _ _ rfl oo p.out.length oc (oV p.out) rfl j.out s rfl m ?_) | go_in);intro r t w1 c;obtain⟨⟨_,_⟩,_⟩:=ten (i.out w1 c.out.2.1);have d:=k.out.wrote c.out;have a:=gH d;clear d c i;go_wp2;go_end0;exact⟨rfl,a.out⟩
variable {w wi:World} {G C:Array Value} {ao:Option Addr} {cap:Nat} {L:List ByteArray}
def Bl (L:List ByteArray):List Value:=L.map Value.string
structure vC (w wi:World) (G C:Array Value) (ao:Option Addr) (cap:Nat) (L:List ByteArray):Prop where
 gb:wi.heap[w.heap.size]?=some (.cells G 33 (0,0))
 cb:wi.heap[w.heap.size+1]?=some (.cells C 65 (0,0))
 own:wi.ownsRow (w.heap.size+2) 9 1 (.slice ao L.length cap) L.length (Bl L)
 below:Below w.heap.size w wi
 size:w.heap.size+2<=wi.heap.size
theorem info9:(prog.info? 9).map (fun i=>(i.zero,i.size,i.bytes))=some (some (.string ⟨#[]⟩),1,16):=by kernel_rfl
theorem nQ {r:Array Oper} {j:List Oper} {o:Oper} {a:Act} {Q:Exit->Act->World->Prop} (y:o.guard=none) (E x:Operand) (M:o.op=.call {callee:=.builtin .append,args:=#[E,x],argTypes:=#[192,192]}) (ao:Option Addr) (cap n:Nat) (L:List ByteArray) (K:n=L.length) (s:ByteArray) (h:vC w wi G C ao cap L) (R:n<=4) (B:Nat) (I:B=wi.heap.size) (N:a.eval E=.slice ao n cap) (P:a.eval x=.slice (some ⟨B,0,none⟩) 1 1) (v:∀ t d w',Hid (vC w w' G C (some ⟨t,0,none⟩) d (L++[s]))->wpList prog r Q j (a.put o.dst (.slice (some ⟨t,0,none⟩) (n+1) d)) w'):wpList prog r Q (o::j) a (wi.alloc (.cells #[.string s] 9)):=by
 subst I;subst K;obtain⟨i,J,z,A,D⟩:=info_parts info9;have O:=h.size;refine wpList_append_lies _ y E x 192 M (w.heap.size+2) 9 i (.string ⟨#[]⟩) 1 16 underlying192 J z A D rfl (by decide) (.slice ao L.length cap) L.length (Bl L) N (h.own.alloc _) ⟨wi.heap.size,0,none⟩ 1 1 [.string s] P rfl ?_ ?_ (by decide) (by unfold maxLen;omega) (by omega) (by simp;omega) (wi.heap.size+1) (by simp) ?_
 ·exact World.news_of_block (at_new wi _)
 ·intro u F;simp only [List.mem_singleton] at F;subst F
  rfl
 ·intro t d w' p c _ _;have m:∀ k,k < w.heap.size+2->some k≠Value.ownBlock (.slice ao L.length cap):=fun k v e=>by
   have:=(h.own.lt k e.symm).1;omega
  refine v t d w' ⟨?_,?_,?_,?_,?_⟩
  ·exact bH c (aF h.gb _) (m _ (by omega))
  ·exact bH c (aF h.cb _) (m _ (by omega))
  ·have:Bl (L++[s])=Bl L++[.string s]:=(by simp [Bl]);rw [this,List.length_append];exact p
  ·have H:Below w.heap.size w (wi.alloc (.cells #[.string s] 9)):=h.below.trans ((aM wi _).mono h.below.size);exact H.grown c (by simp;omega) (fun k v=>by have:=(h.own.lt k v).1;omega)
  ·have:=c.size;simp at this;omega
theorem rO (h:vC w wi G C ao cap L) (y:L.length<=4) (R:List (List UInt8)) (s:L.map (·.data.toList)=R) (k:(Lib.join R [59]).length<=100):
  kC 172 #[.slice ao L.length cap,.string ⟨#[59]⟩] wi fun e w'=>e=.returned (.string (bs (Lib.join R [59])))∧Below w.heap.size w w':=by
 subst s;rcases h.own.2 with ⟨a,p⟩ | ⟨g,c,o,a,_,i,u,_,z,v⟩
 ·simp only [Value.slice.injEq] at a;obtain⟨rfl,_,rfl⟩:=a;have r:L=[]:=List.length_eq_zero_iff.1 p;subst r;refine(Tryz.strings_Join_none none 0 ⟨#[59]⟩ wi).mono ?_;rintro e w' ⟨rfl,rfl⟩;exact⟨rfl,h.below⟩
 ·simp only [Value.slice.injEq] at a;obtain⟨rfl,_,rfl⟩:=a;refine(Tryz.strings_Join g 0 cap L ⟨#[59]⟩ wi (fun j x m=>?_) (gQ i).1 (by omega) u ?_).mono ?_
  ·have k:j < L.length:=(gL m).1;rw [cell_of_row wi g (0+j) _ _ _ i];have d:(Bl L)[j]?=some (.string x):=(by simp [Bl,m]);rw [<-v,List.getElem?_take_of_lt (by omega)] at d;simpa using d
  ·exact Nat.le_trans k (by decide)
  ·rintro e w' ⟨rfl,t⟩;exact⟨rfl,h.below.trans (t.mono h.below.size)⟩
theorem abg (w:World) (G C:Array Value):vC w ((w.alloc (.cells G 33)).alloc (.cells C 65)) G C none 0 []:=
 ⟨aF (at_new w _) _,bK w _ _,World.ownsRow_nil _ _ _ _,(aM _ _).alloc (by simp) _,by simp⟩
theorem vC.set (h:vC w wi G C ao cap L) (j:Nat) (u:Value):vC w (wi.setCell ⟨w.heap.size,j,none⟩ u) (G.setIfInBounds j u) C ao cap L:=by
 refine⟨bG h.gb u,?_,?_,h.below.setCell (Nat.le_refl _) _,by have:=h.size;simpa using this⟩
 ·rw [Below.heap_setCell _ _ _ _ (by simp)];exact h.cb
 ·refine⟨h.own.1,?_⟩;rcases h.own.2 with k | ⟨g,c,d,m,e,i,a⟩
  ·exact .inl k
  ·refine .inr ⟨g,c,d,m,e,?_,a⟩;rw [Below.heap_setCell _ _ _ _ (by simp;omega)];exact i
variable (wide high:Int) (n:Nat) (f:Nat->aH) (row col top bottom ch aJ aA aU:Int) (ao:Option Addr) (cap:Nat)
theorem Ap (a:1<=aU) (c:aU<=8):Hid (∀ w,kD 157 #[.int .i64 (29+aU)] w (.string (bs (Ps.dec (29+aU).toNat)))):=fun w=>R6 (29+aU) (by omega) (by omega) w
theorem Ar (a:1<=aU) (c:aU<=8):Hid ((Ps.dec (29+aU).toNat).length<=2):=by show (Ps.dec (29+aU).toNat).length<=2;rw [Jr aU a c];exact Nat.le_refl _
theorem rM (w:World) (g:Gr) (c:aH) (ao:Option Addr) (cap:Nat):Hid (vC w ((w.alloc (aB g ao cap)).alloc (.cells (yR c) 65)) (bE g ao cap) (yR c) none 0 []):=abg w _ _
theorem FR {w w1:World} {wide high:Int} {n:Nat} {f:Nat->aH} {row col aA top bottom:Int} {d:Bool} {ao a:Option Addr} {cap q:Nat} {C:Array Value} {L:List ByteArray} (h:vC w w1 (bE ⟨wide,high,n,f,row,col,aA,d,top,bottom⟩ ao cap) C a q L):
  Hid (vC w ((w1.setCell ⟨w.heap.size,5,none⟩ (.int .i64 0)).setCell ⟨w.heap.size,6,none⟩ (.bool false)) (bE ⟨wide,high,n,f,row,col,0,false,top,bottom⟩ ao cap) C a q L):=(h.set 5 (.int .i64 0)).set 6 (.bool false)
def qR (g:Gr) (ao:Option Addr) (cap:Nat) (c:aH) (R:List (List UInt8)) (w:World):Prop:=kA 167 #[ay g ao cap,cval c] w (.string (bs (Lib.join R [59])))
theorem SH (w:World):
  qR ⟨wide,high,n,f,row,col,aA,true,top,bottom⟩ ao cap ⟨ch,0,aJ,false⟩ [[]] w:=by
 have c:=rM w ⟨wide,high,n,f,row,col,aA,true,top,bottom⟩ ⟨ch,0,aJ,false⟩ ao cap;go_enter func167,ntmps167
 go_wp2_with (first
  | (have:=c;at_builtin;refine nQ rfl _ _ rfl none 0 0 [] rfl (⟨#[]⟩) c.out (by omega) _ (by simp) rfl rfl ?_;intro h i w1 a;have e:=FR a.out;obtain⟨⟨_,_,_,_,_,_,_,_,_⟩,_⟩:=nine a.out.gb;obtain⟨⟨_,_,_,_⟩,_⟩:=four a.out.cb;clear c)
  | (go_at_call 172;refine(rO e.out (by simp) [[]] (by simp) (by simp [Lib.join_cons,Lib.joinTail])).mono ?_;rintro _ _ ⟨rfl,d⟩)
  | go_in)
 go_ret;exact⟨rfl,d⟩
theorem Oa (k:1<=aU) (m:aU<=8) (w:World):
  qR ⟨wide,high,n,f,row,col,aA,true,top,bottom⟩ ao cap ⟨ch,aU,aJ,false⟩ [[],Ps.dec (29+aU).toNat] w:=by
 have:(aU !=0)=true:=by simp;omega
 have c:=Ap aU k m;have p:=Ar aU k m;have i:=rM w ⟨wide,high,n,f,row,col,aA,true,top,bottom⟩ ⟨ch,aU,aJ,false⟩ ao cap;go_enter func167,ntmps167
 go_wp2_with (first
  | (have _t:=d;at_builtin;refine nQ rfl _ _ rfl (some ⟨o,0,none⟩) s 1 ([]++[⟨#[]⟩]) rfl (bs (Ps.dec (29+aU).toNat)) d.out (by omega) _ (by simp) rfl rfl ?_;intro t u v a;obtain⟨⟨_,_,_,_,_,_,_,_,_⟩,_⟩:=nine a.out.gb;obtain⟨⟨_,_,_,_⟩,_⟩:=four a.out.cb;clear d)
  | (have _t:=i;at_builtin;refine nQ rfl _ _ rfl none 0 0 [] rfl (⟨#[]⟩) i.out (by omega) _ (by simp) rfl rfl ?_;intro o s w1 h;have d:=FR h.out;obtain⟨⟨_,_,_,_,_,_,_,_,_⟩,_⟩:=nine h.out.gb;obtain⟨⟨_,_,_,_⟩,_⟩:=four h.out.cb;clear i)
  | (go_at_call 157;refine(c.out _).mono ?_;rintro e _ ⟨rfl,r⟩;subst r)
  | (go_at_call 172;refine(rO a.out (by simp) [[],Ps.dec (29+aU).toNat] (by simp) (by have:=p.out;simp [Lib.join_cons,Lib.joinTail];omega)).mono ?_;rintro e _ ⟨rfl,j⟩)
  | go_in)
 go_ret;exact⟨rfl,j⟩
theorem aco (i:0 < aA) (w:World):
  qR ⟨wide,high,n,f,row,col,aA,false,top,bottom⟩ ao cap ⟨ch,0,aJ,false⟩ [[]] w:=by
 have c:=rM w ⟨wide,high,n,f,row,col,aA,false,top,bottom⟩ ⟨ch,0,aJ,false⟩ ao cap;go_enter func167,ntmps167
 go_wp2_with (first
  | (have:=c;at_builtin;refine nQ rfl _ _ rfl none 0 0 [] rfl (⟨#[]⟩) c.out (by omega) _ (by simp) rfl rfl ?_;intro h j w1 a;have e:=FR a.out;obtain⟨⟨_,_,_,_,_,_,_,_,_⟩,_⟩:=nine a.out.gb;obtain⟨⟨_,_,_,_⟩,_⟩:=four a.out.cb;clear c)
  | (go_at_call 172;refine(rO e.out (by simp) [[]] (by simp) (by simp [Lib.join_cons,Lib.joinTail])).mono ?_;rintro _ _ ⟨rfl,d⟩)
  | go_in)
 go_ret;exact⟨rfl,d⟩
theorem acp (j:1<=aU) (k:aU<=8) (r:0 < aA) (i:aU≠aA) (w:World):
  qR ⟨wide,high,n,f,row,col,aA,false,top,bottom⟩ ao cap ⟨ch,aU,aJ,false⟩ [Ps.dec (29+aU).toNat] w:=by
 have:(aU==0)=false:=by simp;omega
 have:(aU !=aA)=true:=by simpa using i
 have a:=Ap aU j k;have m:=Ar aU j k;have d:=rM w ⟨wide,high,n,f,row,col,aA,false,top,bottom⟩ ⟨ch,aU,aJ,false⟩ ao cap;go_enter func167,ntmps167
 go_wp2_with (first
  | (have:=d;at_builtin;refine nQ rfl _ _ rfl none 0 0 [] rfl (bs (Ps.dec (29+aU).toNat)) d.out (by omega) _ (by simp) rfl rfl ?_;intro p s w1 c;obtain⟨⟨_,_,_,_,_,_,_,_,_⟩,_⟩:=nine c.out.gb;obtain⟨⟨_,_,_,_⟩,_⟩:=four c.out.cb;clear d)
  | (go_at_call 157;refine(a.out _).mono ?_;rintro e _ ⟨rfl,o⟩;subst o)
  | (go_at_call 172;refine(rO c.out (by simp) [Ps.dec (29+aU).toNat] (by simp) (by have:=m.out;simp [Lib.join_cons,Lib.joinTail];omega)).mono ?_;rintro e _ ⟨rfl,h⟩)
  | go_in)
 go_ret;exact⟨rfl,h⟩
theorem acr (i:1<=aU) (j:aU<=8) (w:World):
  qR ⟨wide,high,n,f,row,col,0,false,top,bottom⟩ ao cap ⟨ch,aU,aJ,false⟩ [Ps.dec (29+aU).toNat] w:=by
 have:(aU !=0)=true:=by simp;omega
 have a:=Ap aU i j;have k:=Ar aU i j;have d:=rM w ⟨wide,high,n,f,row,col,0,false,top,bottom⟩ ⟨ch,aU,aJ,false⟩ ao cap;go_enter func167,ntmps167
 go_wp2_with (first
  | (have:=d;at_builtin;refine nQ rfl _ _ rfl none 0 0 [] rfl (bs (Ps.dec (29+aU).toNat)) d.out (by omega) _ (by simp) rfl rfl ?_;intro o p w1 c;obtain⟨⟨_,_,_,_,_,_,_,_,_⟩,_⟩:=nine c.out.gb;obtain⟨⟨_,_,_,_⟩,_⟩:=four c.out.cb;clear d)
  | (go_at_call 157;refine(a.out _).mono ?_;rintro e _ ⟨rfl,m⟩;subst m)
  | (go_at_call 172;refine(rO c.out (by simp) [Ps.dec (29+aU).toNat] (by simp) (by have:=k.out;simp [Lib.join_cons,Lib.joinTail];omega)).mono ?_;rintro e _ ⟨rfl,h⟩)
  | go_in)
 go_ret;exact⟨rfl,h⟩
theorem acz (m:0 < aA) (w:World):
  qR ⟨wide,high,n,f,row,col,aA,true,top,bottom⟩ ao cap ⟨ch,0,aJ,true⟩ [[],[49]] w:=by
 have e:=rM w ⟨wide,high,n,f,row,col,aA,true,top,bottom⟩ ⟨ch,0,aJ,true⟩ ao cap;go_enter func167,ntmps167
 go_wp2_with (first
  | (have _t:=c;at_builtin;refine nQ rfl _ _ rfl (some ⟨i,0,none⟩) j 1 ([]++[⟨#[]⟩]) rfl (⟨#[49]⟩) c.out (by omega) _ (by simp) rfl rfl ?_;intro k o p a;obtain⟨⟨_,_,_,_,_,_,_,_,_⟩,_⟩:=nine a.out.gb;obtain⟨⟨_,_,_,_⟩,_⟩:=four a.out.cb;clear c)
  | (have _t:=e;at_builtin;refine nQ rfl _ _ rfl none 0 0 [] rfl (⟨#[]⟩) e.out (by omega) _ (by simp) rfl rfl ?_;intro i j w1 d;have c:=FR d.out;obtain⟨⟨_,_,_,_,_,_,_,_,_⟩,_⟩:=nine d.out.gb;obtain⟨⟨_,_,_,_⟩,_⟩:=four d.out.cb;clear e)
  | (go_at_call 172;refine(rO a.out (by simp) [[],[49]] (by simp) (by simp [Lib.join_cons,Lib.joinTail])).mono ?_;rintro _ _ ⟨rfl,h⟩)
  | go_in)
 go_ret;exact⟨rfl,h⟩
theorem acA (j:1<=aU) (k:aU<=8) (r:0 < aA) (i:aU≠aA) (w:World):
  qR ⟨wide,high,n,f,row,col,aA,true,top,bottom⟩ ao cap ⟨ch,aU,aJ,true⟩ [Ps.dec (29+aU).toNat] w:=by
 have:(aU==0)=false:=by simp;omega
 have:(aU !=aA)=true:=by simpa using i
 have a:=Ap aU j k;have m:=Ar aU j k;have d:=rM w ⟨wide,high,n,f,row,col,aA,true,top,bottom⟩ ⟨ch,aU,aJ,true⟩ ao cap;go_enter func167,ntmps167
 go_wp2_with (first
  | (have:=d;at_builtin;refine nQ rfl _ _ rfl none 0 0 [] rfl (bs (Ps.dec (29+aU).toNat)) d.out (by omega) _ (by simp) rfl rfl ?_;intro p s w1 c;obtain⟨⟨_,_,_,_,_,_,_,_,_⟩,_⟩:=nine c.out.gb;obtain⟨⟨_,_,_,_⟩,_⟩:=four c.out.cb;clear d)
  | (go_at_call 157;refine(a.out _).mono ?_;rintro e _ ⟨rfl,o⟩;subst o)
  | (go_at_call 172;refine(rO c.out (by simp) [Ps.dec (29+aU).toNat] (by simp) (by have:=m.out;simp [Lib.join_cons,Lib.joinTail];omega)).mono ?_;rintro e _ ⟨rfl,h⟩)
  | go_in)
 go_ret;exact⟨rfl,h⟩
theorem acB (i:1<=aU) (j:aU<=8) (w:World):
  qR ⟨wide,high,n,f,row,col,0,true,top,bottom⟩ ao cap ⟨ch,aU,aJ,true⟩ [Ps.dec (29+aU).toNat] w:=by
 have:(aU !=0)=true:=by simp;omega
 have a:=Ap aU i j;have k:=Ar aU i j;have d:=rM w ⟨wide,high,n,f,row,col,0,true,top,bottom⟩ ⟨ch,aU,aJ,true⟩ ao cap;go_enter func167,ntmps167
 go_wp2_with (first
  | (have:=d;at_builtin;refine nQ rfl _ _ rfl none 0 0 [] rfl (bs (Ps.dec (29+aU).toNat)) d.out (by omega) _ (by simp) rfl rfl ?_;intro o p w1 c;obtain⟨⟨_,_,_,_,_,_,_,_,_⟩,_⟩:=nine c.out.gb;obtain⟨⟨_,_,_,_⟩,_⟩:=four c.out.cb;clear d)
  | (go_at_call 157;refine(a.out _).mono ?_;rintro e _ ⟨rfl,m⟩;subst m)
  | (go_at_call 172;refine(rO c.out (by simp) [Ps.dec (29+aU).toNat] (by simp) (by have:=k.out;simp [Lib.join_cons,Lib.joinTail];omega)).mono ?_;rintro e _ ⟨rfl,h⟩)
  | go_in)
 go_ret;exact⟨rfl,h⟩
theorem acs (m:0 < aA) (w:World):
  qR ⟨wide,high,n,f,row,col,aA,false,top,bottom⟩ ao cap ⟨ch,0,aJ,true⟩ [[],[49]] w:=by
 have e:=rM w ⟨wide,high,n,f,row,col,aA,false,top,bottom⟩ ⟨ch,0,aJ,true⟩ ao cap;go_enter func167,ntmps167
 go_wp2_with (first
  | (have _t:=c;at_builtin;refine nQ rfl _ _ rfl (some ⟨i,0,none⟩) j 1 ([]++[⟨#[]⟩]) rfl (⟨#[49]⟩) c.out (by omega) _ (by simp) rfl rfl ?_;intro k o p a;obtain⟨⟨_,_,_,_,_,_,_,_,_⟩,_⟩:=nine a.out.gb;obtain⟨⟨_,_,_,_⟩,_⟩:=four a.out.cb;clear c)
  | (have _t:=e;at_builtin;refine nQ rfl _ _ rfl none 0 0 [] rfl (⟨#[]⟩) e.out (by omega) _ (by simp) rfl rfl ?_;intro i j w1 d;have c:=FR d.out;obtain⟨⟨_,_,_,_,_,_,_,_,_⟩,_⟩:=nine d.out.gb;obtain⟨⟨_,_,_,_⟩,_⟩:=four d.out.cb;clear e)
  | (go_at_call 172;refine(rO a.out (by simp) [[],[49]] (by simp) (by simp [Lib.join_cons,Lib.joinTail])).mono ?_;rintro _ _ ⟨rfl,h⟩)
  | go_in)
 go_ret;exact⟨rfl,h⟩
theorem acv (h:0 < aA) (w:World):
  qR ⟨wide,high,n,f,row,col,aA,false,top,bottom⟩ ao cap ⟨ch,aA,aJ,true⟩ [[49]] w:=by
 have:(aA==0)=false:=by simp;omega
 have c:=rM w ⟨wide,high,n,f,row,col,aA,false,top,bottom⟩ ⟨ch,aA,aJ,true⟩ ao cap;go_enter func167,ntmps167
 go_wp2_with (first
  | (have:=c;at_builtin;refine nQ rfl _ _ rfl none 0 0 [] rfl (⟨#[49]⟩) c.out (by omega) _ (by simp) rfl rfl ?_;intro e i w1 a;obtain⟨⟨_,_,_,_,_,_,_,_,_⟩,_⟩:=nine a.out.gb;obtain⟨⟨_,_,_,_⟩,_⟩:=four a.out.cb;clear c)
  | (go_at_call 172;refine(rO a.out (by simp) [[49]] (by simp) (by simp [Lib.join_cons,Lib.joinTail])).mono ?_;rintro _ _ ⟨rfl,d⟩)
  | go_in)
 go_ret;exact⟨rfl,d⟩
theorem acw (w:World):
  qR ⟨wide,high,n,f,row,col,0,false,top,bottom⟩ ao cap ⟨ch,0,aJ,true⟩ [[49]] w:=by
 have c:=rM w ⟨wide,high,n,f,row,col,0,false,top,bottom⟩ ⟨ch,0,aJ,true⟩ ao cap;go_enter func167,ntmps167
 go_wp2_with (first
  | (have:=c;at_builtin;refine nQ rfl _ _ rfl none 0 0 [] rfl (⟨#[49]⟩) c.out (by omega) _ (by simp) rfl rfl ?_;intro e h w1 a;obtain⟨⟨_,_,_,_,_,_,_,_,_⟩,_⟩:=nine a.out.gb;obtain⟨⟨_,_,_,_⟩,_⟩:=four a.out.cb;clear c)
  | (go_at_call 172;refine(rO a.out (by simp) [[49]] (by simp) (by simp [Lib.join_cons,Lib.joinTail])).mono ?_;rintro _ _ ⟨rfl,d⟩)
  | go_in)
 go_ret;exact⟨rfl,d⟩
theorem acu (k:1<=aU) (m:aU<=8) (u:0 < aA) (j:aU≠aA) (w:World):
  qR ⟨wide,high,n,f,row,col,aA,false,top,bottom⟩ ao cap ⟨ch,aU,aJ,true⟩ [[49],Ps.dec (29+aU).toNat] w:=by
 have:(aU==0)=false:=by simp;omega
 have:(aU !=aA)=true:=by simpa using j
 have d:=Ap aU k m;have p:=Ar aU k m;have h:=rM w ⟨wide,high,n,f,row,col,aA,false,top,bottom⟩ ⟨ch,aU,aJ,true⟩ ao cap;go_enter func167,ntmps167
 go_wp2_with (first
  | (have _t:=c;at_builtin;refine nQ rfl _ _ rfl (some ⟨o,0,none⟩) s 1 ([]++[⟨#[49]⟩]) rfl (bs (Ps.dec (29+aU).toNat)) c.out (by omega) _ (by simp) rfl rfl ?_;intro t v x a;obtain⟨⟨_,_,_,_,_,_,_,_,_⟩,_⟩:=nine a.out.gb;obtain⟨⟨_,_,_,_⟩,_⟩:=four a.out.cb;clear c)
  | (have _t:=h;at_builtin;refine nQ rfl _ _ rfl none 0 0 [] rfl (⟨#[49]⟩) h.out (by omega) _ (by simp) rfl rfl ?_;intro o s w1 c;obtain⟨⟨_,_,_,_,_,_,_,_,_⟩,_⟩:=nine c.out.gb;obtain⟨⟨_,_,_,_⟩,_⟩:=four c.out.cb;clear h)
  | (go_at_call 157;refine(d.out _).mono ?_;rintro e _ ⟨rfl,r⟩;subst r)
  | (go_at_call 172;refine(rO a.out (by simp) [[49],Ps.dec (29+aU).toNat] (by simp) (by have:=p.out;simp [Lib.join_cons,Lib.joinTail];omega)).mono ?_;rintro e _ ⟨rfl,i⟩)
  | go_in)
 go_ret;exact⟨rfl,i⟩
theorem acy (j:1<=aU) (k:aU<=8) (w:World):
  qR ⟨wide,high,n,f,row,col,0,false,top,bottom⟩ ao cap ⟨ch,aU,aJ,true⟩ [[49],Ps.dec (29+aU).toNat] w:=by
 have:(aU !=0)=true:=by simp;omega
 have d:=Ap aU j k;have o:=Ar aU j k;have h:=rM w ⟨wide,high,n,f,row,col,0,false,top,bottom⟩ ⟨ch,aU,aJ,true⟩ ao cap;go_enter func167,ntmps167
 go_wp2_with (first
  | (have _t:=c;at_builtin;refine nQ rfl _ _ rfl (some ⟨m,0,none⟩) r 1 ([]++[⟨#[49]⟩]) rfl (bs (Ps.dec (29+aU).toNat)) c.out (by omega) _ (by simp) rfl rfl ?_;intro s t u a;obtain⟨⟨_,_,_,_,_,_,_,_,_⟩,_⟩:=nine a.out.gb;obtain⟨⟨_,_,_,_⟩,_⟩:=four a.out.cb;clear c)
  | (have _t:=h;at_builtin;refine nQ rfl _ _ rfl none 0 0 [] rfl (⟨#[49]⟩) h.out (by omega) _ (by simp) rfl rfl ?_;intro m r w1 c;obtain⟨⟨_,_,_,_,_,_,_,_,_⟩,_⟩:=nine c.out.gb;obtain⟨⟨_,_,_,_⟩,_⟩:=four c.out.cb;clear h)
  | (go_at_call 157;refine(d.out _).mono ?_;rintro e _ ⟨rfl,p⟩;subst p)
  | (go_at_call 172;refine(rO a.out (by simp) [[49],Ps.dec (29+aU).toNat] (by simp) (by have:=o.out;simp [Lib.join_cons,Lib.joinTail];omega)).mono ?_;rintro e _ ⟨rfl,i⟩)
  | go_in)
 go_ret;exact⟨rfl,i⟩
variable {w w1 w3 w':World} {oo:Option Addr} {pb b cap oc:Nat} {l:List UInt8} {g:Gr} {q:bU}
theorem UY {B:Nat} (h:Below B w.drew w1):Below B w w1:=⟨h.os,h.tape,h.output,h.size,h.block⟩
theorem uQ {base n:Nat} {j:List Value} (h:w.ownsRow base 5 1 (.slice oo n oc) n j) {p:Addr} (r:fQ oo≠some p.block) (u:Value):(w.setCell p u).ownsRow base 5 1 (.slice oo n oc) n j:=by
 refine⟨h.1,?_⟩;rcases h.2 with o | ⟨g,c,d,i,k,m,a⟩
 ·exact .inl o
 ·refine .inr ⟨g,c,d,i,k,?_,a⟩;rw [Below.heap_setCell _ _ _ _ (fun e=>r (by simp only [Value.slice.injEq] at i;rw [i.1];simp [fQ,e]))];exact m
theorem Kept.set {o1:Option Addr} (h:Kept w w1 pb b oo o1) (j:Nat) (u:Value):Kept w (w1.setCell ⟨pb,j,none⟩ u) pb b oo o1:=
 ⟨h.os,h.tape,h.output,by have:=h.size;simpa using this,fun k e a c d=>(Below.heap_setCell _ _ _ _ a).trans (h.block k e a c d),h.fresh⟩
theorem aW.set2 {x:Gr} (h:aW w pb b cap oo ⟨l,g⟩ w3) (i j:Nat) (u v:Value) (k:x.n=g.n) (d:x.f=g.f) (m:∀ oo oc,((dD l.length oo oc g b cap).setIfInBounds i u).setIfInBounds j v=dD l.length oo oc x b cap):
  aW w pb b cap oo ⟨l,x⟩ ((w3.setCell ⟨pb,i,none⟩ u).setCell ⟨pb,j,none⟩ v):=by
 obtain⟨o,c,a,e⟩:=h;refine⟨o,c,⟨?_,uQ (uQ a.own a.n2 _) a.n2 _,?_⟩,(e.set i u).set j v⟩
 ·rw [bG (bG a.box _) _,m]
 ·show av _ b x.n x.f;rw [k,d];exact(a.bM.set a.n1 _).set a.n1 _
theorem aW.moved (h:aW w pb b cap oo ⟨l,g⟩ w3) (r c:Int):
  aW w pb b cap oo ⟨l,Bo g r c⟩ ((w3.setCell ⟨pb,4,none⟩ (.int .i64 r)).setCell ⟨pb,5,none⟩ (.int .i64 c)):=
 h.set2 4 5 _ _ rfl rfl (fun _ _=>rfl)
theorem aW.drew (h:aW w pb b cap oo q w'):aW w pb b cap oo q w'.drew:=by
 obtain⟨d,c,a,k⟩:=h;exact⟨d,c,⟨a.box,a.own.drew,a.bM⟩,⟨k.os,k.tape,k.output,k.size,k.block,k.fresh⟩⟩
theorem LJ {p:bU} (h:eO w pb b cap oo oc p) (d:Below w.heap.size w w1) (a:aW w1 pb b cap oo q w'):aW w pb b cap oo q w'∧∀ k,w.heap.size<=k->k < w1.heap.size->w'.heap[k]?=w1.heap[k]?:=by
 refine⟨aW.trans (Kept.below pb b oo d) a,fun k i c=>?_⟩;obtain⟨_,_,_,z⟩:=a;exact z.block k c (by have:=h.lt;omega) (by have:=h.blt;omega) (fun e=>by have:=h.xR e;omega)
theorem Vm {p:bU} (h:eO w pb b cap oo oc p) (a:Below w.heap.size w w1) (S:ByteArray) (d:p.out.length+S.size<=1048576) (l:List UInt8) (i:S.data.toList=l):
  kC 109 #[.pointer (some ⟨pb,0,none⟩),.string S] w1 fun e w'=>e=.returned (.tuple #[])∧aW w pb b cap oo ⟨p.out++l,p.g⟩ w'∧∀ k,w.heap.size<=k->k < w1.heap.size->w'.heap[k]?=w1.heap[k]?:=by
 subst i;exact(J6 pb b cap oo oc p S w1 (h.later a) d).mono fun e w' c=>⟨c.1,LJ h a c.2⟩
theorem ab5 (pb b cap:Nat) (oo:Option Addr) (oc:Nat) (p:bU) (r c:Int) (d:p.g.row=r) (a:p.g.col=c) (w:World) (h:eO w pb b cap oo oc p):
  kC 134 #[.pointer (some ⟨pb,0,none⟩),.int .i64 r,.int .i64 c] w fun e w'=>e=.returned (.tuple #[])∧aW w pb b cap oo (dh p r c) w':=by
 have i:Hid (aW w pb b cap oo (dh p r c) w):=by
  have e:dh p r c=p:=by
   unfold dh oC;rw [if_pos ⟨d,a⟩, <-d, <-a];simp [Bo]
  rw [e];exact h.stay (Below.refl _ _)
 have:(p.g.row==r)=true:=by simpa using d
 have:(p.g.col==c)=true:=by simpa using a
 obtain⟨⟨_,_,_,_,_,_,_,_,_,_⟩,_⟩:=ten h.box;have:=h.lt;clear h d a;go_enter func134,ntmps134;go_wp2;exact bodyPost_ret (v:=.tuple #[]) (by simp [results,results134,go_sem]) rfl ⟨rfl,i.out⟩
theorem ab4 (pb b cap:Nat) (oo:Option Addr) (oc:Nat) (p:bU) (r c:Int) (Y:0<=r) (Z:r < 90) (h3:0<=c) (h4:c < 90) (s:¬ (p.g.row=r∧p.g.col=c)) (R:p.out.length<=1000000) (w:World) (h:eO w pb b cap oo oc p):
  kC 134 #[.pointer (some ⟨pb,0,none⟩),.int .i64 r,.int .i64 c] w fun e w'=>e=.returned (.tuple #[])∧aW w pb b cap oo (dh p r c) w':=by
 obtain⟨T,_,u,i⟩:=R7 (r+1) (by omega) (by omega);obtain⟨U,_,v,N⟩:=R7 (c+1) (by omega) (by omega);have t:Hid (oC p.g r c=27::91::(Ps.dec (r+1).toNat++59::(Ps.dec (c+1).toNat++[72]))):=by show oC p.g r c=_;unfold oC;rw [if_neg s];rfl
 have V:Hid (∀ w1,Below w.heap.size w w1->kC 109 #[.pointer (some ⟨pb,0,none⟩),.string (⟨#[27,91]⟩++T++⟨#[59]⟩++U++⟨#[72]⟩)] w1 fun e w'=>e=.returned (.tuple #[])∧aW w pb b cap oo ⟨p.out++oC p.g r c,p.g⟩ w'∧∀ k,w.heap.size<=k->k < w1.heap.size->w'.heap[k]?=w1.heap[k]?):=fun w1 j=>Vm h j _ (by simp only [ByteArray.size_append];show p.out.length+(2+T.size+1+U.size+1)<=_;omega) _ (by rw [t.out,u.out,v.out];simp);have O:Hid (∀ d,aW w pb b cap oo ⟨p.out++oC p.g r c,p.g⟩ d->aW w pb b cap oo (dh p r c) ((d.setCell ⟨pb,4,none⟩ (.int .i64 r)).setCell ⟨pb,5,none⟩ (.int .i64 c))):=fun d Q=>Q.moved r c;have:¬ 9223372036854775807 < 2+T.size:=by omega
 have:¬ 9223372036854775807 < 2+T.size+1:=by omega
 have:¬ 9223372036854775807 < 2+T.size+1+U.size:=by omega
 have:¬ 9223372036854775807 < 2+T.size+1+U.size+1:=by omega
 have:Hid (∀ w1,Below w.heap.size w w1->w1.heap[pb]?=some (je p.out.length oo oc p.g b cap)):=fun w1 j=>aG j h.box h.lt;obtain⟨⟨x,y,z,A,B,D,E,F,H,I⟩,J⟩:=ten h.box;have:=h.lt;clear h u v t R;have o:(p.g.row==r)=true∧(p.g.col==c)=false∨(p.g.row==r)=false:=by
  by_cases m:p.g.row=r
  ·exact .inl ⟨by simpa using m,by simpa [m] using s⟩
  ·exact .inr (by simpa using m)
 clear s;rcases o with ⟨P,X⟩ | P
 all_goals (
  go_enter func134,ntmps134
  go_wp2_with (first
   | (go_at_call 157;have _t:=i;refine(i.out _).mono ?_;rintro e w1 ⟨rfl,_⟩;subst w1;clear i _t)
   | (go_at_call 157;refine(N.out _).mono ?_;rintro e W ⟨rfl,_⟩;subst W)
   | (go_at_call 109;refine(V.out _ (Below.refl _ _)).mono ?_;rintro e d ⟨rfl,a,_⟩;clear x y z A B D E F H I J;have S:=gH a;obtain⟨_,_,K,_⟩:=a;obtain⟨⟨x,y,z,A,B,D,E,F,H,I⟩,J⟩:=ten K.box;clear K))
  have M:=gH (O.out d S.out)
  go_end0
  exact⟨rfl,M.out⟩)
theorem Sn (pb b cap:Nat) (oo:Option Addr) (oc:Nat) (p:bU) (d:OkG p.g) (r c:Int) (i:0<=r) (m:r < p.g.high) (j:0<=c) (o:c < p.g.wide) (k:p.out.length<=1000000) (w:World) (h:eO w pb b cap oo oc p):
  kC 134 #[.pointer (some ⟨pb,0,none⟩),.int .i64 r,.int .i64 c] w fun e w'=>e=.returned (.tuple #[])∧aW w pb b cap oo (dh p r c) w':=by
 have:=d.w2;have:=d.h2;by_cases a:p.g.row=r∧p.g.col=c
 ·exact ab5 pb b cap oo oc p r c a.1 a.2 w h
 ·exact ab4 pb b cap oo oc p r c i (by omega) j (by omega) a k w h
end Go.Proofs.YtkcdcamophkdlaaGreatDoor
