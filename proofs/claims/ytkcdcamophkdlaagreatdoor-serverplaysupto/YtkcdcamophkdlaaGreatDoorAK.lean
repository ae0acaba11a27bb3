import Derived.Test.YtkcdcamophkdlaaGreatDoorAJ
set_option maxHeartbeats 2000000
open Go.Proofs.Tryz
namespace Go.Proofs.YtkcdcamophkdlaaGreatDoor
open Go.RowKit
variable (g:Gr)
theorem WO (G:OkG g) (ao:Option Addr) (cap:Nat) (lo:Option Addr) (a:List wH) (lc:Nat) (w:World) (F:aL w ao g.n g.f) (hn:ao=none->g.n=0∧cap=0) (D:yN w lo a) (hl:a.length<=140737488355328) (ac:0 < a.length) (hd:∀ x∈a,dV x.1=0->uT x.1 x.2.1 x.2.2) (r:Gr×Int) (ad:r=iR g (a.map (·.1))):
  kC 90 #[ay g ao cap,.slice lo a.length lc] w (AllEnd w r):=by
 have hm:g.n<=240:=by obtain⟨_,_,_⟩:=G.nums;omega
 have aa:0 < g.n:=by
  have h1:=G.size;have h2:1*g.high<=g.wide*g.high:=rR G.w1 (by have:=G.h1;omega);have:=G.h1;omega
 have HR:=gH F;have Bw:=gH D;have HD:=gH hd;have U:=gH ad;have iF:=gH G;have GX:=gH aa;have fq:Hid (∀ w,aL w ao g.n g.f->kC 17 #[.slice ao g.n cap] w fun e w'=>∃ p d,e=.returned (.slice p g.n d)∧eH w g.n g.f p d w'):=fun w F=>uD ao cap g.n g.f w F hn (by omega);have dZ:Hid (∀ w p d,aL w p g.n g.f->kA 81 #[ay g p d] w (.bool true)):=fun w p d F=>jT g p d w F (by omega) true ((iT g).2 G).symm;have S:Hid (∀ Q R:Obj,Below w.heap.size w ((w.alloc Q).alloc R)):=fun Q R=>(aM _ _).alloc (by simp) _;have:(0:Int) < (a.length:Int):=by omega
 clear F hn hm D hd ad G ac aa;go_enter func90,ntmps90;go_upto_region 1 with fail;go_cut [] from 9 to 12 (fun wx=>∃ p d,Start w g p d wx)
 case first=>
  go_wp2_with (go_at_call 17;refine(fq.out _ (HR.out.below (S.out _ _))).mono ?_;rintro e w1 ⟨p,d,rfl,I⟩;have fG:=gH I;obtain⟨⟨x0,x1,x2,x3,x4,x5,x6,x7,x8⟩,z⟩:=nine (aG I.2.2 (aF (at_new w _) _) (by simp;omega));clear I);go_meet;exact⟨p,d,JW fG.out⟩
 case rest=>
  obtain⟨p,d,L⟩:=hcut;obtain⟨⟨x0,x1,x2,x3,x4,x5,x6,x7,x8⟩,z⟩:=nine L.box;have o:=gH L;clear L fq HR;go_wp2_with (go_at_call 81;refine(dZ.out _ p d o.out.rd).mono ?_;rintro e _ ⟨rfl,W⟩;have HB:=gH W;clear W);clear x0 x1 x2 x3 x4 x5 x6 x7 x8 z dZ S;go_loopw [24] (fun i wr=>∃ (k:Nat) (x:Gr) (b c:Nat),k<=a.length∧i=.int .i64 k∧yu w g (a.map (·.1)) k x b c wr) (fun i _=>a.length - (intOf i).toNat)
  case atStart=>
   obtain⟨b,rfl,hb,hc,hs⟩:=o.out.bM GX.out;have k1:=aG HB.out o.out.box (gQ o.out.box).1;have k2:=aG HB.out o.out.res (gQ o.out.res).1;exact⟨0,g,b,d,Nat.zero_le _,rfl,iF.out,rfl,k1,k2,hs.below HB.out hs.lt,hc,hb,o.out.below.trans (HB.out.mono o.out.below.size)⟩
  case round=>
   obtain⟨k,x,b,c,hk,rfl,j⟩:=hrel;have m:=gH j;obtain⟨⟨x0,x1,x2,x3,x4,x5,x6,x7,x8⟩,z⟩:=nine j.box;obtain⟨⟨_,_,_,_,_,_,_,_,_⟩,v⟩:=nine j.res;have:w.heap.size+1 < wr.heap.size:=(gQ j.res).1;have:w.heap.size < wr.heap.size:=(by omega);by_cases s:k < a.length
   ·have hE:=Bw.out.below j.below;obtain⟨P,u,rfl,C⟩:∃ P u,lo=some ⟨P,u,none⟩∧∀ k (hk:k < a.length),wr.cell? ⟨P,u+k*4,none⟩=some (.int .i64 a[k].1.kind)∧wr.cell? ⟨P,u+k*4+1,none⟩=some (.int .i64 a[k].1.b)∧wr.cell? ⟨P,u+k*4+2,none⟩=some (.slice a[k].2.1 a[k].1.ps.length a[k].2.2)∧wr.cell? ⟨P,u+k*4+3,none⟩=some (.string a[k].1.pl):=by
     rcases hE.2 with h0 | h0
     ·rw [h0] at s;simp at s
     ·exact h0
    obtain⟨t0,t1,t2,t3⟩:=C k s;have ah:=World.block_lt_of_cell? _ _ t0;simp only at ah;have:(k:Int) < (a.length:Int):=(by omega);have:(0:Int)<=(k:Int):=(by omega);have E:a[k]∈a:=List.getElem_mem s;have qQ:Hid (bV wr a[k].2.1 a[k].1.ps):=hE.1 _ E;have A:Hid (dV a[k].1=0->uT a[k].1 a[k].2.1 a[k].2.2):=HD.out _ E;have Z:k < (a.map (·.1)).length:=(by simpa using s);have K:(a.map (·.1))[k]=a[k].1:=(by simp);obtain⟨ev,D⟩:∃ ev,ev=a[k]:=⟨_,rfl⟩;rw [<-D] at t0 t1 t2 t3 qQ A K;have Eh:Hid (∃ h:k < (a.map (·.1)).length,(a.map (·.1))[k]=ev.1):=⟨Z,K⟩;clear hE C E Z K D j;obtain⟨e,H,N⟩:=ev;simp only at t0 t1 t2 t3 qQ A Eh;obtain⟨q,O⟩:∃ q,q=dV e:=⟨_,rfl⟩;have T:Hid (∀ w,kC 104 #[eval e H N] w fun r w'=>r=.returned (.int .i64 q)∧w'=w.alloc (fC (e,H,N))):=fun w=>(by rw [O];exact XW e H N w);by_cases t:q=0
    ·obtain⟨y,hy⟩:∃ y,y=nZ x e:=⟨_,rfl⟩;have ag:Hid (∀ w,av w b x.n x.f->bV w H e.ps->kC 105 #[ay x (some ⟨b,0,none⟩) c,eval e H N] w (jr w b y)):=fun w h1 h2=>A.out (by rw [<-O];exact t) x m.out.ok b c w h1 m.out.caps h2 y hy;have M:Hid (dV e=0∧y=nZ x e):=⟨by rw [<-O];exact t,hy⟩;clear O hy A;subst t
     go_wp2_with (first
      | (go_at_call 104;refine(T.out _).mono ?_;rintro e1 w1 ⟨rfl,rfl⟩)
      | (go_at_call 105;refine(ag.out _ ((m.out.bM.alloc _).alloc _) (qQ.out.below ((aM _ _).alloc (by simp) _))).mono ?_;rintro e1 w3 ⟨b',Qh,rfl,ae,Y,J,X⟩;have HF:Hid (∃ Q R:Obj,av w3 b' y.n y.f∧y.n<=Qh∧((wr.alloc Q).alloc R).grownBy w3 (some b)∧(b'=b∨((wr.alloc Q).alloc R).heap.size<=b')):=⟨_,_,ae,Y,J,X⟩;obtain⟨⟨_,_,_,_,_,_,_,_,_⟩,_⟩:=nine (bH J (aF (aF m.out.box _) _) (by have:=m.out.own;simp;omega));clear ae Y J X))
     go_roundw
     case rel=>
      obtain⟨Q,R,f1,f2,f3,f4⟩:=HF.out;obtain⟨g1,V⟩:=Eh.out;refine⟨k+1,y,b',Qh,by omega,by go_num,WJ m.out g1 (by rw [V];exact M.out.1) (by rw [V];exact M.out.2) f1 f2 f3 f4⟩
     case measure=>simp [intOf];omega
    ·have:(q==0)=false:=(by simp [t]);have M:Hid (q=dV e∧q≠0):=⟨O,t⟩;clear O t A;go_wp2_with (go_at_call 104;refine(T.out _).mono ?_;rintro e1 w1 ⟨rfl,rfl⟩);refine bodyPost_ret (v:=.tuple #[ay x (some ⟨b,0,none⟩) c,.int .i64 q]) (by simp [results,results90,go_sem, *]) rfl ?_;obtain⟨g1,V⟩:=Eh.out;have F:r=(x,q):=(by rw [U.out,WK m.out g1 (by rw [V, <-M.out.1];exact M.out.2),V,M.out.1]);rw [F];have:=m.out.below.size;have ab:=m.out.own;have af:=((iC m.out.bM (B:=w.heap.size+1) (by omega) (.int .i64 x.wide) (.int .i64 x.high) (.slice (some ⟨b,0,none⟩) x.n c) (.int .i64 x.row) (.int .i64 x.col) (.int .i64 x.aA) (.bool x.bold) (.int .i64 x.top) (.int .i64 x.bottom)).alloc (fC (e,H,N))).alloc (fC (e,H,N));exact⟨some ⟨b,0,none⟩,c,rfl,af.rd,fun _=>⟨b,rfl,by omega,m.out.caps,af⟩,((iZ m.out.below (by omega) _ _ _ _ _ _ _ _ _).alloc (by simp;omega) _).alloc (by simp;omega) _⟩
   ·clear j;go_wp2;refine bodyPost_ret (v:=.tuple #[ay x (some ⟨b,0,none⟩) c,.int .i64 0]) (by simp [results,results90,go_sem, *]) rfl ?_;have F:r=(x,0):=(by rw [U.out,WI m.out (by simpa using s)]);rw [F];have ab:=m.out.own;exact⟨some ⟨b,0,none⟩,c,rfl,m.out.rd _ _ _ _ _ _ _ _ _,fun _=>⟨b,rfl,by omega,m.out.caps,iC m.out.bM (by omega) _ _ _ _ _ _ _ _ _⟩,iZ m.out.below (by omega) _ _ _ _ _ _ _ _ _⟩
theorem all_some (ao:Option Addr) (cap:Nat) (h:Option Addr) (a:List wH) (k:Nat) (w:World) (p:aL w ao g.n g.f) (o:ao=none->g.n=0∧cap=0) (s:g.n<=4398046511104) (j:yN w h a) (m:a.length<=140737488355328) (d:0 < a.length) (q:∀ x∈a,dV x.1=0->uT x.1 x.2.1 x.2.2) (r:Gr×Int) (c:r=if kE g then iR g (a.map (·.1)) else (g,1)):
  kC 90 #[ay g ao cap,.slice h a.length k] w (AllEnd w r):=by
 cases e:kE g
 ·rw [e] at c;rw [c];exact WQ g ao cap h a.length k w p o s d m e
 ·rw [e] at c;exact WO g ((iT g).1 e) ao cap h a k w p o j m d q r c
variable (g:Gr) (l:List Int) (ao:Option Addr) (cap i:Nat) {w wr:World} {x:Gr}
theorem SF (w:World) (c:bV w ao l) (j:i<=1):
  kD 146 #[.slice ao l.length cap,.int .i64 i] w (.int .i64 (fE l i)):=by
 by_cases h:i < l.length
 ·obtain⟨_,_,rfl,f⟩:=c.resolve_left (fun e=>by rw [e] at h;simp at h);have t:=f i h;obtain⟨y,d⟩:∃ y,y=l.getD i 0:=⟨_,rfl⟩;rw [<-d] at t;have a:Hid (fE l i=max 0 (min y 999)):=(by show fE l i=_;rw [d];rfl);have:(i:Int) < (l.length:Int):=(by omega);have:(0:Int)<=(i:Int):=(by omega);clear f d c h j;go_enter func146,ntmps146;go_wp2_with (go_at_call 80;refine(yj _ _ _ _).mono ?_;rintro e _ ⟨rfl,rfl⟩);go_ret;exact⟨by rw [a.out];rfl,rfl⟩
 ·have a:Hid (fE l i=0):=by
   show fE l i=0;unfold fE;rw [List.getD_eq_getElem?_getD,List.getElem?_eq_none (by omega)]
   rfl
  have:(l.length:Int)<=(i:Int):=(by omega);clear h c;go_enter func146,ntmps146;go_wp2;go_ret;exact⟨by rw [a.out];rfl,rfl⟩
theorem Jt:0<=fE l i∧fE l i<=999:=by unfold fE;omega
def Ko (w:World) (x:Gr) (ao:Option Addr) (cap:Nat) (e:Ending) (w':World):Prop:=e=.returned (ay x ao cap)∧Below w.heap.size w w'
theorem afU (n q:Int) (w:World) (u:1<=n) (y:n<=999) (z:0<=q) (A:q<=999) (x:Gr) (r:x=nM g n q):
  kC 152 #[ay g ao cap,.int .i64 n,.int .i64 q] w (Ko w x ao cap):=by
 have k:=gH r;have e:Hid (∀ s t:Obj,Below w.heap.size w ((w.alloc s).alloc t)):=fun s t=>(aM _ _).alloc (by simp) _;clear r;by_cases m:q=0∨g.high < q
 ·have a:Hid (oU g q=g.high):=(by show oU g q=_;unfold oU;rw [if_pos m]);have p:q=0∨(¬ q=0∧g.high < q):=(by omega);clear m;by_cases c:n<=g.high
  ·have d:Hid (x={g with top:=n - 1,bottom:=g.high,row:=0,col:=0}):=by
    show x=_;rw [k.out];unfold nM;rw [a.out,if_pos c]
   rcases p with rfl | ⟨f,j⟩
   ·go_enter func152,ntmps152;go_wp2;refine bodyPost_ret (v:=ay {g with top:=n - 1,bottom:=g.high,row:=0,col:=0} ao cap) (by simp [results,results152,go_sem]) rfl ?_;rw [d.out];exact⟨rfl,e.out _ _⟩
   ·have h:(q==0)=false:=(by simp [f]);clear f;go_enter func152,ntmps152;go_wp2;refine bodyPost_ret (v:=ay {g with top:=n - 1,bottom:=g.high,row:=0,col:=0} ao cap) (by simp [results,results152,go_sem]) rfl ?_;rw [d.out];exact⟨rfl,e.out _ _⟩
  ·have d:Hid (x=g):=by
    show x=_;rw [k.out];unfold nM;rw [a.out,if_neg c]
   have o:g.high < n:=(by omega);rcases p with rfl | ⟨f,j⟩
   ·go_enter func152,ntmps152;go_wp2;refine bodyPost_ret (v:=ay g ao cap) (by simp [results,results152,go_sem]) rfl ?_;rw [d.out];exact⟨rfl,e.out _ _⟩
   ·have h:(q==0)=false:=(by simp [f]);clear f;go_enter func152,ntmps152;go_wp2;refine bodyPost_ret (v:=ay g ao cap) (by simp [results,results152,go_sem]) rfl ?_;rw [d.out];exact⟨rfl,e.out _ _⟩
 ·have a:Hid (oU g q=q):=(by show oU g q=_;unfold oU;rw [if_neg m]);have h:(q==0)=false:=(by simp;omega);have j:q<=g.high:=(by omega);clear m;by_cases c:n<=q
  ·have d:Hid (x={g with top:=n - 1,bottom:=q,row:=0,col:=0}):=by
    show x=_;rw [k.out];unfold nM;rw [a.out,if_pos c]
   go_enter func152,ntmps152;go_wp2;refine bodyPost_ret (v:=ay {g with top:=n - 1,bottom:=q,row:=0,col:=0} ao cap) (by simp [results,results152,go_sem]) rfl ?_;rw [d.out];exact⟨rfl,e.out _ _⟩
  ·have d:Hid (x=g):=by
    show x=_;rw [k.out];unfold nM;rw [a.out,if_neg c]
   have o:q < n:=(by omega);go_enter func152,ntmps152;go_wp2;refine bodyPost_ret (v:=ay g ao cap) (by simp [results,results152,go_sem]) rfl ?_;rw [d.out];exact⟨rfl,e.out _ _⟩
structure ni (w:World) (x:Gr) (ao:Option Addr) (cap:Nat) (wr:World):Prop where
 box:wr.heap[w.heap.size]?=some (aB x ao cap)
 res:wr.heap[w.heap.size+1]?=some aV
 below:Below w.heap.size w wr
theorem ni.aA {ao:Option Addr} {cap:Nat} (h:ni w x ao cap wr) (k:Int):ni w {x with aA:=k} ao cap (wr.setCell ⟨w.heap.size,5,none⟩ (.int .i64 k)):=by
 have a:=heap_setCell_same wr w.heap.size 5 _ _ (.int .i64 k) h.box;exact⟨a,cO h.res (by omega),h.below.setCell (Nat.le_refl _) _⟩
theorem ni.bold {ao:Option Addr} {cap:Nat} (h:ni w x ao cap wr) (k:Bool):ni w {x with bold:=k} ao cap (wr.setCell ⟨w.heap.size,6,none⟩ (.bool k)):=by
 have a:=heap_setCell_same wr w.heap.size 6 _ _ (.bool k) h.box;exact⟨a,cO h.res (by omega),h.below.setCell (Nat.le_refl _) _⟩
theorem RV {g:Gr} {l:List Int} {k:Nat} (a:k < l.length):fH g (l.take (k+1))=o9 (fH g (l.take k)) (l.getD k 0):=by
 unfold fH;rw [List.take_succ_eq_append_getElem a,List.foldl_append];simp [List.getD_eq_getElem?_getD,List.getElem?_eq_getElem a]
theorem abh (l:List Int) (E:Option Addr) (J:Nat) (w:World) (C:bV w E l) (S:l.length<=140737488355328) (x:Gr) (D:x=fH g l):
  kC 151 #[ay g ao cap,.slice E l.length J] w (Ko w x ao cap):=by
 have G:=gH C;have H:=gH D;clear C D;go_enter func151,ntmps151;go_wp2;go_loopw [9] (fun i wr=>∃ k:Nat,k<=l.length∧i=.int .i64 k∧ni w (fH g (l.take k)) ao cap wr) (fun i _=>l.length - (intOf i).toNat)
 case atStart=>exact⟨0,Nat.zero_le _,rfl,aF (at_new w _) _,bK w _ _,(aM _ _).alloc (by simp) _⟩
 case round=>
  obtain⟨k,_,rfl,f⟩:=hrel;obtain⟨h,a⟩:∃ h,h=fH g (l.take k):=⟨_,rfl⟩;rw [<-a] at f;have d:=gH f;by_cases c:k < l.length
  ·obtain⟨_,_,rfl,B⟩:=(G.out.below f.below).resolve_left (fun e=>by rw [e] at c;simp at c);have t:=B k c;obtain⟨y,A⟩:∃ y,y=l.getD k 0:=⟨_,rfl⟩;rw [<-A] at t;have o:Hid (fH g (l.take (k+1))=o9 h y):=(by show fH g (l.take (k+1))=_;rw [a,A];exact RV c);obtain⟨⟨I,K,L,M,N,O,P,Q,R⟩,z⟩:=nine f.box;have:(k:Int) < (l.length:Int):=(by omega);have:(0:Int)<=(k:Int):=(by omega);clear B A f a;by_cases j:y=0
   ·subst j;go_wp2;go_roundw
    case rel=>exact⟨k+1,by omega,by go_num,by rw [o.out];exact(d.out.aA 0).bold false⟩
    case measure=>simp [intOf];omega
   by_cases m:y=1
   ·subst m;go_wp2;go_roundw
    case rel=>exact⟨k+1,by omega,by go_num,by rw [o.out];exact d.out.bold true⟩
    case measure=>simp [intOf];omega
   by_cases n:y=22
   ·subst n;go_wp2;go_roundw
    case rel=>exact⟨k+1,by omega,by go_num,by rw [o.out];exact d.out.bold false⟩
    case measure=>simp [intOf];omega
   by_cases p:y=39
   ·subst p;go_wp2;go_roundw
    case rel=>exact⟨k+1,by omega,by go_num,by rw [o.out];exact d.out.aA 0⟩
    case measure=>simp [intOf];omega
   have:(y==0)=false:=(by simp [j]);have:(y==1)=false:=(by simp [m]);have:(y==22)=false:=(by simp [n]);have:(y==39)=false:=(by simp [p]);by_cases q:30<=y∧y<=37
   ·have s:Hid (fH g (l.take (k+1))={h with aA:=y - 29}):=by
     show fH g (l.take (k+1))=_;rw [o.out];unfold o9;rw [if_neg j,if_neg m,if_neg n,if_pos q]
    obtain⟨r,u⟩:=q;clear j m n p;go_wp2;go_roundw
    case rel=>exact⟨k+1,by omega,by go_num,by rw [s.out];exact d.out.aA (y - 29)⟩
    case measure=>simp [intOf];omega
   ·have s:Hid (fH g (l.take (k+1))=h):=by
     show fH g (l.take (k+1))=_;rw [o.out];unfold o9;rw [if_neg j,if_neg m,if_neg n,if_neg q,if_neg p]
    by_cases r:30<=y
    ·have u:37 < y:=(by omega);clear j m n p q;go_wp2;go_roundw
     case rel=>exact⟨k+1,by omega,by go_num,by rw [s.out];exact d.out⟩
     case measure=>simp [intOf];omega
    ·have:y < 30:=(by omega);clear j m n p q r;go_wp2;go_roundw
     case rel=>exact⟨k+1,by omega,by go_num,by rw [s.out];exact d.out⟩
     case measure=>simp [intOf];omega
  ·have F:Hid (x=h):=by
    show x=h;rw [H.out,a,List.take_of_length_le (by omega)]
   obtain⟨⟨I,K,L,M,N,O,P,Q,R⟩,z⟩:=nine f.box;obtain⟨⟨_,_,_,_,_,_,_,_,_⟩,v⟩:=nine f.res;clear f a;go_wp2;refine bodyPost_ret (v:=ay h ao cap) (by simp [results,results151,go_sem, *]) rfl ?_;rw [F.out];exact⟨rfl,iZ d.out.below (by omega) _ _ _ _ _ _ _ _ _⟩
variable (g:Gr) {w:World} {b cap:Nat}
def qU (w:World) (lo:Option Addr) (ln lc:Nat) (p q:Int):Prop:=
 ∀ w',Below w.heap.size w w'->(kC 146 #[.slice lo ln lc,.int .i64 0] w' fun e w''=>e=.returned (.int .i64 p)∧w''=w')∧(kC 146 #[.slice lo ln lc,.int .i64 1] w' fun e w''=>e=.returned (.int .i64 q)∧w''=w')
theorem aO (w:World) (o1 o2:Obj):Below w.heap.size w ((w.alloc o1).alloc o2):=(aM _ _).alloc (by simp) _
theorem IU {g:Gr} (d:Hid (av w b g.n g.f)) (c a:Int) (o1 o2:Obj):dU w b cap {g with row:=c,col:=a} (.returned (ay {g with row:=c,col:=a} (some ⟨b,0,none⟩) cap)) ((w.alloc o1).alloc o2):=
 ⟨rfl,(d.out.alloc _).alloc _,bB (bB (eP _ _) _) _⟩
theorem Z9 {g:Gr} (d:Hid (av w b g.n g.f)) (c a:Int) (o1 o2 o3:Obj):dU w b cap {g with row:=c,col:=a} (.returned (ay {g with row:=c,col:=a} (some ⟨b,0,none⟩) cap)) (((w.alloc o1).alloc o2).alloc o3):=
 ⟨rfl,((d.out.alloc _).alloc _).alloc _,bB (bB (bB (eP _ _) _) _) _⟩
theorem YC (h:OkG g) (b cap:Nat) (w:World) (o:av w b g.n g.f) (y:Option Addr) (v u:Nat) (p q:Int) (c:Hid (qU w y v u p q)) (A:0<=p) (C:p<=999) (m:Int) (s:m=max p 1) (x:Gr) (t:x={g with row:=max (g.row - m) 0}):
  kC 130 #[ay g (some ⟨b,0,none⟩) cap,.int .i64 65,.slice y v u] w (dU w b cap x):=by
 have z:=gH o;have:=h.r1;have:g.row<=10:=by have:=h.r2;have:=h.h2;omega
 have:=h.h1;have:=h.h2;have a:Hid (∀ r:Int,r=max (g.row - m) 0->∀ d j:Obj,dU w b cap x (.returned (.agg #[.int .i64 g.wide,.int .i64 g.high,.slice (some ⟨b,0,none⟩) g.n cap,.int .i64 r,.int .i64 g.col,.int .i64 g.aA,.bool g.bold,.int .i64 g.top,.int .i64 g.bottom])) ((w.alloc d).alloc j)):=by
  intro r B d j;rw [t, <-B];exact IU z r g.col d j
 clear o h t;by_cases D:p < 1
 ·obtain rfl:p=0:=(by omega);obtain rfl:m=1:=(by omega);clear s;go_enter func130,ntmps130
  go_wp2_with (first
   | (go_at_call_of 146 (Value.int IntKind.i64 0);refine(c.out _ (aO _ _ _)).1.mono ?_;rintro e k ⟨rfl,rfl⟩)
   | (go_at_call_of 146 (Value.int IntKind.i64 1);refine(c.out _ (aO _ _ _)).2.mono ?_;rintro e k ⟨rfl,rfl⟩))
  all_goals (refine bodyPost_ret (by simp [results,results130,go_sem];rfl) rfl ?_;refine a.out _ ?_ _ _;omega)
 ·obtain rfl:m=p:=(by omega);clear s;go_enter func130,ntmps130
  go_wp2_with (first
   | (go_at_call_of 146 (Value.int IntKind.i64 0);refine(c.out _ (aO _ _ _)).1.mono ?_;rintro e k ⟨rfl,rfl⟩)
   | (go_at_call_of 146 (Value.int IntKind.i64 1);refine(c.out _ (aO _ _ _)).2.mono ?_;rintro e k ⟨rfl,rfl⟩))
  all_goals (refine bodyPost_ret (by simp [results,results130,go_sem];rfl) rfl ?_;refine a.out _ ?_ _ _;omega)
theorem YD (h:OkG g) (b cap:Nat) (w:World) (o:av w b g.n g.f) (y:Option Addr) (v u:Nat) (p q:Int) (c:Hid (qU w y v u p q)) (A:0<=p) (C:p<=999) (m:Int) (s:m=max p 1) (x:Gr) (t:x={g with row:=min (g.row+m) (g.high - 1)}):
  kC 130 #[ay g (some ⟨b,0,none⟩) cap,.int .i64 66,.slice y v u] w (dU w b cap x):=by
 have z:=gH o;have:=h.r1;have:g.row<=10:=by have:=h.r2;have:=h.h2;omega
 have:=h.h1;have:=h.h2;have a:Hid (∀ r:Int,r=min (g.row+m) (g.high - 1)->∀ d j:Obj,dU w b cap x (.returned (.agg #[.int .i64 g.wide,.int .i64 g.high,.slice (some ⟨b,0,none⟩) g.n cap,.int .i64 r,.int .i64 g.col,.int .i64 g.aA,.bool g.bold,.int .i64 g.top,.int .i64 g.bottom])) ((w.alloc d).alloc j)):=by
  intro r B d j;rw [t, <-B];exact IU z r g.col d j
 clear o h t;by_cases D:p < 1
 ·obtain rfl:p=0:=(by omega);obtain rfl:m=1:=(by omega);clear s;go_enter func130,ntmps130
  go_wp2_with (first
   | (go_at_call_of 146 (Value.int IntKind.i64 0);refine(c.out _ (aO _ _ _)).1.mono ?_;rintro e k ⟨rfl,rfl⟩)
   | (go_at_call_of 146 (Value.int IntKind.i64 1);refine(c.out _ (aO _ _ _)).2.mono ?_;rintro e k ⟨rfl,rfl⟩))
  all_goals (refine bodyPost_ret (by simp [results,results130,go_sem];rfl) rfl ?_;refine a.out _ ?_ _ _;omega)
 ·obtain rfl:m=p:=(by omega);clear s;go_enter func130,ntmps130
  go_wp2_with (first
   | (go_at_call_of 146 (Value.int IntKind.i64 0);refine(c.out _ (aO _ _ _)).1.mono ?_;rintro e k ⟨rfl,rfl⟩)
   | (go_at_call_of 146 (Value.int IntKind.i64 1);refine(c.out _ (aO _ _ _)).2.mono ?_;rintro e k ⟨rfl,rfl⟩))
  all_goals (refine bodyPost_ret (by simp [results,results130,go_sem];rfl) rfl ?_;refine a.out _ ?_ _ _;omega)
theorem YE (h:OkG g) (b cap:Nat) (w:World) (o:av w b g.n g.f) (y:Option Addr) (v u:Nat) (p q:Int) (c:Hid (qU w y v u p q)) (A:0<=p) (C:p<=999) (m:Int) (s:m=max p 1) (x:Gr) (t:x={g with col:=min (g.col+m) (g.wide - 1)}):
  kC 130 #[ay g (some ⟨b,0,none⟩) cap,.int .i64 67,.slice y v u] w (dU w b cap x):=by
 have z:=gH o;have:=h.c1;have:=h.c2;have:=h.w1;have:=h.w2;have a:Hid (∀ r:Int,r=min (g.col+m) (g.wide - 1)->∀ d j:Obj,dU w b cap x (.returned (.agg #[.int .i64 g.wide,.int .i64 g.high,.slice (some ⟨b,0,none⟩) g.n cap,.int .i64 g.row,.int .i64 r,.int .i64 g.aA,.bool g.bold,.int .i64 g.top,.int .i64 g.bottom])) ((w.alloc d).alloc j)):=by
  intro r B d j;rw [t, <-B];exact IU z g.row r d j
 clear o h t;by_cases D:p < 1
 ·obtain rfl:p=0:=(by omega);obtain rfl:m=1:=(by omega);clear s;go_enter func130,ntmps130
  go_wp2_with (first
   | (go_at_call_of 146 (Value.int IntKind.i64 0);refine(c.out _ (aO _ _ _)).1.mono ?_;rintro e k ⟨rfl,rfl⟩)
   | (go_at_call_of 146 (Value.int IntKind.i64 1);refine(c.out _ (aO _ _ _)).2.mono ?_;rintro e k ⟨rfl,rfl⟩))
  all_goals (refine bodyPost_ret (by simp [results,results130,go_sem];rfl) rfl ?_;refine a.out _ ?_ _ _;omega)
 ·obtain rfl:m=p:=(by omega);clear s;go_enter func130,ntmps130
  go_wp2_with (first
   | (go_at_call_of 146 (Value.int IntKind.i64 0);refine(c.out _ (aO _ _ _)).1.mono ?_;rintro e k ⟨rfl,rfl⟩)
   | (go_at_call_of 146 (Value.int IntKind.i64 1);refine(c.out _ (aO _ _ _)).2.mono ?_;rintro e k ⟨rfl,rfl⟩))
  all_goals (refine bodyPost_ret (by simp [results,results130,go_sem];rfl) rfl ?_;refine a.out _ ?_ _ _;omega)
theorem YF (h:OkG g) (b cap:Nat) (w:World) (A:av w b g.n g.f) (E:Option Addr) (D C:Nat) (p q:Int) (d:Hid (qU w E D C p q)) (G:0<=p) (J:p<=999) (m:Int) (B:m=max p 1) (x:Gr) (t:x={g with col:=max (aZ g - m) 0}):
  kC 130 #[ay g (some ⟨b,0,none⟩) cap,.int .i64 68,.slice E D C] w (dU w b cap x):=by
 have F:=gH A;have:=h.c1;have:=h.c2;have:=h.w1;have:=h.w2;have o:0<=aZ g:=by unfold aZ;omega
 have s:aZ g<=24:=by unfold aZ;omega
 obtain⟨k,j⟩:∃ k,k=aZ g:=⟨_,rfl⟩;have z:Hid (∀ w,kC 145 #[ay g (some ⟨b,0,none⟩) cap] w fun e I=>e=.returned (.int .i64 k)∧I=w.alloc (aB g (some ⟨b,0,none⟩) cap)):=by
  intro w;rw [j];exact Fz g _ cap w ⟨by omega,by omega⟩
 rw [<-j] at o s t;clear j;have a:Hid (∀ r:Int,r=max (k - m) 0->∀ u v y:Obj,dU w b cap x (.returned (.agg #[.int .i64 g.wide,.int .i64 g.high,.slice (some ⟨b,0,none⟩) g.n cap,.int .i64 g.row,.int .i64 r,.int .i64 g.aA,.bool g.bold,.int .i64 g.top,.int .i64 g.bottom])) (((w.alloc u).alloc v).alloc y)):=by
  intro r H u v y;rw [t, <-H];exact Z9 F g.row r u v y
 clear A h t;by_cases K:p < 1
 ·obtain rfl:p=0:=(by omega);obtain rfl:m=1:=(by omega);clear B;go_enter func130,ntmps130
  go_wp2_with (first
   | (go_at_call_of 146 (Value.int IntKind.i64 0);refine(d.out _ (aO _ _ _)).1.mono ?_;rintro e c ⟨rfl,rfl⟩)
   | (go_at_call_of 146 (Value.int IntKind.i64 1);refine(d.out _ (aO _ _ _)).2.mono ?_;rintro e c ⟨rfl,rfl⟩)
   | (go_at_call 145;refine(z.out _).mono ?_;rintro e c ⟨rfl,rfl⟩))
  all_goals (refine bodyPost_ret (by simp [results,results130,go_sem];rfl) rfl ?_;refine a.out _ ?_ _ _ _;omega)
 ·obtain rfl:m=p:=(by omega);clear B;go_enter func130,ntmps130
  go_wp2_with (first
   | (go_at_call_of 146 (Value.int IntKind.i64 0);refine(d.out _ (aO _ _ _)).1.mono ?_;rintro e c ⟨rfl,rfl⟩)
   | (go_at_call_of 146 (Value.int IntKind.i64 1);refine(d.out _ (aO _ _ _)).2.mono ?_;rintro e c ⟨rfl,rfl⟩)
   | (go_at_call 145;refine(z.out _).mono ?_;rintro e c ⟨rfl,rfl⟩))
  all_goals (refine bodyPost_ret (by simp [results,results130,go_sem];rfl) rfl ?_;refine a.out _ ?_ _ _ _;omega)
theorem YG (h:OkG g) (b cap:Nat) (w:World) (s:av w b g.n g.f) (z:Option Addr) (y v:Nat) (p q:Int) (j:Hid (qU w z y v p q)) (C:0<=p) (G:p<=999) (D:0<=q) (F:q<=999) (m:Int) (t:m=max p 1) (x:Gr) (u:x={g with row:=min m g.high - 1,col:=max 1 (min q g.wide) - 1}):
  kC 130 #[ay g (some ⟨b,0,none⟩) cap,.int .i64 72,.slice z y v] w (dU w b cap x):=by
 have A:=gH s;have:=h.r1;have:g.row<=10:=by have:=h.r2;have:=h.h2;omega
 have:=h.h1;have:=h.h2;have:=h.c1;have:=h.c2;have:=h.w1;have:=h.w2;have a:Hid (∀ r c:Int,r=min m g.high - 1->c=max 1 (min q g.wide) - 1->∀ k o:Obj,dU w b cap x (.returned (.agg #[.int .i64 g.wide,.int .i64 g.high,.slice (some ⟨b,0,none⟩) g.n cap,.int .i64 r,.int .i64 c,.int .i64 g.aA,.bool g.bold,.int .i64 g.top,.int .i64 g.bottom])) ((w.alloc k).alloc o)):=by
  intro r c E B k o;rw [u, <-E, <-B];exact IU A r c k o
 clear s h u;by_cases H:p < 1
 ·obtain rfl:p=0:=(by omega);obtain rfl:m=1:=(by omega);clear t;go_enter func130,ntmps130
  go_wp2_with (first
   | (go_at_call_of 146 (Value.int IntKind.i64 0);refine(j.out _ (aO _ _ _)).1.mono ?_;rintro e d ⟨rfl,rfl⟩)
   | (go_at_call_of 146 (Value.int IntKind.i64 1);refine(j.out _ (aO _ _ _)).2.mono ?_;rintro e d ⟨rfl,rfl⟩)
   | (go_at_call 80;refine(yj _ _ _ _).mono ?_;rintro e d ⟨rfl,rfl⟩))
  all_goals (refine bodyPost_ret (by simp [results,results130,go_sem];rfl) rfl ?_;refine a.out _ _ ?_ ?_ _ _ <;>omega)
 ·obtain rfl:m=p:=(by omega);clear t;go_enter func130,ntmps130
  go_wp2_with (first
   | (go_at_call_of 146 (Value.int IntKind.i64 0);refine(j.out _ (aO _ _ _)).1.mono ?_;rintro e d ⟨rfl,rfl⟩)
   | (go_at_call_of 146 (Value.int IntKind.i64 1);refine(j.out _ (aO _ _ _)).2.mono ?_;rintro e d ⟨rfl,rfl⟩)
   | (go_at_call 80;refine(yj _ _ _ _).mono ?_;rintro e d ⟨rfl,rfl⟩))
  all_goals (refine bodyPost_ret (by simp [results,results130,go_sem];rfl) rfl ?_;refine a.out _ _ ?_ ?_ _ _ <;>omega)
theorem YM (b cap:Nat) (w:World) (y:av w b g.n g.f) (B:Option Addr) (A z:Nat) (p q:Int) (d:Hid (qU w B A z p q)) (c:Int) (h:c≠65) (j:c≠66) (k:c≠67) (m:c≠68) (o:c≠72) (r:c≠74) (s:c≠75) (t:c≠76) (u:c≠77) (v:c≠109) (a:c≠114):
  kC 130 #[ay g (some ⟨b,0,none⟩) cap,.int .i64 c,.slice B A z] w (dU w b cap g):=by
 have C:=gH y;have:(c==65)=false:=by simp [h]
 have:(c==66)=false:=by simp [j]
 have:(c==67)=false:=by simp [k]
 have:(c==68)=false:=by simp [m]
 have:(c==72)=false:=by simp [o]
 have:(c==74)=false:=by simp [r]
 have:(c==75)=false:=by simp [s]
 have:(c==76)=false:=by simp [t]
 have:(c==77)=false:=by simp [u]
 have:(c==109)=false:=by simp [v]
 have:(c==114)=false:=by simp [a]
 clear y h j k m o r s t u v a;by_cases E:p < 1
 all_goals (
  go_enter func130,ntmps130
  go_wp2_with (first
   | (go_at_call_of 146 (Value.int IntKind.i64 0);refine(d.out _ (aO _ _ _)).1.mono ?_;rintro e D ⟨rfl,rfl⟩)
   | (go_at_call_of 146 (Value.int IntKind.i64 1);refine(d.out _ (aO _ _ _)).2.mono ?_;rintro e D ⟨rfl,rfl⟩))
  refine bodyPost_ret (by simp [results,results130,go_sem];rfl) rfl ?_
  exact⟨rfl,(C.out.alloc _).alloc _,bB (bB (eP _ _) _) _⟩)
theorem WV {g:Gr} (h:OkG g) {r c:Int} (a:0<=r) (d:r < g.high) (e:0<=c) (j:c < g.wide):iy g r c=g.f (r*g.wide+c).toNat∧0<=r*g.wide+c∧r*g.wide+c < g.n:=by
 obtain⟨_,_,_⟩:=h.nums;have:=p8 a d (w:=g.wide) (by omega);refine⟨?_,by omega,by omega⟩;unfold iy;rw [if_pos ⟨h.w2,h.h2,a,d,e,j,by omega⟩]
end Go.Proofs.YtkcdcamophkdlaaGreatDoor
