import Derived.Test.YtkcdcamophkdlaaGreatDoorBG
set_option maxHeartbeats 4000000
set_option maxRecDepth 100000
open Go.Proofs.Tryz
namespace Go.Proofs.YtkcdcamophkdlaaGreatDoor.Sv
open Go.RowKit
open Go.Proofs.YtkcdcamophkdlaaGreatDoor.Tl (ak aI dK)
theorem Xb {w:World} {S:aD} {L:Lay} (h:aS w S L) (n:Nat) (J:n < 3) (_hc:S.cl n=none) (x:Gr) (K:OkG x) {l:World} {b:Nat} (z:Below w.heap.size w l) (t:av l b x.n x.f) (_hbb:w.heap.size<=b):
  aY w S L {S with cl:=upd S.cl n (some ⟨[],true,x⟩)} {L with cb:=upd L.cb n l.heap.size,ca:=upd L.ca n (some ⟨b,0,none⟩),cc:=upd L.cc n x.n} ((l.alloc (dR ⟨[],true,x⟩ (some ⟨b,0,none⟩) x.n)).setCell ⟨L.sb,82+n,none⟩ (.pointer (some ⟨l.heap.size,0,none⟩))):=by
 have i:=(h.below z).alloc (dR ⟨[],true,x⟩ (some ⟨b,0,none⟩) x.n);have H:=jF (l.alloc (dR ⟨[],true,x⟩ (some ⟨b,0,none⟩) x.n)) L.sb (82+n) (.pointer (some ⟨l.heap.size,0,none⟩));have B:=z.size;have s:∀ j,j < 3->(S.cl j).isSome=true->L.cb j < w.heap.size:=fun j q t=>h.FX (.inr ⟨j,q,t,rfl⟩);have d:∀ j,j < 3->((upd S.cl n (some ⟨[],true,x⟩)) j).isSome=true->j=n∨(j≠n∧(S.cl j).isSome=true):=fun j _ t=>by
  by_cases e:j=n
  ·exact .inl e
  ·rw [upd_ne _ _ e] at t;exact .inr ⟨e,t⟩
 refine⟨Dw i H rfl (J2 h.ok n _ (fun c e=>by cases e;exact⟨K,by simp⟩)) (TS i n J (some ⟨[],true,x⟩) l.heap.size _ _ _ rfl) i.aj i.rd i.ty i.gs i.ps (fun j q c F=>?_) (fun j k q r A I G=>?_),rfl,?_,fun j q t=>?_⟩
 ·have C:upd S.cl n (some ⟨[],true,x⟩) j=some c:=F;show (l.alloc (dR ⟨[],true,x⟩ (some ⟨b,0,none⟩) x.n)).heap[upd L.cb n l.heap.size j]?=some (dR c (upd L.ca n (some ⟨b,0,none⟩) j) (upd L.cc n x.n j))∧Gl _ (upd L.ca n (some ⟨b,0,none⟩) j) (upd L.cc n x.n j) c.g;by_cases e:j=n
  ·rw [e,dY] at C;cases C;rw [e,dY,dY,dY];exact⟨at_new _ _,.inr ⟨b,rfl,t.alloc _,Nat.le_refl _⟩⟩
  ·rw [upd_ne _ _ e] at C;rw [upd_ne _ _ e,upd_ne _ _ e,upd_ne _ _ e];exact i.cl j q c C
 ·show upd L.cb n l.heap.size j≠upd L.cb n l.heap.size k;rcases d j q I with o | ⟨o,D⟩
  ·rcases d k r G with y | ⟨y,E⟩
   ·exact absurd (o.trans y.symm) A
   ·rw [o,dY,upd_ne _ _ y];have:=s k r E;omega
  ·rcases d k r G with y | ⟨y,E⟩
   ·rw [y,dY,upd_ne _ _ o];have:=s j q D;omega
   ·rw [upd_ne _ _ o,upd_ne _ _ y];exact h.apart j k q r A D E
 ·exact(Kp.of_below (qx S L) (z.alloc B _)).trans H.sb (fun _ e=>.inl e)
 ·show _∨w.heap.size<=upd L.cb n l.heap.size j;rcases d j q t with o | ⟨o,D⟩
  ·right;rw [o,dY];exact B
  ·left;exact⟨D,upd_ne _ _ o⟩
theorem W9 (i wide high:Int) (w:World) (S:aD) (L:Lay) (h:aS w S L):
  kC 45 #[.pointer (some ⟨L.sb,0,none⟩),.int .i64 i,.int .i64 wide,.int .i64 high] w fun e w'=>e=.returned (.int .i64 (iw S i wide high).2)∧∃ V,aY w S L (iw S i wide high).1 V w':=by
 have G:=gH h;cases l:jo i
 ·have B:Hid (∀ w,kD 37 #[.int .i64 i] w (.bool false)):=fun w=>(by rw [<-l];exact Jm i w);have t:Hid (iw S i wide high=(S,3)):=(by show iw S i wide high=_;unfold iw;rw [l];rfl);clear h l;go_enter func45,ntmps45;go_wp2_with (go_at_call 37;refine(B.out _).mono ?_;rintro e w1 ⟨rfl,y⟩;subst w1);go_ret;rw [t.out];exact⟨rfl,L,aY.refl G.out⟩
 ·have B:Hid (∀ w,kD 37 #[.int .i64 i] w (.bool true)):=fun w=>(by rw [<-l];exact Jm i w);have r:0<=i∧i < 3:=(by simpa [jo] using l);obtain⟨n,rfl⟩:=Int.eq_ofNat_of_zero_le r.1;have N:n < 3:=(by omega);have O:=h.ptr n N;have Z:=h.frozen (82+n);have:(n:Int) < 3:=(by omega);have:(0:Int)<=(n:Int):=(by omega);have M:=(gQ h.box).1;cases q:S.cl n with
  | some c=>
   have t:Hid (iw S (n:Int) wide high=(S,4)):=(by show iw S _ wide high=_;unfold iw;rw [l,Int.toNat_natCast,q];rfl);have A:jk S L n=some ⟨L.cb n,0,none⟩:=(by unfold jk;rw [q];rfl);rw [A] at O;clear h l r q A;go_enter func45,ntmps45;go_wp2_with (go_at_call 37;refine(B.out _).mono ?_;rintro e w1 ⟨rfl,y⟩;subst w1);go_ret;rw [t.out];exact⟨rfl,L,aY.refl G.out⟩
  | none=>
   have A:jk S L n=none:=(by unfold jk;rw [q];rfl);rw [A] at O;cases z:iM wide high with
   | false=>
    have I:Hid (∀ w,kD 73 #[.int .i64 wide,.int .i64 high] w (.bool false)):=fun w=>(by rw [<-z];exact CU wide high w);have t:Hid (iw S (n:Int) wide high=(S,1)):=(by show iw S _ wide high=_;unfold iw;rw [l,Int.toNat_natCast,q,z];rfl);clear h l r q A z;go_enter func45,ntmps45
    go_wp2_with (first
     | (go_at_call 37;refine(B.out _).mono ?_;rintro e w1 ⟨rfl,y⟩;subst w1)
     | (go_at_call 73;refine(I.out _).mono ?_;rintro e Q ⟨rfl,P⟩;subst Q))
    go_ret;rw [t.out];exact⟨rfl,L,aY.refl G.out⟩
   | true=>
   have I:Hid (∀ w,kD 73 #[.int .i64 wide,.int .i64 high] w (.bool true)):=fun w=>(by rw [<-z];exact CU wide high w);obtain⟨x,H⟩:∃ x,x=newG wide high:=⟨_,rfl⟩;have t:Hid (iw S (n:Int) wide high=({S with cl:=upd S.cl n (some ⟨[],true,x⟩)},0)):=(by show iw S _ wide high=_;unfold iw;rw [l,Int.toNat_natCast,q,z,H];rfl);have U:Hid (∀ w,kC 62 #[.int .i64 wide,.int .i64 high] w fun e w'=>∃ b,e=.returned (ay x (some ⟨b,0,none⟩) x.n)∧av w' b x.n x.f∧w.heap.size<=b∧Below w.heap.size w w'):=fun w=>zo wide high w x H;have T:Hid (∀ o b,Below w.heap.size w o->av o b x.n x.f->w.heap.size<=b->aY w S L {S with cl:=upd S.cl n (some ⟨[],true,x⟩)} {L with cb:=upd L.cb n o.heap.size,ca:=upd L.ca n (some ⟨b,0,none⟩),cc:=upd L.cc n x.n} ((o.alloc (dR ⟨[],true,x⟩ (some ⟨b,0,none⟩) x.n)).setCell ⟨L.sb,82+n,none⟩ (.pointer (some ⟨o.heap.size,0,none⟩)))):=fun o b W X Y=>Xb h n N q x (by rw [H];exact sQ _ _) W X Y;clear h l r q A z H;go_enter func45,ntmps45
   go_wp2_with (first
    | (go_at_call 37;refine(B.out _).mono ?_;rintro e w1 ⟨rfl,y⟩;subst w1)
    | (go_at_call 73;refine(I.out _).mono ?_;rintro e Q ⟨rfl,P⟩;subst Q))
   refine bg (fun _=>True) trivial (fun d=>?_);refine tk 0 d ?_;refine tk 1 d ?_;refine tk 2 d ?_;refine tk 3 d ?_;refine tk 7 d ?_;refine tk 8 d ?_;refine rA 4 fun K s=>?_;go_simp;go_at_call 62;refine(U.out _).mono ?_;rintro e o ⟨b,rfl,F,R,D⟩;have j:Hid (av o b x.n x.f∧w.heap.size<=b∧Below w.heap.size w o):=⟨F,R,jq D⟩;have J:=G.out.below j.out.2.2;have:=J.ptr n N;have:=J.frozen (82+n);have E:L.sb < o.heap.size:=Nat.lt_of_lt_of_le M j.out.2.2.size;clear F R D J O Z
   (try go_simp)
   refine s.out _ _ trivial (fun d=>?_);clear s K;refine pt ?_;refine tk 5 d ?_;refine rA 6 fun K s=>?_;go_simp;refine s.out _ _ trivial (fun d=>?_);clear s K;refine pt ?_;refine tk 9 d ?_;refine rA 10 fun K s=>?_;go_simp;refine s.out _ _ trivial (fun d=>?_);clear s K;refine pt ?_;refine dn ?_;have C:=T.out o b j.out.2.2 j.out.1 j.out.2.1;rw [World.setCell_alloc_past _ _ _ _ E] at C;go_wp2;go_ret;rw [t.out];exact⟨rfl,_,C⟩
variable (p:Int) (a:Ac) (n m:Int) (bytes:List UInt8) (w:World) (S:aD) (L:Lay)
def oJ (w:World) (S:aD) (L:Lay) (X:aD×Int) (e:Ending) (w':World):Prop:=e=.returned (.int .i64 X.2)∧∃ L',aY w S L X.1 L' w'
theorem XO (h:aS w S L):
  kC 21 #[.pointer (some ⟨L.sb,0,none⟩),aval ⟨2,p,n,m,bytes⟩] w (oJ w S L (iH S p)):=by
 have b:Hid (kC 41 #[.pointer (some ⟨L.sb,0,none⟩),.int .i64 p] (w.alloc (bN ⟨2,p,n,m,bytes⟩)) (oJ w S L (iH S p))):=
  (abP p (w.alloc (bN ⟨2,p,n,m,bytes⟩)) S L (h.alloc _)).mono fun e w' d=>⟨d.1,d.2.elim fun j l=>⟨j,l.from (aM _ _)⟩⟩
 obtain⟨X,f⟩:∃ X:aD×Int,X=iH S p:=⟨_,rfl⟩;rw [<-f] at b ⊢;clear h f;go_enter func21,ntmps21;go_wp2_with (go_at_call 41;refine b.out.mono ?_;rintro e _ ⟨rfl,c⟩;have i:=gH c;clear c);go_ret;exact⟨rfl,i.out⟩
theorem XR (q:bytes.length<=140737488355328) (w:World) (S:aD) (L:Lay) (h:aS w S L) (c:lV S.v):
  kC 21 #[.pointer (some ⟨L.sb,0,none⟩),aval ⟨3,p,n,m,bytes⟩] w (oJ w S L (jd S p bytes)):=by
 have b:Hid (kC 42 #[.pointer (some ⟨L.sb,0,none⟩),.int .i64 p,.string (bs bytes)] (w.alloc (bN ⟨3,p,n,m,bytes⟩)) (oJ w S L (jd S p bytes))):=
  (ada p bytes q (w.alloc (bN ⟨3,p,n,m,bytes⟩)) S L (h.alloc _) c).mono fun e w' f=>⟨f.1,f.2.elim fun l o=>⟨l,o.from (aM _ _)⟩⟩
 obtain⟨X,i⟩:∃ X:aD×Int,X=jd S p bytes:=⟨_,rfl⟩;rw [<-i] at b ⊢;clear h c i;go_enter func21,ntmps21;go_wp2_with (go_at_call 42;refine b.out.mono ?_;rintro e _ ⟨rfl,d⟩;have j:=gH d;clear d);go_ret;exact⟨rfl,j.out⟩
theorem XM (h:aS w S L):
  kC 21 #[.pointer (some ⟨L.sb,0,none⟩),aval ⟨4,p,n,m,bytes⟩] w (oJ w S L (jc S p)):=by
 have b:Hid (kC 43 #[.pointer (some ⟨L.sb,0,none⟩),.int .i64 p] (w.alloc (bN ⟨4,p,n,m,bytes⟩)) (oJ w S L (jc S p))):=
  (ZV p (w.alloc (bN ⟨4,p,n,m,bytes⟩)) S L (h.alloc _)).mono fun e w' d=>⟨d.1,d.2.elim fun j l=>⟨j,l.from (aM _ _)⟩⟩
 obtain⟨X,f⟩:∃ X:aD×Int,X=jc S p:=⟨_,rfl⟩;rw [<-f] at b ⊢;clear h f;go_enter func21,ntmps21;go_wp2_with (go_at_call 43;refine b.out.mono ?_;rintro e _ ⟨rfl,c⟩;have i:=gH c;clear c);go_ret;exact⟨rfl,i.out⟩
theorem XT (h:aS w S L):
  kC 21 #[.pointer (some ⟨L.sb,0,none⟩),aval ⟨5,p,n,m,bytes⟩] w (oJ w S L (iK S n m)):=by
 have b:Hid (kC 44 #[.pointer (some ⟨L.sb,0,none⟩),.int .i64 n,.int .i64 m] (w.alloc (bN ⟨5,p,n,m,bytes⟩)) (oJ w S L (iK S n m))):=
  (aeW n m (w.alloc (bN ⟨5,p,n,m,bytes⟩)) S L (h.alloc _)).mono fun e w' d=>⟨d.1,d.2.elim fun j l=>⟨j,l.from (aM _ _)⟩⟩
 obtain⟨X,f⟩:∃ X:aD×Int,X=iK S n m:=⟨_,rfl⟩;rw [<-f] at b ⊢;clear h f;go_enter func21,ntmps21;go_wp2_with (go_at_call 44;refine b.out.mono ?_;rintro e _ ⟨rfl,c⟩;have i:=gH c;clear c);go_ret;exact⟨rfl,i.out⟩
theorem XK (h:aS w S L):
  kC 21 #[.pointer (some ⟨L.sb,0,none⟩),aval ⟨6,p,n,m,bytes⟩] w (oJ w S L (iw S p n m)):=by
 have b:Hid (kC 45 #[.pointer (some ⟨L.sb,0,none⟩),.int .i64 p,.int .i64 n,.int .i64 m] (w.alloc (bN ⟨6,p,n,m,bytes⟩)) (oJ w S L (iw S p n m))):=
  (W9 p n m (w.alloc (bN ⟨6,p,n,m,bytes⟩)) S L (h.alloc _)).mono fun e w' d=>⟨d.1,d.2.elim fun j l=>⟨j,l.from (aM _ _)⟩⟩
 obtain⟨X,f⟩:∃ X:aD×Int,X=iw S p n m:=⟨_,rfl⟩;rw [<-f] at b ⊢;clear h f;go_enter func21,ntmps21;go_wp2_with (go_at_call 45;refine b.out.mono ?_;rintro e _ ⟨rfl,c⟩;have i:=gH c;clear c);go_ret;exact⟨rfl,i.out⟩
theorem XL (h:aS w S L):
  kC 21 #[.pointer (some ⟨L.sb,0,none⟩),aval ⟨7,p,n,m,bytes⟩] w (oJ w S L (jB S p)):=by
 have b:Hid (kC 46 #[.pointer (some ⟨L.sb,0,none⟩),.int .i64 p] (w.alloc (bN ⟨7,p,n,m,bytes⟩)) (oJ w S L (jB S p))):=
  (Y0 p (w.alloc (bN ⟨7,p,n,m,bytes⟩)) S L (h.alloc _)).mono fun e w' d=>⟨d.1,d.2.elim fun j l=>⟨j,l.from (aM _ _)⟩⟩
 obtain⟨X,f⟩:∃ X:aD×Int,X=jB S p:=⟨_,rfl⟩;rw [<-f] at b ⊢;clear h f;go_enter func21,ntmps21;go_wp2_with (go_at_call 46;refine b.out.mono ?_;rintro e _ ⟨rfl,c⟩;have i:=gH c;clear c);go_ret;exact⟨rfl,i.out⟩
theorem XU (h:aS w S L) (c:lV S.v):
  kC 21 #[.pointer (some ⟨L.sb,0,none⟩),aval ⟨8,p,n,m,bytes⟩] w (oJ w S L ((zF S,0))):=by
 have b:Hid (kC 47 #[.pointer (some ⟨L.sb,0,none⟩)] (w.alloc (bN ⟨8,p,n,m,bytes⟩)) (oJ w S L ((zF S,0)))):=
  (ahg (w.alloc (bN ⟨8,p,n,m,bytes⟩)) S L (h.alloc _) c).mono fun e w' f=>⟨f.1,f.2.elim fun l o=>⟨l,o.from (aM _ _)⟩⟩
 obtain⟨X,i⟩:∃ X:aD×Int,X=(zF S,0):=⟨_,rfl⟩;rw [<-i] at b ⊢;clear h c i;go_enter func21,ntmps21;go_wp2_with (go_at_call 47;refine b.out.mono ?_;rintro e _ ⟨rfl,d⟩;have j:=gH d;clear d);go_ret;exact⟨rfl,j.out⟩
theorem XQ (h:aS w S L) (d:¬ a.kind=2) (f:¬ a.kind=3) (i:¬ a.kind=4) (j:¬ a.kind=5) (l:¬ a.kind=6) (o:¬ a.kind=7) (q:¬ a.kind=8):
  kC 21 #[.pointer (some ⟨L.sb,0,none⟩),aval a] w (oJ w S L (S,2)):=by
 have b:Hid (∃ c,aY w S L S c (w.alloc (bN a))):=⟨L,(aY.refl h).later (aM _ _)⟩;clear h;go_enter func21,ntmps21;go_wp2;go_ret;exact⟨rfl,b.out⟩
theorem XJ (r:a.bytes.length<=140737488355328) (w:World) (S:aD) (L:Lay) (h:aS w S L) (q:lV S.v):
  kC 21 #[.pointer (some ⟨L.sb,0,none⟩),aval a] w (oJ w S L (lC S a)):=by
 obtain⟨b,p,n,m,bytes⟩:=a;simp only at r;unfold lC;simp only;by_cases c:b=2
 ·subst c;rw [if_pos rfl];exact XO p n m bytes w S L h
 rw [if_neg c];by_cases d:b=3
 ·subst d;rw [if_pos rfl];exact XR p n m bytes r w S L h q
 rw [if_neg d];by_cases f:b=4
 ·subst f;rw [if_pos rfl];exact XM p n m bytes w S L h
 rw [if_neg f];by_cases i:b=5
 ·subst i;rw [if_pos rfl];exact XT p n m bytes w S L h
 rw [if_neg i];by_cases j:b=6
 ·subst j;rw [if_pos rfl];exact XK p n m bytes w S L h
 rw [if_neg j];by_cases l:b=7
 ·subst l;rw [if_pos rfl];exact XL p n m bytes w S L h
 rw [if_neg l];by_cases o:b=8
 ·subst o;rw [if_pos rfl];exact XU p n m bytes w S L h q
 rw [if_neg o];exact XQ ⟨b,p,n,m,bytes⟩ w S L h c d f i j l o
end Go.Proofs.YtkcdcamophkdlaaGreatDoor.Sv
namespace Go.Proofs.YtkcdcamophkdlaaGreatDoor.Tl
open Go.RowKit
theorem ach (w:World) (a:Option Addr) (n c:Nat):(binOp .eql 28 (.slice a n c) (.slice none 0 0)).run prog w=.ok (.bool a.isNone) w:=Lib.run_eql_slice_nil w 28 38 a n c 0 0 underlying28
theorem YV (b:List bn):∀ v∈b.map cv,v.oneCell'=true:=by
 intro v c;obtain⟨_,_,rfl⟩:=List.mem_map.1 c
 rfl
theorem aei {w:World} {a:Addr} {c:List bn} (o:aI w (some a) c) (j:Nat) (u:Value) (f:(c.map cv)[j]?=some u):w.cell? (a.add j)=some u:=by
 have d:j < c.length:=by have:=(gL f).1;simpa using this
 rcases o.row with h | ⟨b,q,i,l⟩
 ·subst h;simp at d
 ·simp only [Option.some.injEq] at i;subst i;rw [mJ,l j d];simp [d] at f;simp [f]
theorem X6 (a:Addr) (cap:Nat) (b:List bn) (w:World) (r:aI w (some a) b) (C:b.length<=5864062014805):
  kC 15 #[.slice (some a) b.length cap] w fun e w'=>∃ q h,e=.returned (.slice q b.length h)∧w'.ownsRow w.heap.size 38 1 (.slice q b.length h) b.length (b.map cv)∧Below w.heap.size w w':=by
 obtain⟨B,y,i,l,o⟩:=info_parts zk;have:=ach;have x:Hid (∀ j u,(b.map cv)[j]?=some u->(w.alloc (.cells #[] 38)).cell? (a.add j)=some u):=fun j u A=>aei (r.below (aM w _)) j u A;clear r;go_enter func15,ntmps15;go_wp2_with (first | (at_builtin;refine wpList_append_own _ rfl _ _ 28 rfl w.heap.size 38 B (.slice none 0 0) 1 24 underlying28 y i l o rfl (by decide) _ 0 [] rfl (World.ownsRow_made w #[] 0 (Nat.le_refl _) (by decide) rfl) a b.length cap (b.map cv) rfl (by simp) x.out (YV b) (by unfold maxLen;omega) (by omega) (by simp) ?_) | go_in);intro D w1 f d _;obtain⟨ao,c,rfl⟩:=oG f;have s:Hid (Below w.heap.size w w1):=((Below.refl _ _).alloc (Nat.le_refl _) _).grown d (by simp) (fun k z=>by simp [Value.ownBlock] at z;omega);have t:=gH f;clear f d;go_wp2;go_ret;exact⟨ao,c,rfl,t.out,s.out⟩
end Go.Proofs.YtkcdcamophkdlaaGreatDoor.Tl
namespace Go.Proofs.YtkcdcamophkdlaaGreatDoor.Sv
open Go.RowKit
open Go.Proofs.YtkcdcamophkdlaaGreatDoor.Tl (bn ak aI bV cv ints)
open Go.Proofs.YtkcdcamophkdlaaGreatDoor.Pt (Vw VC dw bP jg zv zl)
variable {w w' wr w1:World} {base cap k g n:Nat} {v:Vw} {ao:Option Addr} {e:TypeId} {xs:List Value} {done:List bn} {u:Value}
theorem zA {l:Nat} {v:Value} (h:w.ownsRow base e l v n xs) (q:∀ b,base<=b->b < w.heap.size->w'.heap[b]?=w.heap[b]?):w'.ownsRow base e l v n xs:=by
 refine⟨h.1,?_⟩;rcases h.2 with o | ⟨g,c,i,r,d,j,f⟩
 ·exact .inl o
 ·exact .inr ⟨g,c,i,r,d,by rw [q g d (gQ j).1];exact j,f⟩
theorem afj (h:w.ownsRow base e 1 (.slice (some ⟨g,0,none⟩) n cap) n xs):(w.setCell ⟨g,k,none⟩ u).ownsRow base e 1 (.slice (some ⟨g,0,none⟩) n cap) n (xs.set k u):=by
 refine⟨by rw [List.length_set];exact h.1,?_⟩;rcases h.2 with ⟨b,_⟩ | ⟨r,q,c,b,i,j,d,f,l,o⟩
 ·cases b
 ·simp only [Value.slice.injEq,Option.some.injEq,Addr.mk.injEq,and_true,true_and] at b;obtain⟨rfl,rfl⟩:=b;refine .inr ⟨g,cap,c.setIfInBounds k u,rfl,i,heap_setCell_same w g k _ _ _ j,d,f,by simpa using l,?_⟩;rw [Array.toList_setIfInBounds,List.take_set,o]
theorem JK (h:w.ownsRow base e 1 (.slice (some ⟨g,0,none⟩) n cap) n xs) (d:xs[k]?=some u):w.cell? ⟨g,k,none⟩=some u∧w.frozen? ⟨g,k,none⟩=false:=by
 rcases h.2 with ⟨c,_⟩ | ⟨o,l,i,c,s,f,q,r,t,j⟩
 ·cases c
 ·simp only [Value.slice.injEq,Option.some.injEq,Addr.mk.injEq,and_true,true_and] at c;obtain⟨rfl,rfl⟩:=c;refine⟨?_,frozen_of_row w g k _ _ f⟩;rw [cell_of_row w g k _ _ _ f];have b:=(gL d).1;rw [h.1] at b;rw [<-j,List.getElem?_take_of_lt b] at d;simpa using d
theorem OI (h:w.ownsRow base e 1 (.slice ao n cap) n xs) (o:0 < n):∃ g,ao=some ⟨g,0,none⟩∧base<=g∧g < w.heap.size:=by
 rcases h.2 with ⟨_,l⟩ | ⟨d,j,c,b,f,i,_⟩
 ·omega
 ·simp only [Value.slice.injEq] at b;exact⟨d,b.1,f,(gQ i).1⟩
def yB (base:Nat) (w:World) (ao:Option Addr) (cap:Nat) (g:Gr):Prop:=g.n=0∨∃ b,ao=some ⟨b,0,none⟩∧base<=b∧g.n<=cap∧av w b g.n g.f
theorem yB.keep {g:Gr} (h:yB base w ao cap g) (j:∀ b,base<=b->b < w.heap.size->w'.heap[b]?=w.heap[b]?):yB base w' ao cap g:=by
 rcases h with h | ⟨b,f,c,i,d⟩
 ·exact .inl h
 ·exact .inr ⟨b,f,c,i,d.move (j b c d.lt)⟩
theorem yB.rd {g:Gr} (h:yB base w ao cap g):aL w ao g.n g.f:=by
 rcases h with h | ⟨b,c,_,_,d⟩
 ·exact .inl h
 ·rw [c];exact d.rd
structure Ae (base:Nat) (w:World) (v:Vw) (l:Pt.Lay):Prop where
 aj:v.aj=ak l.its
 row:w.ownsRow base 38 1 (.slice l.co l.its.length l.cap) l.its.length (l.its.map cv)
 each:∀ x∈l.its,w.ownsRow base 3 1 (cv x) x.1.length (ints x.1)
 gs:∀ p,p < 6->yB base w (l.ga p) (l.gc p) (v.gs p)
theorem Ae.keep {l:Pt.Lay} (h:Ae base w v l) (c:∀ b,base<=b->b < w.heap.size->w'.heap[b]?=w.heap[b]?):Ae base w' v l:=
 ⟨h.aj,zA h.row c,fun x f=>zA (h.each x f) c,fun p d=>(h.gs p d).keep c⟩
theorem Ae.later {l:Pt.Lay} (h:Ae base w v l) (d:Below w.heap.size w w'):Ae base w' v l:=h.keep fun b _ c=>d.block b c
theorem Ae.Ow {l:Pt.Lay} (h:Ae base w v l):aI w l.co l.its:=by
 refine⟨fun x i=>Tl.Gi (h.each x i),?_⟩;by_cases c:l.its=[]
 ·exact .inl c
 ·have b:0 < l.its.length:=List.length_pos_iff.2 c;obtain⟨g,e,_,_⟩:=OI h.row b;refine .inr ⟨g,0,e,fun k f=>?_⟩;have d:=h.row;rw [e] at d;rw [Nat.zero_add];exact(JK d (k:=k) (by simp [f])).1
theorem Ae.xX {l:Pt.Lay} (h:Ae base w v l) (c:lV v):dw w v l:=by
 have f:=Tl.sM c.t;have j:l.its.length<=6:=by rw [h.aj] at f;simpa using f
 have i:∀ x∈l.its,x.1.length<=3:=fun x d=>(c.t.kI x.1 (by rw [h.aj];exact List.mem_map.2 ⟨x,d,rfl⟩)).2;refine⟨h.aj,h.Ow,fun p b=>(h.gs p b).rd,by omega,fun x d=>by have:=i x d;omega,fun p b=>?_,?_⟩
 ·rcases c.grid p b with e | e
  ·rw [e];show 0<=_;omega
  ·obtain⟨_,_,_⟩:=e.nums;omega
 ·have:=Tl.Dn v.aj.flatten [0,1,2,3,4,5] c.t.once (fun p b=>by
   have:=c.t.pane p b
   simp only [Tl.dG,decide_eq_true_eq] at this
   have:p=0∨p=1∨p=2∨p=3∨p=4∨p=5:=by omega
   simpa using this)
  simp only [List.length_cons,List.length_nil] at this;omega
theorem ahU {f:Array Oper} {c:List Oper} {j:Oper} {a:Act} {W:World} {Q:Exit->Act->World->Prop} (i:TypeId) (d b:Array Value) (l:j.guard=none) (x y:Operand) (s:j.op=.store i x y) (z:a.eval x=.pointer (some ⟨W.heap.size,0,none⟩)) (A:a.eval y=.agg b) (r:(prog.info? i).map (·.size)=some b.size) (t:d.size=b.size) (o:b.all (·.oneCell')=true) (h:wpList prog f Q c (a.put j.dst undef) (W.alloc (.cells b i))):wpList prog f Q (j::c) a (W.alloc (.cells d i)):=
 wpList_plain l fun K q=>by
  unfold Oper.wp execOp
  simp only [s,z,A,Sem.run_bind,run_storeAt_new (P:=prog) W i d b r t o,Result.andThen_ok,Sem.run_pure]
  exact q _ _ h
structure vL (w:World) (v:Vw) (l:Pt.Lay) (g cap k:Nat) (done:List bn) (wr:World):Prop where
 len:done.length=k
 same:ak done=(ak l.its).take k
 row:wr.ownsRow (w.heap.size+2) 38 1 (.slice (some ⟨g,0,none⟩) l.its.length cap) l.its.length ((done++l.its.drop k).map cv)
 own:∀ x∈done,wr.ownsRow (w.heap.size+2) 3 1 (cv x) x.1.length (ints x.1)
 box:wr.heap[w.heap.size+1]?=some (Pt.bf (bP v {l with co:=some ⟨g,0,none⟩,cap:=cap}))
 res:wr.heap[w.heap.size]?=some (Pt.bf (bP zv zl))
 ty:∃ c,wr.heap[g]?=some (.cells c 38 (0,0))
 below:Below w.heap.size w wr
theorem vL.Q7 {l:Pt.Lay} (h:vL w v l g cap k done wr):w.heap.size+2<=g∧g < wr.heap.size:=Tl.Dq h.row
theorem ahA {l:Pt.Lay} (h:vL w v l g cap k done wr) (C:k < l.its.length) {c:Nat} (G:w1.ownsRow wr.heap.size 3 1 (.slice ao l.its[k].1.length c) l.its[k].1.length (ints l.its[k].1)) (o:Below wr.heap.size wr w1):
  vL w v l g cap (k+1) (done++[(l.its[k].1,ao,c)]) (w1.setCell ⟨g,k,none⟩ (.slice ao l.its[k].1.length c)):=by
 obtain⟨_,t⟩:=h.Q7;obtain⟨E,y⟩:=h.ty;have z:w1.heap[g]?=some (.cells E 38 (0,0)):=aG o y t;have q:∀ (b:Nat) (d:Array Value),w1.heap[b]?=some (.cells d 3 (0,0))->b≠g:=fun b d f e=>by
  rw [e,z] at f;simp only [Option.some.injEq,Obj.cells.injEq] at f;exact absurd f.2.1 (by decide)
 have j:∀ (base:Nat) (x:Value) (n:Nat) (xs:List Value),w1.ownsRow base 3 1 x n xs->(w1.setCell ⟨g,k,none⟩ (.slice ao l.its[k].1.length c)).ownsRow base 3 1 x n xs:=fun base x n xs i=>by
  refine⟨i.1,?_⟩;rcases i.2 with F | ⟨A,D,d,H,s,B,r⟩
  ·exact .inl F
  ·exact .inr ⟨A,D,d,H,s,by rw [Below.heap_setCell _ _ _ _ (by simpa using q A d B)];exact B,r⟩
 refine⟨by simp [h.len],?_,?_,?_,?_,?_,?_,?_⟩
 ·rw [List.take_succ_eq_append_getElem (by simpa using C)];simp [ak, <-h.same]
 ·have:=afj (k:=k) (u:=.slice ao l.its[k].1.length c) (Tl.kR h.row o);have e:((done++l.its.drop k).map cv).set k (.slice ao l.its[k].1.length c)=(done++[(l.its[k].1,ao,c)]++l.its.drop (k+1)).map cv:=by
   rw [List.map_append,List.set_append_right _ _ (by simp [h.len]),List.length_map,h.len,Nat.sub_self,List.drop_eq_getElem_cons C,List.map_cons,List.set_cons_zero,List.append_assoc,List.map_append]
   rfl
  rw [e] at this;exact this
 ·intro x i;rcases List.mem_append.1 i with i | i
  ·exact j _ _ _ _ (Tl.kR (h.own x i) o)
  ·simp only [List.mem_singleton] at i;subst i;have:=(gQ h.box).1;exact j _ _ _ _ (Tl.xZ G (by omega))
 ·rw [Below.heap_setCell _ _ _ _ (by simp;omega)];exact aG o h.box (gQ h.box).1
 ·rw [Below.heap_setCell _ _ _ _ (by simp;omega)];exact aG o h.res (gQ h.res).1
 ·exact⟨_,bG z _⟩
 ·exact(h.below.trans (o.mono h.below.size)).setCell (by simp;omega) _
structure jA (w:World) (v:Vw) (l:Pt.Lay) (k:Nat) (m:Pt.Lay) (wr:World):Prop where
 aj:v.aj=ak m.its
 row:wr.ownsRow (w.heap.size+2) 38 1 (.slice m.co m.its.length m.cap) m.its.length (m.its.map cv)
 each:∀ x∈m.its,wr.ownsRow (w.heap.size+2) 3 1 (cv x) x.1.length (ints x.1)
 new:∀ p,p < k->yB (w.heap.size+2) wr (m.ga p) (m.gc p) (v.gs p)
 old:∀ p,k<=p->m.ga p=l.ga p∧m.gc p=l.gc p
 box:wr.heap[w.heap.size+1]?=some (Pt.bf (bP v m))
 res:wr.heap[w.heap.size]?=some (Pt.bf (bP zv zl))
 below:Below w.heap.size w wr
theorem adU (v:Vw) (m:Pt.Lay) (p:Nat) (d:p < 6) (ao:Option Addr) (cap:Nat):(bP v m).setIfInBounds (1+p*9+2) (.slice ao (v.gs p).n cap)=bP v {m with ga:=upd m.ga p ao,gc:=upd m.gc p cap}:=by
 have b:p=0∨p=1∨p=2∨p=3∨p=4∨p=5:=by omega
 refine congrArg (fun c:Array Value=>c) ?_;rcases b with rfl | rfl | rfl | rfl | rfl | rfl <;>kernel_rfl
theorem ahI {l:Pt.Lay} {m:Pt.Lay} {j:World} (h:jA w v l k m wr) (A:k < 6) (d:Below wr.heap.size wr w1) (r:eH w1 (v.gs k).n (v.gs k).f ao cap j):
  jA w v l (k+1) {m with ga:=upd m.ga k ao,gc:=upd m.gc k cap} (j.setCell ⟨w.heap.size+1,1+k*9+2,none⟩ (.slice ao (v.gs k).n cap)):=by
 have q:=(gQ h.box).1;have i:Below wr.heap.size wr j:=d.trans (r.2.2.mono d.size);have c:∀ b,w.heap.size+2<=b->b < wr.heap.size->(j.setCell ⟨w.heap.size+1,1+k*9+2,none⟩ (.slice ao (v.gs k).n cap)).heap[b]?=wr.heap[b]?:=fun b D z=>by
  rw [Below.heap_setCell _ _ _ _ (by simp;omega)];exact i.block b z
 refine⟨h.aj,zA h.row c,fun x C=>zA (h.each x C) c,fun p B=>?_,fun p B=>?_,?_,?_,?_⟩
 ·show yB _ _ (upd m.ga k ao p) (upd m.gc k cap p) (v.gs p);by_cases e:p=k
  ·subst e;rw [dY,dY];rcases Nat.eq_zero_or_pos (v.gs p).n with o | o
   ·exact .inl o
   ·obtain⟨b,s,_,t,y⟩:=r.2.1 o;refine .inr ⟨b,s,by have:=d.size;omega,t,y.move ?_⟩;rw [Below.heap_setCell _ _ _ _ (by have:=d.size;simp;omega)]
  ·rw [upd_ne _ _ e,upd_ne _ _ e];exact(h.new p (by omega)).keep c
 ·show upd m.ga k ao p=_∧upd m.gc k cap p=_;rw [upd_ne _ _ (by omega),upd_ne _ _ (by omega)];exact h.old p (by omega)
 ·rw [bG (aG i h.box q),adU v m k A]
 ·rw [Below.heap_setCell _ _ _ _ (by simp)];exact aG i h.res (gQ h.res).1
 ·exact(h.below.trans (i.mono h.below.size)).setCell (by simp) _
theorem ahB {l:Pt.Lay} (i:v.aj=ak l.its) (h:vL w v l g cap k done wr) (b:k=l.its.length):jA w v l 0 {l with co:=some ⟨g,0,none⟩,cap:=cap,its:=done} wr:=by
 have c:done.length=l.its.length:=h.len.trans b;have d:=h.row;rw [b,List.drop_length,List.append_nil, <-c] at d;have f:=h.box;refine⟨?_,d,h.own,fun p j=>by omega,fun p _=>⟨rfl,rfl⟩,?_,h.res,h.below⟩
 ·show v.aj=ak done;rw [h.same,b,i,List.take_of_length_le (by simp)]
 ·rw [f];have:jg v {l with co:=some ⟨g,0,none⟩,cap:=cap}=jg v {l with co:=some ⟨g,0,none⟩,cap:=cap,its:=done}:=by
   unfold jg;dsimp only;rw [c]
   rfl
  unfold bP;rw [this]
theorem ahH {l m:Pt.Lay} (h:jA w v l 6 m wr) (c:∀ b,w.heap.size+2<=b->b < wr.heap.size->w'.heap[b]?=wr.heap[b]?):Ae w.heap.size w' v m:=by
 have:Ae (w.heap.size+2) w' v m:=⟨h.aj,zA h.row c,fun x f=>zA (h.each x f) c,fun p d=>(h.new p d).keep c⟩
 exact⟨this.aj,Tl.xZ this.row (by omega),fun x f=>Tl.xZ (this.each x f) (by omega),fun p d=>by
  rcases this.gs p d with e | ⟨b,i,q,j,o⟩
  ·exact .inl e
  ·exact .inr ⟨b,i,by omega,j,o⟩⟩
open Go.Proofs.YtkcdcamophkdlaaGreatDoor.Pt (Vw VC dw bP jg zv zl mR vc vX J3 Vk yt Pk J4)
theorem ahx (v:Vw) (l:Pt.Lay) (ao:Option Addr) (cap:Nat):(bP v l).setIfInBounds 0 (.slice ao l.its.length cap)=bP v {l with co:=ao,cap:=cap}:=rfl
theorem ahz {w:World} {v:Vw} {l:Pt.Lay} (d:0 < l.its.length) {w1:World} {ao:Option Addr} {cap:Nat}
  (h:w1.ownsRow ((w.alloc (Pt.bf (bP zv zl))).alloc (Pt.bf (bP v l))).heap.size 38 1 (.slice ao l.its.length cap) l.its.length (l.its.map cv))
  (o:Below ((w.alloc (Pt.bf (bP zv zl))).alloc (Pt.bf (bP v l))).heap.size ((w.alloc (Pt.bf (bP zv zl))).alloc (Pt.bf (bP v l))) w1):
  ∃ g,ao=some ⟨g,0,none⟩∧vL w v l g cap 0 [] (w1.setCell ⟨w.heap.size+1,0,none⟩ (.slice ao l.its.length cap)):=by
 obtain⟨g,rfl,s,_⟩:=OI h d;have q:((w.alloc (Pt.bf (bP zv zl))).alloc (Pt.bf (bP v l))).heap.size=w.heap.size+2:=by simp
 rw [q] at h s;have B:w1.heap[w.heap.size+1]?=some (Pt.bf (bP v l)):=aG o (bK w _ _) (by simp);have f:w1.heap[w.heap.size]?=some (Pt.bf (bP zv zl)):=aG o (aF (at_new w _) _) (by simp;omega);have r:∃ c,w1.heap[g]?=some (.cells c 38 (0,0)):=by
  rcases h.2 with ⟨i,_⟩ | ⟨D,C,j,i,_,z,_⟩
  ·cases i
  ·simp only [Value.slice.injEq,Option.some.injEq,Addr.mk.injEq,and_true,true_and] at i;exact⟨j,by rw [i.1];exact z⟩
 refine⟨g,rfl,rfl,rfl,?_,fun x A=>by simp at A,?_,?_,?_,?_⟩
 ·have:=zA (w':=w1.setCell ⟨w.heap.size+1,0,none⟩ (.slice (some ⟨g,0,none⟩) l.its.length cap)) h (fun b t _=>Below.heap_setCell _ _ _ _ (by simp;omega));simpa using this
 ·rw [bG B,ahx]
 ·rw [Below.heap_setCell _ _ _ _ (by simp)];exact f
 ·obtain⟨c,y⟩:=r;exact⟨c,by rw [Below.heap_setCell _ _ _ _ (by simp;omega)];exact y⟩
 ·exact(((aM _ _).alloc (by simp) _).trans (o.mono (by simp;omega))).setCell (by simp) _
theorem ahw (w:World) (S:aD) (L:Lay) (h:aS w S L):
  kC 7 #[.pointer (some ⟨L.sb,0,none⟩)] w fun e w'=>∃ l,e=.returned (.agg (bP S.v l))∧Ae w.heap.size w' S.v l∧Below w.heap.size w w':=by
 have HS:=gH h;have q:=(gQ h.box).1;have M:=h.xX;have s:0 < L.l.its.length:=by
  have:=h.ok.t.some;rw [h.aj] at this;simpa [List.length_pos_iff] using this
 obtain⟨l,hl⟩:∃ l,l=L.l:=⟨_,rfl⟩;obtain⟨v,uK⟩:∃ v,v=S.v:=⟨_,rfl⟩;have ah:∀ p,p < 6->(v.gs p).n*32<=140737488355328∧(l.ga p=none->(v.gs p).n=0∧l.gc p=0):=fun p hp=>by
  have h1:=(h.gs p hp).none;rw [uK,hl];refine⟨?_,h1⟩;rcases h.ok.grid p hp with e | e
  ·rw [e];show 0*32<=_;omega
  ·obtain⟨_,_,_⟩:=e.nums;omega
 obtain⟨C,O⟩:∃ C,C=bP v l:=⟨_,rfl⟩;have HZ:Hid (C.size=58):=by rw [O];rfl
 have Cq:Hid (w.alloc (Pt.bf (bP zv zl)) |>.rangeAt L.sb 0 C.toList):=by
  have:=(h.alloc (Pt.bf (bP zv zl))).view;rw [O,uK,hl];exact this
 rw [<-hl, <-uK] at M;rw [<-hl] at s;rw [<-uK];have HV:=gH M;have HG:=gH ah;have iQ:=gH s;have ac:Hid (∀ (W:World),Below w.heap.size w W->dw W v l):=fun W P=>HV.out.below P;have K:Below w.heap.size w ((w.alloc (Pt.bf (bP zv zl))).alloc (Pt.bf C)):=(aM _ _).alloc (by simp) _;obtain⟨a0,R⟩:∃ a,l.co=some a:=by
  rcases(M.rd.row) with e | ⟨b,aH,e,_⟩
  ·rw [e] at s;simp at s
  ·exact⟨_,e⟩
 have Z:Hid (kC 15 #[.slice (some a0) l.its.length l.cap] ((w.alloc (Pt.bf (bP zv zl))).alloc (Pt.bf C)) fun e w'=>∃ z d g,e=.returned (.slice z l.its.length d)∧z=some ⟨g,0,none⟩∧Below (w.heap.size+2) ((w.alloc (Pt.bf (bP zv zl))).alloc (Pt.bf C)) w'∧vL w v l g d 0 [] (w'.setCell ⟨w.heap.size+1,0,none⟩ (.slice z l.its.length d))):=by
  have hr:=(M.below K).rd;rw [R] at hr;refine(Tl.X6 a0 l.cap l.its _ hr (by have:=M.m1;omega)).mono ?_;rintro e w' ⟨z,d,rfl,V,D⟩;rw [O] at V D;obtain⟨g,hg,r⟩:=ahz (w:=w) (v:=v) (l:=l) s V D;exact⟨z,d,g,rfl,hg,by rw [O];simpa using D,r⟩
 have af:C[0]?=some (.slice (some a0) l.its.length l.cap):=by rw [O, <-R];rfl
 obtain⟨y0,z0⟩:((w.alloc (Pt.bf (bP zv zl))).alloc (Pt.bf C)).cell? ⟨w.heap.size+1,0,none⟩=some (.slice (some a0) l.its.length l.cap)∧∀ j,((w.alloc (Pt.bf (bP zv zl))).alloc (Pt.bf C)).frozen? ⟨w.heap.size+1,j,none⟩=false:=
  ⟨(cell_of_row _ _ 0 _ _ _ (bK w _ _)).trans af,fun j=>frozen_of_row _ _ j _ _ (bK w _ _)⟩
 have qP:Hid (C.all (·.oneCell')=true):=by rw [O];exact Pt.U5 v l
 have uY:=gH M.m2;have hN:=M.m1;clear h M ah K s uK hl R af O iQ;go_enter func7,ntmps7
 go_wp2_with (first
  | (refine J3 rfl rfl ?_)
  | (refine Vj C HZ.out rfl _ rfl L.sb rfl Cq.out ?_)
  | (refine ahU 36 (bP zv zl) C rfl _ _ rfl rfl rfl (by rw [HZ.out];exact vX) (by rw [HZ.out];rfl) qP.out ?_)
  | (go_at_call 15;refine Z.out.mono ?_;rintro e w1 ⟨ao,cap,g,rfl,au,J,ai⟩;subst au;have ab:=gH ai;have o:=aG J (bK w (Pt.bf (bP zv zl)) (Pt.bf C)) (by omega);have u0:w1.cell? ⟨w.heap.size+1,0,none⟩=some (.slice (some a0) l.its.length l.cap):=(J.cell (p:=⟨w.heap.size+1,0,none⟩) (by show w.heap.size+1 < w.heap.size+2;omega)).trans y0;have uf:∀ j,w1.frozen? ⟨w.heap.size+1,j,none⟩=false:=(fun j=>frozen_of_row w1 _ j _ _ o);have ul:=(gQ o).1;clear J ai o y0 z0))
 generalize w1.setCell ⟨w.heap.size+1,0,none⟩ (.slice (some ⟨g,0,none⟩) l.its.length cap)=W1 at*;clear u0 uf ul Z Cq HS;go_loopw [25] (fun i wr=>∃ (k:Nat) (done:List bn),k<=l.its.length∧i=.int .i64 k∧vL w v l g cap k done wr) (fun i _=>l.its.length - (intOf i).toNat)
 case atStart=>exact⟨0,[],Nat.zero_le _,rfl,ab.out⟩
 case round=>
  obtain⟨k,done,hk,rfl,r⟩:=hrel;have I:=gH r;clear ab;by_cases q:k < l.its.length
  ·have al:(k:Int) < (l.its.length:Int):=(by omega);obtain⟨x,hx⟩:∃ x,x=l.its[k]:=⟨_,rfl⟩;have HX:=gH hx;have ak:((done++l.its.drop k).map cv)[k]?=some (.slice x.2.1 x.1.length x.2.2):=by
    rw [List.getElem?_map,List.getElem?_append_right (by rw [r.len];exact Nat.le_refl _),r.len,Nat.sub_self,List.getElem?_drop,Nat.add_zero,List.getElem?_eq_getElem q, <-hx]
    rfl
   obtain⟨h1,ar⟩:=JK r.row ak;obtain⟨_,ag⟩:=r.Q7;have o:=r.box;have x5:wr.cell? ⟨w.heap.size+1,0,none⟩=some (.slice (some ⟨g,0,none⟩) l.its.length cap):=(cell_of_row wr _ 0 _ _ _ o).trans rfl;have x6:∀ j,wr.frozen? ⟨w.heap.size+1,j,none⟩=false:=fun j=>frozen_of_row wr _ j _ _ o;have B:=(gQ o).1;have y:x∈l.its:=(by rw [hx];exact List.getElem_mem q);have F:=(ac.out wr r.below).rd;have Z:Hid (∀ W,Below wr.heap.size wr W->kC 16 #[.slice x.2.1 x.1.length x.2.2] W fun e w'=>∃ z d,e=.returned (.slice z x.1.length d)∧w'.ownsRow W.heap.size 3 1 (.slice z x.1.length d) x.1.length (ints x.1)∧Below W.heap.size W w'):=fun W P=>Tl.uD x W ((F.each x y).1.below P) (F.each x y).2 (uY.out x y);have aq:=gH h1;clear r hx ak o F y;go_wp2_with fail;go_region_with ((go_at_call 16;refine(Z.out _ ((Below.refl _ _).drew)).mono ?_;rintro e H ⟨ao,c,rfl,V,ae⟩;have D:Below wr.heap.size wr H:=((Below.refl wr.heap.size wr).drew).trans ae;have HB:Hid (H.ownsRow wr.heap.size 3 1 (.slice ao x.1.length c) x.1.length (ints x.1)∧Below wr.heap.size wr H):=⟨V,D⟩;have aI:H.cell? ⟨w.heap.size+1,0,none⟩=some (.slice (some ⟨g,0,none⟩) l.its.length cap):=(D.cell (p:=⟨w.heap.size+1,0,none⟩) B).trans x5;have aJ:(∀ j,H.frozen? ⟨w.heap.size+1,j,none⟩=false):=(fun j=>frozen_of_row H _ j _ _ (aG D I.out.box B));have az:H.cell? ⟨g,k,none⟩=some (.slice x.2.1 x.1.length x.2.2):=(D.cell (p:=⟨g,k,none⟩) ag).trans aq.out;have aC:H.frozen? ⟨g,k,none⟩=false:=(JK (Tl.kR I.out.row D) (k:=k) (u:=.slice x.2.1 x.1.length x.2.2) (by rw [List.getElem?_map,List.getElem?_append_right (by rw [I.out.len];exact Nat.le_refl _),I.out.len,Nat.sub_self,List.getElem?_drop,Nat.add_zero,List.getElem?_eq_getElem q, <-HX.out];rfl)).2;have aA:w.heap.size+1 < H.heap.size:=Nat.lt_of_lt_of_le B D.size;have aB:g < H.heap.size:=Nat.lt_of_lt_of_le ag D.size;clear V ae D x5 x6 h1 ar))
   all_goals (
    go_wp2
    go_roundw
    case rel=>
     obtain⟨f1,f2⟩:=HB.out
     rw [HX.out] at f1 ⊢
     exact⟨k+1,_,by omega,by go_num,ahA I.out q f1 f2⟩
    case measure=>(simp [intOf];omega))
  ·have aE:(l.its.length:Int)<=(k:Int):=(by omega);obtain⟨Y,am,X⟩:∃ m,(m.ga=l.ga∧m.gc=l.gc)∧jA w v l 0 m wr:=⟨_,⟨rfl,rfl⟩,ahB HV.out.aj r (by omega)⟩;have wO:=gH am;have HW:=gH X;obtain⟨C1,Fe⟩:∃ C,C=bP v Y:=⟨_,rfl⟩;have eU:Hid (VC v Y C1):=(Fe ▸ vc v Y);have aa:Hid (wr.heap[w.heap.size+1]?=some (Pt.bf C1)):=(by rw [Fe];exact X.box);obtain⟨A,hA⟩:∃ A,A=(mR v Y).toArray:=⟨_,rfl⟩;have HA:=gH hA;clear r am X Fe hA I;go_wp2_with (refine Pk v Y C1 eU.out rfl _ rfl (w.heap.size+1) rfl aa.out A HA.out ?_);go_loopw [40] (fun i wr=>∃ (k:Nat) (m:Pt.Lay),k<=6∧i=.int .i64 k∧jA w v l k m wr) (fun i _=>6 - (intOf i).toNat)
   case atStart=>exact⟨0,Y,by omega,rfl,HW.out⟩
   case round=>
    obtain⟨k,m,hk,rfl,r⟩:=hrel;have I:=gH r;clear aa HW eU;by_cases q:k < 6
    ·have al:(k:Int) < 6:=(by omega);have aF:(0:Int)<=(k:Int):=(by omega);obtain⟨G,hG⟩:∃ G,G=v.gs k:=⟨_,rfl⟩;obtain⟨ga,T⟩:∃ ga,ga=l.ga k:=⟨_,rfl⟩;obtain⟨gc,U⟩:∃ gc,gc=l.gc k:=⟨_,rfl⟩;have ap:=gH hG;have o:=r.box;have B:=(gQ o).1;have Z:Hid (∀ W,Below wr.heap.size wr W->kC 17 #[.slice ga G.n gc] W fun e w'=>∃ z d,e=.returned (.slice z G.n d)∧eH W G.n G.f z d w'∧w'.cell? ⟨w.heap.size+1,1+k*9+2,none⟩=some (.slice (m.ga k) G.n (m.gc k))∧(∀ j,w'.frozen? ⟨w.heap.size+1,j,none⟩=false)∧w.heap.size+1 < w'.heap.size):=fun W P=>by
      have F:=(ac.out W (r.below.trans (P.mono r.below.size))).gs k q;obtain⟨g1,g2⟩:=HG.out k q;rw [hG,T,U];refine(uD (l.ga k) (l.gc k) (v.gs k).n (v.gs k).f W F g2 g1).mono ?_;rintro e w' ⟨z,d,rfl,E⟩;have ad:Below wr.heap.size wr w':=P.trans (E.2.2.mono P.size);have Rq:=aG ad o B;refine⟨z,d,rfl,E,?_,fun j=>frozen_of_row w' _ j _ _ Rq,Nat.lt_of_lt_of_le B ad.size⟩;exact Pt.LY (vc v m) Rq k q 2 _ rfl
     have uX:Hid (∀ {an:Array Oper} {N:List Oper} {op:Oper} {a:Act} {w:World} {Q:Exit->Act->World->Prop} (_:op.guard=none) (x ix:Operand) (_:op.op=.index 34 x ix) (_:a.eval x=.agg A) (_:a.eval ix=.int .i64 k) (_:wpList prog an Q N (a.put op.dst (ay G ga gc)) w),wpList prog an Q (op::N) a w):=fun aw x ix V hx ax h=>J4 v Y aw x ix V A hx k ax HA.out q (by rw [wO.out.1,wO.out.2, <-hG, <-T, <-U];exact h);clear r hG T U o HA
     go_wp2_with (first
      | (refine uX.out rfl _ _ rfl rfl rfl ?_)
      | (go_at_call 17;refine(Z.out _ (aM _ _)).mono ?_;rintro e H ⟨ao,c,rfl,E,_,_,_⟩;have fG:=gH E;clear E))
     go_roundw
     case rel=>
      refine⟨k+1,{m with ga:=upd m.ga k ao,gc:=upd m.gc k c},by omega,by go_num,?_⟩;have:=fG.out;rw [ap.out] at this ⊢;exact ahI I.out q (aM _ _) this
     case measure=>(simp [intOf];omega)
    ·obtain rfl:k=6:=(by omega);obtain⟨C6,Fg⟩:∃ C,C=bP v m:=⟨_,rfl⟩;have Jj:Hid (C6.size=58):=(by rw [Fg];rfl);have rH:Hid (C6.all (·.oneCell')=true):=(by rw [Fg];exact Pt.U5 v m);have av:Hid (wr.heap[w.heap.size+1]?=some (Pt.bf C6)):=(by rw [Fg];exact r.box);have Dh:=gH r.res;have H6:=gH Fg;clear r Fg HA wO
     go_wp2_with (first
      | (refine yt C6 Jj.out rfl _ rfl (w.heap.size+1) rfl av.out ?_)
      | (refine Vg rfl 36 _ _ rfl w.heap.size C6 rfl rfl (bP zv zl) Dh.out (by rw [Jj.out];exact vX) (by rw [Jj.out];rfl) rH.out ?_;intro w7 h7))
     refine ahy rfl rfl rfl Jj.out h7.out.1 ⟨m,by rw [H6.out],ahH I.out (fun b J K=>h7.out.2.block b K (by simp;omega)),below_grown I.out.below (Nat.le_refl _) h7.out.2⟩
end Go.Proofs.YtkcdcamophkdlaaGreatDoor.Sv
