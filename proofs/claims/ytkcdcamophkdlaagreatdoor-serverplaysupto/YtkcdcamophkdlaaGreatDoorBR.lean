import Derived.Test.YtkcdcamophkdlaaGreatDoorAG
set_option maxHeartbeats 1000000
open Go.Proofs.Tryz
namespace Go.Proofs.YtkcdcamophkdlaaGreatDoor.Ps
open Go.RowKit
def nk (w:World) (s:PS) (e:Ending) (w':World):Prop:=
 ∃ ao cap,e=.returned (.agg #[.int .i64 s.place,.slice ao s.ps.length cap,.string s.pl,.bool s.lg])∧Own (w.heap.size+2) w' ao cap s.ps∧Below w.heap.size w w'
theorem Yr {w b:World} {s:PS} {ao:Option Addr} {cap:Nat} (a:Own (w.heap.size+2) b ao cap s.ps) (c:Below w.heap.size w b) (u d e f g:Value):
  nk w s (.returned (.agg #[.int .i64 s.place,.slice ao s.ps.length cap,.string s.pl,.bool s.lg])) (((((b.setCell ⟨w.heap.size,1,none⟩ u).setCell ⟨w.heap.size+1,0,none⟩ d).setCell ⟨w.heap.size+1,1,none⟩ e).setCell ⟨w.heap.size+1,2,none⟩ f).setCell ⟨w.heap.size+1,3,none⟩ g):=by
 refine⟨ao,cap,rfl,?_,?_⟩
 ·exact gK (gK (gK (gK (gK a (by simp) _) (by simp) _) (by simp) _) (by simp) _) (by simp) _
 ·exact((((c.setCell (Nat.le_refl _) _).setCell (by simp) _).setCell (by simp) _).setCell (by simp) _).setCell (by simp) _
theorem Yu (s:PS) (a:Addr) (cap:Nat) (w:World) (p:Rd w (some a) s.ps) (N:s.ps.length*8<=140737488355328):
  kC 51 #[.agg #[.int .i64 s.place,.slice (some a) s.ps.length cap,.string s.pl,.bool s.lg]] w fun e Q=>nk w s e Q:=by
 obtain⟨O,K,t,x,y⟩:=info_parts info3;obtain⟨f,i,o,n⟩:=s;simp only at p N ⊢;have E:Hid (∀ j u,(ints i)[j]?=some u->((w.alloc (.cells #[.int .i64 f,.slice (some a) i.length cap,.string o,.bool n] 40)).alloc (.cells #[.int .i64 0,.slice none 0 0,.string ⟨#[]⟩,.bool false] 40)).cell? (a.add j)=some u):=by
  intro j u r;have q:=p.below (((Below.refl _ _).alloc (Nat.le_refl _) (.cells #[.int .i64 f,.slice (some a) i.length cap,.string o,.bool n] 40)).alloc (by simp) (.cells #[.int .i64 0,.slice none 0 0,.string ⟨#[]⟩,.bool false] 40));have m:j < i.length:=(by have:=(gL r).1;simpa [ints] using this);rcases q with h | ⟨b,l,z,J⟩
  ·subst h;simp at m
  ·simp only [Option.some.injEq] at z;subst z;have e:(⟨b,l,none⟩:Addr).add j=⟨b,l+j,none⟩:=(by unfold Addr.add;split <;>simp_all);rw [e,J j m];simp [ints,m] at r;simp [m,r]
 clear p;go_enter func51,ntmps51;go_wp2_with (first | (at_builtin;refine wpList_append_own _ rfl _ _ 38 rfl (w.heap.size+2) 3 O (.int .i64 0) 1 8 underlying38 K t x y rfl (by decide) _ 0 [] rfl (World.ownsRow_nil _ _ _ _) a i.length cap (ints i) rfl (by simp [ints]) E.out (by simp [ints];intros;rfl) (by unfold maxLen;omega) (by omega) (by simp) ?_) | go_in);intro S R g d _;obtain⟨ao,c,rfl,A⟩:=JB g;clear g;obtain⟨_,_,_,_,_,_,_,_⟩:=four (bH d (aF (at_new w _) _) (by simp [Value.ownBlock]));obtain⟨F,G,H,I,_,_,_,_⟩:=four (bH d (bK w _ _) (by simp [Value.ownBlock]));have C:Hid (Below w.heap.size w R):=(((Below.refl _ _).alloc (Nat.le_refl _) _).alloc (by simp) _).grown d (by simp;omega) (fun k M=>by simp [Value.ownBlock] at M);have D:=gH A;clear A d;go_wp2;refine bodyPost_ret (v:=.agg #[.int .i64 f,.slice ao i.length c,.string o,.bool n]) (by simp [results,results51,go_sem,F,G,H,I]) rfl ?_;exact Yr (s:=⟨f,i,o,n⟩) D.out C.out _ _ _ _ _
theorem Yt (a:Int) (c:ByteArray) (b:Bool) (w:World):
  kC 51 #[.agg #[.int .i64 a,.slice none 0 0,.string c,.bool b]] w fun e h=>nk w ⟨a,[],c,b⟩ e h:=by
 obtain⟨f,d,_,_,_⟩:=info_parts info3;have:=fun(g:TypeId) (w:World)=>run_append_owned_none (P:=prog) w 0 38 g 3 f 1 underlying38 d (.slice none 0 0) 0 [] (World.ownsRow_nil _ _ _ _);go_enter func51,ntmps51;go_wp2;refine bodyPost_ret (v:=.agg #[.int .i64 a,.slice none 0 0,.string c,.bool b]) (by simp [results,results51,go_sem]) rfl ?_;exact⟨none,0,rfl,kP _ _,((Below.refl _ _).alloc (Nat.le_refl _) _).alloc (by simp) _⟩
theorem Yq (s:PS) (ao:Option Addr) (cap:Nat) (w:World) (g:Rd w ao s.ps) (f:ao=none->s.ps.length=0∧cap=0) (d:s.ps.length*8<=140737488355328):
  kC 51 #[.agg #[.int .i64 s.place,.slice ao s.ps.length cap,.string s.pl,.bool s.lg]] w fun e k=>nk w s e k:=by
 cases ao with
 | none=>
  obtain⟨c,rfl⟩:=f rfl;obtain⟨b,j,i,h⟩:=s;obtain rfl:j=[]:=List.length_eq_zero_iff.1 c;exact Yt b i h w
 | some a=>exact Yu s a cap w g d
theorem Q6 (s:PS) (h:mW s.ps=false):false=fD s:=by simp [fD,oF,h]
theorem Z6 (s:PS) (h:(4:Int) < (s.ps.length:Int)):false=fD s:=by
 have:¬ s.ps.length<=4:=by omega
 simp [fD,oF,this]
theorem Z8 (s:PS) (h:(48:Int) < (s.pl.size:Int)):false=fD s:=by
 have a:¬ s.pl.size<=48:=by omega
 have b:s.pl.toList.isEmpty=false:=by
  rw [ByteArray.toList_eq];cases c:s.pl with
  | mk d=>
   rw [c] at h;have:0 < d.size:=(by change (48:Int) < (d.size:Int) at h;omega);cases d with
   | mk l=>cases l with
    | nil=>simp at this
    | cons x r=>rfl
 simp [fD,sU,a,b]
theorem Q0 (s:PS) (g:s.place=0∨s.place=1) (e:mW s.ps=true) (d:s.ps.length<=4):fD s=(decide (s.ps.length=0) && s.pl.toList.isEmpty && !s.lg):=by
 have b:¬ s.place=2:=by omega
 have c:¬ (s.place=3∨s.place=4):=by omega
 have a:0<=s.place∧s.place<=4:=by omega
 simp only [fD,sZ,oF,sU,a,b,c,e,d,if_false];cases f:s.ps <;>simp
theorem Z5 (s:PS) (c:s.place=2) (b:mW s.ps=true) (a:s.ps.length<=4):fD s=(decide (0 < s.ps.length) && s.pl.toList.isEmpty && !s.lg):=by
 simp only [fD,sZ,oF,sU,c,b,a];cases d:s.ps <;>simp
theorem Q5 (s:PS) (e:s.place=3∨s.place=4) (d:mW s.ps=true) (c:s.ps.length<=4) (f:s.pl.size<=48):fD s=decide (s.ps.length=0):=by
 have b:¬ s.place=2:=by omega
 have a:0<=s.place∧s.place<=4:=by omega
 simp only [fD,sZ,oF,sU,a,e,b,d,c,f,if_true];cases g:s.ps <;>simp
theorem Z7 (s:PS) (a:¬ (0<=s.place∧s.place<=4)):false=fD s:=by simp only [fD,sZ,a];simp
theorem aan (s:PS) (ao:Option Addr) (cap:Nat) (w:World) (A:Rd w ao s.ps) (Q:s.ps.length<=9223372036854775807):
  kA 50 #[.agg #[.int .i64 s.place,.slice ao s.ps.length cap,.string s.pl,.bool s.lg]] w (.bool (fD s)):=by
 obtain⟨a,c,f,j⟩:=s;simp only at A Q ⊢;have N:=gH A;clear A;go_enter func50,ntmps50;go_wp2;go_loop [8] (fun i=>∃ k:Nat,k<=c.length∧i=.int .i64 k∧mW (c.take k)=true) (fun i=>c.length - (intOf i).toNat)
 case atStart=>exact⟨0,Nat.zero_le _,rfl,rfl⟩
 case round=>
  obtain⟨k,_,rfl,M⟩:=hrel;have I:=gH M;clear M;by_cases m:k < c.length
  ·rcases N.out with h | ⟨b,t,rfl,J⟩
   ·subst h;simp at m
   have l:=J k m;have y:b < w.heap.size:=World.block_lt_of_cell? w _ l;have n:(w.alloc (.cells #[.int .i64 a,.slice (some ⟨b,t,none⟩) c.length cap,.string f,.bool j] 40)).cell? ⟨b,t+k,none⟩=some (.int .i64 (c.getD k 0)):=(by rw [World.cell?_alloc_past _ _ _ y];exact l);obtain⟨x,C⟩:∃ x,x=c.getD k 0:=⟨_,rfl⟩;rw [<-C] at n;have u:=gH C;have K:(k:Int) < (c.length:Int):=(by omega);clear l C J;by_cases R:x < 0
   ·go_wp2;go_ret;exact⟨bD (Q6 _ (Jv c k m (by rw [<-u.out];simp [uN];omega))),(Below.refl _ _).alloc (Nat.le_refl _) _⟩
   ·by_cases S:999 < x
    ·go_wp2;go_ret;exact⟨bD (Q6 _ (Jv c k m (by rw [<-u.out];simp [uN];omega))),(Below.refl _ _).alloc (Nat.le_refl _) _⟩
    ·go_wp2;go_round
     case rel=>exact⟨k+1,by omega,by go_num,by rw [SG c k m,I.out, <-u.out];simp [uN];omega⟩
     case measure=>simp [intOf];omega
  ·have r:Hid (mW c=true):=by
    have:=I.out;rw [List.take_of_length_le (by omega)] at this;exact this
   by_cases O:(4:Int) < (c.length:Int)
   ·go_wp2;go_ret;exact⟨bD (Z6 _ O),(Below.refl _ _).alloc (Nat.le_refl _) _⟩
   ·by_cases v:(48:Int) < (f.size:Int)
    ·go_wp2;go_ret;exact⟨bD (Z8 _ v),(Below.refl _ _).alloc (Nat.le_refl _) _⟩
    ·have p:Hid (c.length<=4):=(by show c.length<=4;omega);have q:Hid (f.size<=48):=(by show f.size<=48;omega);by_cases D:a=0
     ·subst D;have g:Hid (fD ⟨0,c,f,j⟩=(decide (c.length=0) && f.toList.isEmpty && !j)):=Q0 ⟨0,c,f,j⟩ (.inl rfl) r.out p.out;by_cases e:c=[]
      ·subst e;by_cases d:f.toList=[]
       ·go_wp2
        all_goals (go_ret;exact⟨bD (by rw [g.out];simp [d]),(Below.refl _ _).alloc (Nat.le_refl _) _⟩)
       ·go_wp2
        all_goals (go_ret;exact⟨bD (by rw [g.out];simp [d]),(Below.refl _ _).alloc (Nat.le_refl _) _⟩)
      ·by_cases d:f.toList=[]
       ·go_wp2
        all_goals (go_ret;exact⟨bD (by rw [g.out];simp [e,d]),(Below.refl _ _).alloc (Nat.le_refl _) _⟩)
       ·go_wp2
        all_goals (go_ret;exact⟨bD (by rw [g.out];simp [e]),(Below.refl _ _).alloc (Nat.le_refl _) _⟩)
     by_cases E:a=1
     ·subst E;have g:Hid (fD ⟨1,c,f,j⟩=(decide (c.length=0) && f.toList.isEmpty && !j)):=Q0 ⟨1,c,f,j⟩ (.inr rfl) r.out p.out;by_cases e:c=[]
      ·subst e;by_cases d:f.toList=[]
       ·go_wp2
        all_goals (go_ret;exact⟨bD (by rw [g.out];simp [d]),(Below.refl _ _).alloc (Nat.le_refl _) _⟩)
       ·go_wp2
        all_goals (go_ret;exact⟨bD (by rw [g.out];simp [d]),(Below.refl _ _).alloc (Nat.le_refl _) _⟩)
      ·by_cases d:f.toList=[]
       ·go_wp2
        all_goals (go_ret;exact⟨bD (by rw [g.out];simp [e,d]),(Below.refl _ _).alloc (Nat.le_refl _) _⟩)
       ·go_wp2
        all_goals (go_ret;exact⟨bD (by rw [g.out];simp [e]),(Below.refl _ _).alloc (Nat.le_refl _) _⟩)
     by_cases F:a=2
     ·subst F;have g:Hid (fD ⟨2,c,f,j⟩=(decide (0 < c.length) && f.toList.isEmpty && !j)):=Z5 ⟨2,c,f,j⟩ rfl r.out p.out;by_cases e:c=[]
      ·subst e;by_cases d:f.toList=[]
       ·go_wp2
        all_goals (go_ret;exact⟨bD (by rw [g.out];simp [d]),(Below.refl _ _).alloc (Nat.le_refl _) _⟩)
       ·go_wp2
        all_goals (go_ret;exact⟨bD (by rw [g.out];simp),(Below.refl _ _).alloc (Nat.le_refl _) _⟩)
      ·have o:0 < c.length:=List.length_pos_iff.2 e;have z:(0:Int) < (c.length:Int):=(by omega);by_cases d:f.toList=[]
       ·go_wp2
        all_goals (go_ret;exact⟨bD (by rw [g.out];simp [o,d]),(Below.refl _ _).alloc (Nat.le_refl _) _⟩)
       ·go_wp2
        all_goals (go_ret;exact⟨bD (by rw [g.out];simp [o,d]),(Below.refl _ _).alloc (Nat.le_refl _) _⟩)
     by_cases G:a=3
     ·subst G;have g:Hid (fD ⟨3,c,f,j⟩=decide (c.length=0)):=Q5 ⟨3,c,f,j⟩ (.inl rfl) r.out p.out q.out;by_cases e:c=[]
      ·subst e;by_cases d:f.toList=[]
       ·go_wp2
        all_goals (go_ret;exact⟨bD (by rw [g.out];simp),(Below.refl _ _).alloc (Nat.le_refl _) _⟩)
       ·go_wp2
        all_goals (go_ret;exact⟨bD (by rw [g.out];simp),(Below.refl _ _).alloc (Nat.le_refl _) _⟩)
      ·by_cases d:f.toList=[]
       ·go_wp2
        all_goals (go_ret;exact⟨bD (by rw [g.out];simp [e]),(Below.refl _ _).alloc (Nat.le_refl _) _⟩)
       ·go_wp2
        all_goals (go_ret;exact⟨bD (by rw [g.out];simp [e]),(Below.refl _ _).alloc (Nat.le_refl _) _⟩)
     by_cases H:a=4
     ·subst H;have g:Hid (fD ⟨4,c,f,j⟩=decide (c.length=0)):=Q5 ⟨4,c,f,j⟩ (.inr rfl) r.out p.out q.out;by_cases e:c=[]
      ·subst e;by_cases d:f.toList=[]
       ·go_wp2
        all_goals (go_ret;exact⟨bD (by rw [g.out];simp),(Below.refl _ _).alloc (Nat.le_refl _) _⟩)
       ·go_wp2
        all_goals (go_ret;exact⟨bD (by rw [g.out];simp),(Below.refl _ _).alloc (Nat.le_refl _) _⟩)
      ·by_cases d:f.toList=[]
       ·go_wp2
        all_goals (go_ret;exact⟨bD (by rw [g.out];simp [e]),(Below.refl _ _).alloc (Nat.le_refl _) _⟩)
       ·go_wp2
        all_goals (go_ret;exact⟨bD (by rw [g.out];simp [e]),(Below.refl _ _).alloc (Nat.le_refl _) _⟩)
     have g:Hid (false=fD ⟨a,c,f,j⟩):=Z7 ⟨a,c,f,j⟩ (by simp only;omega);have T:(a==0)=false:=(by simpa using D);have U:(a==1)=false:=(by simpa using E);have V:(a==2)=false:=(by simpa using F);have W:(a==3)=false:=(by simpa using G);have X:(a==4)=false:=(by simpa using H);clear D E F G H;go_wp2;go_ret;exact⟨bD g.out,(Below.refl _ _).alloc (Nat.le_refl _) _⟩
structure GInv (B L Y:Nat) (w wr:World) (ys:Array Value) (ym:Nat×Nat) (st:PS) (ao:Option Addr) (cap:Nat) (tq:Option Addr) (tc:Nat) (evs:List Item):Prop where
 below:Below B w wr
 hL:B+2<=L
 hY:B+2<=Y
 box:wr.heap[B]?=some (.cells #[.int .i64 st.place,.slice ao st.ps.length cap,.string st.pl,.bool st.lg] 40 (0,0))
 res:wr.heap[B+1]?=some (.cells #[.int .i64 0,.slice none 0 0,.string ⟨#[]⟩,.bool false] 40 (0,0))
 cl:wr.heap[L]?=some (.cells #[.slice tq evs.length tc] 78 (0,0))
 cy:wr.heap[Y]?=some (.cells ys 5 ym)
 own:Own (B+2) wr ao cap st.ps
 told:Told (B+2) wr tq tc evs
 apart:∀ x∈evs,blk x.2.1=none∨blk x.2.1≠blk ao
section
variable {B L Y : Nat} {w wr : World} {ys : Array Value} {ym : Nat × Nat} {st : PS} {ao : Option Addr} {cap : Nat} {tq : Option Addr} {tc : Nat} {evs : List Item}
theorem sP {w:World} {b:Nat} {o:Obj} (h:w.heap[b]?=some o):b < w.heap.size:=(gQ h).1
theorem GInv.size (h:GInv B L Y w wr ys ym st ao cap tq tc evs):B+2<=wr.heap.size:=by have:=sP h.cl;have:=h.hL;omega
theorem GInv.later {b:World} (h:GInv B L Y w wr ys ym st ao cap tq tc evs) (a:Below wr.heap.size wr b):GInv B L Y w b ys ym st ao cap tq tc evs:=
 ⟨h.below.trans (a.mono (by have:=h.size;omega)),h.hL,h.hY,aG a h.box (sP h.box),aG a h.res (sP h.res),aG a h.cl (sP h.cl),aG a h.cy (sP h.cy),h.own.later a,h.told.later a,h.apart⟩
theorem x9 {w:World} {base:Nat} {e:TypeId} {i:Nat} {ao:Option Addr} {n cap:Nat} {j:List Value} {b:Nat} {cs:Array Value} {t:TypeId} {d:Nat×Nat} (h:w.ownsRow base e i (.slice ao n cap) n j) (a:w.heap[b]?=some (.cells cs t d)) (g:e≠t):blk ao≠some b:=by
 intro c;obtain⟨_,_,_,f⟩:=Du h c;rw [f] at a;simp at a;exact g a.2.1
theorem uS {w:World} {base:Nat} {e:TypeId} {f:Nat} {ao:Option Addr} {n cap:Nat} {i:List Value} (h:w.ownsRow base e f (.slice ao n cap) n i) {p:Addr} (m:blk ao≠some p.block) (u:Value):(w.setCell p u).ownsRow base e f (.slice ao n cap) n i:=by
 refine⟨h.1,?_⟩;rcases h.2 with l | ⟨g,c,b,d,j,k,a⟩
 ·exact .inl l
 ·refine .inr ⟨g,c,b,d,j,?_,a⟩;rw [Below.heap_setCell _ _ _ _ (fun e=>m (by simp only [Value.slice.injEq] at d;rw [d.1];simp [blk,e]))];exact k
theorem GInv.put (h:GInv B L Y w wr ys ym st ao cap tq tc evs) {e:World} {a:PS} {d:Option Addr} {cap':Nat} (b:wr.grownBy e (some B)) (o:e.heap[B]?=some (.cells #[.int .i64 a.place,.slice d a.ps.length cap',.string a.pl,.bool a.lg] 40 (0,0)))
  (c:Own (B+2) e d cap' a.ps) (f:∀ x∈evs,blk x.2.1=none∨blk x.2.1≠blk d):GInv B L Y w e ys ym a d cap' tq tc evs:=by
 have j:=h.hL;have l:=h.hY;refine⟨h.below.grown b (by have:=h.size;omega) (fun k m=>by cases m;exact Nat.le_refl _),j,l,o,bH b h.res (by simp),bH b h.cl (by simp;omega),bH b h.cy (by simp;omega),c,?_,f⟩;refine h.told.kept b ?_ ?_
 ·cases i:blk tq with
  | none=>exact .inl rfl
  | some g=>right;have:=(Du h.told.row i).1;simp;omega
 ·intro x n;cases i:blk x.2.1 with
  | none=>exact .inl rfl
  | some g=>right;have:=(qd (h.told.each x n) i).1;simp;omega
theorem WU:∀ x∈evs,blk x.2.1=none∨blk x.2.1≠blk none:=by
 intro x _;cases a:blk x.2.1 with
 | none=>exact .inl rfl
 | some g=>right;simp [blk]
theorem GInv.Gf (h:GInv B L Y w wr ys ym st ao cap tq tc evs) (a:PS) (b:a.ps=[]):
  GInv B L Y w ((((wr.setCell ⟨B,0,none⟩ (.int .i64 a.place)).setCell ⟨B,1,none⟩ (.slice none 0 0)).setCell ⟨B,2,none⟩ (.string a.pl)).setCell ⟨B,3,none⟩ (.bool a.lg)) ys ym a none 0 tq tc evs:=by
 refine h.put ?_ ?_ ?_ WU
 ·exact⟨rfl,rfl,rfl,by simp,fun k _ d=>by
   have c:k≠B:=fun e=>d (by rw [e])
   rw [Below.heap_setCell _ _ _ _ c,Below.heap_setCell _ _ _ _ c,Below.heap_setCell _ _ _ _ c,Below.heap_setCell _ _ _ _ c]⟩
 ·rw [b];exact wC h.box _ _ _ _
 ·rw [b];exact kP _ _
theorem sN (h:GInv B L Y w wr ys ym st ao cap tq tc evs):
  kC 53 #[.pointer (some ⟨B,0,none⟩)] wr fun e a=>e=.returned (.tuple #[])∧GInv B L Y w a ys ym ground none 0 tq tc evs:=by
 obtain⟨_,_,_,_,_,_,_,_⟩:=four h.box;have H:=gH h;clear h;go_enter func53,ntmps53;go_wp2;go_end0;exact⟨rfl,H.out.Gf ground rfl⟩
theorem one_cell {w:World} {b:Nat} {a:Value} {t:TypeId} (h:w.heap[b]?=some (.cells #[a] t (0,0))):w.cell? ⟨b,0,none⟩=some a∧w.frozen? ⟨b,0,none⟩=false:=
 ⟨cell_of_row w b 0 _ t _ h,frozen_of_row w b 0 _ t h⟩
theorem ahc {d:World} {i:Ev} {p:Option Addr} {j:Nat} {o1 o2:Obj} {g cap':Nat} (h:GInv B L Y w wr ys ym st ao cap tq tc evs) (t:Own (B+2) wr p j i.ps) (n:blk p=none∨blk p≠blk ao)
  (c:d.ownsRow (B+2) 82 4 (.slice (some ⟨g,0,none⟩) (evs.length+1) cap') (evs.length+1) (qY evs++cellsOf (i,p,j))) (a:((wr.alloc o1).alloc o2).grownBy d (blk tq)):
  GInv B L Y w (d.setCell ⟨L,0,none⟩ (.slice (some ⟨g,0,none⟩) (evs.length+1) cap')) ys ym st ao cap (some ⟨g,0,none⟩) cap' (evs++[(i,p,j)]):=by
 have C:=h.hL;have D:=h.hY;have E:=h.size;have o:∀ k,blk tq=some k->B+2<=k:=fun k m=>(Du h.told.row m).1;have y:some B≠blk tq:=fun e=>by have:=o _ e.symm;omega
 have v:some (B+1)≠blk tq:=fun e=>by have:=o _ e.symm;omega
 have z:some L≠blk tq:=fun e=>x9 h.told.row h.cl (by decide) e.symm;have A:some Y≠blk tq:=fun e=>x9 h.told.row h.cy (by decide) e.symm;have l:Y≠L:=by
  intro e;have s:=h.cy;rw [e,h.cl] at s;simp at s
 have f:=bH a (aF (aF h.cl o1) o2) z;have r:Own (B+2) d ao cap st.ps:=uP (iA (iA h.own o1) o2) a (rV h.own h.told.row (by decide));have u:Own (B+2) d p j i.ps:=uP (iA (iA t o1) o2) a (rV t h.told.row (by decide));have q:∀ x∈evs,Own (B+2) d x.2.1 x.2.2 x.1.ps:=fun x b=>uP (iA (iA (h.told.each x b) o1) o2) a (rV (h.told.each x b) h.told.row (by decide));refine⟨?_,C,D,cO (bH a (aF (aF h.box o1) o2) y) (by omega),cO (bH a (aF (aF h.res o1) o2) v) (by omega),?_,cO (bH a (aF (aF h.cy o1) o2) A) l,?_,⟨?_,?_⟩,?_⟩
 ·exact(((h.below.alloc (by omega) o1).alloc (by simp;omega) o2).grown a (by simp;omega) (fun k m=>by have:=o k m;omega)).setCell (by simp;omega) _
 ·rw [heap_setCell_same d L 0 _ 78 _ f];simp
 ·exact uS r (x9 r f (by decide)) _
 ·rw [P6];have:=uS c (x9 c f (by decide)) (p:=⟨L,0,none⟩) (.slice (some ⟨g,0,none⟩) (evs.length+1) cap');simpa using this
 ·intro x b;rcases List.mem_append.1 b with b | b
  ·exact uS (q x b) (x9 (q x b) f (by decide)) _
  ·simp at b;subst b;exact uS u (x9 u f (by decide)) _
 ·intro x b;rcases List.mem_append.1 b with b | b
  ·exact h.apart x b
  ·simp at b;subst b;exact n
theorem wF (d:Ev) (p:Option Addr) (i:Nat) (h:GInv B L Y w wr ys ym st ao cap tq tc evs) (q:Own (B+2) wr p i d.ps) (f:blk p=none∨blk p≠blk ao) (o:evs.length<=1048576):
  kC 52 #[.agg #[.int .i64 d.kind,.int .i64 d.b,.slice p d.ps.length i,.string d.pl],.pointer (some ⟨L,0,none⟩)] wr fun e D=>e=.returned (.tuple #[])∧∃ g a,GInv B L Y w D ys ym st ao cap (some ⟨g,0,none⟩) a (evs++[(d,p,i)]):=by
 obtain⟨_,_⟩:=one_cell h.cl;have:L < wr.heap.size:=sP h.cl;have H:=gH h;have x:=gH q;have t:=gH f;have z:=gH h.told.row;have y:=gH h.size;obtain⟨n,C,k,l,m⟩:=info_parts info37;have:L < wr.heap.size+1:=by omega
 clear h q f;go_enter func52,ntmps52;go_wp2_with (first | (at_builtin;refine wpList_append_lies _ rfl _ _ 78 rfl (B+2) 82 n _ 4 56 underlying78 C k l m rfl (by decide) _ evs.length (qY evs) rfl ((z.out.alloc _).alloc _) ⟨wr.heap.size+1,0,none⟩ 1 1 (cellsOf (d,p,i)) rfl rfl ?d1 ?d2 (by decide) ?d3 ?d4 ?d5 (wr.heap.size+1+1) ?d6 ?_) | go_in)
 case d1=>exact World.news_of_block (bK wr _ _)
 case d2=>intro u r;simp [cellsOf] at r;rcases r with h | h | h | h <;>subst h <;>rfl
 case d3=>unfold maxLen;omega
 case d4=>omega
 case d5=>have:=y.out;simp;omega
 case d6=>simp
 ·intro A a E c j _ _;rw [Oo] at j;have s:=bH j (aF (aF H.out.cl _) _) (fun e=>x9 H.out.told.row H.out.cl (by decide) e.symm);obtain⟨_,_⟩:=one_cell s;have v:Hid _:=ahc H.out x.out t.out c j;clear c j s;go_wp2;go_end0;exact⟨rfl,A,a,v.out⟩
end
section
variable {B L Y : Nat} {w wr : World} {ys : Array Value} {ym : Nat × Nat} {st : PS} {ao : Option Addr} {cap : Nat} {tq : Option Addr} {tc : Nat} {evs : List Item}
theorem IY (wr:World) (B j:Nat) (u:Value):wr.grownBy (wr.setCell ⟨B,j,none⟩ u) (some B):=
 ⟨rfl,rfl,rfl,by simp,fun k _ a=>Below.heap_setCell _ _ _ _ (fun e=>a (by rw [e]))⟩
theorem GInv.adL (h:GInv B L Y w wr ys ym st ao cap tq tc evs) (p:Int):GInv B L Y w (wr.setCell ⟨B,0,none⟩ (.int .i64 p)) ys ym {st with place:=p} ao cap tq tc evs:=
 h.put (IY _ _ _ _) (by rw [heap_setCell_same wr B 0 _ 40 _ h.box];rfl) (gK h.own (by simp) _) h.apart
theorem GInv.adM (h:GInv B L Y w wr ys ym st ao cap tq tc evs) (d:List Int) (b:Option Addr) (cap':Nat) (a:Own (B+2) wr b cap' d) (c:∀ x∈evs,blk x.2.1=none∨blk x.2.1≠blk b):
  GInv B L Y w (wr.setCell ⟨B,1,none⟩ (.slice b d.length cap')) ys ym {st with ps:=d} b cap' tq tc evs:=
 h.put (IY _ _ _ _) (by rw [heap_setCell_same wr B 1 _ 40 _ h.box];rfl) (gK a (by simp) _) c
theorem GInv.adN (h:GInv B L Y w wr ys ym st ao cap tq tc evs) (a:ByteArray):GInv B L Y w (wr.setCell ⟨B,2,none⟩ (.string a)) ys ym {st with pl:=a} ao cap tq tc evs:=
 h.put (IY _ _ _ _) (by rw [heap_setCell_same wr B 2 _ 40 _ h.box];rfl) (gK h.own (by simp) _) h.apart
theorem GInv.adO (h:GInv B L Y w wr ys ym st ao cap tq tc evs) (a:Bool):GInv B L Y w (wr.setCell ⟨B,3,none⟩ (.bool a)) ys ym {st with lg:=a} ao cap tq tc evs:=
 h.put (IY _ _ _ _) (by rw [heap_setCell_same wr B 3 _ 40 _ h.box];rfl) (gK h.own (by simp) _) h.apart
theorem GInv.alloc (h:GInv B L Y w wr ys ym st ao cap tq tc evs) (o:Obj):GInv B L Y w (wr.alloc o) ys ym st ao cap tq tc evs:=h.later ((Below.refl _ _).alloc (Nat.le_refl _) o)
theorem GInv.drew (h:GInv B L Y w wr ys ym st ao cap tq tc evs):GInv B L Y w wr.drew ys ym st ao cap tq tc evs:=h.later (Below.refl _ _).drew
theorem GInv.fresh (h:GInv B L Y w wr ys ym st ao cap tq tc evs) {a:Option Addr} (c:∀ g,blk a=some g->wr.heap.size<=g):∀ x∈evs,blk x.2.1=none∨blk x.2.1≠blk a:=by
 intro x d;cases b:blk x.2.1 with
 | none=>exact .inl rfl
 | some g=>
  right;intro e;have:=c g e.symm;have:=(qd (h.told.each x d) b).2;omega
theorem GInv.adP (h:GInv B L Y w wr ys ym st ao cap tq tc evs):
  GInv B L Y w (((((wr.alloc (.cells #[.int .i64 0] 3)).setCell ⟨B,0,none⟩ (.int .i64 2)).setCell ⟨B,1,none⟩ (.slice (some ⟨wr.heap.size,0,none⟩) 1 1)).setCell ⟨B,2,none⟩ (.string ⟨#[]⟩)).setCell ⟨B,3,none⟩ (.bool false)) ys ym ⟨2,[0],⟨#[]⟩,false⟩ (some ⟨wr.heap.size,0,none⟩) 1 tq tc evs:=by
 have d:=h.size;have f:=h.alloc (.cells #[.int .i64 0] 3);have a:Own (B+2) (wr.alloc (.cells #[.int .i64 0] 3)) (some ⟨wr.heap.size,0,none⟩) 1 [0]:=by
  have:=World.ownsRow_lit (base:=B+2) (e:=3) (size:=1) wr #[.int .i64 0] 1 d (by decide) rfl;simpa [Own,ints] using this
 refine f.put ?_ ?_ ?_ ?_
 ·exact⟨rfl,rfl,rfl,by simp,fun k _ c=>by
   have b:k≠B:=fun e=>c (by rw [e])
   rw [Below.heap_setCell _ _ _ _ b,Below.heap_setCell _ _ _ _ b,Below.heap_setCell _ _ _ _ b,Below.heap_setCell _ _ _ _ b]⟩
 ·exact wC f.box _ _ _ _
 ·exact gK (gK (gK (gK a (by simp) _) (by simp) _) (by simp) _) (by simp) _
 ·exact h.fresh (fun g i=>by simp [blk] at i;omega)
theorem GInv.adQ (h:GInv B L Y w wr ys ym st ao cap tq tc evs):
  GInv B L Y w (((((wr.setCell ⟨B,0,none⟩ (.int .i64 2)).setCell ⟨B,1,none⟩ (.slice (some ⟨wr.heap.size,0,none⟩) 1 1)).setCell ⟨B,2,none⟩ (.string ⟨#[]⟩)).setCell ⟨B,3,none⟩ (.bool false)).alloc (.cells #[.int .i64 0] 3)) ys ym ⟨2,[0],⟨#[]⟩,false⟩ (some ⟨wr.heap.size,0,none⟩) 1 tq tc evs:=by
 have a:B < wr.heap.size:=sP h.box;have:=h.adP;rw [World.setCell_alloc_past _ _ _ _ a,World.setCell_alloc_past _ _ _ _ (by simpa using a),World.setCell_alloc_past _ _ _ _ (by simpa using a),World.setCell_alloc_past _ _ _ _ (by simpa using a)] at this;exact this
theorem GInv.more (h:GInv B L Y w wr ys ym st ao cap tq tc evs) {e:World} {d c:Nat} {b:List Int} (f:Below wr.heap.size wr e) (a:Own wr.heap.size e (some ⟨d,0,none⟩) c b):
  GInv B L Y w (e.setCell ⟨B,1,none⟩ (.slice (some ⟨d,0,none⟩) b.length c)) ys ym {st with ps:=b} (some ⟨d,0,none⟩) c tq tc evs:=
 (h.later f).adM b _ _ (Bc a h.size) (h.fresh (fun _ g=>(qd a g).1))
theorem P9 {w w':World} (a:w.grownBy w' none):Below w.heap.size w w':=⟨a.os,a.tape,a.output,a.size,fun k b=>a.block k b (by simp)⟩
theorem GInv.store {g:Nat} (h:GInv B L Y w wr ys ym st (some ⟨g,0,none⟩) cap tq tc evs) (j:Nat) (x:Int):GInv B L Y w (wr.setCell ⟨g,j,none⟩ (.int .i64 x)) ys ym {st with ps:=st.ps.set j x} (some ⟨g,0,none⟩) cap tq tc evs:=by
 obtain⟨b,a⟩:=Tg h.own j x;have m:=qd h.own (g:=g) rfl;have f:=h.hL;have i:=h.hY;have c:some L≠some g:=fun e=>x9 h.own h.cl (by decide) (by simp only [blk,Option.map_some];exact e.symm);have d:some Y≠some g:=fun e=>x9 h.own h.cy (by decide) (by simp only [blk,Option.map_some];exact e.symm);refine⟨h.below.grown a (by have:=h.size;omega) (fun k l=>by cases l;omega),f,i,?_,bH a h.res (by simp;omega),bH a h.cl c,bH a h.cy d,b,?_,h.apart⟩
 ·have:=bH a h.box (by simp;omega);rw [this];simp
 ·exact h.told.kept a (rV h.told.row h.own (by decide)) h.apart
theorem GInv.copied (h:GInv B L Y w wr ys ym st ao cap tq tc evs) {b:World} (a:wr.grownBy b none):GInv B L Y w b ys ym st ao cap tq tc evs:=h.later ⟨a.os,a.tape,a.output,a.size,fun k c=>a.block k c (by simp)⟩
theorem GInv.last (h:GInv B L Y w wr ys ym st ao cap tq tc evs) (a:B=w.heap.size) (u0 u1 u2 u3:Value):
  Below w.heap.size w ((((wr.setCell ⟨B+1,0,none⟩ u0).setCell ⟨B+1,1,none⟩ u1).setCell ⟨B+1,2,none⟩ u2).setCell ⟨B+1,3,none⟩ u3).drew∧
  Own w.heap.size ((((wr.setCell ⟨B+1,0,none⟩ u0).setCell ⟨B+1,1,none⟩ u1).setCell ⟨B+1,2,none⟩ u2).setCell ⟨B+1,3,none⟩ u3).drew ao cap st.ps∧
  Told w.heap.size ((((wr.setCell ⟨B+1,0,none⟩ u0).setCell ⟨B+1,1,none⟩ u1).setCell ⟨B+1,2,none⟩ u2).setCell ⟨B+1,3,none⟩ u3).drew tq tc evs:=by
 subst a;refine⟨((((h.below.setCell (by simp) _).setCell (by simp) _).setCell (by simp) _).setCell (by simp) _).drew,xU (Bc (base:=w.heap.size+2) ?_ (by omega)),(UO (base:=w.heap.size+2) ?_ (by omega)).later (Below.refl _ _).drew⟩
 ·exact gK (gK (gK (gK h.own (by simp) _) (by simp) _) (by simp) _) (by simp) _
 ·exact qJ (qJ (qJ (qJ h.told (by simp) _) (by simp) _) (by simp) _) (by simp) _
end
theorem Yk (W:World) (N:Nat) (b:Int) (h:W.cell? ⟨N,0,none⟩=some (.int .u8 b)):(convert 106 9 (.slice (some ⟨N,0,none⟩) 1 1)).run prog W=.ok (.string ⟨#[UInt8.ofNat b.toNat]⟩) W:=by
 rw [run_convert_bytes_string W 106 9 5 (some ⟨N,0,none⟩) 1 1 underlying106 underlying5 underlying9];have c:(loadCells ⟨N,0,none⟩ 1).run prog W=.ok ([b].map (Value.int .u8)).toArray W:=
  run_loadCells_list (P:=prog) W ⟨N,0,none⟩ ([b].map (Value.int .u8)) (fun j v a=>by
   match j,a with
   | 0,a=>simp at a;subst a;simpa [Addr.add] using h)
 rw [run_bytesToString W ⟨N,0,none⟩ 1 1 [b] c]
 rfl
theorem adI (a:ByteArray) (x:UInt8):a++(⟨#[x]⟩:ByteArray)=a.push x:=by
 ext1;simp
section
variable {P : Program} (w : World)
theorem afC (t D:TypeId) (base:Nat) (e:TypeId) (i:TypeInfo) (z:Value) (size d:Nat) (F:P.underlying t=some (.slice e)) (E:P.info? e=some i) (R:i.zero=some z)
  (l:i.size=size) (y:i.bytes=d) (C:z.cells.size=size) (A:0 < size)
  (v:Value) (n:Nat) (s:List Value) (f:w.ownsRow base e size v n s) (H:Nat) (ao:Option Addr) (m c:Nat) (b:List Value) (a:w.ownsRow H e size (.slice ao m c) m b) (J:∀ u∈b,u.oneCell'=true)
  (x:n+m<=maxLen) (h:(n+m)*d<=140737488355328) (k:base<=w.heap.size):
  ∃ r q,(Builtin.append_ #[t,t] D #[v,.slice ao m c]).run P w=.ok r q∧q.ownsRow base e size r (n+m) (s++b)∧w.grownBy q v.ownBlock:=by
 rcases a.2 with ⟨p,S⟩ | ⟨g,cap,I,p,_⟩
 ·simp only [Value.slice.injEq] at p;obtain⟨rfl,rfl,rfl⟩:=p;have O:b=[]:=List.length_eq_zero_iff.1 (by rw [a.1];simp);subst O;exact⟨v,w,run_append_owned_none w base t D e i size F E v n s f,by simpa using f,eP _ _⟩
 ·simp only [Value.slice.injEq] at p;obtain⟨rfl,_,rfl⟩:=p;obtain⟨r,q,Q,K,M,_⟩:=run_append_own (P:=P) w base t D e i z size d F E R l y C A v n s f ⟨g,0,none⟩ m c b a.1
   (fun j u G=>by
    have N:j < m*size:=by have:=(gL G).1;rw [a.1] at this;exact this
    have o:(⟨g,0,none⟩:Addr).add j=⟨g,j,none⟩:=by unfold Addr.add;split <;>simp_all
    rw [o,World.ownsRow.cellAt a j N];exact G) J x h k
  exact⟨r,q,Q,K,M⟩
theorem Vf {l:Array Oper} {g:List Oper} {o:Oper} {a:Act} {Q:Exit->Act->World->Prop} (D:Region.wanted o (yielded l a.tmps)=true) (s x:Operand) (t:TypeId)
  (R:o.op=.call {callee:=.builtin .append,args:=#[s,x],argTypes:=#[t,t]})
  (base:Nat) (e:TypeId) (i:TypeInfo) (z:Value) (size b:Nat) (U:P.underlying t=some (.slice e)) (O:P.info? e=some i) (W:i.zero=some z)
  (k:i.size=size) (C:i.bytes=b) (F:z.cells.size=size) (E:0 < size)
  (v:Value) (n:Nat) (G:List Value) (T:a.eval s=v) (p:w.ownsRow base e size v n G) (H:Nat) (ao:Option Addr) (m c:Nat) (d:List Value) (V:a.eval x=.slice ao m c) (q:w.ownsRow H e size (.slice ao m c) m d) (I:∀ u∈d,u.oneCell'=true)
  (A:n+m<=maxLen) (f:(n+m)*b<=140737488355328) (j:base<=w.heap.size)
  (h:∀ y r,r.ownsRow base e size y (n+m) (G++d)->w.grownBy r v.ownBlock->wpList P l Q g (a.put o.dst y) r):wpList P l Q (o::g) a w:=by
 refine wpList_step fun K N=>?_;rw [if_pos D];obtain⟨y,r,S,J,M⟩:=afC (P:=P) w t o.type base e i z size b U O W k C F E v n G p H ao m c d q I A f j;unfold Oper.wp execOp;simp only [R,resolve,invoke,builtin,Sem.run_bind,Sem.run_pure,Result.andThen_ok,List.map_toArray,List.map_cons,List.map_nil,T,V,S];exact N _ _ (h y r J M)
end
end Go.Proofs.YtkcdcamophkdlaaGreatDoor.Ps
