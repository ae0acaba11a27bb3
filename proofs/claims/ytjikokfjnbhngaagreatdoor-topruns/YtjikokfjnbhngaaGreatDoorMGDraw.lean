/- Several texts in one, each as it was: GDraw, GNew, GPut, GStart. -/
import Derived.Test.YtjikokfjnbhngaaGreatDoorMGMach
import Derived.OwnWalk
import Derived.Deep.RegionWith

/- Events that draw: of the plain machine: what one behind the other does; the cursor is put somewhere; an ink is taken; a byte is printed, a colour laid, a row or all erased. -/
namespace Go.Proofs.YtjikokfjnbhngaaGreatDoor
def Did (g:Gr) (es:List Evt) (x:Gr):Prop:=allG g es=(x,0)
theorem did_nil (g:Gr):Did g [] g:=rfl
theorem Did.append {g x y:Gr} {es fs:List Evt} (h:Did g es x) (k:Did x fs y):Did g (es++fs) y:=by
 induction es generalizing g with
 | nil=>
  have e:g=x:=(Prod.mk.inj h).1
  rw [e]
  exact k
 | cons e r ih=>
  unfold Did at h ⊢
  rw [List.cons_append]
  unfold allG at h ⊢
  by_cases hc:checkE e=0
  ·rw [if_pos hc] at h ⊢
   exact ih h
  ·rw [if_neg hc] at h
   exact absurd (Prod.mk.inj h).2 hc
theorem did_one (g:Gr) (e:Evt) (h:checkE e=0):Did g [e] (doneG g e):=by
 unfold Did allG
 rw [if_pos h]
 rfl
theorem did_ok {g x:Gr} {es:List Evt} (h:Did g es x) (ok:OkG g):OkG x∧x.wide=g.wide∧x.high=g.high∧x.n=g.n:=by
 induction es generalizing g with
 | nil=>
  have e:g=x:=(Prod.mk.inj h).1
  rw [←e]
  exact⟨ok,rfl,rfl,rfl⟩
 | cons e r ih=>
  unfold Did allG at h
  by_cases hc:checkE e=0
  ·rw [if_pos hc] at h
   obtain⟨o1,e1,e2,e3⟩:=ok_done ok e hc
   obtain⟨o2,f1,f2,f3⟩:=ih h o1
   exact⟨o2,f1.trans e1,f2.trans e2,f3.trans e3⟩
  ·rw [if_neg hc] at h
   exact absurd (Prod.mk.inj h).2 hc
@[reducible] def evCsi (b:Int) (ps:List Int):Evt:=⟨3,b,ps,⟨#[]⟩⟩
theorem check_csi (b:Int) (ps:List Int):checkE (evCsi b ps)=0:=rfl
theorem did_move {g:Gr} (ok:OkG g) (r c:Int) (h1:0≤r) (h2:r < g.high) (h3:0≤c) (h4:c < g.wide):Did g [evCsi 72 [r+1,c+1]] {g with row:=r,col:=c}:=by
 have hw:=ok.w2
 have hh:=ok.h2
 have e:doneG g (evCsi 72 [r+1,c+1])={g with row:=r,col:=c}:=by
  show csiG g 72 [r+1,c+1]=_
  rw [csi72]
  have e1:min (csiN [r+1,c+1]) g.high - 1=r:=by
   have:numP [r+1,c+1] 0=r+1:=by simp [numP];omega
   unfold csiN
   rw [this]
   omega
  have e2:max 1 (min (numP [r+1,c+1] 1) g.wide) - 1=c:=by
   have:numP [r+1,c+1] 1=c+1:=by simp [numP];omega
   rw [this]
   omega
  rw [e1,e2]
 rw [←e]
 exact did_one g _ (check_csi _ _)
def inkNums (i:Int) (o:Bool):List Int:=0::((if o then [1] else [])++(if i=0 then [] else [29+i]))
theorem did_ink (g:Gr) (i:Int) (o:Bool) (h1:0≤i) (h2:i≤8):Did g [evCsi 109 (inkNums i o)] {g with ink:=i,bold:=o}:=by
 have e:doneG g (evCsi 109 (inkNums i o))={g with ink:=i,bold:=o}:=by
  show csiG g 109 (inkNums i o)=_
  rw [csi109]
  unfold inkG inkNums
  have z:∀ x:Gr,ink1 x 0={x with ink:=0,bold:=false}:=fun x=>rfl
  have b:∀ x:Gr,ink1 x 1={x with bold:=true}:=fun x=>rfl
  have k:∀ x:Gr,i≠0→ink1 x (29+i)={x with ink:=i}:=fun x hi=>by
   unfold ink1
   rw [if_neg (by omega),if_neg (by omega),if_neg (by omega),if_pos (by omega)]
   have:29+i - 29=i:=by omega
   rw [this]
  by_cases hi:i=0
  ·subst hi
   cases o <;>rfl
  ·cases o
   ·simp only [if_neg hi,Bool.false_eq_true,if_false,List.nil_append,List.foldl_cons,List.foldl_nil,z,k _ hi]
   ·simp only [if_neg hi,if_true,List.cons_append,List.nil_append,List.foldl_cons,List.foldl_nil,z,b,k _ hi]
 rw [←e]
 exact did_one g _ (check_csi _ _)
theorem did_print {g:Gr} (b:Int) (hb:plainN b=true) (hc:g.col≠g.wide):Did g [⟨1,b,[],⟨#[]⟩⟩] {g with f:=putF g.f (g.row*g.wide+g.col).toNat ⟨b,g.ink,0,g.bold⟩,col:=g.col+1}:=by
 have hk:checkE ⟨1,b,[],⟨#[]⟩⟩=0:=by simp [checkE,hb]
 have e:doneG g ⟨1,b,[],⟨#[]⟩⟩={g with f:=putF g.f (g.row*g.wide+g.col).toNat ⟨b,g.ink,0,g.bold⟩,col:=g.col+1}:=by
  show putG (backG g) b=_
  have:backG g=g:=by unfold backG;rw [if_neg hc]
  rw [this]
  rfl
 rw [←e]
 exact did_one g _ hk
theorem did_pic {g:Gr} (ok:OkG g) (c:UInt8) (h1:97≤c.toNat) (h2:c.toNat≤104):Did g [⟨4,0,[],⟨#[c]⟩⟩] {g with f:=putF g.f (g.row*g.wide+hereC g).toNat ⟨0,0,(c.toNat:Int) - 96,false⟩}:=by
 have hw:=ok.w1
 have hr:=ok.r2
 have e:doneG g ⟨4,0,[],⟨#[c]⟩⟩={g with f:=putF g.f (g.row*g.wide+hereC g).toNat ⟨0,0,(c.toNat:Int) - 96,false⟩}:=by
  show picG g ⟨#[c]⟩=_
  unfold picG picS
  have hne:c≠45:=by rintro rfl;exact absurd h1 (by decide)
  show {g with f:=(pic1 g (g.f,g.row,hereC g) c).1}=_
  unfold pic1
  rw [if_neg hne]
  simp only
  rw [if_pos ⟨h1,h2,hr,by unfold hereC;omega⟩]
 rw [←e]
 exact did_one g _ rfl
theorem did_rowEnd (g:Gr):Did g [evCsi 75 [0]] {g with f:=clrF g.f ((g.row*g.wide).toNat+(hereC g).toNat) ((g.row*g.wide).toNat+g.wide.toNat)}:=did_one g _ rfl
theorem did_clear (g:Gr):Did g [evCsi 74 [2]] {g with f:=clrF g.f 0 g.n}:=by
 have e:doneG g (evCsi 74 [2])={g with f:=clrF g.f 0 g.n}:=by
  show csiG g 74 [2]=_
  rw [csi74]
  have:eraseF g.f 0 g.n (g.row*g.wide+hereC g).toNat (numP [2] 0)=clrF g.f (0) (0+g.n):=rfl
  rw [this,Nat.zero_add]
 rw [←e]
 exact did_one g _ rfl
theorem did_reset (g:Gr):Did g [⟨5,0,[],⟨#[]⟩⟩] (newG g.wide g.high):=did_one g _ rfl
end Go.Proofs.YtjikokfjnbhngaaGreatDoor

/- What 'New' and 'slices.Clone' make: lists of their own. -/
namespace Go.Proofs.YtjikokfjnbhngaaGreatDoor
open Go.RowKit
theorem scr_of_row {w:World} {base n:Nat} {v:Value} {f:Nat→Cel} (h:w.ownsRow base 66 4 v n (flatC f n)) (hn:0 < n):∃ g cap,v=.slice (some ⟨g,0,none⟩) n cap∧base≤g∧n≤cap∧Scr w g n f:=by
 rcases h.2 with ⟨_,h0⟩ | ⟨g,cap,cur,hv,hb,hg,hc,_,hs,ht⟩
 ·omega
 ·refine⟨g,cap,hv,hb,hc,cur,hg,by rw [hs];exact Nat.mul_le_mul_right 4 hc,fun i hi j hj=>?_⟩
  have h1:=flatC_get f n i j hi hj
  rw [←ht,List.getElem?_take_of_lt (by omega)] at h1
  simpa using h1
theorem scr_set9 {w2:World} {b B n:Nat} {f:Nat→Cel} (h:Scr w2 b n f) (hB:b≠B) (u0 u1 u2 u3 u4 u5 u6 u7 u8:Value):
  Scr (((((((((w2.setCell ⟨B,0,none⟩ u0).setCell ⟨B,1,none⟩ u1).setCell ⟨B,2,none⟩ u2).setCell ⟨B,3,none⟩ u3).setCell ⟨B,4,none⟩ u4).setCell ⟨B,5,none⟩ u5).setCell ⟨B,6,none⟩ u6).setCell ⟨B,7,none⟩ u7).setCell ⟨B,8,none⟩ u8) b n f:=by
 have step:∀ (w2:World) (j:Nat) (u:Value),Scr w2 b n f→Scr (w2.setCell ⟨B,j,none⟩ u) b n f:=fun w2 j u h=>h.set (fun e=>hB e.symm) _
 exact step _ _ _ (step _ _ _ (step _ _ _ (step _ _ _ (step _ _ _ (step _ _ _ (step _ _ _ (step _ _ _ (step _ _ _ h))))))))
theorem below_set9 {w w2:World} {b B:Nat} (h:Below b w w2) (hB:b≤B) (u0 u1 u2 u3 u4 u5 u6 u7 u8:Value):
  Below b w (((((((((w2.setCell ⟨B,0,none⟩ u0).setCell ⟨B,1,none⟩ u1).setCell ⟨B,2,none⟩ u2).setCell ⟨B,3,none⟩ u3).setCell ⟨B,4,none⟩ u4).setCell ⟨B,5,none⟩ u5).setCell ⟨B,6,none⟩ u6).setCell ⟨B,7,none⟩ u7).setCell ⟨B,8,none⟩ u8):=by
 have step:∀ (w2:World) (j:Nat) (u:Value),Below b w w2→Below b w (w2.setCell ⟨B,j,none⟩ u):=fun w2 j u h=>h.setCell hB _
 exact step _ _ _ (step _ _ _ (step _ _ _ (step _ _ _ (step _ _ _ (step _ _ _ (step _ _ _ (step _ _ _ (step _ _ _ h))))))))
theorem made4 (m:Nat):(madeCells #[.int .i64 0,.int .i64 0,.int .i64 0,.bool false] (m*4)).toList=flatC (fun _=>noCel) m:=zeros4 m
set_option maxHeartbeats 1000000 in
theorem new_any (wide high:Int) (w:World) (x:Gr) (hx:x=newG wide high):
  Calls Tryz.prog 36 #[.int .i64 wide,.int .i64 high] w fun e w'=>∃ b,e=.returned (gval x (some ⟨b,0,none⟩) x.n)∧Scr w' b x.n x.f∧w.heap.size≤b∧Below w.heap.size w w':=by
 obtain⟨i0,hi,hz0,hz1,hz2⟩:=info_parts info49
 obtain⟨a,ha⟩:∃ a,a=max 1 (min wide 24):=⟨_,rfl⟩
 obtain⟨c,hc⟩:∃ c,c=max 1 (min high 10):=⟨_,rfl⟩
 have HW1:Hid (∀ w,Calls Tryz.prog 60 #[.int .i64 wide,.int .i64 1,.int .i64 24] w fun e w'=>e=.returned (.int .i64 a)∧w'=w):=fun w=>by rw [ha];exact within_any wide 1 24 w
 have HW2:Hid (∀ w,Calls Tryz.prog 60 #[.int .i64 high,.int .i64 1,.int .i64 10] w fun e w'=>e=.returned (.int .i64 c)∧w'=w):=fun w=>by rw [hc];exact within_any high 1 10 w
 have h1:1≤a:=by omega
 have h2:a≤24:=by omega
 have h3:1≤c:=by omega
 have h4:c≤10:=by omega
 have hp:0≤a*c:=Int.mul_nonneg (by omega) (by omega)
 have hp1:1≤a*c:=by
  have:1*c≤a*c:=mul_mono h1 (by omega)
  omega
 have hp2:a*c≤240:=by
  have:a*c≤24*c:=mul_mono h2 (by omega)
  omega
 obtain⟨n,hn⟩:∃ n:Nat,a*c=n:=⟨(a*c).toNat,by omega⟩
 have HX:Hid (x=⟨a,c,n,fun _=>noCel,0,0,0,false,0,c⟩):=by
  show x=_
  rw [hx]
  unfold newG
  rw [←ha, ←hc,hn]
  simp
 have hwr:IntKind.i64.wrap (a*c)=(n:Int):=by rw [←hn,IntKind.wrap_i64];omega
 have hn1:0 < n:=by omega
 have hn2:n≤240:=by omega
 clear hx ha hc hp hp1 hp2 hn
 go_enter Tryz.func36,Tryz.ntmps36
 go_wp2_with (first
  | (go_at_call_of 60 (Value.int IntKind.i64 24);refine(HW1.out _).mono ?_;rintro e w1 ⟨rfl,rfl⟩)
  | (go_at_call_of 60 (Value.int IntKind.i64 10);refine(HW2.out _).mono ?_;rintro e w1 ⟨rfl,rfl⟩)
  | (at_make;refine wpList_make_full _ rfl _ _ 38 rfl w.heap.size 66 i0 (.agg #[.int .i64 0,.int .i64 0,.int .i64 0,.bool false]) 4 Tryz.underlying38 hi hz0 hz1 .i64 .i64 _ _ n rfl rfl rfl rfl (by rw [hz2];omega) (by unfold maxLen;omega) (by simp) ?_))
 intro w1 hown hg
 rw [made4] at hown
 obtain⟨b',cap',hv,_,_,hs⟩:=scr_of_row hown hn1
 simp only [Value.slice.injEq,Option.some.injEq,Addr.mk.injEq,and_true,true_and] at hv
 obtain⟨rfl,rfl⟩:=hv
 obtain⟨⟨u0,u1,u2,u3,u4,u5,u6,u7,u8⟩,v⟩:=nine (grown_block hg (at_new w _) (by simp))
 have HF:Hid (Scr w1 (w.heap.size+1) n (fun _=>noCel)∧Below w.heap.size w w1):=⟨hs,(below1 w _).trans ⟨hg.os,hg.tape,hg.output,hg.size,fun k hk=>hg.block k (by simp;omega) (by simp)⟩⟩
 clear hown hg hs
 go_wp2
 refine bodyPost_ret (v:=gval ⟨a,c,n,fun _=>noCel,0,0,0,false,0,c⟩ (some ⟨w.heap.size+1,0,none⟩) n) (by simp [results,Tryz.results36,go_sem, *]) rfl ?_
 rw [HX.out]
 exact⟨w.heap.size+1,rfl,scr_set9 HF.out.1 (by omega) _ _ _ _ _ _ _ _ _,by omega,below_set9 HF.out.2 (Nat.le_refl _) _ _ _ _ _ _ _ _ _⟩
theorem nilCells (w:World) (a:Option Addr) (n c:Nat):(binOp .eql 38 (.slice a n c) (.slice none 0 0)).run Tryz.prog w=.ok (.bool a.isNone) w:=Lib.run_eql_slice_nil w 38 66 a n c 0 0 Tryz.underlying38
def Copied (w:World) (n:Nat) (f:Nat→Cel) (ao:Option Addr) (cap:Nat) (w':World):Prop:=
 RdS w' ao n f∧(0 < n→∃ b,ao=some ⟨b,0,none⟩∧w.heap.size≤b∧n≤cap∧Scr w' b n f)∧Below w.heap.size w w'
set_option maxHeartbeats 400000 in
theorem clone_nil (w:World):Calls Tryz.prog 48 #[.slice none 0 0] w fun e w'=>e=.returned (.slice none 0 0)∧w'=w:=by
 have hn:=nilCells
 go_enter Tryz.func48,Tryz.ntmps48
 go_wp2
 go_ret
 exact⟨rfl,rfl⟩
theorem row_shape {w:World} {base n:Nat} {v:Value} {f:Nat→Cel} (h:w.ownsRow base 66 4 v n (flatC f n)):∃ ao cap,v=.slice ao n cap∧RdS w ao n f∧(0 < n→∃ b,ao=some ⟨b,0,none⟩∧base≤b∧n≤cap∧Scr w b n f):=by
 rcases Nat.eq_zero_or_pos n with h0 | h0
 ·subst h0
  rcases h.2 with ⟨hv,_⟩ | ⟨g,cap,cur,hv,_⟩
  ·exact⟨none,0,hv,.inl rfl,fun h=>absurd h (by omega)⟩
  ·exact⟨_,_,hv,.inl rfl,fun h=>absurd h (by omega)⟩
 ·obtain⟨g,cap,hv,hb,hc,hs⟩:=scr_of_row h h0
  exact⟨_,_,hv,hs.rd,fun _=>⟨g,rfl,hb,hc,hs⟩⟩
set_option maxHeartbeats 400000 in
theorem clone_some (a:Addr) (cap n:Nat) (f:Nat→Cel) (w:World) (hr:RdS w (some a) n f) (hm:n*32≤140737488355328):
  Calls Tryz.prog 48 #[.slice (some a) n cap] w fun e w'=>∃ ao' cap',e=.returned (.slice ao' n cap')∧Copied w n f ao' cap' w':=by
 obtain⟨i0,hi,hz0,hz1,hz2⟩:=info_parts info49
 have hn:=nilCells
 have HR:Hid (∀ j u,(flatC f n)[j]?=some u→(w.alloc (.cells #[] 66)).cell? (a.add j)=some u):=by
  intro j u hu
  have hj:j < n*4:=by have:=(List.getElem?_eq_some_iff.1 hu).1;rwa [flatC_length] at this
  rcases hr.below (below1 w (.cells #[] 66)) with h0 | ⟨b,off,ha,hc⟩
  ·omega
  ·simp only [Option.some.injEq] at ha
   subst ha
   have e:j=(j / 4)*4+j % 4:=by omega
   rw [add_at]
   obtain⟨t0,t1,t2,t3⟩:=hc (j / 4) (by omega)
   rw [e,flatC_get f n _ _ (by omega) (by omega)] at hu
   rw [←hu]
   have h4:j % 4=0∨j % 4=1∨j % 4=2∨j % 4=3:=by omega
   rcases h4 with h | h | h | h
   ·rw [h,show off+j=off+j / 4*4 by omega,t0];rfl
   ·rw [h,show off+j=off+j / 4*4+1 by omega,t1];rfl
   ·rw [h,show off+j=off+j / 4*4+2 by omega,t2];rfl
   ·rw [h,show off+j=off+j / 4*4+3 by omega,t3];rfl
 clear hr
 go_enter Tryz.func48,Tryz.ntmps48
 go_wp2_with (first | (at_builtin;refine wpList_append_own _ rfl _ _ 38 rfl w.heap.size 66 i0 (.agg #[.int .i64 0,.int .i64 0,.int .i64 0,.bool false]) 4 32 Tryz.underlying38 hi hz0 hz1 hz2 rfl (by decide) _ 0 [] rfl (World.ownsRow_made w #[] 0 (Nat.le_refl _) (by decide) rfl) a n cap (flatC f n) rfl (flatC_length f n) HR.out (flatC_one f n) (by unfold maxLen;omega) (by omega) (by simp) ?_) | go_in)
 intro v' w1 hown hgrow _
 obtain⟨ao,c,rfl,ho,ho2⟩:=row_shape hown
 clear hown
 have HB:Hid (Copied w n f ao c w1):=⟨ho,ho2,((Below.refl _ _).alloc (Nat.le_refl _) _).grown hgrow (by simp) (fun k hk=>by simp [Value.ownBlock] at hk;omega)⟩
 clear ho hgrow ho2
 go_wp2
 go_ret
 exact⟨ao,c,rfl,HB.out⟩
theorem clone_any (ao:Option Addr) (cap n:Nat) (f:Nat→Cel) (w:World) (hr:RdS w ao n f) (hn:ao=none→n=0∧cap=0) (hm:n*32≤140737488355328):
  Calls Tryz.prog 48 #[.slice ao n cap] w fun e w'=>∃ ao' cap',e=.returned (.slice ao' n cap')∧Copied w n f ao' cap' w':=by
 cases ao with
 | none=>
  obtain⟨rfl,rfl⟩:=hn rfl
  refine(clone_nil w).mono ?_
  rintro e w' ⟨rfl,rfl⟩
  exact⟨none,0,rfl,.inl rfl,fun h=>absurd h (by omega),Below.refl _ _⟩
 | some a=>exact clone_some a cap n f w hr hm
end Go.Proofs.YtjikokfjnbhngaaGreatDoor

/- Boxes of screens, and one cell of a list, written. -/
namespace Go.Proofs.YtjikokfjnbhngaaGreatDoor
open Go.RowKit
theorem set9_same {w:World} {B:Nat} {c0 c1 c2 c3 c4 c5 c6 c7 c8:Value} {t:TypeId} (h:w.heap[B]?=some (.cells #[c0,c1,c2,c3,c4,c5,c6,c7,c8] t (0,0))) (u0 u1 u2 u3 u4 u5 u6 u7 u8:Value):
  (((((((((w.setCell ⟨B,0,none⟩ u0).setCell ⟨B,1,none⟩ u1).setCell ⟨B,2,none⟩ u2).setCell ⟨B,3,none⟩ u3).setCell ⟨B,4,none⟩ u4).setCell ⟨B,5,none⟩ u5).setCell ⟨B,6,none⟩ u6).setCell ⟨B,7,none⟩ u7).setCell ⟨B,8,none⟩ u8).heap[B]?=some (.cells #[u0,u1,u2,u3,u4,u5,u6,u7,u8] t (0,0)):=by
 have h0:(w.setCell ⟨B,0,none⟩ u0).heap[B]?=some (.cells #[u0,c1,c2,c3,c4,c5,c6,c7,c8] t (0,0)):=heap_setCell_same _ B 0 _ t u0 h
 have h1:((w.setCell ⟨B,0,none⟩ u0).setCell ⟨B,1,none⟩ u1).heap[B]?=some (.cells #[u0,u1,c2,c3,c4,c5,c6,c7,c8] t (0,0)):=heap_setCell_same _ B 1 _ t u1 h0
 have h2:(((w.setCell ⟨B,0,none⟩ u0).setCell ⟨B,1,none⟩ u1).setCell ⟨B,2,none⟩ u2).heap[B]?=some (.cells #[u0,u1,u2,c3,c4,c5,c6,c7,c8] t (0,0)):=heap_setCell_same _ B 2 _ t u2 h1
 have h3:((((w.setCell ⟨B,0,none⟩ u0).setCell ⟨B,1,none⟩ u1).setCell ⟨B,2,none⟩ u2).setCell ⟨B,3,none⟩ u3).heap[B]?=some (.cells #[u0,u1,u2,u3,c4,c5,c6,c7,c8] t (0,0)):=heap_setCell_same _ B 3 _ t u3 h2
 have h4:(((((w.setCell ⟨B,0,none⟩ u0).setCell ⟨B,1,none⟩ u1).setCell ⟨B,2,none⟩ u2).setCell ⟨B,3,none⟩ u3).setCell ⟨B,4,none⟩ u4).heap[B]?=some (.cells #[u0,u1,u2,u3,u4,c5,c6,c7,c8] t (0,0)):=heap_setCell_same _ B 4 _ t u4 h3
 have h5:((((((w.setCell ⟨B,0,none⟩ u0).setCell ⟨B,1,none⟩ u1).setCell ⟨B,2,none⟩ u2).setCell ⟨B,3,none⟩ u3).setCell ⟨B,4,none⟩ u4).setCell ⟨B,5,none⟩ u5).heap[B]?=some (.cells #[u0,u1,u2,u3,u4,u5,c6,c7,c8] t (0,0)):=heap_setCell_same _ B 5 _ t u5 h4
 have h6:(((((((w.setCell ⟨B,0,none⟩ u0).setCell ⟨B,1,none⟩ u1).setCell ⟨B,2,none⟩ u2).setCell ⟨B,3,none⟩ u3).setCell ⟨B,4,none⟩ u4).setCell ⟨B,5,none⟩ u5).setCell ⟨B,6,none⟩ u6).heap[B]?=some (.cells #[u0,u1,u2,u3,u4,u5,u6,c7,c8] t (0,0)):=heap_setCell_same _ B 6 _ t u6 h5
 have h7:((((((((w.setCell ⟨B,0,none⟩ u0).setCell ⟨B,1,none⟩ u1).setCell ⟨B,2,none⟩ u2).setCell ⟨B,3,none⟩ u3).setCell ⟨B,4,none⟩ u4).setCell ⟨B,5,none⟩ u5).setCell ⟨B,6,none⟩ u6).setCell ⟨B,7,none⟩ u7).heap[B]?=some (.cells #[u0,u1,u2,u3,u4,u5,u6,u7,c8] t (0,0)):=heap_setCell_same _ B 7 _ t u7 h6
 have h8:(((((((((w.setCell ⟨B,0,none⟩ u0).setCell ⟨B,1,none⟩ u1).setCell ⟨B,2,none⟩ u2).setCell ⟨B,3,none⟩ u3).setCell ⟨B,4,none⟩ u4).setCell ⟨B,5,none⟩ u5).setCell ⟨B,6,none⟩ u6).setCell ⟨B,7,none⟩ u7).setCell ⟨B,8,none⟩ u8).heap[B]?=some (.cells #[u0,u1,u2,u3,u4,u5,u6,u7,u8] t (0,0)):=heap_setCell_same _ B 8 _ t u8 h7
 exact h8
theorem other_set {w:World} {B b:Nat} {o:Obj} {u:Value} {j:Nat} (h:w.heap[b]?=some o) (hne:b≠B):(w.setCell ⟨B,j,none⟩ u).heap[b]?=some o:=by
 rw [Below.heap_setCell _ _ _ _ hne];exact h
theorem set9_other {w:World} {B b:Nat} {o:Obj} (h:w.heap[b]?=some o) (hne:b≠B) (u0 u1 u2 u3 u4 u5 u6 u7 u8:Value):
  (((((((((w.setCell ⟨B,0,none⟩ u0).setCell ⟨B,1,none⟩ u1).setCell ⟨B,2,none⟩ u2).setCell ⟨B,3,none⟩ u3).setCell ⟨B,4,none⟩ u4).setCell ⟨B,5,none⟩ u5).setCell ⟨B,6,none⟩ u6).setCell ⟨B,7,none⟩ u7).setCell ⟨B,8,none⟩ u8).heap[b]?=some o:=
 other_set (other_set (other_set (other_set (other_set (other_set (other_set (other_set (other_set h hne) hne) hne) hne) hne) hne) hne) hne) hne
theorem Scr.put {w:World} {b n:Nat} {f:Nat→Cel} (h:Scr w b n f) (i o0 o1 o2 o3:Nat) (c:Cel) (hi:i < n) (e0:o0=i*4) (e1:o1=i*4+1) (e2:o2=i*4+2) (e3:o3=i*4+3):
  Scr ((((w.setCell ⟨b,o0,none⟩ (.int .i64 c.ch)).setCell ⟨b,o1,none⟩ (.int .i64 c.ink)).setCell ⟨b,o2,none⟩ (.int .i64 c.pic)).setCell ⟨b,o3,none⟩ (.bool c.bold)) b n (putF f i c):=by
 subst e0 e1 e2 e3
 obtain⟨cur,hc,hs,hr⟩:=h
 have h0:=heap_setCell_same w b (i*4) _ _ (.int .i64 c.ch) hc
 have h1:=heap_setCell_same _ b (i*4+1) _ _ (.int .i64 c.ink) h0
 have h2:=heap_setCell_same _ b (i*4+2) _ _ (.int .i64 c.pic) h1
 have h3:=heap_setCell_same _ b (i*4+3) _ _ (.bool c.bold) h2
 refine⟨_,h3,by simpa using hs,fun k hk j hj=>?_⟩
 unfold putF
 by_cases e:k=i
 ·subst e
  rw [if_pos rfl]
  have hj4:j=0∨j=1∨j=2∨j=3:=by omega
  rcases hj4 with rfl | rfl | rfl | rfl <;>simp [cel4,Array.getElem?_setIfInBounds] <;>omega
 ·rw [if_neg e, ←hr k hk j hj]
  simp only [Array.getElem?_setIfInBounds]
  rw [if_neg (by omega),if_neg (by omega),if_neg (by omega),if_neg (by omega)]
theorem grown_put {a w:World} {b o0 o1 o2 o3:Nat} {u0 u1 u2 u3:Value} (h:a.grownBy w (some b)):a.grownBy ((((w.setCell ⟨b,o0,none⟩ u0).setCell ⟨b,o1,none⟩ u1).setCell ⟨b,o2,none⟩ u2).setCell ⟨b,o3,none⟩ u3) (some b):=
 grown_set (grown_set (grown_set (grown_set h (.inr rfl) _) (.inr rfl) _) (.inr rfl) _) (.inr rfl) _
end Go.Proofs.YtjikokfjnbhngaaGreatDoor

/- A copy of a screen, in its box. -/
namespace Go.Proofs.YtjikokfjnbhngaaGreatDoor
open Go.RowKit
structure Start (w:World) (g:Gr) (ao:Option Addr) (cap:Nat) (wx:World):Prop where
 box:wx.heap[w.heap.size]?=some (gbox g ao cap)
 res:wx.heap[w.heap.size+1]?=some gzero
 rd:RdS wx ao g.n g.f
 scr:0 < g.n→∃ b,ao=some ⟨b,0,none⟩∧w.heap.size+2≤b∧g.n≤cap∧Scr wx b g.n g.f
 below:Below w.heap.size w wx
theorem set_box {w:World} {B:Nat} {c0 c1 c2 c3 c4 c5 c6 c7 c8 u:Value} {t:TypeId} (h:w.heap[B]?=some (.cells #[c0,c1,c2,c3,c4,c5,c6,c7,c8] t (0,0))):(w.setCell ⟨B,2,none⟩ u).heap[B]?=some (.cells #[c0,c1,u,c3,c4,c5,c6,c7,c8] t (0,0)):=by
 have:=heap_setCell_same w B 2 _ t u h
 exact this
theorem start_of {w w1:World} {g:Gr} {ao ao':Option Addr} {cap cap':Nat} (h:Copied ((w.alloc (gbox g ao cap)).alloc gzero) g.n g.f ao' cap' w1):Start w g ao' cap' (w1.setCell ⟨w.heap.size,2,none⟩ (.slice ao' g.n cap')):=by
 have hb:=h.2.2
 have hbx:=below_block hb (at_old (at_new w (gbox g ao cap)) gzero) (by simp;omega)
 have hrs:=below_block hb (at_new1 w (gbox g ao cap) gzero) (by simp)
 refine⟨set_box hbx,other_set hrs (by omega),?_,?_,?_⟩
 ·rcases Nat.eq_zero_or_pos g.n with h0 | h0
  ·exact .inl h0
  ·obtain⟨b,rfl,hb2,_,hs⟩:=h.2.1 h0
   exact(hs.set (by simp at hb2 ⊢;omega) _).rd
 ·intro h0
  obtain⟨b,rfl,hb2,hc,hs⟩:=h.2.1 h0
  exact⟨b,rfl,by simp at hb2;omega,hc,hs.set (by simp at hb2 ⊢;omega) _⟩
 ·exact(((below1 w _).alloc (by simp) _).trans (hb.mono (by simp;omega))).setCell (Nat.le_refl _) _
theorem rd_end {w:World} {g:Gr} {ao:Option Addr} {cap:Nat} {wx w2:World} (h:Start w g ao cap wx) (hb:Below wx.heap.size wx w2) (u0 u1 u2 u3 u4 u5 u6 u7 u8:Value):RdS (((((((((w2.setCell ⟨w.heap.size+1,0,none⟩ u0).setCell ⟨w.heap.size+1,1,none⟩ u1).setCell ⟨w.heap.size+1,2,none⟩ u2).setCell ⟨w.heap.size+1,3,none⟩ u3).setCell ⟨w.heap.size+1,4,none⟩ u4).setCell ⟨w.heap.size+1,5,none⟩ u5).setCell ⟨w.heap.size+1,6,none⟩ u6).setCell ⟨w.heap.size+1,7,none⟩ u7).setCell ⟨w.heap.size+1,8,none⟩ u8) ao g.n g.f:=by
 rcases Nat.eq_zero_or_pos g.n with h0 | h0
 ·exact .inl h0
 ·obtain⟨b,rfl,hb2,_,hs⟩:=h.scr h0
  exact(scr_set9 (hs.below hb hs.lt) (by omega) _ _ _ _ _ _ _ _ _).rd
theorem Copied.out {w0 w w2:World} {n:Nat} {f:Nat→Cel} {ao:Option Addr} {cap B:Nat} (h:Copied w n f ao cap w2) (h0:Below w0.heap.size w0 w) (hB:w0.heap.size≤B) (hB2:B < w.heap.size) (u0 u1 u2 u3 u4 u5 u6 u7 u8:Value):
  Copied w0 n f ao cap (((((((((w2.setCell ⟨B,0,none⟩ u0).setCell ⟨B,1,none⟩ u1).setCell ⟨B,2,none⟩ u2).setCell ⟨B,3,none⟩ u3).setCell ⟨B,4,none⟩ u4).setCell ⟨B,5,none⟩ u5).setCell ⟨B,6,none⟩ u6).setCell ⟨B,7,none⟩ u7).setCell ⟨B,8,none⟩ u8):=by
 refine⟨?_,?_,below_set9 (h0.trans (h.2.2.mono h0.size)) hB _ _ _ _ _ _ _ _ _⟩
 ·rcases Nat.eq_zero_or_pos n with h1 | h1
  ·exact .inl h1
  ·obtain⟨b,rfl,hb,_,hs⟩:=h.2.1 h1
   exact(scr_set9 hs (by omega) _ _ _ _ _ _ _ _ _).rd
 ·intro h1
  obtain⟨b,rfl,hb,hc,hs⟩:=h.2.1 h1
  exact⟨b,rfl,by have:=h0.size;omega,hc,scr_set9 hs (by omega) _ _ _ _ _ _ _ _ _⟩
theorem Start.copied {w:World} {g:Gr} {ao:Option Addr} {cap:Nat} {wx w2:World} (h:Start w g ao cap wx) (hb:Below wx.heap.size wx w2) (u0 u1 u2 u3 u4 u5 u6 u7 u8:Value):
  Copied w g.n g.f ao cap (((((((((w2.setCell ⟨w.heap.size+1,0,none⟩ u0).setCell ⟨w.heap.size+1,1,none⟩ u1).setCell ⟨w.heap.size+1,2,none⟩ u2).setCell ⟨w.heap.size+1,3,none⟩ u3).setCell ⟨w.heap.size+1,4,none⟩ u4).setCell ⟨w.heap.size+1,5,none⟩ u5).setCell ⟨w.heap.size+1,6,none⟩ u6).setCell ⟨w.heap.size+1,7,none⟩ u7).setCell ⟨w.heap.size+1,8,none⟩ u8):=by
 refine⟨rd_end h hb _ _ _ _ _ _ _ _ _,fun h1=>?_,below_set9 (h.below.trans (hb.mono h.below.size)) (by omega) _ _ _ _ _ _ _ _ _⟩
 obtain⟨b,rfl,hb2,hc,hs⟩:=h.scr h1
 exact⟨b,rfl,by omega,hc,scr_set9 (hs.below hb hs.lt) (by omega) _ _ _ _ _ _ _ _ _⟩
end Go.Proofs.YtjikokfjnbhngaaGreatDoor
