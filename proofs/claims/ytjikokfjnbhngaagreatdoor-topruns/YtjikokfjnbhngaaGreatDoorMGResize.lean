/- Several texts in one, each as it was: GResize, GPic, GResize2, GResize3. -/
import Derived.Test.YtjikokfjnbhngaaGreatDoorMGAll2
import Derived.Test.YtjikokfjnbhngaaGreatDoorMGMove

/- What 'Resize' makes of a screen. -/
namespace Go.Proofs.YtjikokfjnbhngaaGreatDoor
open Go.RowKit
def resF (g:Gr) (wide:Int):Nat→Cel:=fun i=>atG g ((i:Int) / wide) ((i:Int) % wide)
def resK (g:Gr) (wide:Int) (k:Nat):Nat→Cel:=fun i=>if (i:Int) < k*wide then resF g wide i else noCel
def resG (g:Gr) (wide high:Int):Gr:=
 ⟨(newG wide high).wide,(newG wide high).high,(newG wide high).n,resF g (newG wide high).wide,min g.row ((newG wide high).high - 1),min g.col ((newG wide high).wide - 1),g.ink,g.bold,(newG wide high).top,(newG wide high).bottom⟩
theorem div_row {r c w:Int} (h1:0≤c) (h2:c < w):(r*w+c) / w=r∧(r*w+c) % w=c:=by
 have hw:w≠0:=by omega
 constructor
 ·rw [Int.add_comm,Int.add_mul_ediv_right _ _ hw,Int.ediv_eq_zero_of_lt h1 h2];omega
 ·rw [Int.add_comm,Int.add_mul_emod_self_right];exact Int.emod_eq_of_lt h1 h2
theorem atG_out {g:Gr} {r c:Int} (h:g.high≤r∨g.wide≤c):atG g r c=noCel:=by
 unfold atG
 rw [if_neg (by omega)]
theorem resK_step {g:Gr} (h:OkG g) (W:Int) (hW:1≤W) (k n:Nat) (hk:(k:Int) < g.high) (i:Nat) (_hi:i < n):
  layF (resK g W k) (k*W).toNat (Nat.min g.wide.toNat W.toNat) (fun j=>g.f ((k*g.wide).toNat+j)) i=resK g W (k+1) i:=by
 have hw:=h.w1
 have e1:((k+1:Nat):Int)*W=k*W+W:=by
  have:((k+1:Nat):Int)=(k:Int)+1:=by omega
  rw [this,Int.add_mul];omega
 have hkW:0≤(k:Int)*W:=Int.mul_nonneg (by omega) (by omega)
 have hkg:0≤(k:Int)*g.wide:=Int.mul_nonneg (by omega) (by omega)
 obtain⟨m,hm⟩:∃ m,m=Nat.min g.wide.toNat W.toNat:=⟨_,rfl⟩
 have hm1:(m:Int)=min g.wide W:=by
  rw [hm]
  show ((min g.wide.toNat W.toNat:Nat):Int)=_
  omega
 rw [←hm]
 clear hm
 unfold layF resK
 rw [e1]
 by_cases h1:(i:Int) < k*W
 ·rw [if_neg (by omega),if_pos h1,if_pos (by omega)]
 ·by_cases h2:(i:Int) < k*W+W
  ·obtain⟨j,hj⟩:∃ j:Nat,(i:Int)=k*W+j:=⟨i - (k*W).toNat,by omega⟩
   have hd:=div_row (r:=k) (c:=(j:Int)) (w:=W) (by omega) (by omega)
   have e2:resF g W i=atG g k j:=by unfold resF;rw [hj,hd.1,hd.2]
   rw [if_pos h2]
   by_cases h3:(j:Int) < g.wide
   ·rw [if_pos (by omega),e2]
    obtain⟨e3,_,_⟩:=atG_good h (r:=k) (c:=j) (by omega) hk (by omega) h3
    rw [e3]
    show g.f _=g.f _
    congr 1
    omega
   ·rw [if_neg (by omega),if_neg (by omega),e2,atG_out (.inr (by omega))]
  ·rw [if_neg (by omega),if_neg h1,if_neg h2]
theorem resK_all {g:Gr} (W H:Int) (hW:1≤W) (M n:Nat) (hn:(n:Int)=W*H) (hM:(M:Int)=min g.high H) (i:Nat) (hi:i < n):resK g W M i=resF g W i:=by
 unfold resK
 by_cases h:(i:Int) < M*W
 ·rw [if_pos h]
 ·rw [if_neg h]
  have h1:(M:Int)≤(i:Int) / W:=by
   have:=Int.ediv_le_ediv (a:=(M:Int)*W) (b:=(i:Int)) (c:=W) (by omega) (by omega)
   rw [Int.mul_ediv_cancel _ (by omega)] at this
   exact this
  have h2:(i:Int) / W < H:=by
   refine Int.ediv_lt_of_lt_mul (by omega) ?_
   rw [Int.mul_comm]
   omega
  unfold resF
  rw [atG_out (.inl (by omega))]
theorem rows_off (g:Gr) (b off cap:Nat) (r s:Int) (w:World) (hr:0≤r*g.wide) (hrs:r*g.wide < s*g.wide) (hs:s*g.wide≤g.n) (hn:g.n≤240) (hc:g.n≤cap):
  Calls Tryz.prog 120 #[gval g (some ⟨b,off,none⟩) cap,.int .i64 r,.int .i64 s] w fun e w'=>e=.returned (.slice (some ⟨b,off+(r*g.wide).toNat*4,none⟩) ((s*g.wide).toNat - (r*g.wide).toNat) (cap - (r*g.wide).toNat))∧w'=w.alloc (gbox g (some ⟨b,off,none⟩) cap):=by
 obtain⟨p,hp⟩:∃ p,p=r*g.wide:=⟨_,rfl⟩
 obtain⟨q,hq⟩:∃ q,q=s*g.wide:=⟨_,rfl⟩
 go_enter Tryz.func120,Tryz.ntmps120
 go_wp2
 go_ret
 exact⟨rfl,rfl⟩
theorem rows_off1 (g:Gr) (h:OkG g) (b off cap:Nat) (w:World) (hc:g.n≤cap) (r:Int) (h0:0≤r) (h1:r < g.high):
  Calls Tryz.prog 120 #[gval g (some ⟨b,off,none⟩) cap,.int .i64 r,.int .i64 (r+1)] w fun e w'=>e=.returned (.slice (some ⟨b,off+(r*g.wide).toNat*4,none⟩) g.wide.toNat (cap - (r*g.wide).toNat))∧w'=w.alloc (gbox g (some ⟨b,off,none⟩) cap):=by
 obtain⟨q1,q2,_⟩:=h.nums
 have hw:=h.w1
 have q3:=mul_bound h0 h1 (w:=g.wide) (by omega)
 have e:(r+1)*g.wide=r*g.wide+g.wide:=by rw [Int.add_mul];omega
 have k:=rows_off g b off cap r (r+1) w (by omega) (by omega) (by omega) (by omega) hc
 rw [e] at k
 have e2:(r*g.wide+g.wide).toNat - (r*g.wide).toNat=g.wide.toNat:=by omega
 rw [e2] at k
 exact k
structure RInv (w:World) (g t:Gr) (ao:Option Addr) (cap b T:Nat) (f:Nat→Cel) (wr:World):Prop where
 one:wr.heap[w.heap.size]?=some (gbox g ao cap)
 res:wr.heap[w.heap.size+1]?=some gzero
 two:wr.heap[T]?=some (gbox t (some ⟨b,0,none⟩) t.n)
 scr:Scr wr b t.n f
 below:Below w.heap.size w wr
 own:w.heap.size+2≤b
 far:b < T
theorem RInv.step {w:World} {g t:Gr} {ao:Option Addr} {cap b T:Nat} {f f':Nat→Cel} {wr w':World} {o1 o2:Obj} (h:RInv w g t ao cap b T f wr) (hs:Scr w' b t.n f') (hg:((wr.alloc o1).alloc o2).drew.grownBy w' (some b)):RInv w g t ao cap b T f' w':=by
 have h0:=h.own
 have h1:=h.far
 have hb:=h.below
 refine⟨grown_block hg (at_old (at_old h.one o1) o2) (by simp;omega),grown_block hg (at_old (at_old h.res o1) o2) (by simp;omega),grown_block hg (at_old (at_old h.two o1) o2) (by simp;omega),hs,?_,h0,h1⟩
 exact(((hb.alloc hb.size _).alloc (by have:=hb.size;simp;omega) _)).drew.trans (grown_below hg (by have:=hb.size;simp;omega) (by omega))
theorem RInv.src {w:World} {g t:Gr} {b0 off cap b T:Nat} {f:Nat→Cel} {wr:World} (_h:RInv w g t (some ⟨b0,off,none⟩) cap b T f wr) (hr:RdS wr (some ⟨b0,off,none⟩) g.n g.f) (s m:Nat) (hs:s+m≤g.n) (o1 o2:Obj) (i:Nat) (hi:i < m) (j:Nat) (hj:j < 4):
  ((wr.alloc o1).alloc o2).drew.cell? ((⟨b0,off+s*4,none⟩:Addr).add (i*4+j))=cel4 (g.f (s+i)) j:=by
 have hr2:=hr.below (below2 wr o1 o2)
 rcases hr2 with h0 | ⟨b',off',ha,hc⟩
 ·omega
 ·simp only [Option.some.injEq,Addr.mk.injEq,and_true] at ha
  obtain⟨rfl,rfl⟩:=ha
  obtain⟨t0,t1,t2,t3⟩:=hc (s+i) (by omega)
  rw [add_at]
  show ((wr.alloc o1).alloc o2).cell? _=_
  have h4:j=0∨j=1∨j=2∨j=3:=by omega
  rcases h4 with rfl | rfl | rfl | rfl
  ·rw [show off+s*4+(i*4+0)=off+(s+i)*4 by omega,t0];rfl
  ·rw [show off+s*4+(i*4+1)=off+(s+i)*4+1 by omega,t1];rfl
  ·rw [show off+s*4+(i*4+2)=off+(s+i)*4+2 by omega,t2];rfl
  ·rw [show off+s*4+(i*4+3)=off+(s+i)*4+3 by omega,t3];rfl
end Go.Proofs.YtjikokfjnbhngaaGreatDoor

/- What 'pictured' does to a screen. -/
namespace Go.Proofs.YtjikokfjnbhngaaGreatDoor
open Go.RowKit
structure PMid (w:World) (g:Gr) (b cap:Nat) (f:Nat→Cel) (wr:World):Prop where
 box:wr.heap[w.heap.size]?=some (gbox g (some ⟨b,0,none⟩) cap)
 res:wr.heap[w.heap.size+1]?=some gzero
 scr:Scr wr b g.n f
 grown:w.grownBy wr (some b)
theorem PMid.alloc {w:World} {g:Gr} {b cap:Nat} {f:Nat→Cel} {wr:World} (h:PMid w g b cap f wr) (o:Obj):PMid w g b cap f (wr.alloc o):=
 ⟨at_old h.box o,at_old h.res o,h.scr.alloc o,grown_alloc h.grown o⟩
theorem PMid.drew {w:World} {g:Gr} {b cap:Nat} {f:Nat→Cel} {wr:World} (h:PMid w g b cap f wr):PMid w g b cap f wr.drew:=
 ⟨h.box,h.res,h.scr,grown_drew h.grown⟩
theorem PMid.put {w:World} {g:Gr} {b cap:Nat} {f:Nat→Cel} {wr:World} (h:PMid w g b cap f wr) (hlt:b < w.heap.size) (i o0 o1 o2 o3:Nat) (c:Cel) (hi:i < g.n) (e0:o0=i*4) (e1:o1=i*4+1) (e2:o2=i*4+2) (e3:o3=i*4+3):
  PMid w g b cap (putF f i c) ((((wr.setCell ⟨b,o0,none⟩ (.int .i64 c.ch)).setCell ⟨b,o1,none⟩ (.int .i64 c.ink)).setCell ⟨b,o2,none⟩ (.int .i64 c.pic)).setCell ⟨b,o3,none⟩ (.bool c.bold)):=
 ⟨other_set (other_set (other_set (other_set h.box (by omega)) (by omega)) (by omega)) (by omega),other_set (other_set (other_set (other_set h.res (by omega)) (by omega)) (by omega)) (by omega),h.scr.put i o0 o1 o2 o3 c hi e0 e1 e2 e3,grown_put h.grown⟩
theorem take_snoc (s:ByteArray) (k:Nat) (h:k < s.size):s.data.toList.take (k+1)=s.data.toList.take k++[s[k]]:=by
 rw [List.take_succ_eq_append_getElem (by simpa using h)];rfl
theorem pic_snoc (g:Gr) (l:List UInt8) (c:UInt8):picS g (l++[c])=pic1 g (picS g l) c:=by
 unfold picS
 rw [List.foldl_append]
 rfl
theorem pic_bound {g:Gr} (h:OkG g) (l:List UInt8):0≤(picS g l).2.1∧(picS g l).2.1≤24+l.length∧0≤(picS g l).2.2∧(picS g l).2.2≤24+l.length:=by
 have hk1:0≤hereC g:=by have:=h.c1;have:=h.w1;unfold hereC;omega
 have hk2:hereC g≤24:=by have:=h.w2;unfold hereC;omega
 suffices H:∀ (l:List UInt8) (s:(Nat→Cel)×Int×Int) (A:Int),24≤A→(0≤s.2.1∧s.2.1≤A∧0≤s.2.2∧s.2.2≤A)→0≤(l.foldl (pic1 g) s).2.1∧(l.foldl (pic1 g) s).2.1≤A+l.length∧0≤(l.foldl (pic1 g) s).2.2∧(l.foldl (pic1 g) s).2.2≤A+l.length by
  refine H l _ 24 (Int.le_refl _) ⟨h.r1,?_,hk1,hk2⟩
  have:=h.r2
  have:=h.h2
  show g.row≤24
  omega
 intro l
 induction l with
 | nil=>intro s A _ hs;simpa using hs
 | cons c r ih=>
  intro s A hA hs
  have h1:0≤(pic1 g s c).2.1∧(pic1 g s c).2.1≤A+1∧0≤(pic1 g s c).2.2∧(pic1 g s c).2.2≤A+1:=by
   unfold pic1
   split
   ·exact⟨by simp only;omega,by simp only;omega,by simp only;omega,by simp only;omega⟩
   ·exact⟨by simp only;omega,by simp only;omega,by simp only;omega,by simp only;omega⟩
  have:=ih (pic1 g s c) (A+1) (by omega) h1
  simp only [List.foldl_cons,List.length_cons] at this ⊢
  omega
theorem rows_at (g:Gr) (h:OkG g) (b cap:Nat) (w:World) (hc:g.n≤cap) (r:Int) (h0:0≤r) (h1:r < g.high):
  Calls Tryz.prog 120 #[gval g (some ⟨b,0,none⟩) cap,.int .i64 r,.int .i64 (r+1)] w fun e w'=>e=.returned (.slice (some ⟨b,(r*g.wide).toNat*4,none⟩) g.wide.toNat (cap - (r*g.wide).toNat))∧w'=w.alloc (gbox g (some ⟨b,0,none⟩) cap):=by
 obtain⟨q1,q2,_⟩:=h.nums
 have hw:=h.w1
 have q3:=mul_bound h0 h1 (w:=g.wide) (by omega)
 have e:(r+1)*g.wide=r*g.wide+g.wide:=by rw [Int.add_mul];omega
 have k:=rows_any g b cap r (r+1) w (by omega) (by omega) (by omega) (by omega) hc
 rw [e] at k
 have e2:(r*g.wide+g.wide).toNat - (r*g.wide).toNat=g.wide.toNat:=by omega
 rw [e2] at k
 exact k
set_option maxRecDepth 2000 in
set_option maxHeartbeats 4000000 in
theorem pictured_any (g:Gr) (h:OkG g) (b cap:Nat) (w:World) (hS:Scr w b g.n g.f) (hc:g.n≤cap) (s:ByteArray) (hs:s.size≤140737488355328) (fx:Nat→Cel) (hfx:fx=(picS g s.data.toList).1):
  Calls Tryz.prog 105 #[gval g (some ⟨b,0,none⟩) cap,.string s] w (GEnd w b cap ⟨g.wide,g.high,g.n,fx,g.row,g.col,g.ink,g.bold,g.top,g.bottom⟩):=by
 have hlt:=hS.lt
 have HS:Hid (Scr w b g.n g.f):=hS
 have HO:Hid (OkG g∧g.n≤cap):=⟨h,hc⟩
 have HFX:Hid (fx=(picS g s.data.toList).1):=hfx
 have hw0:=h.w1
 have hw1:=h.w2
 have hc0:=h.c1
 have hc1:=h.c2
 obtain⟨k0,hk0⟩:∃ k,k=hereC g:=⟨_,rfl⟩
 have HH:Hid (∀ w,Calls Tryz.prog 121 #[gval g (some ⟨b,0,none⟩) cap] w fun e w'=>e=.returned (.int .i64 k0)∧w'=w.alloc (gbox g (some ⟨b,0,none⟩) cap)):=by
  intro w
  rw [hk0]
  exact here_any g _ cap w ⟨by omega,by omega⟩
 have HK0:Hid (k0=hereC g):=hk0
 clear hS h hc hfx hk0
 go_enter Tryz.func105,Tryz.ntmps105
 go_wp2_with fail
 go_region_held3 (fun w'=>w'.cell? ⟨w.heap.size,0,none⟩=some (.int .i64 g.wide)∧w'.cell? ⟨w.heap.size,1,none⟩=some (.int .i64 g.high)∧w'.cell? ⟨w.heap.size,2,none⟩=some (.slice (some ⟨b,0,none⟩) g.n cap)∧w'.cell? ⟨w.heap.size,3,none⟩=some (.int .i64 g.row)∧w'.cell? ⟨w.heap.size,4,none⟩=some (.int .i64 g.col)∧w'.cell? ⟨w.heap.size,5,none⟩=some (.int .i64 g.ink)∧w'.cell? ⟨w.heap.size,6,none⟩=some (.bool g.bold)∧w'.cell? ⟨w.heap.size,7,none⟩=some (.int .i64 g.top)∧w'.cell? ⟨w.heap.size,8,none⟩=some (.int .i64 g.bottom)) (first | go_keep | (simp [*,World.cell?_alloc_past]))
  ((go_at_call 121;refine(HH.out _).mono ?_;rintro e w1 ⟨rfl,rfl⟩))
 go_wp2
 go_loopw [5,6,15] (fun r c i wr=>∃ k:Nat,k≤s.size∧i=.int .i64 k∧r=.int .i64 (picS g (s.data.toList.take k)).2.1∧c=.int .i64 (picS g (s.data.toList.take k)).2.2∧PMid w g b cap (picS g (s.data.toList.take k)).1 wr) (fun _ _ i _=>s.size - (intOf i).toNat)
 case atStart=>
  refine⟨0,Nat.zero_le _,rfl,rfl,?_,?_⟩
  ·show Value.int .i64 k0=_
   rw [HK0.out]
   rfl
  ·have hp:PMid w g b cap g.f ((w.alloc (gbox g (some ⟨b,0,none⟩) cap)).alloc gzero):=⟨at_old (at_new w _) _,at_new1 w _ _,(HS.out.alloc _).alloc _,grown_alloc (grown_alloc (grown_refl _ _) _) _⟩
   exact(hp.alloc _).drew
 case round=>
  obtain⟨k,hk,rfl,rfl,rfl,hp⟩:=hrel
  have hb:=pic_bound HO.out.1 (s.data.toList.take k)
  have hln:(s.data.toList.take k).length≤k:=List.length_take_le _ _
  obtain⟨st,hst⟩:∃ st,st=picS g (s.data.toList.take k):=⟨_,rfl⟩
  rw [←hst] at hb hp ⊢
  obtain⟨f,R,C⟩:=st
  simp only at hb hp ⊢
  have HP:Hid (PMid w g b cap f wr):=hp
  obtain⟨hb1,hb2,hb3,hb4⟩:=hb
  have hb2':R≤140737488355400:=by omega
  have hb4':C≤140737488355400:=by omega
  by_cases hlk:k < s.size
  ·have HNX:Hid (picS g (s.data.toList.take (k+1))=pic1 g (f,R,C) s[k]):=by
    show picS g _=_
    rw [take_snoc s k hlk,pic_snoc, ←hst]
   obtain⟨⟨x0,x1,x2,x3,x4,x5,x6,x7,x8⟩,z⟩:=nine hp.box
   have hsz:w.heap.size < wr.heap.size:=(Array.getElem?_eq_some_iff.1 hp.box).1
   have hlk':(k:Int) < (s.size:Int):=by omega
   have hk0:(0:Int)≤(k:Int):=by omega
   have hby:s[k].toNat < 256:=UInt8.toNat_lt _
   obtain⟨y,hy⟩:∃ y:Int,(s[k].toNat:Int)=y:=⟨_,rfl⟩
   have hy0:0≤y:=by omega
   have hy1:y≤255:=by omega
   clear hst hln hb2 hb4
   by_cases hd:s[k]=45
   ·have HD:Hid (picS g (s.data.toList.take (k+1))=(f,R+1,k0)):=by
     show picS g _=_
     rw [HNX.out,HK0.out];unfold pic1;rw [if_pos hd]
    have hy45:y=45:=by rw [←hy,hd];rfl
    subst hy45
    clear hp hd hby hy0 hy1
    go_wp2_with (go_at_call 121;refine(HH.out _).mono ?_;rintro e w1 ⟨rfl,rfl⟩)
    go_roundw
    case rel=>exact⟨k+1,by omega,by go_num,by rw [HD.out],by rw [HD.out],by rw [HD.out];exact HP.out.alloc _⟩
    case measure=>simp [intOf];omega
   ·have hy45:(y==45)=false:=by
     have:y≠45:=fun e=>hd (by apply UInt8.toNat_inj.1;show s[k].toNat=45;omega)
     simp [this]
    have hc97:97≤s[k].toNat∧s[k].toNat≤104↔97≤y∧y≤104:=by omega
    by_cases hr:97≤y∧y≤104
    ·have e1:1≤y - 97+1:=by omega
     have e2:y - 97+1≤8:=by omega
     by_cases hin:R < g.high∧C < g.wide
     ·have HD:Hid (picS g (s.data.toList.take (k+1))=(putF f (R*g.wide+C).toNat ⟨0,0,y - 97+1,false⟩,R,C+1)):=by
       show picS g _=_
       rw [HNX.out];unfold pic1;rw [if_neg hd];simp only
       rw [if_pos ⟨(hc97.2 hr).1,(hc97.2 hr).2,hin⟩,hy,show y - 97+1=y - 96 by omega]
      have HHS:Hid (∀ w,Calls Tryz.prog 82 #[gval g (some ⟨b,0,none⟩) cap,.int .i64 R,.int .i64 C] w fun e w'=>e=.returned (.bool true)∧w'=w.alloc (gbox g (some ⟨b,0,none⟩) cap)):=fun w=>by
       have:=has_any g (some ⟨b,0,none⟩) cap R C w
       rw [decide_eq_true ⟨hb1,hin.1,hb3,hin.2⟩] at this
       exact this
      obtain⟨q1,q2,_⟩:=HO.out.1.nums
      have q3:=mul_bound hb1 hin.1 (w:=g.wide) (by omega)
      obtain⟨P,hP⟩:∃ P,P=(R*g.wide).toNat:=⟨_,rfl⟩
      obtain⟨Wd,hWd⟩:∃ W,W=g.wide.toNat:=⟨_,rfl⟩
      have hwrap:IntKind.i64.wrap (R+1)=R+1:=by rw [IntKind.wrap_i64];omega
      have HRW:Hid (∀ w v,v=R+1→Calls Tryz.prog 120 #[gval g (some ⟨b,0,none⟩) cap,.int .i64 R,.int .i64 v] w fun e w'=>e=.returned (.slice (some ⟨b,P*4,none⟩) Wd (cap - P))∧w'=w.alloc (gbox g (some ⟨b,0,none⟩) cap)):=by
       intro w v hv
       rw [hP,hv,hWd]
       exact rows_at g HO.out.1 b cap w HO.out.2 R hb1 hin.1
      have HWR:Hid (IntKind.i64.wrap (R+1)=R+1):=hwrap
      obtain⟨I,hI⟩:∃ I,I=P+C.toNat:=⟨_,rfl⟩
      have hIn:I < g.n:=by omega
      obtain⟨t0,t1,t2,t3⟩:=hp.scr.cells I hIn
      have hoff:I*4=P*4+C.toNat*4:=by omega
      rw [hoff] at t0 t1 t2 t3
      have hfr:∀ j,wr.frozen? ⟨b,j,none⟩=false:=hp.scr.free
      have hblt:b < wr.heap.size:=hp.scr.lt
      have hCW:C < (Wd:Int):=by omega
      have HI:Hid (I=(R*g.wide+C).toNat∧I < g.n∧I*4=P*4+C.toNat*4):=⟨by omega,hIn,hoff⟩
      obtain⟨c0,hc0'⟩:∃ c,c=f I:=⟨_,rfl⟩
      rw [←hc0'] at t0 t1 t2 t3
      clear hc0' hp hd hby hc97 hr hin q1 q2 q3 hP hWd hI hIn hoff hwrap HNX
      go_wp2_with (first
       | (go_at_call 82;refine(HHS.out _).mono ?_;rintro e w1 ⟨rfl,rfl⟩)
       | (go_at_call 120;refine(HRW.out _ _ (by first | exact HWR.out | rfl)).mono ?_;rintro e w1 ⟨rfl,rfl⟩))
      go_roundw
      case rel=>
       obtain⟨i1,i2,i3⟩:=HI.out
       refine⟨k+1,by omega,by go_num,by rw [HD.out],by rw [HD.out],?_⟩
       rw [HD.out]
       have hq:=HP.out.put hlt I (P*4+C.toNat*4) (P*4+C.toNat*4+1) (P*4+C.toNat*4+2) (P*4+C.toNat*4+3) ⟨0,0,y - 97+1,false⟩ i2 (by omega) (by omega) (by omega) (by omega)
       rw [i1] at hq
       exact(hq.alloc _).alloc _
      case measure=>simp [intOf];omega
     ·have HD:Hid (picS g (s.data.toList.take (k+1))=(f,R,C+1)):=by
       show picS g _=_
       rw [HNX.out];unfold pic1;rw [if_neg hd];simp only
       rw [if_neg (fun hh=>hin hh.2.2)]
      have HHS:Hid (∀ w,Calls Tryz.prog 82 #[gval g (some ⟨b,0,none⟩) cap,.int .i64 R,.int .i64 C] w fun e w'=>e=.returned (.bool false)∧w'=w.alloc (gbox g (some ⟨b,0,none⟩) cap)):=fun w=>by
       have:=has_any g (some ⟨b,0,none⟩) cap R C w
       rw [decide_eq_false (fun hh=>hin ⟨hh.2.1,hh.2.2.2⟩)] at this
       exact this
      clear hp hd hby hc97 hr hin HNX
      go_wp2_with (go_at_call 82;refine(HHS.out _).mono ?_;rintro e w1 ⟨rfl,rfl⟩)
      go_roundw
      case rel=>exact⟨k+1,by omega,by go_num,by rw [HD.out],by rw [HD.out],by rw [HD.out];exact HP.out.alloc _⟩
      case measure=>simp [intOf];omega
    ·have HD:Hid (picS g (s.data.toList.take (k+1))=(f,R,C+1)):=by
      show picS g _=_
      rw [HNX.out];unfold pic1;rw [if_neg hd];simp only
      rw [if_neg (fun hh=>hr (hc97.1 ⟨hh.1,hh.2.1⟩))]
     by_cases h97:97≤y
     ·have e1:1≤y - 97+1:=by omega
      have e2:8 < y - 97+1:=by omega
      clear hp hd hby hc97 hr HNX
      go_wp2
      go_roundw
      case rel=>exact⟨k+1,by omega,by go_num,by rw [HD.out],by rw [HD.out],by rw [HD.out];exact HP.out⟩
      case measure=>simp [intOf];omega
     ·have e1:y - 97+1 < 1:=by omega
      clear hp hd hby hc97 hr HNX h97
      go_wp2
      go_roundw
      case rel=>exact⟨k+1,by omega,by go_num,by rw [HD.out],by rw [HD.out],by rw [HD.out];exact HP.out⟩
      case measure=>simp [intOf];omega
  ·have HE:Hid (fx=f):=by
    show fx=f
    rw [List.take_of_length_le (by simp;omega)] at hst
    rw [HFX.out, ←hst]
   obtain⟨⟨x0,x1,x2,x3,x4,x5,x6,x7,x8⟩,z⟩:=nine hp.box
   obtain⟨⟨u0,u1,u2,u3,u4,u5,u6,u7,u8⟩,v⟩:=nine hp.res
   clear hp hst hln
   go_wp2
   refine bodyPost_ret (v:=gval ⟨g.wide,g.high,g.n,f,g.row,g.col,g.ink,g.bold,g.top,g.bottom⟩ (some ⟨b,0,none⟩) cap) (by simp [results,Tryz.results105,go_sem, *]) rfl ?_
   rw [HE.out]
   exact⟨rfl,fin9 (w:=w) ⟨HP.out.scr,HP.out.grown⟩ (by omega) hlt _ _ _ _ _ _ _ _ _⟩
end Go.Proofs.YtjikokfjnbhngaaGreatDoor

/- 'Resize', walked. -/
namespace Go.Proofs.YtjikokfjnbhngaaGreatDoor
open Go.RowKit
set_option maxHeartbeats 1000000 in
theorem resize_bad (g:Gr) (ao:Option Addr) (cap:Nat) (wide high:Int) (w:World) (hr:RdS w ao g.n g.f) (hn:ao=none→g.n=0∧cap=0) (hm:g.n≤4398046511104) (hg:goodG g=false):
  Calls Tryz.prog 106 #[gval g ao cap,.int .i64 wide,.int .i64 high] w (AllEnd w (g,1)):=by
 have HR:Hid (RdS w ao g.n g.f):=hr
 have HCL:Hid (∀ w,RdS w ao g.n g.f→Calls Tryz.prog 48 #[.slice ao g.n cap] w fun e w'=>∃ ao' cap',e=.returned (.slice ao' g.n cap')∧Copied w g.n g.f ao' cap' w'):=fun w hr=>clone_any ao cap g.n g.f w hr hn (by omega)
 have HGD:Hid (∀ w,RdS w ao g.n g.f→Calls Tryz.prog 33 #[gval g ao cap] w fun e w'=>e=.returned (.bool false)∧Below w.heap.size w w'):=fun w hr=>good_any g ao cap w hr (by omega) false hg.symm
 clear hr hn hm hg
 go_enter Tryz.func106,Tryz.ntmps106
 go_wp2_with (first
  | (go_at_call 33;refine(HGD.out _ (HR.out.below (below2 _ _ _))).mono ?_;rintro e w2 ⟨rfl,hb2⟩;have HB:Hid (Below w.heap.size w w2):=(below2 _ _ _).trans (hb2.mono (by simp;omega));have q1:=below_block hb2 (at_old (at_new w _) _) (by simp;omega);have q2:=below_block hb2 (at_new1 w _ _) (by simp);have HQ:Hid _:=q1;have HQ2:Hid _:=q2;obtain⟨⟨x0,x1,x2,x3,x4,x5,x6,x7,x8⟩,z⟩:=nine q1;clear hb2 q1 q2)
  | (go_at_call 48;refine(HCL.out _ (HR.out.below HB.out)).mono ?_;rintro e w1 ⟨ao',cap',rfl,hcp⟩;have HCP:Hid (Copied w2 g.n g.f ao' cap' w1):=hcp;obtain⟨⟨y0,y1,y2,y3,y4,y5,y6,y7,y8⟩,z1⟩:=nine (below_block hcp.2.2 HQ.out (Array.getElem?_eq_some_iff.1 HQ.out).1);obtain⟨⟨u0,u1,u2,u3,u4,u5,u6,u7,u8⟩,v⟩:=nine (below_block hcp.2.2 HQ2.out (Array.getElem?_eq_some_iff.1 HQ2.out).1);clear hcp))
 refine bodyPost_ret (v:=.tuple #[gval g ao' cap',.int .i64 1]) (by simp [results,Tryz.results106,go_sem, *]) rfl ?_
 have hz1:w.heap.size+1 < w2.heap.size:=(Array.getElem?_eq_some_iff.1 HQ2.out).1
 have hcp:=HCP.out
 have hb1:Below w.heap.size w w1:=HB.out.trans (hcp.2.2.mono HB.out.size)
 have hbx:=hb1.setCell (p:=⟨w.heap.size,2,none⟩) (Nat.le_refl _) (.slice ao' g.n cap')
 refine⟨ao',cap',rfl,?_,?_,below_set9 hbx (by omega) _ _ _ _ _ _ _ _ _⟩
 ·rcases Nat.eq_zero_or_pos g.n with h1 | h1
  ·exact .inl h1
  ·obtain⟨b,rfl,hb,_,hs⟩:=hcp.2.1 h1
   exact(scr_set9 (hs.set (p:=⟨w.heap.size,2,none⟩) (by simp;omega) _) (by omega) _ _ _ _ _ _ _ _ _).rd
 ·intro h1
  obtain⟨b,rfl,hb,hc,hs⟩:=hcp.2.1 h1
  exact⟨b,rfl,by omega,hc,scr_set9 (hs.set (p:=⟨w.heap.size,2,none⟩) (by simp;omega) _) (by omega) _ _ _ _ _ _ _ _ _⟩
set_option maxRecDepth 2000 in
set_option maxHeartbeats 4000000 in
theorem resize_good (g:Gr) (ok:OkG g) (b0 off cap:Nat) (wide high:Int) (w:World) (hr:RdS w (some ⟨b0,off,none⟩) g.n g.f) (hc:g.n≤cap) (x:Gr) (hx:x=resG g wide high):
  Calls Tryz.prog 106 #[gval g (some ⟨b0,off,none⟩) cap,.int .i64 wide,.int .i64 high] w (AllEnd w (x,0)):=by
 obtain⟨t,ht⟩:∃ t,t=newG wide high:=⟨_,rfl⟩
 have okt:OkG t:=by rw [ht];exact ok_new wide high
 have HX:Hid (x=⟨t.wide,t.high,t.n,resF g t.wide,min g.row (t.high - 1),min g.col (t.wide - 1),g.ink,g.bold,t.top,t.bottom⟩):=by
  show x=_
  rw [hx,ht]
  rfl
 have HR:Hid (RdS w (some ⟨b0,off,none⟩) g.n g.f):=hr
 have HO:Hid (OkG g∧OkG t∧g.n≤cap):=⟨ok,okt,hc⟩
 have HGD:Hid (∀ w,RdS w (some ⟨b0,off,none⟩) g.n g.f→Calls Tryz.prog 33 #[gval g (some ⟨b0,off,none⟩) cap] w fun e w'=>e=.returned (.bool true)∧Below w.heap.size w w'):=fun w hr=>good_any g (some ⟨b0,off,none⟩) cap w hr (by obtain⟨q1,q2,_⟩:=ok.nums;omega) true ((goodG_iff g).2 ok).symm
 have HN:Hid (∀ w,Calls Tryz.prog 36 #[.int .i64 wide,.int .i64 high] w fun e w'=>∃ b,e=.returned (gval t (some ⟨b,0,none⟩) t.n)∧Scr w' b t.n t.f∧w.heap.size≤b∧Below w.heap.size w w'):=fun w=>new_any wide high w t ht
 have HTF:Hid (∀ i,t.f i=resK g t.wide 0 i):=by
  intro i
  rw [ht]
  show noCel=resK g _ 0 i
  unfold resK
  rw [if_neg (by omega)]
 have hh0:=ok.h1
 have hh1:=ok.h2
 have hth0:=okt.h1
 have hth1:=okt.h2
 have hw0:=ok.w1
 have hw1:=ok.w2
 have htw0:=okt.w1
 have htw1:=okt.w2
 have hr0:=ok.r1
 have hr1:g.row≤10:=by have:=ok.r2;omega
 have hc0:=ok.c1
 have hc1:g.col≤24:=by have:=ok.c2;omega
 obtain⟨M,hM⟩:∃ M:Nat,(M:Int)=min g.high t.high:=⟨(min g.high t.high).toNat,by omega⟩
 have HM:Hid ((M:Int)=min g.high t.high):=hM
 have hM2:M≤10:=by omega
 have hcs:(t.high < g.high∧t.high=(M:Int))∨(g.high≤t.high∧g.high=(M:Int)):=by omega
 clear hr hx ht ok okt hc hM
 have FIN:Hid (∀ (b:Nat) (w':World),w.heap.size≤b→Scr w' b t.n (resK g t.wide M)→Below w.heap.size w w'→∀ r c:Int,r=min g.row (t.high - 1)→c=min g.col (t.wide - 1)→AllEnd w (x,0) (.returned (.tuple #[.agg #[.int .i64 t.wide,.int .i64 t.high,.slice (some ⟨b,0,none⟩) t.n t.n,.int .i64 r,.int .i64 c,.int .i64 g.ink,.bool g.bold,.int .i64 t.top,.int .i64 t.bottom],.int .i64 0])) w'):=by
  intro b w' hb hs hbel r c hr hc
  have hs2:Scr w' b t.n (resF g t.wide):=hs.congr fun i hi=>resK_all t.wide t.high htw0 M t.n HO.out.2.1.size HM.out i hi
  rw [HX.out,hr,hc]
  exact⟨some ⟨b,0,none⟩,t.n,rfl,hs2.rd,fun _=>⟨b,rfl,hb,Nat.le_refl _,hs2⟩,hbel⟩
 rcases hcs with ⟨hcmp,hMv⟩ | ⟨hcmp,hMv⟩
 all_goals (
  have HMV:Hid _:=hMv
  clear hMv
  go_enter Tryz.func106,Tryz.ntmps106
  go_wp2_with (first
   | (go_at_call 33;refine(HGD.out _ (HR.out.below (below2 _ _ _))).mono ?_;rintro e w2 ⟨rfl,hb2⟩;have HB:Hid (Below w.heap.size w w2):=(below2 _ _ _).trans (hb2.mono (by simp;omega));have HQ:Hid _:=below_block hb2 (at_old (at_new w _) _) (by simp;omega);have HQ2:Hid _:=below_block hb2 (at_new1 w _ _) (by simp);clear hb2)
   | (go_at_call 36;refine(HN.out _).mono ?_;rintro e w3 ⟨b,rfl,hs,hbb,hb3⟩;have HV:Hid (RInv w g t (some ⟨b0,off,none⟩) cap b w3.heap.size (resK g t.wide 0) (w3.alloc (gbox t (some ⟨b,0,none⟩) t.n))):=⟨at_old (below_block hb3 HQ.out (Array.getElem?_eq_some_iff.1 HQ.out).1) _,at_old (below_block hb3 HQ2.out (Array.getElem?_eq_some_iff.1 HQ2.out).1) _,at_new _ _,(hs.congr (fun i _=>HTF.out i)).alloc _,(HB.out.trans (hb3.mono HB.out.size)).alloc (by have:=HB.out.size;have:=hb3.size;omega) _,(by have:=(Array.getElem?_eq_some_iff.1 HQ2.out).1;omega),hs.lt⟩;obtain⟨⟨x0,x1,x2,x3,x4,x5,x6,x7,x8⟩,z⟩:=nine (below_block hb3 HQ.out (Array.getElem?_eq_some_iff.1 HQ.out).1);have hsz3:w.heap.size < w3.heap.size:=(by have:=(Array.getElem?_eq_some_iff.1 HQ.out).1;have:=hb3.size;omega);clear hs hbb hb3))
  clear x0 x1 x2 x3 x4 x5 x6 x7 x8 z HQ HQ2 HN HGD
  go_loopw [26] (fun i wr=>∃ k:Nat,k≤M∧i=.int .i64 k∧RInv w g t (some ⟨b0,off,none⟩) cap b w3.heap.size (resK g t.wide k) wr) (fun i _=>M - (intOf i).toNat)
  case atStart=>exact⟨0,Nat.zero_le _,rfl,HV.out⟩
  case round=>
   obtain⟨k,hk,rfl,hv⟩:=hrel
   have HI:Hid (RInv w g t (some ⟨b0,off,none⟩) cap b w3.heap.size (resK g t.wide k) wr):=hv
   obtain⟨⟨x0,x1,x2,x3,x4,x5,x6,x7,x8⟩,z⟩:=nine hv.one
   obtain⟨⟨y0,y1,y2,y3,y4,y5,y6,y7,y8⟩,z3⟩:=nine hv.two
   have hs1:w.heap.size < wr.heap.size:=(Array.getElem?_eq_some_iff.1 hv.one).1
   have hs2:w3.heap.size < wr.heap.size:=(Array.getElem?_eq_some_iff.1 hv.two).1
   by_cases hlt:k < M
   ·have hlt':(k:Int) < g.high:=by have:=HM.out;omega
    have hlt2:(k:Int) < t.high:=by have:=HM.out;omega
    have hk0:(0:Int)≤(k:Int):=by omega
    obtain⟨ok,okt,hcap⟩:=HO.out
    obtain⟨q1,q2,_⟩:=ok.nums
    obtain⟨r1,r2,_⟩:=okt.nums
    have q3:=mul_bound hk0 hlt' (w:=g.wide) (by omega)
    have r3:=mul_bound hk0 hlt2 (w:=t.wide) (by omega)
    have hwk:IntKind.i64.wrap ((k:Int)+1)=(k:Int)+1:=by rw [IntKind.wrap_i64];omega
    obtain⟨P,hP⟩:∃ P,P=((k:Int)*t.wide).toNat:=⟨_,rfl⟩
    obtain⟨Q,hQ⟩:∃ Q,Q=((k:Int)*g.wide).toNat:=⟨_,rfl⟩
    obtain⟨Wt,hWt⟩:∃ W,W=t.wide.toNat:=⟨_,rfl⟩
    obtain⟨Wg,hWg⟩:∃ W,W=g.wide.toNat:=⟨_,rfl⟩
    have HRT:Hid (∀ w,Calls Tryz.prog 120 #[gval t (some ⟨b,0,none⟩) t.n,.int .i64 k,.int .i64 (k+1)] w fun e w'=>e=.returned (.slice (some ⟨b,P*4,none⟩) Wt (t.n - P))∧w'=w.alloc (gbox t (some ⟨b,0,none⟩) t.n)):=by
     intro w
     rw [hP,hWt]
     exact rows_at t okt b t.n w (Nat.le_refl _) k hk0 hlt2
    have HRG:Hid (∀ w,Calls Tryz.prog 120 #[gval g (some ⟨b0,off,none⟩) cap,.int .i64 k,.int .i64 (k+1)] w fun e w'=>e=.returned (.slice (some ⟨b0,off+Q*4,none⟩) Wg (cap - Q))∧w'=w.alloc (gbox g (some ⟨b0,off,none⟩) cap)):=by
     intro w
     rw [hQ,hWg]
     exact rows_off1 g ok b0 off cap w hcap k hk0 hlt'
    have hrd:=HR.out.below hv.below
    obtain⟨w5,r5,h5,g5⟩:=run_copy4 ((wr.alloc (gbox t (some ⟨b,0,none⟩) t.n)).alloc (gbox g (some ⟨b0,off,none⟩) cap)).drew 3 b t.n (resK g t.wide k) ((hv.scr.alloc _).alloc _).drew P Wt (t.n - P) (some ⟨b,P*4,none⟩) (some ⟨b0,off+Q*4,none⟩) Wg (cap - Q) (Nat.min Wg Wt) (fun j=>g.f (Q+j)) rfl
     (by have h9:Nat.min Wg Wt≤Wt:=Nat.min_le_right _ _;omega)
     (fun _=>⟨rfl,_,rfl,hv.src hrd Q (Nat.min Wg Wt) (by have h9:Nat.min Wg Wt≤Wg:=Nat.min_le_left _ _;omega) _ _⟩)
    have HF:Hid (RInv w g t (some ⟨b0,off,none⟩) cap b w3.heap.size (resK g t.wide (k+1)) w5):=by
     refine hv.step (h5.congr fun i hi=>?_) g5
     rw [hP,hQ,hWt,hWg]
     exact resK_step ok t.wide (by omega) k t.n hlt' i hi
    obtain⟨⟨m0,m1,m2,m3,m4,m5,m6,m7,m8⟩,n0⟩:=nine HF.out.one
    obtain⟨⟨o0,o1,o2,o3,o4,o5,o6,o7,o8⟩,n1⟩:=nine HF.out.two
    clear h5 g5 hrd hv q1 q2 q3 r1 r2 r3 ok okt hcap hP hQ hWt hWg
    go_wp2_with fail
    go_region_held3 (fun w'=>(w'.cell? ⟨w3.heap.size,0,none⟩=some (.int .i64 t.wide)∧w'.cell? ⟨w3.heap.size,1,none⟩=some (.int .i64 t.high)∧w'.cell? ⟨w3.heap.size,2,none⟩=some (.slice (some ⟨b,0,none⟩) t.n t.n)∧w'.cell? ⟨w3.heap.size,3,none⟩=some (.int .i64 t.row)∧w'.cell? ⟨w3.heap.size,4,none⟩=some (.int .i64 t.col)∧w'.cell? ⟨w3.heap.size,5,none⟩=some (.int .i64 t.ink)∧w'.cell? ⟨w3.heap.size,6,none⟩=some (.bool t.bold)∧w'.cell? ⟨w3.heap.size,7,none⟩=some (.int .i64 t.top)∧w'.cell? ⟨w3.heap.size,8,none⟩=some (.int .i64 t.bottom))∧(w'.cell? ⟨w.heap.size,0,none⟩=some (.int .i64 g.wide)∧w'.cell? ⟨w.heap.size,1,none⟩=some (.int .i64 g.high)∧w'.cell? ⟨w.heap.size,2,none⟩=some (.slice (some ⟨b0,off,none⟩) g.n cap)∧w'.cell? ⟨w.heap.size,3,none⟩=some (.int .i64 g.row)∧w'.cell? ⟨w.heap.size,4,none⟩=some (.int .i64 g.col)∧w'.cell? ⟨w.heap.size,5,none⟩=some (.int .i64 g.ink)∧w'.cell? ⟨w.heap.size,6,none⟩=some (.bool g.bold)∧w'.cell? ⟨w.heap.size,7,none⟩=some (.int .i64 g.top)∧w'.cell? ⟨w.heap.size,8,none⟩=some (.int .i64 g.bottom))) (first | go_keep | (simp [*,World.cell?_alloc_past]))
     (first
     | (have _t:=HC1;go_at_call 120;go_fit (HRG.out _);rintro e w1 ⟨rfl,rfl⟩)
     | (go_at_call 120;go_fit (HRT.out _);rintro e w1 ⟨rfl,rfl⟩;have HC1:Hid True:=trivial))
    go_wp2
    go_roundw
    case rel=>exact⟨k+1,by omega,by go_num,HF.out⟩
    case measure=>simp [intOf];omega
   ·have hge':M≤k:=by omega
    first
    | (have hge:t.high≤(k:Int):=by have h9:=HMV.out;omega)
    | (have hge:g.high≤(k:Int):=by have h9:=HMV.out;omega)
    have HK:Hid (k=M):=(by omega:k=M)
    obtain⟨⟨u0,u1,u2,u3,u4,u5,u6,u7,u8⟩,v⟩:=nine hv.res
    have hs3:w.heap.size+1 < wr.heap.size:=(Array.getElem?_eq_some_iff.1 hv.res).1
    have hown:=hv.own
    have hfar:=hv.far
    clear hv HMV hge' hlt
    have hne1:w3.heap.size≠w.heap.size:=by omega
    have hne2:w3.heap.size≠w.heap.size+1:=by omega
    go_wp2_with fail
    all_goals (
     go_region_held3 (fun w'=>w'.cell? ⟨w.heap.size,5,none⟩=some (.int .i64 g.ink)∧w'.cell? ⟨w.heap.size,6,none⟩=some (.bool g.bold)) (first | go_keep | (simp [*,World.cell?_setCell_far])) (fail)
     all_goals (
      go_wp2
      refine bodyPost_ret (by simp [results,Tryz.results106,go_sem, *];rfl) rfl ?_
      have hi:=HI.out
      rw [HK.out] at hi
      refine FIN.out _ _ (by omega) (Scr.drew (scr_set9 ((((hi.scr.set (by simp;omega) _).set (by simp;omega) _).set (by simp;omega) _).set (by simp;omega) _) (by omega) _ _ _ _ _ _ _ _ _)) (Below.drew (below_set9 ((((hi.below.setCell (by simp;omega) _).setCell (by simp;omega) _).setCell (by simp;omega) _).setCell (by simp;omega) _) (by omega) _ _ _ _ _ _ _ _ _)) _ _ ?_ ?_ <;>omega)))
end Go.Proofs.YtjikokfjnbhngaaGreatDoor

/- What 'Resize' answers, at any screen. -/
namespace Go.Proofs.YtjikokfjnbhngaaGreatDoor
open Go.RowKit
theorem ok_res {g:Gr} (h:OkG g) (wide high:Int):OkG (resG g wide high):=by
 have k:=ok_new wide high
 have:=k.h1
 have:=k.w1
 have:=h.r1
 have:=h.c1
 have hw:(newG wide high).wide≠0:=by omega
 refine⟨k.w1,k.w2,k.h1,k.h2,k.size,fun i hi=>?_,?_,?_,?_,?_,h.i1,h.i2,k.t1,k.t2,k.t3⟩
 ·show goodC (resF g _ i)=true
  unfold resF atG
  split
  ·next hh=>
   have hp:=Int.mul_nonneg hh.2.2.1 (show 0≤g.wide by omega)
   exact h.cells _ (by omega)
  ·exact goodC_no
 ·show 0≤min g.row ((newG wide high).high - 1);omega
 ·show min g.row ((newG wide high).high - 1) < (newG wide high).high;omega
 ·show 0≤min g.col ((newG wide high).wide - 1);omega
 ·show min g.col ((newG wide high).wide - 1)≤(newG wide high).wide;omega
theorem atG_res {g:Gr} (h:OkG g) (wide high:Int) {r c:Int} (h1:0≤r) (h2:r < (resG g wide high).high) (h3:0≤c) (h4:c < (resG g wide high).wide):atG (resG g wide high) r c=atG g r c:=by
 obtain⟨e,k1,_⟩:=atG_good (ok_res h wide high) h1 h2 h3 h4
 rw [e]
 show resF g _ _=_
 unfold resF
 have hd:=div_row (r:=r) (c:=c) (w:=(resG g wide high).wide) h3 h4
 have e2:(((r*(resG g wide high).wide+c).toNat:Nat):Int)=r*(resG g wide high).wide+c:=Int.toNat_of_nonneg k1
 rw [e2]
 show atG g ((r*(resG g wide high).wide+c) / (resG g wide high).wide) ((r*(resG g wide high).wide+c) % (resG g wide high).wide)=_
 rw [hd.1,hd.2]
def resR (g:Gr) (wide high:Int):Gr×Int:=if goodG g then (resG g wide high,0) else (g,1)
theorem resize_any (g:Gr) (ao:Option Addr) (cap:Nat) (wide high:Int) (w:World) (hr:RdS w ao g.n g.f) (hn:ao=none→g.n=0∧cap=0) (hm:g.n≤4398046511104) (hc:g.n≤cap) (r:Gr×Int) (hrr:r=resR g wide high):
  Calls Tryz.prog 106 #[gval g ao cap,.int .i64 wide,.int .i64 high] w (AllEnd w r):=by
 unfold resR at hrr
 cases hg:goodG g
 ·rw [hg] at hrr
  rw [hrr]
  exact resize_bad g ao cap wide high w hr hn hm hg
 ·rw [hg] at hrr
  rw [hrr]
  have ok:=(goodG_iff g).1 hg
  have hpos:0 < g.n:=by
   have h1:=ok.size
   have h2:1*g.high≤g.wide*g.high:=mul_mono ok.w1 (by have:=ok.h1;omega)
   have:=ok.h1
   omega
  obtain⟨b0,off,rfl,_⟩:=hr.resolve_left (by omega)
  exact resize_good g ok b0 off cap wide high w hr hc _ rfl
end Go.Proofs.YtjikokfjnbhngaaGreatDoor
