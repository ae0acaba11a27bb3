/- Several texts in one, each as it was: DNums3, DCells, DPrint, DKept. -/
import Derived.Test.YtjikokfjnbhngaaGreatDoorMDWrite
import Derived.Deep.QuietTactic
import Derived.BigQuiet
import Derived.Test.YtjikokfjnbhngaaGreatDoorMDRow
import Derived.Test.YtjikokfjnbhngaaGreatDoorMGDraw
import Derived.Laws.Runes

/- The numbers that lead from one ink to another: all cases; the pen takes an ink. -/
namespace Go.Proofs.YtjikokfjnbhngaaGreatDoor
open Go.RowKit
set_option maxRecDepth 100000
theorem inkNumbers_any (g:Gr) (ao:Option Addr) (cap:Nat) (c:Cel) (hg:0≤g.ink∧g.ink≤8) (hc:0≤c.ink∧c.ink≤8) (hs:sameInk g c=false) (w:World):
  Calls Tryz.prog 154 #[gval g ao cap,cval c] w fun e w'=>e=.returned (.string (bs (inkNumsD g c)))∧Below w.heap.size w w':=by
 obtain⟨wide,high,n,f,row,col,ink,bold,top,bottom⟩:=g
 obtain⟨ch,cink,pic,cbold⟩:=c
 simp only at hg hc
 unfold inkNumsD
 by_cases h0:cink=0
 ·subst h0
  by_cases hi:0 < ink
  ·have hn:¬ (0:Int)=ink:=by omega
   cases bold <;>cases cbold
   ·have R:inksD ⟨wide,high,n,f,row,col,ink,false,top,bottom⟩ ⟨ch,0,pic,false⟩=[[]]:=by simp [inksD,goneD,hi]
    rw [R];exact nums_FF0 wide high n f row col top bottom ch pic ink ao cap hi w
   ·have R:inksD ⟨wide,high,n,f,row,col,ink,false,top,bottom⟩ ⟨ch,0,pic,true⟩=[[],[49]]:=by simp [inksD,goneD,hi]
    rw [R];exact nums_FT0 wide high n f row col top bottom ch pic ink ao cap hi w
   ·have R:inksD ⟨wide,high,n,f,row,col,ink,true,top,bottom⟩ ⟨ch,0,pic,false⟩=[[]]:=by simp [inksD,goneD]
    rw [R];exact nums_TF0 wide high n f row col top bottom ch pic ink ao cap w
   ·have R:inksD ⟨wide,high,n,f,row,col,ink,true,top,bottom⟩ ⟨ch,0,pic,true⟩=[[],[49]]:=by simp [inksD,goneD,hi]
    rw [R];exact nums_TT0 wide high n f row col top bottom ch pic ink ao cap hi w
  ·obtain rfl:ink=0:=by omega
   cases bold <;>cases cbold
   ·simp [sameInk] at hs
   ·have R:inksD ⟨wide,high,n,f,row,col,0,false,top,bottom⟩ ⟨ch,0,pic,true⟩=[[49]]:=by simp [inksD,goneD]
    rw [R];exact nums_FTt wide high n f row col top bottom ch pic ao cap w
   ·have R:inksD ⟨wide,high,n,f,row,col,0,true,top,bottom⟩ ⟨ch,0,pic,false⟩=[[]]:=by simp [inksD,goneD]
    rw [R];exact nums_TF0 wide high n f row col top bottom ch pic 0 ao cap w
   ·simp [sameInk] at hs
 ·have h1:1≤cink:=by omega
  by_cases hi:0 < ink
  ·by_cases he:cink=ink
   ·subst he
    cases bold <;>cases cbold
    ·simp [sameInk] at hs
    ·have R:inksD ⟨wide,high,n,f,row,col,cink,false,top,bottom⟩ ⟨ch,cink,pic,true⟩=[[49]]:=by simp [inksD,goneD,h0]
     rw [R];exact nums_FTs wide high n f row col top bottom ch pic cink ao cap hi w
    ·have R:inksD ⟨wide,high,n,f,row,col,cink,true,top,bottom⟩ ⟨ch,cink,pic,false⟩=[[],Ps.dec (29+cink).toNat]:=by simp [inksD,goneD,h0]
     rw [R];exact nums_TF1 wide high n f row col top bottom ch pic cink cink ao cap h1 hc.2 w
    ·simp [sameInk] at hs
   ·cases bold <;>cases cbold
    ·have R:inksD ⟨wide,high,n,f,row,col,ink,false,top,bottom⟩ ⟨ch,cink,pic,false⟩=[Ps.dec (29+cink).toNat]:=by simp [inksD,goneD,h0,he]
     rw [R];exact nums_FFi wide high n f row col top bottom ch pic ink cink ao cap h1 hc.2 hi he w
    ·have R:inksD ⟨wide,high,n,f,row,col,ink,false,top,bottom⟩ ⟨ch,cink,pic,true⟩=[[49],Ps.dec (29+cink).toNat]:=by simp [inksD,goneD,h0,he]
     rw [R];exact nums_FTi wide high n f row col top bottom ch pic ink cink ao cap h1 hc.2 hi he w
    ·have R:inksD ⟨wide,high,n,f,row,col,ink,true,top,bottom⟩ ⟨ch,cink,pic,false⟩=[[],Ps.dec (29+cink).toNat]:=by simp [inksD,goneD,h0]
     rw [R];exact nums_TF1 wide high n f row col top bottom ch pic ink cink ao cap h1 hc.2 w
    ·have R:inksD ⟨wide,high,n,f,row,col,ink,true,top,bottom⟩ ⟨ch,cink,pic,true⟩=[Ps.dec (29+cink).toNat]:=by simp [inksD,goneD,h0,he]
     rw [R];exact nums_TTi wide high n f row col top bottom ch pic ink cink ao cap h1 hc.2 hi he w
  ·obtain rfl:ink=0:=by omega
   cases bold <;>cases cbold
   ·have R:inksD ⟨wide,high,n,f,row,col,0,false,top,bottom⟩ ⟨ch,cink,pic,false⟩=[Ps.dec (29+cink).toNat]:=by simp [inksD,goneD,h0]
    rw [R];exact nums_FFz wide high n f row col top bottom ch pic cink ao cap h1 hc.2 w
   ·have R:inksD ⟨wide,high,n,f,row,col,0,false,top,bottom⟩ ⟨ch,cink,pic,true⟩=[[49],Ps.dec (29+cink).toNat]:=by simp [inksD,goneD,h0]
    rw [R];exact nums_FTz wide high n f row col top bottom ch pic cink ao cap h1 hc.2 w
   ·have R:inksD ⟨wide,high,n,f,row,col,0,true,top,bottom⟩ ⟨ch,cink,pic,false⟩=[[],Ps.dec (29+cink).toNat]:=by simp [inksD,goneD,h0]
    rw [R];exact nums_TF1 wide high n f row col top bottom ch pic 0 cink ao cap h1 hc.2 w
   ·have R:inksD ⟨wide,high,n,f,row,col,0,true,top,bottom⟩ ⟨ch,cink,pic,true⟩=[Ps.dec (29+cink).toNat]:=by simp [inksD,goneD,h0]
    rw [R];exact nums_TTz wide high n f row col top bottom ch pic cink ao cap h1 hc.2 w
@[reducible] def cbox (c:Cel):Obj:=.cells (ccells c) 66
set_option maxHeartbeats 2000000 in
theorem ink_same (pb b cap:Nat) (oo:Option Addr) (oc:Nat) (p:Pen) (c:Cel) (hs:sameInk p.g c=true) (w:World) (h:PenIn w pb b cap oo oc p):
  Calls Tryz.prog 148 #[.pointer (some ⟨pb,0,none⟩),cval c] w fun e w'=>e=.returned (.tuple #[])∧PenTo w pb b cap oo (inkP p c) w':=by
 have HE:Hid (∀ n,PenTo w pb b cap oo (inkP p c) ((w.alloc (cbox c)).drewN n)):=fun n=>by
  unfold inkP
  rw [if_pos hs]
  exact h.stay (below_drewN (below1 w _) n)
 simp only [sameInk,Bool.and_eq_true,decide_eq_true_eq,beq_iff_eq] at hs
 have e1:(p.g.ink==c.ink)=true:=by simpa using hs.1
 have e2:(p.g.bold==c.bold)=true:=by simpa using hs.2
 obtain⟨⟨c0,c1,c2,c3,c4,c5,c6,c7,c8,c9⟩,cf⟩:=ten h.box
 have hlt:=h.lt
 clear h hs
 go_enter Tryz.func148,Tryz.ntmps148
 go_wp2_with fail
 go_quiet (fail)
 go_wp2
 exact bodyPost_ret (v:=.tuple #[]) (by simp [results,Tryz.results148,go_sem]) rfl ⟨rfl,HE.out _⟩
set_option maxHeartbeats 2000000 in
theorem ink_other (pb b cap:Nat) (oo:Option Addr) (oc:Nat) (p:Pen) (ok:OkG p.g) (c:Cel) (hc:0≤c.ink∧c.ink≤8) (hs:sameInk p.g c=false) (hl:p.out.length≤1000000) (w:World) (h:PenIn w pb b cap oo oc p):
  Calls Tryz.prog 148 #[.pointer (some ⟨pb,0,none⟩),cval c] w fun e w'=>e=.returned (.tuple #[])∧PenTo w pb b cap oo (inkP p c) w':=by
 obtain⟨T,hT,HT⟩:∃ T:ByteArray,T.size≤4∧Hid (T=bs (inkNumsD p.g c)):=⟨_,by
  obtain⟨x,l,k⟩:=ink_texts ⟨ok.i1,ok.i2⟩ c hc hs
  rw [bs_size]
  exact k.short,rfl⟩
 have HN:Hid (∀ w,Calls Tryz.prog 154 #[gval p.g (some ⟨b,0,none⟩) cap,cval c] w fun e w'=>e=.returned (.string T)∧Below w.heap.size w w'):=fun w=>by rw [HT.out];exact inkNumbers_any p.g _ _ c ⟨ok.i1,ok.i2⟩ hc hs w
 have HWR:Hid (∀ w1,Below w.heap.size w w1→Calls Tryz.prog 134 #[.pointer (some ⟨pb,0,none⟩),.string (⟨#[27,91]⟩++T++⟨#[109]⟩)] w1 fun e w'=>e=.returned (.tuple #[])∧PenTo w pb b cap oo ⟨p.out++27::91::(inkNumsD p.g c++[109]),p.g⟩ w'∧∀ k,w.heap.size≤k→k < w1.heap.size→w'.heap[k]?=w1.heap[k]?):=fun w1 hb=>write_at h hb _ (by simp only [ByteArray.size_append];show p.out.length+(2+T.size+1)≤_;omega) _ (by rw [HT.out];simp)
 have HE:Hid (∀ w5,PenTo w pb b cap oo ⟨p.out++27::91::(inkNumsD p.g c++[109]),p.g⟩ w5→PenTo w pb b cap oo (inkP p c) ((w5.setCell ⟨pb,6,none⟩ (.int .i64 c.ink)).setCell ⟨pb,7,none⟩ (.bool c.bold))):=fun w5 h5=>by
  unfold inkP
  rw [if_neg (by rw [hs];simp)]
  exact h5.set2 6 7 _ _ rfl rfl (fun _ _=>rfl)
 have e1:¬ 9223372036854775807 < 2+T.size:=by omega
 have e2:¬ 9223372036854775807 < 2+T.size+1:=by omega
 have HBX:Hid (∀ w1,Below w.heap.size w w1→w1.heap[pb]?=some (pbox p.out.length oo oc p.g b cap)):=fun w1 hb=>below_block hb h.box h.lt
 obtain⟨⟨c0,c1,c2,c3,c4,c5,c6,c7,c8,c9⟩,cf⟩:=ten h.box
 have hlt:=h.lt
 clear h HT ok hl
 have HC0:Hid (∀ nq w1,Below ((w.alloc (cbox c)).drewN nq).heap.size ((w.alloc (cbox c)).drewN nq) w1→Below w.heap.size w w1∧w.heap.size < w1.heap.size∧w1.heap[w.heap.size]?=some (cbox c)):=fun nq w1 hb=>by
  have hb0:Below (w.alloc (cbox c)).heap.size (w.alloc (cbox c)) w1:=⟨hb.os,hb.tape,hb.output,hb.size,hb.block⟩
  have:=hb0.size
  simp at this
  exact⟨below_up hb0,by omega,below_block hb0 (at_new w _) (by simp)⟩
 have hor:(p.g.ink==c.ink)=true∧(p.g.bold==c.bold)=false∨(p.g.ink==c.ink)=false:=by
  by_cases hi:p.g.ink=c.ink
  ·exact .inl ⟨by simpa using hi,by simpa [sameInk,hi] using hs⟩
  ·exact .inr (by simpa using hi)
 clear hs
 rcases hor with ⟨f1,f2⟩ | f1
 all_goals (
  go_enter Tryz.func148,Tryz.ntmps148
  go_wp2_with fail
  go_quiet (fail)
  go_wp2_with fail
  obtain⟨hw0,hw1,hw2⟩:=HC0.out nq _ (Below.refl _ _)
  have HC1:Hid (∀ w1,Below ((w.alloc (cbox c)).drewN nq).heap.size ((w.alloc (cbox c)).drewN nq) w1→Below w.heap.size w w1∧w.heap.size < w1.heap.size∧w1.heap[w.heap.size]?=some (cbox c)):=HC0.out nq
  clear HC0 c0 c1 c2 c3 c4 c5 c6 c7 c8 c9 cf
  obtain⟨⟨c0,c1,c2,c3,c4,c5,c6,c7,c8,c9⟩,cf⟩:=ten (HBX.out _ hw0)
  obtain⟨⟨z0,z1,z2,z3⟩,zf⟩:=four hw2
  generalize (w.alloc (cbox c)).drewN nq=W at*
  clear hw0 hw1 hw2
  go_region_held3 (fun w'=>w'.cell? ⟨pb,1,none⟩=some (.int .i64 p.g.wide)∧w'.cell? ⟨pb,2,none⟩=some (.int .i64 p.g.high)∧w'.cell? ⟨pb,3,none⟩=some (.slice (some ⟨b,0,none⟩) p.g.n cap)∧w'.cell? ⟨pb,4,none⟩=some (.int .i64 p.g.row)∧w'.cell? ⟨pb,5,none⟩=some (.int .i64 p.g.col)∧w'.cell? ⟨pb,6,none⟩=some (.int .i64 p.g.ink)∧w'.cell? ⟨pb,7,none⟩=some (.bool p.g.bold)∧w'.cell? ⟨pb,8,none⟩=some (.int .i64 p.g.top)∧w'.cell? ⟨pb,9,none⟩=some (.int .i64 p.g.bottom)∧w'.cell? ⟨w.heap.size,0,none⟩=some (.int .i64 c.ch)∧w'.cell? ⟨w.heap.size,1,none⟩=some (.int .i64 c.ink)∧w'.cell? ⟨w.heap.size,2,none⟩=some (.int .i64 c.pic)∧w'.cell? ⟨w.heap.size,3,none⟩=some (.bool c.bold)) (first | go_keep | (simp [*]))
   (first
   | (go_at_call 154;refine(HN.out _).mono ?_;rintro e w1 ⟨rfl,hb1⟩;obtain⟨k1,k2,k3⟩:=HC1.out w1 (undrew hb1);have HB1:Hid (Below w.heap.size w w1∧w.heap.size < w1.heap.size∧w1.heap[w.heap.size]?=some (cbox c)):=⟨k1,k2,k3⟩;clear hb1 k2 c0 c1 c2 c3 c4 c5 c6 c7 c8 c9 cf z0 z1 z2 z3 zf;obtain⟨⟨c0,c1,c2,c3,c4,c5,c6,c7,c8,c9⟩,cf⟩:=ten (HBX.out w1 k1);obtain⟨⟨z0,z1,z2,z3⟩,zf⟩:=four k3;clear k1 k3)
   | (go_at_call 134;refine(HWR.out _ HB1.out.1).mono ?_;rintro e w5 ⟨rfl,hk5,hx0⟩;have hx5:=(hx0 _ (Nat.le_refl _) HB1.out.2.1).trans HB1.out.2.2;clear hx0;have HP5:Hid (PenTo w pb b cap oo ⟨p.out++27::91::(inkNumsD p.g c++[109]),p.g⟩ w5):=hk5;clear c0 c1 c2 c3 c4 c5 c6 c7 c8 c9 cf z0 z1 z2 z3 zf;obtain⟨o5,q5,hp5,_⟩:=hk5;obtain⟨⟨c0,c1,c2,c3,c4,c5,c6,c7,c8,c9⟩,cf⟩:=ten hp5.box;obtain⟨⟨z0,z1,z2,z3⟩,zf⟩:=four hx5;clear hp5 hx5))
  have HE5:Hid (PenTo w pb b cap oo (inkP p c) ((w5.setCell ⟨pb,6,none⟩ (.int .i64 c.ink)).setCell ⟨pb,7,none⟩ (.bool c.bold))):=HE.out w5 HP5.out
  clear HE HP5 HWR HN HC1 HBX HB1
  have hne:w.heap.size≠pb:=by omega
  have hne2:pb≠w.heap.size:=by omega
  go_wp2_with fail
  go_region
  go_end0
  exact⟨rfl,HE5.out.drew⟩)
theorem ink_pen (pb b cap:Nat) (oo:Option Addr) (oc:Nat) (p:Pen) (ok:OkG p.g) (c:Cel) (hc:0≤c.ink∧c.ink≤8) (hl:p.out.length≤1000000) (w:World) (h:PenIn w pb b cap oo oc p):
  Calls Tryz.prog 148 #[.pointer (some ⟨pb,0,none⟩),cval c] w fun e w'=>e=.returned (.tuple #[])∧PenTo w pb b cap oo (inkP p c) w':=by
 cases hs:sameInk p.g c
 ·exact ink_other pb b cap oo oc p ok c hc hs hl w h
 ·exact ink_same pb b cap oo oc p c hs w h
end Go.Proofs.YtjikokfjnbhngaaGreatDoor

/- A row's cells, cut out of a screen's list. -/
namespace Go.Proofs.YtjikokfjnbhngaaGreatDoor
open Go.RowKit
set_option maxRecDepth 100000
theorem cells_any (g:Gr) (ok:OkG g) (b off cap:Nat) (r:Nat) (hr:(r:Int) < g.high) (hc:g.n≤cap) (w:World):
  Calls Tryz.prog 139 #[gval g (some ⟨b,off,none⟩) cap,.int .i64 r] w fun e w'=>e=.returned (.slice (some ⟨b,off+r*g.wide.toNat*4,none⟩) g.wide.toNat (cap - r*g.wide.toNat))∧w'=w.alloc (gbox g (some ⟨b,off,none⟩) cap):=by
 obtain⟨q1,q2,_⟩:=ok.nums
 have w1:=ok.w1
 have w2:=ok.w2
 have hh:=ok.h2
 have hm:=mul_bound (r:=(r:Int)) (w:=g.wide) (h:=g.high) (by omega) hr (by omega)
 have hr1:((r:Int)+1)*g.wide=(r:Int)*g.wide+g.wide:=by rw [Int.add_mul];omega
 have hrn:((r:Int)*g.wide).toNat=r*g.wide.toNat:=by
  obtain⟨n,hn⟩:=Int.eq_ofNat_of_zero_le (a:=g.wide) (by omega)
  rw [hn, ←Int.natCast_mul]
  rfl
 obtain⟨p,hp⟩:∃ p,p=(r:Int)*g.wide:=⟨_,rfl⟩
 obtain⟨q,hq⟩:∃ q,q=((r:Int)+1)*g.wide:=⟨_,rfl⟩
 have h1:0≤p:=by omega
 have h2:q=p+g.wide:=by omega
 have h3:q≤g.n:=by omega
 have hp':(r:Int)*g.wide=p:=hp.symm
 have hq':((r:Int)+1)*g.wide=q:=hq.symm
 have HR:Hid (r*g.wide.toNat=p.toNat):=by show r*g.wide.toNat=p.toNat;rw [hp,hrn]
 have h4:(q.toNat - p.toNat:Nat)=g.wide.toNat:=by omega
 have h5:p < q:=by omega
 have HW:Hid (q.toNat - p.toNat=g.wide.toNat):=h4
 clear hp hq hr1 hrn hm h4 h2
 go_enter Tryz.func139,Tryz.ntmps139
 go_wp2
 go_ret
 refine⟨?_,rfl⟩
 rw [HR.out, ←HW.out]
 rfl
end Go.Proofs.YtjikokfjnbhngaaGreatDoor

/- The pen prints a letter. -/
namespace Go.Proofs.YtjikokfjnbhngaaGreatDoor
open Go.RowKit
set_option maxRecDepth 100000
theorem Kept.setb {w w1:World} {pb b:Nat} {oo o1:Option Addr} (h:Kept w w1 pb b oo o1) (j:Nat) (u:Value):Kept w (w1.setCell ⟨b,j,none⟩ u) pb b oo o1:=
 ⟨h.os,h.tape,h.output,by have:=h.size;simpa using this,fun k hk h1 h2 h3=>(Below.heap_setCell _ _ _ _ h2).trans (h.block k hk h1 h2 h3),h.fresh⟩
theorem PenTo.alloc {w w':World} {pb b cap:Nat} {oo:Option Addr} {q:Pen} (h:PenTo w pb b cap oo q w') (o:Obj):PenTo w pb b cap oo q (w'.alloc o):=by
 obtain⟨o',c',a,k⟩:=h
 exact⟨o',c',a.later (below1 _ _),k.trans (Kept.below pb b o' (below1 _ _))⟩
theorem PenIn.put {w:World} {pb b cap:Nat} {oo:Option Addr} {oc:Nat} {l:List UInt8} {y:Gr} (h:PenIn w pb b cap oo oc ⟨l,y⟩) (i o0 o1 o2 o3:Nat) (c:Cel) (hi:i < y.n) (e0:o0=i*4) (e1:o1=i*4+1) (e2:o2=i*4+2) (e3:o3=i*4+3):
  PenIn ((((w.setCell ⟨b,o0,none⟩ (.int .i64 c.ch)).setCell ⟨b,o1,none⟩ (.int .i64 c.ink)).setCell ⟨b,o2,none⟩ (.int .i64 c.pic)).setCell ⟨b,o3,none⟩ (.bool c.bold)) pb b cap oo oc ⟨l,{y with f:=putF y.f i c}⟩:=
 ⟨other_set (other_set (other_set (other_set h.box h.n1) h.n1) h.n1) h.n1,own_setD (own_setD (own_setD (own_setD h.own h.n3 _) h.n3 _) h.n3 _) h.n3 _,h.scr.put i o0 o1 o2 o3 c hi e0 e1 e2 e3⟩
theorem PenTo.put {w w2:World} {pb b cap:Nat} {oo:Option Addr} {l:List UInt8} {y:Gr} (h:PenTo w pb b cap oo ⟨l,y⟩ w2) (i o0 o1 o2 o3:Nat) (c:Cel) (hi:i < y.n) (e0:o0=i*4) (e1:o1=i*4+1) (e2:o2=i*4+2) (e3:o3=i*4+3):
  PenTo w pb b cap oo ⟨l,{y with f:=putF y.f i c}⟩ ((((w2.setCell ⟨b,o0,none⟩ (.int .i64 c.ch)).setCell ⟨b,o1,none⟩ (.int .i64 c.ink)).setCell ⟨b,o2,none⟩ (.int .i64 c.pic)).setCell ⟨b,o3,none⟩ (.bool c.bold)):=by
 obtain⟨o',c',a,k⟩:=h
 exact⟨o',c',a.put i o0 o1 o2 o3 c hi e0 e1 e2 e3,(((k.setb _ _).setb _ _).setb _ _).setb _ _⟩
theorem PenTo.set1 {w w3:World} {pb b cap:Nat} {oo:Option Addr} {l:List UInt8} {g x:Gr} (h:PenTo w pb b cap oo ⟨l,g⟩ w3) (i:Nat) (u:Value)
  (hn:x.n=g.n) (hf:x.f=g.f) (hx:∀ oo oc,(pcells l.length oo oc g b cap).setIfInBounds i u=pcells l.length oo oc x b cap):PenTo w pb b cap oo ⟨l,x⟩ (w3.setCell ⟨pb,i,none⟩ u):=by
 obtain⟨o',c',hp,hk⟩:=h
 refine⟨o',c',⟨?_,own_setD hp.own hp.n2 _,?_⟩,hk.set i u⟩
 ·rw [set_cells hp.box _,hx]
 ·show Scr _ b x.n x.f
  rw [hn,hf]
  exact hp.scr.set hp.n1 _
theorem encode_one:∀ n:Nat,n < 127→(Utf8.encode (n:Int)).data.toList=[UInt8.ofNat n]∧(Utf8.encode (n:Int)).size=1:=by decide+kernel
theorem encode_ch (c:Cel) (h1:0≤c.ch) (h2:c.ch≤126):(Utf8.encode c.ch).data.toList=[chD c]∧(Utf8.encode c.ch).size=1:=by
 have:=encode_one c.ch.toNat (by omega)
 rw [Int.toNat_of_nonneg h1] at this
 exact this
set_option maxHeartbeats 4000000 in
theorem print_any (pb b cap:Nat) (oo:Option Addr) (oc:Nat) (p:Pen) (ok:OkG p.g) (hcap:p.g.n≤cap) (c:Cel) (hc:0≤c.ink∧c.ink≤8) (hch:0≤c.ch∧c.ch≤126) (hcol:p.g.col < p.g.wide) (hl:p.out.length≤100000) (w:World) (h:PenIn w pb b cap oo oc p):
  Calls Tryz.prog 143 #[.pointer (some ⟨pb,0,none⟩),cval c] w fun e w'=>e=.returned (.tuple #[])∧PenTo w pb b cap oo (printP p c) w':=by
 obtain⟨q,hq⟩:∃ q,q=inkP p c:=⟨_,rfl⟩
 obtain⟨⟨⟨m,m1,m2,m3⟩⟩,mg⟩:=adds_ink ok c hc
 rw [←hq] at m1 mg
 have hql:q.out.length≤100007:=by rw [m1,List.length_append];omega
 have HQ:Hid (printP p c=⟨q.out++[chD c],withCell q.g c⟩):=by rw [hq];rfl
 obtain⟨y,hy⟩:∃ y,y=q.g:=⟨_,rfl⟩
 have oky:OkG y:=by rw [hy,mg];exact ok_withInk ok c hc
 have hyn:y.n≤cap:=by rw [hy,mg];exact hcap
 have hyc:y.col < y.wide:=by rw [hy,mg];exact hcol
 rw [←hy] at HQ
 have HI:Hid (∀ w1,Below w.heap.size w w1→Calls Tryz.prog 148 #[.pointer (some ⟨pb,0,none⟩),cval c] w1 fun e w'=>e=.returned (.tuple #[])∧PenTo w pb b cap oo ⟨q.out,y⟩ w'∧∀ k,w.heap.size≤k→k < w1.heap.size→w'.heap[k]?=w1.heap[k]?):=fun w1 hb=>by
  rw [hy,hq]
  exact(ink_pen pb b cap oo oc p ok c hc (by omega) w1 (h.later hb)).mono fun e w' hk=>⟨hk.1,at_later h hb hk.2⟩
 obtain⟨E,hE,HEE⟩:∃ E:ByteArray,E.size=1∧Hid (E=Utf8.encode c.ch∧E.data.toList=[chD c]):=⟨_,(encode_ch c hch.1 hch.2).2,rfl,(encode_ch c hch.1 hch.2).1⟩
 have hlt:=h.lt
 have hblt:=h.blt
 have hn1:=h.n1
 have HW:Hid (∀ w1,PenTo w pb b cap oo ⟨q.out,y⟩ w1→w1.heap[w.heap.size]?=some (cbox c)→Calls Tryz.prog 134 #[.pointer (some ⟨pb,0,none⟩),.string (Utf8.encode c.ch)] w1 fun e w'=>e=.returned (.tuple #[])∧PenTo w pb b cap oo ⟨q.out++[chD c],y⟩ w'∧w'.heap[w.heap.size]?=some (cbox c)):=fun w1 hk hx=>by
  obtain⟨o1,c1,a1,k1⟩:=hk
  obtain⟨e1,e2⟩:=HEE.out
  rw [←e1, ←e2]
  refine(write_any pb b cap o1 c1 ⟨q.out,y⟩ E w1 a1 (by show q.out.length+E.size≤_;omega)).mono fun e w' hk'=>⟨hk'.1,PenTo.trans k1 hk'.2,?_⟩
  obtain⟨o2,c2,a2,k2⟩:=hk'.2
  refine(k2.block _ (Array.getElem?_eq_some_iff.1 hx).1 (by omega) (by omega) (fun e=>?_)).trans hx
  rcases k1.fresh with z | ⟨j,z,hz⟩
  ·rw [z] at e
   have:=h.olt e
   omega
  ·obtain⟨cur,hcur⟩:=own_tag a1.own e
   exact ne_tag hcur hx tagBC rfl
 clear h hy hq mg m1 m2 m3 HEE ok hcap hcol hl
 obtain⟨k1,k2⟩:=hch
 obtain⟨q1,q2,q3,q4,_⟩:=oky.nums
 have w1:=oky.w1
 have w2:=oky.w2
 have r1:=oky.r1
 have r2:=oky.r2
 have c1':=oky.c1
 obtain⟨R,hR⟩:∃ R:Nat,(R:Int)=y.row:=⟨y.row.toNat,by omega⟩
 obtain⟨P,hP⟩:∃ P,P=R*y.wide.toNat:=⟨_,rfl⟩
 obtain⟨W,hW⟩:∃ W,W=y.wide.toNat:=⟨_,rfl⟩
 have hPn:(P:Int)=y.row*y.wide:=by
  rw [hP, ←hR]
  have:((R*y.wide.toNat:Nat):Int)=(R:Int)*(y.wide.toNat:Int):=by simp
  rw [this,Int.toNat_of_nonneg (by omega)]
 have HC:Hid (∀ w,Calls Tryz.prog 139 #[gval y (some ⟨b,0,none⟩) cap,.int .i64 y.row] w fun e w'=>e=.returned (.slice (some ⟨b,P*4,none⟩) W (cap - P))∧w'=w.alloc (gbox y (some ⟨b,0,none⟩) cap)):=fun w=>by
  have:=cells_any y oky b 0 cap R (by omega) hyn w
  rw [hR,Nat.zero_add, ←hP, ←hW] at this
  exact this
 obtain⟨I,hI⟩:∃ I,I=P+y.col.toNat:=⟨_,rfl⟩
 have HIX:Hid (I < y.n∧I*4=P*4+y.col.toNat*4∧I=(y.row*y.wide+y.col).toNat):=⟨by omega,by omega,by omega⟩
 have hcw:y.col < (W:Int):=by omega
 clear oky hP hW hPn hI q1 q2 q3 q4 r2 hR
 go_enter Tryz.func143,Tryz.ntmps143
 go_wp2_with (first
  | (go_at_call 148;refine(HI.out _ (below1 _ _)).mono ?_;rintro e v1 ⟨rfl,hk1,hx0⟩;have hx1:=(hx0 w.heap.size (Nat.le_refl _) (by simp)).trans (at_new w _);clear hx0;have HP1:Hid (PenTo w pb b cap oo ⟨q.out,y⟩ v1):=hk1;have HX1:Hid (v1.heap[w.heap.size]?=some (cbox c)):=hx1;obtain⟨o1,q1,hp1,_⟩:=hk1;obtain⟨⟨c0,c1,c2,c3,c4,c5,c6,c7,c8,c9⟩,cf⟩:=ten hp1.box;obtain⟨⟨z0,z1,z2,z3⟩,zf⟩:=four hx1;clear hp1 hx1)
  | (go_at_call 134;refine(HW.out _ HP1.out HX1.out).mono ?_;rintro e v2 ⟨rfl,hk2,hx2⟩;clear HP1 HX1 c0 c1 c2 c3 c4 c5 c6 c7 c8 c9 cf z0 z1 z2 z3 zf;have HP2:Hid (PenTo w pb b cap oo ⟨q.out++[chD c],y⟩ v2):=hk2;obtain⟨o2,q2,hp2,_⟩:=hk2;obtain⟨⟨c0,c1,c2,c3,c4,c5,c6,c7,c8,c9⟩,cf⟩:=ten hp2.box;obtain⟨⟨z0,z1,z2,z3⟩,zf⟩:=four hx2;have hsc:=hp2.scr;have hv2:=(Array.getElem?_eq_some_iff.1 hx2).1;clear hp2 hx2))
 obtain⟨t0,t1,t2,t3⟩:=hsc.cells I HIX.out.1
 rw [HIX.out.2.1] at t0 t1 t2 t3
 have hfr:∀ j,v2.frozen? ⟨b,j,none⟩=false:=hsc.free
 have hvb:=hsc.lt
 have hvp:pb < v2.heap.size:=by omega
 clear hsc
 obtain⟨k0,hk0⟩:∃ k,k=y.f I:=⟨_,rfl⟩
 rw [←hk0] at t0 t1 t2 t3
 clear hk0 HI HW
 have hoc:∀ (w':World) (j:Nat) (u:Value) (k:Nat),(w'.setCell ⟨b,j,none⟩ u).cell? ⟨w.heap.size,k,none⟩=w'.cell? ⟨w.heap.size,k,none⟩:=fun w' j u k=>World.cell?_setCell_other _ _ _ _ (by intro e;simp only [Addr.mk.injEq] at e;omega)
 have hoc2:∀ (w':World) (j:Nat) (u:Value) (k:Nat),(w'.setCell ⟨b,j,none⟩ u).cell? ⟨pb,k,none⟩=w'.cell? ⟨pb,k,none⟩:=fun w' j u k=>World.cell?_setCell_other _ _ _ _ (by intro e;simp only [Addr.mk.injEq] at e;omega)
 go_region_held3 (fun w'=>w'.cell? ⟨pb,1,none⟩=some (.int .i64 y.wide)∧w'.cell? ⟨pb,2,none⟩=some (.int .i64 y.high)∧w'.cell? ⟨pb,3,none⟩=some (.slice (some ⟨b,0,none⟩) y.n cap)∧w'.cell? ⟨pb,4,none⟩=some (.int .i64 y.row)∧w'.cell? ⟨pb,5,none⟩=some (.int .i64 y.col)∧w'.cell? ⟨pb,6,none⟩=some (.int .i64 y.ink)∧w'.cell? ⟨pb,7,none⟩=some (.bool y.bold)∧w'.cell? ⟨pb,8,none⟩=some (.int .i64 y.top)∧w'.cell? ⟨pb,9,none⟩=some (.int .i64 y.bottom)∧w'.cell? ⟨w.heap.size,0,none⟩=some (.int .i64 c.ch)∧w'.cell? ⟨w.heap.size,1,none⟩=some (.int .i64 c.ink)∧w'.cell? ⟨w.heap.size,2,none⟩=some (.int .i64 c.pic)∧w'.cell? ⟨w.heap.size,3,none⟩=some (.bool c.bold)) (first | go_keep | (simp [*,World.cell?_alloc_past]))
  ((go_at_call 139;go_fit (HC.out _);rintro e w3 ⟨rfl,rfl⟩))
 go_wp2
 go_end0
 refine⟨rfl,?_⟩
 rw [HQ.out]
 obtain⟨i1,i2,i3⟩:=HIX.out
 have hp:=HP2.out.put I (P*4+y.col.toNat*4) (P*4+y.col.toNat*4+1) (P*4+y.col.toNat*4+2) (P*4+y.col.toNat*4+3) c i1 (by omega) (by omega) (by omega) (by omega)
 have hs:=hp.set1 (x:=withCell y c) 5 (.int .i64 (y.col+1)) rfl (by unfold withCell;rw [←i3]) (fun _ _=>rfl)
 exact(hs.alloc _).drew
end Go.Proofs.YtjikokfjnbhngaaGreatDoor

/- What 'surplus' and 'kept' count; they change nothing. -/
namespace Go.Proofs.YtjikokfjnbhngaaGreatDoor
open Go.RowKit
set_option maxRecDepth 100000
theorem surD_succ (h want:Nat→Cel) (n k:Nat):surD h want n (k+1)=if surB (h k) (want k) then (min (surD h want n k).1 (k:Int),(k:Int)) else surD h want n k:=rfl
theorem keptD_succ (h want:Nat→Cel) (k:Nat):keptD h want (k+1)=if keepB (h k) (want k) then keptD h want k+1 else keptD h want k:=rfl
theorem keptD_bd (h want:Nat→Cel):∀ k:Nat,0≤keptD h want k∧keptD h want k≤k
 | 0=>⟨Int.le_refl _,Int.le_refl _⟩
 | k+1=>by
  have:=keptD_bd h want k
  rw [keptD_succ]
  split <;>omega
set_option maxHeartbeats 2000000 in
theorem surplus_any (H W:Nat→Cel) (n:Nat) (hn:n≤24) (ah:Option Addr) (ch:Nat) (aw:Option Addr) (cw:Nat) (w:World) (rh:RdS w ah n H) (rw_:RdS w aw n W):
  Calls Tryz.prog 145 #[.slice ah n ch,.slice aw n cw] w fun e w'=>e=.returned (.tuple #[.int .i64 (surD H W n n).1,.int .i64 (surD H W n n).2])∧Below w.heap.size w w':=by
 have HH:Hid (∀ w',Below w.heap.size w w'→RdS w' ah n H):=fun w' hb=>rh.below hb
 have HW:Hid (∀ w',Below w.heap.size w w'→RdS w' aw n W):=fun w' hb=>rw_.below hb
 clear rh rw_
 go_enter Tryz.func145,Tryz.ntmps145
 go_wp2
 go_loopw [6,7,14] (fun a l i wr=>∃ k:Nat,k≤n∧i=.int .i64 k∧a=.int .i64 (surD H W n k).1∧l=.int .i64 (surD H W n k).2∧Below w.heap.size w wr) (fun _ _ i _=>n - (intOf i).toNat)
 case atStart=>exact⟨0,Nat.zero_le _,rfl,rfl,rfl,Below.refl _ _⟩
 case round=>
  obtain⟨k,hk,rfl,rfl,rfl,hb⟩:=hrel
  have HB:Hid (Below w.heap.size w wr):=hb
  obtain⟨a,ha⟩:∃ a,a=(surD H W n k).1:=⟨_,rfl⟩
  obtain⟨l,hl⟩:∃ l,l=(surD H W n k).2:=⟨_,rfl⟩
  rw [←ha, ←hl]
  have HA:Hid (a=(surD H W n k).1∧l=(surD H W n k).2):=⟨ha,hl⟩
  clear ha hl hb
  by_cases hlt:k < n
  ·obtain⟨bh,oh,rfl,hch⟩:=(HH.out wr HB.out).resolve_left (by omega)
   obtain⟨bw,ow,rfl,hcw⟩:=(HW.out wr HB.out).resolve_left (by omega)
   obtain⟨t0,t1,t2,t3⟩:=hch k hlt
   obtain⟨s0,s1,s2,s3⟩:=hcw k hlt
   have hlh:=World.block_lt_of_cell? _ _ t0
   have hlw:=World.block_lt_of_cell? _ _ s0
   simp only at hlh hlw
   have hlt':(k:Int) < (n:Int):=by omega
   have hk0:(0:Int)≤(k:Int):=by omega
   obtain⟨y,hy⟩:∃ y,y=H k:=⟨_,rfl⟩
   obtain⟨x,hx⟩:∃ x,x=W k:=⟨_,rfl⟩
   rw [←hy] at t0 t1 t2 t3
   rw [←hx] at s0 s1 s2 s3
   have HS:Hid (surD H W n (k+1)=if surB y x then (min a (k:Int),(k:Int)) else (a,l)):=by
    show surD H W n (k+1)=_
    rw [surD_succ, ←hy, ←hx, ←HA.out.1]
    split
    ·rfl
    ·rw [HA.out.1,HA.out.2]
   have HN:Hid (∀ o:Obj,Below w.heap.size w (wr.alloc o)):=fun o=>HB.out.trans ((below1 wr o).mono HB.out.size)
   obtain⟨p,hp⟩:∃ p,p=celB x noCel:=⟨_,rfl⟩
   obtain⟨q,hq⟩:∃ q,q=celB y x:=⟨_,rfl⟩
   have E1:∀ w,(binOp .eql 66 (.agg #[.int .i64 x.ch,.int .i64 x.ink,.int .i64 x.pic,.bool x.bold]) (.agg #[.int .i64 0,.int .i64 0,.int .i64 0,.bool false])).run Tryz.prog w=.ok (.bool p) w:=fun w=>by rw [hp];exact eql_cell x noCel w
   have E2:∀ w,(binOp .neq 66 (.agg #[.int .i64 y.ch,.int .i64 y.ink,.int .i64 y.pic,.bool y.bold]) (.agg #[.int .i64 x.ch,.int .i64 x.ink,.int .i64 x.pic,.bool x.bold])).run Tryz.prog w=.ok (.bool !q) w:=fun w=>by rw [hq];exact neq_cell y x w
   have HPQ:Hid (surB y x=(p && !q)):=by show surB y x=_;rw [hp,hq];rfl
   clear hch hcw hy hx hp hq HA HB HH HW
   cases p
   ·go_wp2_with fail
    go_quiet (fail)
    go_wp2
    go_roundw
    case rel=>exact⟨k+1,by omega,by go_num,by rw [HS.out,HPQ.out];rfl,by rw [HS.out,HPQ.out];rfl,below_drewN (HN.out _) _⟩
    case measure=>simp [intOf];omega
   ·cases q
    ·go_wp2_with fail
     go_quiet (fail)
     go_wp2
     go_roundw
     case rel=>exact⟨k+1,by omega,by go_num,by rw [HS.out,HPQ.out];rfl,by rw [HS.out,HPQ.out];rfl,below_drewN (HN.out _) _⟩
     case measure=>simp [intOf];omega
    ·go_wp2_with fail
     go_quiet (fail)
     go_wp2
     go_roundw
     case rel=>exact⟨k+1,by omega,by go_num,by rw [HS.out,HPQ.out];rfl,by rw [HS.out,HPQ.out];rfl,below_drewN (HN.out _) _⟩
     case measure=>simp [intOf];omega
  ·obtain rfl:k=n:=by omega
   go_wp2
   go_ret2
   exact⟨by rw [HA.out.1,HA.out.2];rfl,HB.out⟩
set_option maxHeartbeats 2000000 in
theorem kept_any (H W:Nat→Cel) (n:Nat) (hn:n≤24) (ah:Option Addr) (ch:Nat) (aw:Option Addr) (cw:Nat) (w:World) (rh:RdS w ah n H) (rw_:RdS w aw n W):
  Calls Tryz.prog 146 #[.slice ah n ch,.slice aw n cw] w fun e w'=>e=.returned (.int .i64 (keptD H W n))∧Below w.heap.size w w':=by
 have HH:Hid (∀ w',Below w.heap.size w w'→RdS w' ah n H):=fun w' hb=>rh.below hb
 have HW:Hid (∀ w',Below w.heap.size w w'→RdS w' aw n W):=fun w' hb=>rw_.below hb
 clear rh rw_
 go_enter Tryz.func146,Tryz.ntmps146
 go_wp2
 go_loopw [5,10] (fun a i wr=>∃ k:Nat,k≤n∧i=.int .i64 k∧a=.int .i64 (keptD H W k)∧Below w.heap.size w wr) (fun _ i _=>n - (intOf i).toNat)
 case atStart=>exact⟨0,Nat.zero_le _,rfl,rfl,Below.refl _ _⟩
 case round=>
  obtain⟨k,hk,rfl,rfl,hb⟩:=hrel
  have HB:Hid (Below w.heap.size w wr):=hb
  have hbd:=keptD_bd H W k
  obtain⟨a,ha⟩:∃ a,a=keptD H W k:=⟨_,rfl⟩
  rw [←ha] at hbd ⊢
  have HA:Hid (a=keptD H W k):=ha
  clear ha hb
  obtain⟨ha0,ha1⟩:=hbd
  by_cases hlt:k < n
  ·obtain⟨bh,oh,rfl,hch⟩:=(HH.out wr HB.out).resolve_left (by omega)
   obtain⟨bw,ow,rfl,hcw⟩:=(HW.out wr HB.out).resolve_left (by omega)
   obtain⟨t0,t1,t2,t3⟩:=hch k hlt
   obtain⟨s0,s1,s2,s3⟩:=hcw k hlt
   have hlh:=World.block_lt_of_cell? _ _ t0
   have hlw:=World.block_lt_of_cell? _ _ s0
   simp only at hlh hlw
   have hlt':(k:Int) < (n:Int):=by omega
   have hk0:(0:Int)≤(k:Int):=by omega
   obtain⟨y,hy⟩:∃ y,y=H k:=⟨_,rfl⟩
   obtain⟨x,hx⟩:∃ x,x=W k:=⟨_,rfl⟩
   rw [←hy] at t0 t1 t2 t3
   rw [←hx] at s0 s1 s2 s3
   have HS:Hid (keptD H W (k+1)=if keepB y x then a+1 else a):=by
    show keptD H W (k+1)=_
    rw [keptD_succ, ←hy, ←hx, ←HA.out]
   have HN:Hid (∀ o:Obj,Below w.heap.size w (wr.alloc o)):=fun o=>HB.out.trans ((below1 wr o).mono HB.out.size)
   obtain⟨p,hp⟩:∃ p,p=celB x noCel:=⟨_,rfl⟩
   obtain⟨q,hq⟩:∃ q,q=celB y x:=⟨_,rfl⟩
   have E1:∀ w,(binOp .neq 66 (.agg #[.int .i64 x.ch,.int .i64 x.ink,.int .i64 x.pic,.bool x.bold]) (.agg #[.int .i64 0,.int .i64 0,.int .i64 0,.bool false])).run Tryz.prog w=.ok (.bool !p) w:=fun w=>by rw [hp];exact neq_cell x noCel w
   have E2:∀ w,(binOp .eql 66 (.agg #[.int .i64 y.ch,.int .i64 y.ink,.int .i64 y.pic,.bool y.bold]) (.agg #[.int .i64 x.ch,.int .i64 x.ink,.int .i64 x.pic,.bool x.bold])).run Tryz.prog w=.ok (.bool q) w:=fun w=>by rw [hq];exact eql_cell y x w
   have HPQ:Hid (keepB y x=(!p && q)):=by show keepB y x=_;rw [hp,hq];rfl
   clear hch hcw hy hx hp hq HA HB HH HW
   cases p
   ·cases q
    ·go_wp2_with fail
     go_quiet (fail)
     go_wp2
     go_roundw
     case rel=>exact⟨k+1,by omega,by go_num,by rw [HS.out,HPQ.out];rfl,below_drewN (HN.out _) _⟩
     case measure=>simp [intOf];omega
    ·go_wp2_with fail
     go_quiet (fail)
     go_wp2
     go_roundw
     case rel=>exact⟨k+1,by omega,by go_num,by rw [HS.out,HPQ.out];rfl,below_drewN (HN.out _) _⟩
     case measure=>simp [intOf];omega
   ·go_wp2_with fail
    go_quiet (fail)
    go_wp2
    go_roundw
    case rel=>exact⟨k+1,by omega,by go_num,by rw [HS.out,HPQ.out];rfl,below_drewN (HN.out _) _⟩
    case measure=>simp [intOf];omega
  ·obtain rfl:k=n:=by omega
   go_wp2
   go_ret
   exact⟨by rw [HA.out];rfl,HB.out⟩
end Go.Proofs.YtjikokfjnbhngaaGreatDoor
