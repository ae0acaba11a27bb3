/- Several texts in one, each as it was: GMove, GRow, GPrint, GHere. -/
import Derived.Test.YtjikokfjnbhngaaGreatDoorMGMach
import Derived.Deep.RegionHeld3
import Derived.Test.YtjikokfjnbhngaaGreatDoorMGDraw
import Derived.Deep.CutRange
import Derived.Deep.DeepFit

/- What 'rows', 'goUp', 'goDown' and 'erase' do to a screen's list. -/
namespace Go.Proofs.YtjikokfjnbhngaaGreatDoor
open Go.RowKit
theorem rows_any (g:Gr) (b cap:Nat) (r s:Int) (w:World) (hr:0≤r*g.wide) (hrs:r*g.wide < s*g.wide) (hs:s*g.wide≤g.n) (hn:g.n≤240) (hc:g.n≤cap):
  Calls Tryz.prog 120 #[gval g (some ⟨b,0,none⟩) cap,.int .i64 r,.int .i64 s] w fun e w'=>e=.returned (.slice (some ⟨b,(r*g.wide).toNat*4,none⟩) ((s*g.wide).toNat - (r*g.wide).toNat) (cap - (r*g.wide).toNat))∧w'=w.alloc (gbox g (some ⟨b,0,none⟩) cap):=by
 obtain⟨p,hp⟩:∃ p,p=r*g.wide:=⟨_,rfl⟩
 obtain⟨q,hq⟩:∃ q,q=s*g.wide:=⟨_,rfl⟩
 go_enter Tryz.func120,Tryz.ntmps120
 go_wp2
 go_ret
 exact⟨rfl,rfl⟩
theorem up_eq (f:Nat→Cel) (a q k i:Nat):clrF (layF f a q fun i=>f (a+k+i)) (a+q) (a+q+k) i=upF f a (a+(q+k)) k i:=by
 unfold clrF layF upF
 by_cases h1:a≤i
 ·by_cases h2:i < a+q
  ·rw [if_neg (by omega),if_pos (by omega),if_pos (by omega),if_pos (by omega)]
   show f (a+k+(i - a))=f (i+k)
   congr 1
   omega
  ·by_cases h3:i < a+(q+k)
   ·rw [if_pos (by omega),if_pos (by omega),if_neg (by omega)]
   ·rw [if_neg (by omega),if_neg (by omega),if_neg (by omega)]
 ·rw [if_neg (by omega),if_neg (by omega),if_neg (by omega)]
theorem down_eq (f:Nat→Cel) (a q k i:Nat):clrF (layF f (a+k) q fun i=>f (a+i)) a (a+k) i=downF f a (a+(q+k)) k i:=by
 unfold clrF layF downF
 by_cases h1:a≤i
 ·by_cases h2:i < a+k
  ·rw [if_pos (by omega),if_pos (by omega),if_neg (by omega)]
  ·by_cases h3:i < a+(q+k)
   ·rw [if_neg (by omega),if_pos (by omega),if_pos (by omega),if_pos (by omega)]
    show f (a+(i - (a+k)))=f (i - k)
    congr 1
    omega
   ·rw [if_neg (by omega),if_neg (by omega),if_neg (by omega)]
 ·rw [if_neg (by omega),if_neg (by omega),if_neg (by omega)]
theorem src_of {w:World} {b n:Nat} {f:Nat→Cel} (h:Scr w b n f) (s m off:Nat) (hs:s+m≤n) (ho:off=s*4) (i:Nat) (hi:i < m) (j:Nat) (hj:j < 4):w.cell? ((⟨b,off,none⟩:Addr).add (i*4+j))=cel4 (f (s+i)) j:=by
 rw [add_at]
 exact h.at (s+i) j _ (by omega) hj (by omega)
theorem goUp_any (b n:Nat) (f:Nat→Cel) (a q c k:Nat) (w:World) (hS:Scr w b n f) (hm:a+(q+k)≤n) (hc:q+k≤c):
  Calls Tryz.prog 126 #[.slice (some ⟨b,a*4,none⟩) (q+k) c,.int .i64 k] w fun e w'=>e=.returned (.tuple #[])∧Scr w' b n (upF f a (a+(q+k)) k)∧w.grownBy w' (some b):=by
 have FIN:Hid (∀ (w1 w2:World),w.grownBy w1 (some b)→w1.grownBy w2 (some b)→Scr w2 b n (clrF (layF f a q fun i=>f (a+k+i)) (a+q) (a+q+k))→Scr w2 b n (upF f a (a+(q+k)) k)∧w.grownBy w2 (some b)):=by
  intro w1 w2 g1 g2 h2
  exact⟨h2.congr fun i _=>up_eq f a q k i,grown_trans g1 g2⟩
 by_cases hck:c=k
 ·subst hck
  obtain rfl:q=0:=by omega
  obtain⟨w1,r1,h1,g1⟩:=run_copy4 w 3 b n f hS a c c (some ⟨b,a*4,none⟩) (some ⟨b,a*4,none⟩) 0 0 0 (fun i=>f (a+c+i)) (by simp) (by omega) (fun h=>absurd h (by omega))
  obtain⟨w2,r2,h2,g2⟩:=run_clear4 w1 0 b n _ h1 (a+0) c c (some ⟨b,a*4,none⟩) (by omega) (fun _=>rfl)
  have HF:Hid (Scr w2 b n (upF f a (a+(0+c)) c)∧w.grownBy w2 (some b)):=FIN.out w1 w2 g1 g2 h2
  clear h1 g1 h2 g2 FIN hS
  go_enter Tryz.func126,Tryz.ntmps126
  go_wp2
  go_end0
  exact⟨rfl,HF.out⟩
 ·obtain⟨w1,r1,h1,g1⟩:=run_copy4 w 3 b n f hS a (q+k) c (some ⟨b,a*4,none⟩) (some ⟨b,a*4+k*4,none⟩) q (c - k) q (fun i=>f (a+k+i)) (by simp) (by omega) (fun _=>⟨rfl,_,rfl,src_of hS (a+k) q _ (by omega) (by omega)⟩)
  by_cases hcq:c=q
  ·subst hcq
   obtain rfl:k=0:=by omega
   obtain⟨w2,r2,h2,g2⟩:=run_clear4 w1 0 b n _ h1 (a+c) 0 0 (some ⟨b,a*4,none⟩) (by omega) (fun h=>absurd h (by omega))
   have HF:Hid (Scr w2 b n (upF f a (a+(c+0)) 0)∧w.grownBy w2 (some b)):=FIN.out w1 w2 g1 g2 h2
   clear h1 g1 h2 g2 FIN hS
   simp only [Nat.add_zero,Nat.zero_mul,Nat.sub_zero] at r1
   go_enter Tryz.func126,Tryz.ntmps126
   go_wp2
   go_end0
   exact⟨rfl,HF.out⟩
  ·obtain⟨w2,r2,h2,g2⟩:=run_clear4 w1 0 b n _ h1 (a+q) k (c - q) (some ⟨b,a*4+q*4,none⟩) (by omega) (fun _=>by rw [show a*4+q*4=(a+q)*4 by omega])
   have HF:Hid (Scr w2 b n (upF f a (a+(q+k)) k)∧w.grownBy w2 (some b)):=FIN.out w1 w2 g1 g2 h2
   clear h1 g1 h2 g2 FIN hS
   go_enter Tryz.func126,Tryz.ntmps126
   go_wp2
   go_end0
   exact⟨rfl,HF.out⟩
theorem goDown_any (b n:Nat) (f:Nat→Cel) (a q c k:Nat) (w:World) (hS:Scr w b n f) (hm:a+(q+k)≤n) (hc:q+k≤c):
  Calls Tryz.prog 125 #[.slice (some ⟨b,a*4,none⟩) (q+k) c,.int .i64 k] w fun e w'=>e=.returned (.tuple #[])∧Scr w' b n (downF f a (a+(q+k)) k)∧w.grownBy w' (some b):=by
 have FIN:Hid (∀ (w1 w2:World),w.grownBy w1 (some b)→w1.grownBy w2 (some b)→Scr w2 b n (clrF (layF f (a+k) q fun i=>f (a+i)) a (a+k))→Scr w2 b n (downF f a (a+(q+k)) k)∧w.grownBy w2 (some b)):=by
  intro w1 w2 g1 g2 h2
  exact⟨h2.congr fun i _=>down_eq f a q k i,grown_trans g1 g2⟩
 by_cases hck:c=k
 ·subst hck
  obtain rfl:q=0:=by omega
  obtain⟨w1,r1,h1,g1⟩:=run_copy4 w 3 b n f hS (a+c) 0 0 (some ⟨b,a*4,none⟩) (some ⟨b,a*4,none⟩) c c 0 (fun i=>f (a+i)) (by simp) (by omega) (fun h=>absurd h (by omega))
  obtain⟨w2,r2,h2,g2⟩:=run_clear4 w1 0 b n _ h1 a c c (some ⟨b,a*4,none⟩) (by omega) (fun _=>rfl)
  have HF:Hid (Scr w2 b n (downF f a (a+(0+c)) c)∧w.grownBy w2 (some b)):=FIN.out w1 w2 g1 g2 h2
  clear h1 g1 h2 g2 FIN hS
  go_enter Tryz.func125,Tryz.ntmps125
  go_wp2
  go_end0
  exact⟨rfl,HF.out⟩
 ·obtain⟨w1,r1,h1,g1⟩:=run_copy4 w 3 b n f hS (a+k) q (c - k) (some ⟨b,a*4+k*4,none⟩) (some ⟨b,a*4,none⟩) (q+k) c q (fun i=>f (a+i)) (by simp) (by omega) (fun _=>⟨by rw [show a*4+k*4=(a+k)*4 by omega],_,rfl,src_of hS a q _ (by omega) (by omega)⟩)
  obtain⟨w2,r2,h2,g2⟩:=run_clear4 w1 0 b n _ h1 a k c (some ⟨b,a*4,none⟩) (by omega) (fun _=>rfl)
  have HF:Hid (Scr w2 b n (downF f a (a+(q+k)) k)∧w.grownBy w2 (some b)):=FIN.out w1 w2 g1 g2 h2
  clear h1 g1 h2 g2 FIN hS
  go_enter Tryz.func125,Tryz.ntmps125
  go_wp2
  go_end0
  exact⟨rfl,HF.out⟩
theorem goUp_at (b n:Nat) (f:Nat→Cel) (a m c:Nat) (k:Int) (w:World) (hS:Scr w b n f) (hm:a+m≤n) (hc:m≤c) (hk:0≤k) (hk2:k≤m):
  Calls Tryz.prog 126 #[.slice (some ⟨b,a*4,none⟩) m c,.int .i64 k] w fun e w'=>e=.returned (.tuple #[])∧Scr w' b n (upF f a (a+m) k.toNat)∧w.grownBy w' (some b):=by
 obtain⟨j,rfl⟩:∃ j:Nat,k=j:=⟨k.toNat,(Int.toNat_of_nonneg hk).symm⟩
 obtain⟨q,rfl⟩:∃ q,m=q+j:=⟨m - j,by omega⟩
 exact goUp_any b n f a q c j w hS hm hc
theorem goDown_at (b n:Nat) (f:Nat→Cel) (a m c:Nat) (k:Int) (w:World) (hS:Scr w b n f) (hm:a+m≤n) (hc:m≤c) (hk:0≤k) (hk2:k≤m):
  Calls Tryz.prog 125 #[.slice (some ⟨b,a*4,none⟩) m c,.int .i64 k] w fun e w'=>e=.returned (.tuple #[])∧Scr w' b n (downF f a (a+m) k.toNat)∧w.grownBy w' (some b):=by
 obtain⟨j,rfl⟩:∃ j:Nat,k=j:=⟨k.toNat,(Int.toNat_of_nonneg hk).symm⟩
 obtain⟨q,rfl⟩:∃ q,m=q+j:=⟨m - j,by omega⟩
 exact goDown_any b n f a q c j w hS hm hc
theorem erase_any (b n:Nat) (f:Nat→Cel) (a m c p:Nat) (which:Int) (w:World) (hS:Scr w b n f) (hm:a+m≤n) (hp:p < m) (hc:m≤c) (hn:n≤240):
  Calls Tryz.prog 123 #[.slice (some ⟨b,a*4,none⟩) m c,.int .i64 p,.int .i64 which] w fun e w'=>e=.returned (.tuple #[])∧Scr w' b n (eraseF f a m p which)∧w.grownBy w' (some b):=by
 have hcp:¬ c=p:=by omega
 by_cases h0:which=0
 ·subst h0
  obtain⟨w1,r1,h1,g1⟩:=run_clear4 w 0 b n f hS (a+p) (m - p) (c - p) (some ⟨b,a*4+p*4,none⟩) (by omega) (fun _=>by rw [show a*4+p*4=(a+p)*4 by omega])
  have e:a+p+(m - p)=a+m:=by omega
  rw [e] at h1
  have HF:Hid (Scr w1 b n (clrF f (a+p) (a+m))∧w.grownBy w1 (some b)):=⟨h1,g1⟩
  clear h1 g1 hS e
  go_enter Tryz.func123,Tryz.ntmps123
  go_wp2
  go_end0
  exact⟨rfl,HF.out⟩
 by_cases h1:which=1
 ·subst h1
  obtain⟨w1,r1,h1,g1⟩:=run_clear4 w 0 b n f hS a (p+1) c (some ⟨b,a*4,none⟩) (by omega) (fun _=>rfl)
  have HF:Hid (Scr w1 b n (clrF f a (a+(p+1)))∧w.grownBy w1 (some b)):=⟨h1,g1⟩
  clear h1 g1 hS
  go_enter Tryz.func123,Tryz.ntmps123
  go_wp2
  go_end0
  exact⟨rfl,HF.out⟩
 by_cases h2:which=2
 ·subst h2
  obtain⟨w1,r1,h1,g1⟩:=run_clear4 w 0 b n f hS a m c (some ⟨b,a*4,none⟩) (by omega) (fun _=>rfl)
  have HF:Hid (Scr w1 b n (clrF f a (a+m))∧w.grownBy w1 (some b)):=⟨h1,g1⟩
  clear h1 g1 hS
  go_enter Tryz.func123,Tryz.ntmps123
  go_wp2
  go_end0
  exact⟨rfl,HF.out⟩
 have HF:Hid (Scr w b n (eraseF f a m p which)):=by
  show Scr w b n (eraseF f a m p which)
  unfold eraseF
  rw [if_neg h0,if_neg h1,if_neg h2]
  exact hS
 have e0:(which==0)=false:=by simp [h0]
 have e1:(which==1)=false:=by simp [h1]
 have e2:(which==2)=false:=by simp [h2]
 clear hS
 go_enter Tryz.func123,Tryz.ntmps123
 go_wp2
 go_end0
 exact⟨rfl,HF.out,grown_refl _ _⟩
end Go.Proofs.YtjikokfjnbhngaaGreatDoor

/- What 'rowOn' does to a screen. -/
namespace Go.Proofs.YtjikokfjnbhngaaGreatDoor
open Go.RowKit
def GEnd (w:World) (b cap:Nat) (x:Gr) (e:Ending) (w':World):Prop:=e=.returned (gval x (some ⟨b,0,none⟩) cap)∧Scr w' b x.n x.f∧w.grownBy w' (some b)
theorem rows_scroll (g:Gr) (h:OkG g) (b cap:Nat) (w:World) (hc:g.n≤cap):
  Calls Tryz.prog 120 #[gval g (some ⟨b,0,none⟩) cap,.int .i64 g.top,.int .i64 g.bottom] w fun e w'=>e=.returned (.slice (some ⟨b,(g.top*g.wide).toNat*4,none⟩) ((g.bottom*g.wide).toNat - (g.top*g.wide).toNat) (cap - (g.top*g.wide).toNat))∧w'=w.alloc (gbox g (some ⟨b,0,none⟩) cap):=by
 obtain⟨q1,q2,q3,q4,q5,q6,q7⟩:=h.nums
 have:=h.w1
 exact rows_any g b cap g.top g.bottom w (by omega) (by omega) (by omega) (by omega) hc
theorem up_scroll (g:Gr) (h:OkG g) (b cap:Nat) (w:World) (hS:Scr w b g.n g.f) (hc:g.n≤cap) (hrow:g.row=g.bottom - 1):
  Calls Tryz.prog 126 #[.slice (some ⟨b,(g.top*g.wide).toNat*4,none⟩) ((g.bottom*g.wide).toNat - (g.top*g.wide).toNat) (cap - (g.top*g.wide).toNat),.int .i64 g.wide] w fun e w'=>e=.returned (.tuple #[])∧Scr w' b g.n (rowOnG g).f∧w.grownBy w' (some b):=by
 obtain⟨q1,q2,q3,q4,q5,q6,q7⟩:=h.nums
 have:=h.w1
 have e:(rowOnG g).f=upF g.f (g.top*g.wide).toNat ((g.top*g.wide).toNat+((g.bottom*g.wide).toNat - (g.top*g.wide).toNat)) g.wide.toNat:=by
  unfold rowOnG
  rw [if_pos hrow,show (g.top*g.wide).toNat+((g.bottom*g.wide).toNat - (g.top*g.wide).toNat)=(g.bottom*g.wide).toNat by omega]
 rw [e]
 exact goUp_at b g.n g.f (g.top*g.wide).toNat ((g.bottom*g.wide).toNat - (g.top*g.wide).toNat) (cap - (g.top*g.wide).toNat) g.wide w hS (by omega) (by omega) (by omega) (by omega)
theorem fin9 {w w2:World} {b B n:Nat} {f:Nat→Cel} (h:Scr w2 b n f∧w.grownBy w2 (some b)) (hB:w.heap.size≤B) (hlt:b < w.heap.size) (u0 u1 u2 u3 u4 u5 u6 u7 u8:Value):
  Scr (((((((((w2.setCell ⟨B,0,none⟩ u0).setCell ⟨B,1,none⟩ u1).setCell ⟨B,2,none⟩ u2).setCell ⟨B,3,none⟩ u3).setCell ⟨B,4,none⟩ u4).setCell ⟨B,5,none⟩ u5).setCell ⟨B,6,none⟩ u6).setCell ⟨B,7,none⟩ u7).setCell ⟨B,8,none⟩ u8) b n f∧
  w.grownBy (((((((((w2.setCell ⟨B,0,none⟩ u0).setCell ⟨B,1,none⟩ u1).setCell ⟨B,2,none⟩ u2).setCell ⟨B,3,none⟩ u3).setCell ⟨B,4,none⟩ u4).setCell ⟨B,5,none⟩ u5).setCell ⟨B,6,none⟩ u6).setCell ⟨B,7,none⟩ u7).setCell ⟨B,8,none⟩ u8) (some b):=by
 have step:∀ (w2:World) (j:Nat) (u:Value),(Scr w2 b n f∧w.grownBy w2 (some b))→(Scr (w2.setCell ⟨B,j,none⟩ u) b n f∧w.grownBy (w2.setCell ⟨B,j,none⟩ u) (some b)):=
  fun w2 j u h=>⟨h.1.set (by simp;omega) _,grown_set h.2 (.inl hB) _⟩
 exact step _ _ _ (step _ _ _ (step _ _ _ (step _ _ _ (step _ _ _ (step _ _ _ (step _ _ _ (step _ _ _ (step _ _ _ h))))))))
set_option maxHeartbeats 1000000 in
theorem rowOn_up (g:Gr) (h:OkG g) (b cap:Nat) (w:World) (hS:Scr w b g.n g.f) (hc:g.n≤cap) (hrow:g.row=g.bottom - 1) (x:Gr) (hx:x=rowOnG g):Calls Tryz.prog 119 #[gval g (some ⟨b,0,none⟩) cap] w (GEnd w b cap x):=by
 have hlt:=hS.lt
 have HS:Hid (Scr w b g.n g.f):=hS
 have HH:Hid (OkG g):=h
 have HC:Hid (g.n≤cap):=hc
 have hb0:1≤g.bottom:=by have:=h.t1;have:=h.t2;omega
 have hb1:g.bottom≤10:=by have:=h.t3;have:=h.h2;omega
 have HX:Hid (x.f=(rowOnG g).f):=by rw [hx];rfl
 have HE:Hid (x={g with f:=x.f}):=by
  show x=_
  rw [hx]
  unfold rowOnG
  rw [if_pos hrow]
 clear hc hS h hx
 obtain⟨wide,high,n,f,row,col,ink,bold,top,bottom⟩:=g
 simp only at hrow hb0 hb1
 subst hrow
 have H1:Hid (∀ (o1 o2 o3:Obj) (w2:World),Scr w2 b n (rowOnG ⟨wide,high,n,f,bottom - 1,col,ink,bold,top,bottom⟩).f→(((w.alloc o1).alloc o2).alloc o3).drew.grownBy w2 (some b)→Scr w2 b n x.f∧w.grownBy w2 (some b)∧w2.heap[w.heap.size]?=some o1∧w2.heap[w.heap.size+1]?=some o2):=by
  intro o1 o2 o3 w2 h1 h2
  refine⟨by rw [HX.out];exact h1,grown_trans (grown_drew (grown_alloc (grown_alloc (grown_alloc (grown_refl _ _) _) _) _)) h2,?_,?_⟩
  ·exact grown_block h2 (at_old (at_old (at_new w _) _) _) (by simp;omega)
  ·exact grown_block h2 (at_old (at_new1 w _ _) _) (by simp;omega)
 clear HX
 go_enter Tryz.func119,Tryz.ntmps119
 go_wp2_with fail
 go_region_held3 (fun w'=>w'.cell? ⟨w.heap.size,0,none⟩=some (.int .i64 wide)∧w'.cell? ⟨w.heap.size,1,none⟩=some (.int .i64 high)∧w'.cell? ⟨w.heap.size,2,none⟩=some (.slice (some ⟨b,0,none⟩) n cap)∧w'.cell? ⟨w.heap.size,3,none⟩=some (.int .i64 (bottom - 1))∧w'.cell? ⟨w.heap.size,4,none⟩=some (.int .i64 col)∧w'.cell? ⟨w.heap.size,5,none⟩=some (.int .i64 ink)∧w'.cell? ⟨w.heap.size,6,none⟩=some (.bool bold)∧w'.cell? ⟨w.heap.size,7,none⟩=some (.int .i64 top)∧w'.cell? ⟨w.heap.size,8,none⟩=some (.int .i64 bottom)) (first | go_keep | (simp [*,World.cell?_alloc_past]))
  (first
  | (go_at_call 120;refine(rows_scroll _ HH.out b cap _ HC.out).mono ?_;rintro e w1 ⟨rfl,rfl⟩)
  | (go_at_call 126;refine(up_scroll _ HH.out b cap _ (Scr.drew (HS.out.alloc _ |>.alloc _ |>.alloc _)) HC.out rfl).mono ?_;rintro e w2 ⟨rfl,hS2,hg2⟩;obtain⟨k1,k2,k3,k4⟩:=H1.out _ _ _ w2 hS2 hg2;clear hS2 hg2;have K1:Hid (Scr w2 b n x.f∧w.grownBy w2 (some b)):=⟨k1,k2⟩;clear k1 k2;obtain⟨⟨x0,x1,x2,x3,x4,x5,x6,x7,x8⟩,y⟩:=nine k3;obtain⟨⟨u0,u1,u2,u3,u4,u5,u6,u7,u8⟩,v⟩:=nine k4;clear k3 k4))
 go_wp2
 refine bodyPost_ret (v:=gval ⟨wide,high,n,x.f,bottom - 1,col,ink,bold,top,bottom⟩ (some ⟨b,0,none⟩) cap) (by simp [results,Tryz.results119,go_sem, *]) rfl ?_
 have hE:=HE.out
 rw [hE] at K1 ⊢
 exact⟨rfl,fin9 K1.out (by omega) hlt _ _ _ _ _ _ _ _ _⟩
set_option maxHeartbeats 1000000 in
theorem rowOn_down (g:Gr) (h:OkG g) (b cap:Nat) (w:World) (hS:Scr w b g.n g.f) (hrow:¬ g.row=g.bottom - 1) (x:Gr) (hx:x=rowOnG g):Calls Tryz.prog 119 #[gval g (some ⟨b,0,none⟩) cap] w (GEnd w b cap x):=by
 have hlt:=hS.lt
 have HS:Hid (Scr w b g.n g.f):=hS
 have hb0:1≤g.bottom:=by have:=h.t1;have:=h.t2;omega
 have hb1:g.bottom≤10:=by have:=h.t3;have:=h.h2;omega
 have hr0:=h.r1
 have hr1:g.row≤10:=by have:=h.r2;have:=h.h2;omega
 have hh0:=h.h1
 have hh1:=h.h2
 have HE:Hid (x={g with row:=min (g.row+1) (g.high - 1)}):=by
  show x=_
  rw [hx]
  unfold rowOnG
  rw [if_neg hrow]
 clear hS h hx
 obtain⟨wide,high,n,f,row,col,ink,bold,top,bottom⟩:=g
 simp only at hrow hb0 hb1 hr0 hr1 hh0 hh1
 have hrow':(row==bottom - 1)=false:=by simp [hrow]
 clear hrow
 have fin:∀ k:Int,k=min (row+1) (high - 1)→Hid (x=⟨wide,high,n,f,k,col,ink,bold,top,bottom⟩):=by
  intro k hk
  have:=HE.out
  simp only [←hk] at this
  exact this
 have FIN:Hid (∀ k:Int,k=min (row+1) (high - 1)→Hid (x=⟨wide,high,n,f,k,col,ink,bold,top,bottom⟩)):=fin
 clear fin HE
 go_enter Tryz.func119,Tryz.ntmps119
 go_wp2
 ·have hE:=(FIN.out (high - 1) (by omega)).out
  refine bodyPost_ret (v:=gval ⟨wide,high,n,f,high - 1,col,ink,bold,top,bottom⟩ (some ⟨b,0,none⟩) cap) (by simp [results,Tryz.results119,go_sem]) rfl ?_
  rw [hE]
  exact⟨rfl,(HS.out.alloc _).alloc _,grown_alloc (grown_alloc (grown_refl _ _) _) _⟩
 ·have hE:=(FIN.out (row+1) (by omega)).out
  refine bodyPost_ret (v:=gval ⟨wide,high,n,f,row+1,col,ink,bold,top,bottom⟩ (some ⟨b,0,none⟩) cap) (by simp [results,Tryz.results119,go_sem]) rfl ?_
  rw [hE]
  exact⟨rfl,(HS.out.alloc _).alloc _,grown_alloc (grown_alloc (grown_refl _ _) _) _⟩
theorem rowOn_any (g:Gr) (h:OkG g) (b cap:Nat) (w:World) (hS:Scr w b g.n g.f) (hc:g.n≤cap) (x:Gr) (hx:x=rowOnG g):Calls Tryz.prog 119 #[gval g (some ⟨b,0,none⟩) cap] w (GEnd w b cap x):=by
 by_cases hrow:g.row=g.bottom - 1
 ·exact rowOn_up g h b cap w hS hc hrow x hx
 ·exact rowOn_down g h b cap w hS hrow x hx
end Go.Proofs.YtjikokfjnbhngaaGreatDoor

/- What 'printed' does to a screen. -/
namespace Go.Proofs.YtjikokfjnbhngaaGreatDoor
open Go.RowKit
structure Mid9 (w:World) (b cap:Nat) (x:Gr) (wx:World):Prop where
 box:wx.heap[w.heap.size]?=some (gbox x (some ⟨b,0,none⟩) cap)
 res:wx.heap[w.heap.size+1]?=some gzero
 scr:Scr wx b x.n x.f
 grown:w.grownBy wx (some b)
theorem rows_here (g:Gr) (h:OkG g) (b cap:Nat) (w:World) (hc:g.n≤cap):
  Calls Tryz.prog 120 #[gval g (some ⟨b,0,none⟩) cap,.int .i64 g.row,.int .i64 (g.row+1)] w fun e w'=>e=.returned (.slice (some ⟨b,(g.row*g.wide).toNat*4,none⟩) g.wide.toNat (cap - (g.row*g.wide).toNat))∧w'=w.alloc (gbox g (some ⟨b,0,none⟩) cap):=by
 obtain⟨q1,q2,q3,q4,q5,q6,q7⟩:=h.nums
 have:=h.w1
 have e:(g.row+1)*g.wide=g.row*g.wide+g.wide:=by rw [Int.add_mul];omega
 have k:=rows_any g b cap g.row (g.row+1) w (by omega) (by omega) (by omega) (by omega) hc
 rw [e] at k
 have e2:(g.row*g.wide+g.wide).toNat - (g.row*g.wide).toNat=g.wide.toNat:=by omega
 rw [e2] at k
 exact k
set_option maxRecDepth 1000 in
set_option maxHeartbeats 1000000 in
theorem printed_any (g:Gr) (h:OkG g) (b cap:Nat) (w:World) (hS:Scr w b g.n g.f) (hc:g.n≤cap) (c:Int) (x:Gr) (hx:x=printedG g c):Calls Tryz.prog 102 #[gval g (some ⟨b,0,none⟩) cap,.int .i64 c] w (GEnd w b cap x):=by
 obtain⟨y,hy⟩:∃ y,y=backG g:=⟨_,rfl⟩
 obtain⟨k1,k2,k3,k4,k5⟩:=ok_back h
 rw [←hy] at k1 k2 k3 k4 k5
 have HX:Hid (x=putG y c):=by show x=putG y c;rw [hx,hy];rfl
 have HS:Hid (Scr w b g.n g.f):=hS
 have HY:Hid (OkG y∧y.col < y.wide∧y.n≤cap):=⟨k1,k2,by omega⟩
 have hlt:=hS.lt
 have HM:Hid (g.col≠g.wide→Mid9 w b cap y ((w.alloc (gbox g (some ⟨b,0,none⟩) cap)).alloc gzero)):=by
  intro hne
  have e:y=g:=by rw [hy];unfold backG;rw [if_neg hne]
  rw [e]
  exact⟨at_old (at_new w _) _,at_new1 w _ _,(hS.alloc _).alloc _,grown_alloc (grown_alloc (grown_refl _ _) _) _⟩
 have HR:Hid (g.col=g.wide→∀ w,Scr w b g.n g.f→Calls Tryz.prog 119 #[gval {g with col:=0} (some ⟨b,0,none⟩) cap] w (GEnd w b cap y)):=by
  intro he w hS
  have e:y=rowOnG {g with col:=0}:=by rw [hy];unfold backG;rw [if_pos he]
  have h0:OkG {g with col:=0}:=⟨h.w1,h.w2,h.h1,h.h2,h.size,h.cells,h.r1,h.r2,by simp,by have:=h.w1;simp only;omega,h.i1,h.i2,h.t1,h.t2,h.t3⟩
  exact rowOn_any {g with col:=0} h0 b cap w hS hc y e
 clear hS h hx hy k1 k2 k3 k4 k5
 go_enter Tryz.func102,Tryz.ntmps102
 go_upto_if 9 with fail
 go_cut [] from 5 to 12 (fun wx=>Mid9 w b cap y wx)
 case first=>
  by_cases he:g.col=g.wide
  ·have hd:(g.col==g.wide)=true:=by simp [he]
   have HE:Hid (g.col=g.wide):=he
   clear he
   go_wp2_with (go_at_call 119;refine(HR.out HE.out _ ((HS.out.alloc _).alloc _)).mono ?_;rintro e w2 ⟨rfl,hs2,hg2⟩;have t1:=grown_block hg2 (at_old (at_new w _) _) (by simp;omega);have t2:=grown_block hg2 (at_new1 w _ _) (by simp;omega);have HF:Hid (Scr w2 b y.n y.f∧World.grownBy _ w2 (some b)):=⟨hs2,hg2⟩;have HT:Hid _:=t1;have HT2:Hid _:=t2;obtain⟨⟨x0,x1,x2,x3,x4,x5,x6,x7,x8⟩,z⟩:=nine t1;clear hs2 hg2 t1 t2)
   go_meet
   have hf:=fin9 (w:=w) (B:=w.heap.size) ⟨HF.out.1,grown_trans (grown_alloc (grown_alloc (grown_refl _ _) _) _) HF.out.2⟩ (Nat.le_refl _) hlt (.int .i64 y.wide) (.int .i64 y.high) (.slice (some ⟨b,0,none⟩) y.n cap) (.int .i64 y.row) (.int .i64 y.col) (.int .i64 y.ink) (.bool y.bold) (.int .i64 y.top) (.int .i64 y.bottom)
   exact⟨set9_same HT.out _ _ _ _ _ _ _ _ _,set9_other HT2.out (by omega) _ _ _ _ _ _ _ _ _,hf.1,hf.2⟩
  ·have hd:(g.col==g.wide)=false:=by simp [he]
   have HE:Hid (g.col≠g.wide):=he
   clear he
   go_wp2
   go_meet
   exact HM.out HE.out
 case rest=>
  obtain⟨ok,hcw,hcap⟩:=HY.out
  have HO:Hid (OkG y):=ok
  have HCP:Hid (y.n≤cap):=hcap
  have hw1:=ok.w1
  have hc1:=ok.c1
  have hr1:=ok.r1
  have hr2:y.row≤10:=by have:=ok.r2;have:=ok.h2;omega
  have hw2:=ok.w2
  have HC:Hid (Mid9 w b cap y wc):=hcut
  obtain⟨⟨x0,x1,x2,x3,x4,x5,x6,x7,x8⟩,z⟩:=nine hcut.box
  obtain⟨⟨u0,u1,u2,u3,u4,u5,u6,u7,u8⟩,v⟩:=nine hcut.res
  have hb2:w.heap.size < wc.heap.size:=by have:=hcut.grown.size;have:=(Array.getElem?_eq_some_iff.1 hcut.box).1;omega
  have hb3:b < wc.heap.size:=hcut.scr.lt
  have hb4:w.heap.size+1 < wc.heap.size:=(Array.getElem?_eq_some_iff.1 hcut.res).1
  obtain⟨P,hP⟩:∃ P,P=(y.row*y.wide).toNat:=⟨_,rfl⟩
  obtain⟨I,hI⟩:∃ I,I=P+y.col.toNat:=⟨_,rfl⟩
  have hIn:I < y.n:=by obtain⟨q1,q2,q3,q4,_⟩:=ok.nums;omega
  obtain⟨t0,t1,t2,t3⟩:=hcut.scr.cells I hIn
  have hoff:I*4=P*4+y.col.toNat*4:=by omega
  rw [hoff] at t0 t1 t2 t3
  have hfr:∀ j,wc.frozen? ⟨b,j,none⟩=false:=hcut.scr.free
  obtain⟨W,hW⟩:∃ W,W=y.wide.toNat:=⟨_,rfl⟩
  have hwrap:IntKind.i64.wrap (y.row+1)=y.row+1:=by rw [IntKind.wrap_i64];omega
  have HRW:Hid (∀ w,Calls Tryz.prog 120 #[gval y (some ⟨b,0,none⟩) cap,.int .i64 y.row,.int .i64 (IntKind.i64.wrap (y.row+1))] w fun e w'=>e=.returned (.slice (some ⟨b,P*4,none⟩) W (cap - P))∧w'=w.alloc (gbox y (some ⟨b,0,none⟩) cap)):=by
   intro w
   rw [hP,hwrap,hW]
   exact rows_here y HO.out b cap w HCP.out
  have hcw':y.col < (W:Int):=by omega
  have HI:Hid (I=(y.row*y.wide+y.col).toNat∧I < y.n∧I*4=P*4+y.col.toNat*4):=⟨by obtain⟨_,_,q3,_⟩:=ok.nums;omega,hIn,hoff⟩
  clear hcut ok hcap HR HM HS HY hc hP hI hIn hoff hwrap hW
  obtain⟨k0,hk0⟩:∃ k,k=y.f I:=⟨_,rfl⟩
  rw [←hk0] at t0 t1 t2 t3
  clear hk0
  have hoc:∀ (w':World) (j:Nat) (u:Value) (k:Nat),(w'.setCell ⟨b,j,none⟩ u).cell? ⟨w.heap.size,k,none⟩=w'.cell? ⟨w.heap.size,k,none⟩:=fun w' j u k=>World.cell?_setCell_other _ _ _ _ (by intro e;simp only [Addr.mk.injEq] at e;omega)
  have hoc2:∀ (w':World) (j:Nat) (u:Value) (k:Nat),(w'.setCell ⟨b,j,none⟩ u).cell? ⟨w.heap.size+1,k,none⟩=w'.cell? ⟨w.heap.size+1,k,none⟩:=fun w' j u k=>World.cell?_setCell_other _ _ _ _ (by intro e;simp only [Addr.mk.injEq] at e;omega)
  go_wp2_with fail
  go_region_held3 (fun w'=>(w'.cell? ⟨w.heap.size,0,none⟩=some (.int .i64 y.wide)∧w'.cell? ⟨w.heap.size,1,none⟩=some (.int .i64 y.high)∧w'.cell? ⟨w.heap.size,2,none⟩=some (.slice (some ⟨b,0,none⟩) y.n cap)∧w'.cell? ⟨w.heap.size,3,none⟩=some (.int .i64 y.row)∧w'.cell? ⟨w.heap.size,4,none⟩=some (.int .i64 y.col)∧w'.cell? ⟨w.heap.size,5,none⟩=some (.int .i64 y.ink)∧w'.cell? ⟨w.heap.size,6,none⟩=some (.bool y.bold)∧w'.cell? ⟨w.heap.size,7,none⟩=some (.int .i64 y.top)∧w'.cell? ⟨w.heap.size,8,none⟩=some (.int .i64 y.bottom))) (first | go_keep | (simp [*,World.cell?_alloc_past]))
   ((go_at_call 120;go_fit (HRW.out _);rintro e w1 ⟨rfl,rfl⟩))
  go_wp2
  refine bodyPost_ret (v:=gval (putG y c) (some ⟨b,0,none⟩) cap) (by simp [results,Tryz.results102,go_sem,putG, *]) rfl ?_
  rw [HX.out]
  obtain⟨e1,e2,e3⟩:=HI.out
  have hp:=HC.out.scr.put I (P*4+y.col.toNat*4) (P*4+y.col.toNat*4+1) (P*4+y.col.toNat*4+2) (P*4+y.col.toNat*4+3) ⟨c,y.ink,0,y.bold⟩ e2 (by omega) (by omega) (by omega) (by omega)
  have hg:=grown_put (o0:=P*4+y.col.toNat*4) (o1:=P*4+y.col.toNat*4+1) (o2:=P*4+y.col.toNat*4+2) (o3:=P*4+y.col.toNat*4+3) (u0:=.int .i64 c) (u1:=.int .i64 y.ink) (u2:=.int .i64 0) (u3:=.bool y.bold) HC.out.grown
  have hf:=fin9 (w:=w) (B:=w.heap.size+1) ⟨hp.set (p:=⟨w.heap.size,4,none⟩) (by simp;omega) (.int .i64 (y.col+1)),grown_set hg (p:=⟨w.heap.size,4,none⟩) (.inl (Nat.le_refl _)) (.int .i64 (y.col+1))⟩ (by omega) hlt (.int .i64 y.wide) (.int .i64 y.high) (.slice (some ⟨b,0,none⟩) y.n cap) (.int .i64 y.row) (.int .i64 (y.col+1)) (.int .i64 y.ink) (.bool y.bold) (.int .i64 y.top) (.int .i64 y.bottom)
  rw [e1] at hf
  exact⟨rfl,(hf.1.alloc _).drew,grown_drew (grown_alloc hf.2 _)⟩
end Go.Proofs.YtjikokfjnbhngaaGreatDoor

/- What 'here' and 'has' answer. -/
namespace Go.Proofs.YtjikokfjnbhngaaGreatDoor
open Go.RowKit
theorem here_any (g:Gr) (ao:Option Addr) (cap:Nat) (w:World) (hw: -100≤g.wide∧g.wide≤100):Calls Tryz.prog 121 #[gval g ao cap] w fun e w'=>e=.returned (.int .i64 (hereC g))∧w'=w.alloc (gbox g ao cap):=by
 go_enter Tryz.func121,Tryz.ntmps121
 go_wp2
 all_goals (go_ret;exact⟨ret_int (by unfold hereC;omega),rfl⟩)
theorem has_any (g:Gr) (ao:Option Addr) (cap:Nat) (r c:Int) (w:World):Calls Tryz.prog 82 #[gval g ao cap,.int .i64 r,.int .i64 c] w fun e w'=>e=.returned (.bool (decide (0≤r∧r < g.high∧0≤c∧c < g.wide)))∧w'=w.alloc (gbox g ao cap):=by
 go_enter Tryz.func82,Tryz.ntmps82
 go_wp2
 all_goals (go_ret;refine⟨ret_bool ?_,rfl⟩;rw [Bool.eq_iff_iff];simp only [decide_eq_true_eq,Bool.and_eq_true,Bool.false_eq_true,false_iff];omega)
end Go.Proofs.YtjikokfjnbhngaaGreatDoor
