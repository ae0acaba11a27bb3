/- Several texts in one, each as it was: DErase, DColA, DColour, DShowRow. -/
import Derived.Test.YtjikokfjnbhngaaGreatDoorMDNums3
import Derived.Test.YtjikokfjnbhngaaGreatDoorMDRow
import Derived.Deep.AppendLies

/- The pen erases what is to be empty in a row. -/
namespace Go.Proofs.YtjikokfjnbhngaaGreatDoor
open Go.RowKit
set_option maxRecDepth 100000
theorem RdS.shift {w:World} {b off n:Nat} {f:Nat→Cel} (h:RdS w (some ⟨b,off,none⟩) n f) (a m o:Nat) (hm:a+m≤n) (ho:o=off+a*4):RdS w (some ⟨b,o,none⟩) m (shF f a):=by
 subst ho
 rcases h with h | ⟨b',o',e,hc⟩
 ·exact .inl (by omega)
 ·simp only [Option.some.injEq,Addr.mk.injEq,and_true] at e
  obtain⟨rfl,rfl⟩:=e
  refine .inr ⟨b,off+a*4,rfl,fun i hi=>?_⟩
  have:=hc (a+i) (by omega)
  have e:off+(a+i)*4=off+a*4+i*4:=by omega
  rw [e] at this
  exact this
theorem RdS.first {w:World} {ao:Option Addr} {n:Nat} {f:Nat→Cel} (h:RdS w ao n f) (m:Nat) (hm:m≤n):RdS w ao m f:=by
 rcases h with h | ⟨b,o,e,hc⟩
 ·exact .inl (by omega)
 ·exact .inr ⟨b,o,e,fun i hi=>hc i (by omega)⟩
theorem RdS.congr {w:World} {ao:Option Addr} {n:Nat} {f g:Nat→Cel} (h:RdS w ao n f) (e:∀ i,i < n→f i=g i):RdS w ao n g:=by
 rcases h with h | ⟨b,o,ea,hc⟩
 ·exact .inl h
 ·exact .inr ⟨b,o,ea,fun i hi=>by rw [←e i hi];exact hc i hi⟩
theorem redrew {w w1:World} {B:Nat} (h:Below B w w1):Below B w w1.drew:=⟨h.os,h.tape,h.output,h.size,h.block⟩
theorem write_from {w w1:World} {pb b cap:Nat} {oo:Option Addr} {q:Pen} (h:PenTo w pb b cap oo q w1) (S:ByteArray) (hS:q.out.length+S.size≤1048576) (l:List UInt8) (hl:S.data.toList=l):
  Calls Tryz.prog 134 #[.pointer (some ⟨pb,0,none⟩),.string S] w1 fun e w'=>e=.returned (.tuple #[])∧PenTo w pb b cap oo ⟨q.out++l,q.g⟩ w':=by
 obtain⟨o1,c1,a1,k1⟩:=h
 subst hl
 exact(write_any pb b cap o1 c1 q S w1 a1 hS).mono fun e w' hk=>⟨hk.1,PenTo.trans k1 hk.2⟩
theorem move_from {w w1:World} {pb b cap:Nat} {oo:Option Addr} {q:Pen} (h:PenTo w pb b cap oo q w1) (ok:OkG q.g) (r c:Int) (h1:0≤r) (h2:r < q.g.high) (h3:0≤c) (h4:c < q.g.wide) (hl:q.out.length≤1000000):
  Calls Tryz.prog 140 #[.pointer (some ⟨pb,0,none⟩),.int .i64 r,.int .i64 c] w1 fun e w'=>e=.returned (.tuple #[])∧PenTo w pb b cap oo (moveP q r c) w':=by
 obtain⟨o1,c1,a1,k1⟩:=h
 exact(move_any pb b cap o1 c1 q ok r c h1 h2 h3 h4 hl w1 a1).mono fun e w' hk=>⟨hk.1,PenTo.trans k1 hk.2⟩
theorem PenTo.clear {w w1:World} {pb b cap:Nat} {oo:Option Addr} {l:List UInt8} {y:Gr} (h:PenTo w pb b cap oo ⟨l,y⟩ w1) {w2:World} {a z:Nat} (h1:Scr w2 b y.n (clrF y.f a z)) (h2:w1.grownBy w2 (some b)):PenTo w pb b cap oo ⟨l,clearG y a z⟩ w2:=by
 obtain⟨o',c',hp,hk⟩:=h
 refine⟨o',c',⟨grown_block h2 hp.box (fun e=>hp.n1 (Option.some.inj e)),hp.own.kept h2 ?_,h1⟩,⟨h2.os.trans hk.os,h2.tape.trans hk.tape,h2.output.trans hk.output,Nat.le_trans hk.size h2.size,fun k hk0 k1 k2 k3=>(h2.block k (Nat.lt_of_lt_of_le hk0 hk.size) (fun e=>k2 (Option.some.inj e))).trans (hk.block k hk0 k1 k2 k3),hk.fresh⟩⟩
 rw [ownBlock_D]
 exact .inr hp.n3
set_option maxHeartbeats 4000000 in
theorem erase_pen (pb b cap:Nat) (oo:Option Addr) (oc:Nat) (p:Pen) (ok:OkG p.g) (hcap:p.g.n≤cap) (r:Nat) (hr:(r:Int) < p.g.high) (want:Nat→Cel) (aw:Option Addr) (cw:Nat) (W:Nat) (hW:W=p.g.wide.toNat) (hcw:W≤cw) (hl:p.out.length≤100000) (w:World) (h:PenIn w pb b cap oo oc p) (hw:RdS w aw W want):
  Calls Tryz.prog 141 #[.pointer (some ⟨pb,0,none⟩),.int .i64 r,.slice aw W cw] w fun e w'=>e=.returned (.tuple #[])∧PenTo w pb b cap oo (eraseP p r want) w':=by
 have w1:=ok.w1
 have w2:=ok.w2
 have hh:=ok.h2
 have hW24:W≤24:=by omega
 obtain⟨bw,ow,rfl,hcc⟩:=hw.resolve_left (by omega)
 have HRW:Hid (∀ w1,Below w.heap.size w w1→RdS w1 (some ⟨bw,ow,none⟩) W want):=fun w1 hb=>hw.below hb
 clear hcc
 obtain⟨P,hP⟩:∃ P,P=r*W:=⟨_,rfl⟩
 have HC:Hid (∀ w,Calls Tryz.prog 139 #[gval p.g (some ⟨b,0,none⟩) cap,.int .i64 r] w fun e w'=>e=.returned (.slice (some ⟨b,P*4,none⟩) W (cap - P))∧w'=w.alloc (gbox p.g (some ⟨b,0,none⟩) cap)):=fun w=>by
  have:=cells_any p.g ok b 0 cap r hr hcap w
  rw [Nat.zero_add, ←hW, ←hP] at this
  exact this
 have hPn:P+W≤p.g.n:=by
  have h1:=size_nat ok
  have h2:(r+1)*W≤p.g.high.toNat*W:=Nat.mul_le_mul_right _ (by omega)
  rw [Nat.succ_mul] at h2
  rw [h1, ←hW]
  omega
 have HRH:Hid (∀ w1,Below w.heap.size w w1→RdS w1 (some ⟨b,P*4,none⟩) W (shF p.g.f P)):=fun w1 hb=>(h.later hb).scr.rd.shift P W _ (by omega) (by omega)
 obtain⟨FL,hFL⟩:∃ FL,FL=surD (shF p.g.f P) want W W:=⟨_,rfl⟩
 have HSU:Hid (∀ w1,Below w.heap.size w w1→Calls Tryz.prog 145 #[.slice (some ⟨b,P*4,none⟩) W (cap - P),.slice (some ⟨bw,ow,none⟩) W cw] w1 fun e w'=>e=.returned (.tuple #[.int .i64 FL.1,.int .i64 FL.2])∧Below w1.heap.size w1 w'):=fun w1 hb=>by
  rw [hFL]
  exact surplus_any (shF p.g.f P) want W (by omega) _ _ _ _ w1 (HRH.out w1 hb) (HRW.out w1 hb)
 have HER:Hid (eraseP p r want=eraseAtP p r want P W FL.1 FL.2):=by
  show eraseP p r want=_
  unfold eraseP
  rw [←hW, ←hP, ←hFL]
 have hsp:=sur_spec (shF p.g.f P) want W W
 rw [←hFL] at hsp
 have HBX:Hid (∀ w1,Below w.heap.size w w1→w1.heap[pb]?=some (pbox p.out.length oo oc p.g b cap)):=fun w1 hb=>below_block hb h.box h.lt
 obtain⟨⟨c0,c1,c2,c3,c4,c5,c6,c7,c8,c9⟩,cf⟩:=ten h.box
 obtain⟨F,L'⟩:=FL
 simp only at hsp HSU HER
 rcases hsp with ⟨a1,a2,_⟩ | ⟨A,L,a1,a2,a3,a4,_⟩
 ·subst a1 a2
  have HE:Hid (∀ w1,Below w.heap.size w w1→PenTo w pb b cap oo (eraseP p r want) w1):=fun w1 hb=>by
   rw [HER.out]
   unfold eraseAtP
   rw [if_pos (by omega)]
   exact h.stay hb
  clear h HER HRH HRW hw ok hFL hP hW
  go_enter Tryz.func141,Tryz.ntmps141
  go_wp2_with (first
   | (go_at_call 139;refine(HC.out _).mono ?_;rintro e v1 ⟨rfl,rfl⟩)
   | (go_at_call 145;refine(HSU.out _ (below1 _ _)).mono ?_;rintro e v2 ⟨rfl,hb2⟩;have HE2:Hid (PenTo w pb b cap oo (eraseP p r want) v2):=HE.out v2 (below_up hb2);clear hb2))
  exact bodyPost_ret (v:=.tuple #[]) (by simp [results,Tryz.results141,go_sem]) rfl ⟨rfl,HE2.out⟩
 ·subst a1 a2
  obtain⟨K1,hK1⟩:∃ K,K=keptD (shF p.g.f (P+A)) (shF want A) (W - A):=⟨_,rfl⟩
  obtain⟨K2,hK2⟩:∃ K,K=keptD (shF p.g.f P) want (L+1):=⟨_,rfl⟩
  have HKK:Hid (K1=keptD (shF p.g.f (P+A)) (shF want A) (W - A)∧K2=keptD (shF p.g.f P) want (L+1)):=⟨hK1,hK2⟩
  have HPW:Hid (P=r*W∧W=p.g.wide.toNat):=⟨hP,hW⟩
  clear hFL hw hP hW
  go_enter Tryz.func141,Tryz.ntmps141
  go_wp2_with (first
   | (go_at_call 139;refine(HC.out _).mono ?_;rintro e v1 ⟨rfl,rfl⟩)
   | (go_at_call 145;refine(HSU.out _ (below1 _ _)).mono ?_;rintro e v2 ⟨rfl,hb2⟩;have HB2:Hid (Below w.heap.size w v2):=below_up hb2;clear hb2 c0 c1 c2 c3 c4 c5 c6 c7 c8 c9 cf))
  have HK1:Hid (∀ w1,Below w.heap.size w w1→Calls Tryz.prog 146 #[.slice (some ⟨b,P*4+A*4,none⟩) (W - A) (cap - P - A),.slice (some ⟨bw,ow+A*4,none⟩) (W - A) (cw - A)] w1 fun e w'=>e=.returned (.int .i64 K1)∧Below w1.heap.size w1 w'):=fun w1 hb=>by
   rw [hK1]
   exact kept_any (shF p.g.f (P+A)) (shF want A) (W - A) (by omega) _ _ _ _ w1 ((HRH.out w1 hb).shift A (W - A) _ (by omega) rfl |>.congr (fun i _=>by unfold shF;rw [Nat.add_assoc])) ((HRW.out w1 hb).shift A (W - A) _ (by omega) rfl)
  have HK2:Hid (∀ w1,Below w.heap.size w w1→Calls Tryz.prog 146 #[.slice (some ⟨b,P*4,none⟩) (L+1) (cap - P),.slice (some ⟨bw,ow,none⟩) (L+1) cw] w1 fun e w'=>e=.returned (.int .i64 K2)∧Below w1.heap.size w1 w'):=fun w1 hb=>by
   rw [hK2]
   exact kept_any (shF p.g.f P) want (L+1) (by omega) _ _ _ _ w1 ((HRH.out w1 hb).first (L+1) (by omega)) ((HRW.out w1 hb).first (L+1) (by omega))
  have l1:(A:Int)≤(W:Int):=by omega
  have l2:(0:Int)≤(A:Int):=by omega
  have l3:(L:Int)+1≤(W:Int):=by omega
  have l4:W≤cap - P:=by omega
  have l5:(W:Int)≤((cap - P:Nat):Int):=by omega
  have l6:(W:Int)≤(cw:Int):=by omega
  have l7:¬ cap - P=A:=by omega
  have l8:¬ cw=A:=by omega
  have l9:IntKind.i64.wrap ((L:Int)+1)=(L:Int)+1:=by rw [IntKind.wrap_i64];omega
  have l10:(L:Int)+1≤((cap - P:Nat):Int):=by omega
  have l11:(L:Int)+1≤(cw:Int):=by omega
  have l12:(0:Int)≤(L:Int)+1:=by omega
  clear hK1 hK2 HRH HRW
  go_region_held3 (fun _=>True) (first | go_keep | trivial)
   (first
   | (have _t:=HB3;go_at_call 146;go_must (go_fit (HK2.out v3 HB3.out));rintro e v4 ⟨rfl,hb4⟩;have HB4:Hid (Below w.heap.size w v4):=HB3.out.trans (hb4.mono HB3.out.size);clear hb4)
   | (go_at_call 146;go_must (go_fit (HK1.out v2.drew (redrew HB2.out)));rintro e v3 ⟨rfl,hb3⟩;have HB3:Hid (Below w.heap.size w v3):=HB2.out.trans ((undrew hb3).mono HB2.out.size);clear hb3))
  have HMA:Hid (∀ j:Nat,j < W→∀ w1,Below w.heap.size w w1→Calls Tryz.prog 140 #[.pointer (some ⟨pb,0,none⟩),.int .i64 r,.int .i64 j] w1 fun e w'=>e=.returned (.tuple #[])∧PenTo w pb b cap oo (moveP p r j) w'):=fun j hj w1 hb=>by
   have:=HPW.out.2
   exact move_from (h.stay hb) ok r j (by omega) hr (by omega) (by omega) (by omega)
  have HLN:Hid (∀ j:Nat,j < W→(moveP p r j).out.length≤100008):=fun j hj=>by
   have:=HPW.out.2
   have:=(len_moveD ok r j (by omega) hr (by omega) (by omega)).1
   show (p.out++moveD p.g r j).length≤100008
   rw [List.length_append]
   omega
  clear ok h HC HSU HK1 HK2 HBX HB2 HB3
  by_cases hk:K1≤K2
  ·have HE:Hid (eraseP p r want=⟨(moveP p r A).out++[27,91,75],clearG (moveP p r A).g (P+A) (P+A+(W - A))⟩):=by
    show eraseP p r want=_
    rw [HER.out]
    unfold eraseAtP
    have e1:((A:Nat):Int).toNat=A:=by omega
    have e2:((L:Int)+1).toNat=L+1:=by omega
    rw [if_neg (by omega),e1,e2, ←HKK.out.1, ←HKK.out.2,if_pos hk,show P+A+(W - A)=P+W by omega]
   clear HER HKK
   go_wp2_with (first
    | (go_at_call 140;refine(HMA.out A (by omega) _ HB4.out).mono ?_;rintro e v5 ⟨rfl,hk5⟩;have HP5:Hid (PenTo w pb b cap oo (moveP p r A) v5):=hk5;clear hk5)
    | (go_at_call 134;refine(write_from HP5.out ⟨#[27,91,75]⟩ (by have:=HLN.out A (by omega);show (moveP p r A).out.length+3≤1048576;omega) [27,91,75] rfl).mono ?_;rintro e v6 ⟨rfl,hk6⟩;have HP6:Hid (PenTo w pb b cap oo ⟨(moveP p r A).out++[27,91,75],(moveP p r A).g⟩ v6):=hk6;obtain⟨o6,c6,hp6,_⟩:=hk6;obtain⟨v7,r7,h7,g7⟩:=run_clear4 v6 0 b p.g.n p.g.f hp6.scr (P+A) (W - A) (cap - P - A) (some ⟨b,P*4+A*4,none⟩) (by omega) (fun _=>by rw [Nat.add_mul]);have HS7:Hid (Scr v7 b p.g.n (clrF p.g.f (P+A) (P+A+(W - A)))):=h7;have HG7:Hid (v6.grownBy v7 (some b)):=g7;clear hp6 h7 g7))
   go_end0
   refine⟨rfl,?_⟩
   rw [HE.out]
   exact HP6.out.clear HS7.out HG7.out
  ·have HE:Hid (eraseP p r want=⟨(moveP p r L).out++[27,91,49,75],clearG (moveP p r L).g P (P+(L+1))⟩):=by
    show eraseP p r want=_
    rw [HER.out]
    unfold eraseAtP
    have e1:((A:Nat):Int).toNat=A:=by omega
    have e2:((L:Int)+1).toNat=L+1:=by omega
    rw [if_neg (by omega),e1,e2, ←HKK.out.1, ←HKK.out.2,if_neg hk]
   clear HER HKK
   go_wp2_with (first
    | (go_at_call 140;refine(HMA.out L (by omega) _ HB4.out).mono ?_;rintro e v5 ⟨rfl,hk5⟩;have HP5:Hid (PenTo w pb b cap oo (moveP p r L) v5):=hk5;clear hk5)
    | (go_at_call 134;refine(write_from HP5.out ⟨#[27,91,49,75]⟩ (by have:=HLN.out L (by omega);show (moveP p r L).out.length+4≤1048576;omega) [27,91,49,75] rfl).mono ?_;rintro e v6 ⟨rfl,hk6⟩;have HP6:Hid (PenTo w pb b cap oo ⟨(moveP p r L).out++[27,91,49,75],(moveP p r L).g⟩ v6):=hk6;obtain⟨o6,c6,hp6,_⟩:=hk6;obtain⟨v7,r7,h7,g7⟩:=run_clear4 v6 0 b p.g.n p.g.f hp6.scr P (L+1) (cap - P) (some ⟨b,P*4,none⟩) (by omega) (fun _=>rfl);have HS7:Hid (Scr v7 b p.g.n (clrF p.g.f P (P+(L+1)))):=h7;have HG7:Hid (v6.grownBy v7 (some b)):=g7;clear hp6 h7 g7))
   go_end0
   refine⟨rfl,?_⟩
   rw [HE.out]
   exact HP6.out.clear HS7.out HG7.out
end Go.Proofs.YtjikokfjnbhngaaGreatDoor

/- The pen's colours in the making: the payload, and the cells laid so far. -/
namespace Go.Proofs.YtjikokfjnbhngaaGreatDoor
open Go.RowKit
set_option maxRecDepth 100000
def colK (g:Gr) (want:Nat→Cel) (P c k:Nat):Gr:={g with f:=colF g.f want P c k}
structure ColInv (w wr:World) (pb b cap:Nat) (oo:Option Addr) (oc:Nat) (l:List UInt8) (g:Gr) (want:Nat→Cel) (P c k m:Nat) (pa:Option Addr) (pc:Nat):Prop where
 pen:PenIn wr pb b cap oo oc ⟨l,colK g want P c k⟩
 grown:w.grownBy wr (some b)
 pay:wr.ownsRow w.heap.size 5 1 (.slice pa m pc) m (bytesV (paysD g.f want P c m))
 plt:pb < w.heap.size
 blt:b < w.heap.size
 olt:∀ i,blkD oo=some i→i < w.heap.size
variable {w wr : World} {pb b cap : Nat} {oo : Option Addr} {oc : Nat} {l : List UInt8} {g : Gr} {want : Nat → Cel} {P c k m : Nat} {pa : Option Addr} {pc : Nat}
theorem ColInv.later (h:ColInv w wr pb b cap oo oc l g want P c k m pa pc) {w':World} (hb:Below wr.heap.size wr w'):ColInv w w' pb b cap oo oc l g want P c k m pa pc:=
 ⟨h.pen.later hb,grown_trans h.grown (Below.toGrown hb _),h.pay.kept (Below.toGrown hb none) (by cases hv:Value.ownBlock (.slice pa m pc) <;>simp),h.plt,h.blt,h.olt⟩
theorem ColInv.kept (h:ColInv w wr pb b cap oo oc l g want P c k m pa pc):Kept w wr pb b oo oo:=
 ⟨h.grown.os,h.grown.tape,h.grown.output,h.grown.size,fun i hi _ h2 _=>h.grown.block i hi (fun e=>h2 (Option.some.inj e)),.inl rfl⟩
theorem ColInv.pne (h:ColInv w wr pb b cap oo oc l g want P c k m pa pc):blkD pa≠some b:=fun e=>by
 obtain⟨cur,hc⟩:=own_tag h.pay e
 obtain⟨cur2,hc2,_⟩:=h.pen.scr
 exact ne_tag hc hc2 tagBC rfl
theorem ColInv.same (h:ColInv w wr pb b cap oo oc l g want P c k m pa pc) (hk:lackB (g.f (P+(c+k))) (want (c+k))=false):ColInv w wr pb b cap oo oc l g want P c (k+1) m pa pc:=by
 refine⟨?_,h.grown,h.pay,h.plt,h.blt,h.olt⟩
 have:=h.pen
 unfold colK at this ⊢
 rw [colF_have hk]
 exact this
theorem ColInv.put (h:ColInv w wr pb b cap oo oc l g want P c k m pa pc) (hk:lackB (g.f (P+(c+k))) (want (c+k))=true) (hn:P+(c+k) < g.n) (o0 o1 o2 o3:Nat) (e0:o0=(P+(c+k))*4) (e1:o1=(P+(c+k))*4+1) (e2:o2=(P+(c+k))*4+2) (e3:o3=(P+(c+k))*4+3) (x:Cel) (hx:x=want (c+k)):
  ColInv w ((((wr.setCell ⟨b,o0,none⟩ (.int .i64 x.ch)).setCell ⟨b,o1,none⟩ (.int .i64 x.ink)).setCell ⟨b,o2,none⟩ (.int .i64 x.pic)).setCell ⟨b,o3,none⟩ (.bool x.bold)) pb b cap oo oc l g want P c (k+1) m pa pc:=by
 refine⟨?_,grown_put h.grown,own_setD (own_setD (own_setD (own_setD h.pay h.pne _) h.pne _) h.pne _) h.pne _,h.plt,h.blt,h.olt⟩
 have:=h.pen.put (P+(c+k)) o0 o1 o2 o3 x hn e0 e1 e2 e3
 unfold colK at this ⊢
 rw [colF_lack hk, ←hx]
 exact this
theorem wpList_append_col {wx:World} {ops:Array Oper} {rest:List Oper} {o:Oper} {a:Act} {Q:Exit→Act→World→Prop} (hgd:o.guard=none) (sl x:Operand)
  (ho:o.op=.call {callee:=.builtin .append,args:=#[sl,x],argTypes:=#[165,165]})
  (h:ColInv w wx pb b cap oo oc l g want P c (m+1) m pa pc) (y:Int) (hy:y=((payD g.f want P (c+m)).toNat:Int)) (hm:m≤100) (hs:a.eval sl=.slice pa m pc) (B:Nat) (hB:B=wx.heap.size) (hx:a.eval x=.slice (some ⟨B,0,none⟩) 1 1)
  (hk:∀ g' cap' w',Hid (ColInv w w' pb b cap oo oc l g want P c (m+1) (m+1) (some ⟨g',0,none⟩) cap')→wpList Tryz.prog ops Q rest (a.put o.dst (.slice (some ⟨g',0,none⟩) (m+1) cap')) w'):wpList Tryz.prog ops Q (o::rest) a (wx.alloc (.cells #[.int .u8 y] 5)):=by
 subst hB
 subst hy
 obtain⟨i,hi,hz0,hz1,hz2⟩:=info_parts info5
 have hsz:=h.grown.size
 have hbe:=below1 wx (.cells #[.int .u8 ((payD g.f want P (c+m)).toNat:Int)] 5)
 refine wpList_append_lies _ hgd sl x 165 ho w.heap.size 5 i (.int .u8 0) 1 1 Tryz.underlying165 hi hz0 hz1 hz2 rfl (by decide) (.slice pa m pc) m _ hs (h.pay.alloc _) ⟨wx.heap.size,0,none⟩ 1 1 [.int .u8 ((payD g.f want P (c+m)).toNat:Int)] hx rfl ?_ ?_ (by decide) (by unfold maxLen;omega) (by omega) (by simp;omega) (wx.heap.size+1) (by simp) ?_
 ·exact World.news_of_block (at_new wx _)
 ·intro u hu
  simp only [List.mem_singleton] at hu
  subst hu
  rfl
 ·intro g' cap' w' hown hgrow _ _
  rw [ownBlock_D] at hgrow
  have h1:=h.later hbe
  have hp:=h1.pen
  have hlo:∀ k,blkD pa=some k→w.heap.size≤k:=fun k hk=>(h.pay.lt k (by rw [ownBlock_D];exact hk)).1
  have hne:∀ i,i < w.heap.size→some i≠blkD pa:=fun i hi e=>by have:=hlo i e.symm;omega
  refine hk g' cap' w' ⟨⟨?_,?_,?_⟩,?_,?_,h.plt,h.blt,h.olt⟩
  ·exact grown_block hgrow hp.box (hne _ h.plt)
  ·refine hp.own.kept hgrow ?_
   rw [ownBlock_D]
   cases ho:blkD oo with
   | none=>exact .inl rfl
   | some j=>exact .inr (hne j (h.olt j ho))
  ·exact hp.scr.grown hgrow (hne _ h.blt)
  ·exact⟨hgrow.os.trans h1.grown.os,hgrow.tape.trans h1.grown.tape,hgrow.output.trans h1.grown.output,Nat.le_trans h1.grown.size hgrow.size,fun i hi hb=>(hgrow.block i (Nat.lt_of_lt_of_le hi h1.grown.size) (hne i hi)).trans (h1.grown.block i hi hb)⟩
  ·rw [paysD_succ,bytesV_append]
   exact hown
end Go.Proofs.YtjikokfjnbhngaaGreatDoor

/- The pen lays colours. -/
namespace Go.Proofs.YtjikokfjnbhngaaGreatDoor
open Go.RowKit
set_option maxRecDepth 100000
theorem run_text (w:World) (base n oc:Nat) (oo:Option Addr) (l:List UInt8) (hn:n=l.length) (h:w.ownsRow base 5 1 (.slice oo n oc) n (bytesV l)):(convert 165 9 (.slice oo n oc)).run Tryz.prog w=.ok (.string (bs l)) w:=by
 subst hn
 rw [run_convert_bytes_string w 165 9 5 oo l.length oc Tryz.underlying165 Tryz.underlying5 Tryz.underlying9]
 rcases h.2 with ⟨hv,h0⟩ | ⟨g,c,cur,hv,_,hg,hc,_,hs,ht⟩
 ·simp only [Value.slice.injEq] at hv
  obtain⟨rfl,_,rfl⟩:=hv
  have:l=[]:=List.length_eq_zero_iff.1 h0
  subst this
  simp [Conv.bytesToString]
  rfl
 ·simp only [Value.slice.injEq] at hv
  obtain⟨rfl,_,rfl⟩:=hv
  have hm:bytesV l=(l.map fun b:UInt8=>(b.toNat:Int)).map (Value.int .u8):=by simp [bytesV]
  have hl:=run_loadCells_list (P:=Tryz.prog) w ⟨g,0,none⟩ (bytesV l) (h.cells (g:=g) rfl)
  have hlen:(bytesV l).length=l.length:=by simp [bytesV]
  rw [hlen,hm] at hl
  rw [run_bytesToString w ⟨g,0,none⟩ l.length oc _ hl]
  congr 2
  have key:∀ (l:List UInt8) (s:ByteArray),(l.map fun b:UInt8=>(b.toNat:Int)).foldl (fun r n=>r.push (UInt8.ofNat n.toNat)) s=⟨s.data++l.toArray⟩:=by
   intro l
   induction l with
   | nil=>intro s;simp
   | cons x r ih=>
    intro s
    rw [List.map_cons,List.foldl_cons,ih]
    apply ByteArray.ext
    simp [ByteArray.push]
  rw [key]
  apply ByteArray.ext
  simp [ByteArray.empty,ByteArray.emptyWithCapacity]
  rfl
set_option maxHeartbeats 1500000 in
theorem colour_pen (pb b cap:Nat) (oo:Option Addr) (oc:Nat) (p:Pen) (ok:OkG p.g) (hcap:p.g.n≤cap) (hcol:p.g.col < p.g.wide) (want:Nat→Cel) (hgood:∀ j,j < p.g.wide.toNat→goodC (want j)=true) (aw:Option Addr) (cw:Nat) (W:Nat) (hW:W=p.g.wide.toNat) (_hcw:W≤cw) (hl:p.out.length≤100000) (w:World) (h:PenIn w pb b cap oo oc p)
  (hw:∀ w' o',Kept w w' pb b oo o'→RdS w' aw W want):
  Calls Tryz.prog 142 #[.pointer (some ⟨pb,0,none⟩),.slice aw W cw] w fun e w'=>e=.returned (.tuple #[])∧PenTo w pb b cap oo (colourP p want) w':=by
 have w1:=ok.w1
 have w2:=ok.w2
 have r1:=ok.r1
 have r2:=ok.r2
 have k1:=ok.c1
 have hW24:W≤24:=by omega
 obtain⟨bw,ow,rfl,_⟩:=(hw w oo (Kept.refl _ _ _ _)).resolve_left (by omega)
 obtain⟨R,hR⟩:∃ R:Nat,(R:Int)=p.g.row:=⟨p.g.row.toNat,by omega⟩
 obtain⟨C,hC⟩:∃ C:Nat,(C:Int)=p.g.col:=⟨p.g.col.toNat,by omega⟩
 obtain⟨P,hP⟩:∃ P,P=R*W:=⟨_,rfl⟩
 have hPr:P=rowAt p.g:=by
  rw [hP,hW]
  unfold rowAt
  rw [←hR,row_nat R p.g.wide (by omega)]
 have hCc:C=p.g.col.toNat:=by omega
 have hCW:C < W:=by omega
 have hPn:P+W≤p.g.n:=by
  have h1:=size_nat ok
  have h2:(R+1)*W≤p.g.high.toNat*W:=Nat.mul_le_mul_right _ (by omega)
  rw [Nat.succ_mul] at h2
  rw [h1, ←hW]
  omega
 have HCE:Hid (∀ w,Calls Tryz.prog 139 #[gval p.g (some ⟨b,0,none⟩) cap,.int .i64 p.g.row] w fun e w'=>e=.returned (.slice (some ⟨b,P*4,none⟩) W (cap - P))∧w'=w.alloc (gbox p.g (some ⟨b,0,none⟩) cap)):=fun w=>by
  have:=cells_any p.g ok b 0 cap R (by omega) hcap w
  rw [Nat.zero_add, ←hW, ←hP,hR] at this
  exact this
 have HEND:Hid (colourP p want=⟨p.out++27::80::(Lib.trimRightB (paysD p.g.f want P C (W - C)) 32++[27,92]),colK p.g want P C (W - C)⟩):=by
  show colourP p want=_
  unfold colourP colBytes colG colK leftD
  rw [←hPr, ←hCc, ←hW]
 have HST:Hid (ColInv w (w.alloc (gbox p.g (some ⟨b,0,none⟩) cap)).drew pb b cap oo oc p.out p.g want P C 0 0 none 0):=by
  have hb:=redrew (below1 w (gbox p.g (some ⟨b,0,none⟩) cap))
  refine⟨?_,Below.toGrown hb _,World.ownsRow_nil _ _ _ _,h.lt,h.blt,fun i hi=>h.olt hi⟩
  unfold colK
  rw [colF_zero]
  exact h.later hb
 have HGD:Hid (∀ j,j < W→goodC (want j)=true):=by rw [hW];exact hgood
 have HRW:Hid (∀ w' o',Kept w w' pb b oo o'→RdS w' (some ⟨bw,ow,none⟩) W want):=hw
 obtain⟨⟨c0,c1,c2,c3,c4,c5,c6,c7,c8,c9⟩,cf⟩:=ten h.box
 have hlt:=h.lt
 have HP0:Hid (PenIn w pb b cap oo oc p):=h
 rw [←hC] at c5
 clear h hw hgood hW hR hP hPr hCc ok hcol k1 r1 r2
 have HC:Hid ((C:Int)=p.g.col):=hC
 clear hC
 go_enter Tryz.func142,Tryz.ntmps142
 go_wp2_with fail
 go_region_held3 (fun w'=>w'.cell? ⟨pb,1,none⟩=some (.int .i64 p.g.wide)∧w'.cell? ⟨pb,2,none⟩=some (.int .i64 p.g.high)∧w'.cell? ⟨pb,3,none⟩=some (.slice (some ⟨b,0,none⟩) p.g.n cap)∧w'.cell? ⟨pb,4,none⟩=some (.int .i64 p.g.row)∧w'.cell? ⟨pb,5,none⟩=some (.int .i64 C)∧w'.cell? ⟨pb,6,none⟩=some (.int .i64 p.g.ink)∧w'.cell? ⟨pb,7,none⟩=some (.bool p.g.bold)∧w'.cell? ⟨pb,8,none⟩=some (.int .i64 p.g.top)∧w'.cell? ⟨pb,9,none⟩=some (.int .i64 p.g.bottom)) (first | go_keep | (simp [*,World.cell?_alloc_past]))
  ((go_at_call 139;rw [HC.out];go_must (go_fit (HCE.out w.drew));rintro e v1 ⟨rfl,rfl⟩))
 go_wp2_with fail
 go_loopw [5,6] (fun pv cv wr=>∃ (J k:Nat) (pa:Option Addr) (pc:Nat),J=C+k∧J≤W∧cv=.int .i64 J∧pv=.slice pa k pc∧ColInv w wr pb b cap oo oc p.out p.g want P C k k pa pc) (fun _ cv _=>W - (intOf cv).toNat)
 case atStart=>exact⟨C,0,none,0,rfl,by omega,rfl,rfl,HST.out⟩
 case round=>
  obtain⟨J,k,pa,pc,hJ,hJW,rfl,rfl,hinv⟩:=hrel
  have HI:Hid (ColInv w wr pb b cap oo oc p.out p.g want P C k k pa pc):=hinv
  have HJ:Hid (J=C+k):=hJ
  clear HST c0 c1 c2 c3 c4 c5 c6 c7 c8 c9 cf
  by_cases hlt:J < W
  ·obtain⟨bw',ow',e,hcw'⟩:=(HRW.out wr oo hinv.kept).resolve_left (by omega)
   simp only [Option.some.injEq,Addr.mk.injEq,and_true] at e
   obtain⟨rfl,rfl⟩:=e
   obtain⟨t0,t1,t2,t3⟩:=hcw' J hlt
   have hPJ:P+J < p.g.n:=by omega
   obtain⟨s0,s1,s2,s3⟩:=hinv.pen.scr.cells (P+J) hPJ
   have hfJ:(colK p.g want P C k).f (P+J)=p.g.f (P+J):=by
    unfold colK colF
    simp only
    rw [if_neg (by omega)]
   simp only [hfJ] at s0 s1 s2 s3
   have hoff:(P+J)*4=P*4+J*4:=by omega
   rw [hoff] at s0 s1 s2 s3
   obtain⟨y,hy⟩:∃ y,y=p.g.f (P+J):=⟨_,rfl⟩
   obtain⟨x,hx⟩:∃ x,x=want J:=⟨_,rfl⟩
   rw [←hy] at s0 s1 s2 s3
   rw [←hx] at t0 t1 t2 t3
   have hfr:∀ j,wr.frozen? ⟨b,j,none⟩=false:=hinv.pen.scr.free
   have hblt:=hinv.pen.blt
   have hwlt:=World.block_lt_of_cell? _ _ t0
   simp only at hwlt
   have hlt':(J:Int) < (W:Int):=by omega
   have hJ0:(0:Int)≤(J:Int):=by omega
   have hcp:W≤cap - P:=by omega
   obtain⟨q,hq⟩:∃ q,q=celB y x:=⟨_,rfl⟩
   have E2:∀ w,(binOp .neq 66 (.agg #[.int .i64 y.ch,.int .i64 y.ink,.int .i64 y.pic,.bool y.bold]) (.agg #[.int .i64 x.ch,.int .i64 x.ink,.int .i64 x.pic,.bool x.bold])).run Tryz.prog w=.ok (.bool !q) w:=fun w=>by rw [hq];exact neq_cell y x w
   have HLB:Hid (lackB (p.g.f (P+(C+k))) (want (C+k))=(decide (0 < x.pic) && !q)):=by
    show lackB _ _=_
    rw [←hJ, ←hy, ←hx,hq]
    rfl
   have HPD:Hid (payD p.g.f want P (C+k)=if (decide (0 < x.pic) && !q)=true then UInt8.ofNat (96+x.pic).toNat else 32):=by
    show payD _ _ _ _=_
    unfold payD
    rw [HLB.out, ←hJ, ←hx]
   have hx8:0 < x.pic→x.pic≤8:=fun hp=>(good_pic (by rw [hx];exact HGD.out J hlt) hp).2
   have HXW:Hid (x=want (C+k)):=by rw [←hJ];exact hx
   have hk100:k≤100:=by omega
   clear hinv hcw' hy hx hq hfJ hJ
   by_cases hp:0 < x.pic
   ·have hp8:=hx8 hp
    clear hx8
    cases q
    ·have HB32:Hid ((96+x.pic:Int)=((payD p.g.f want P (C+k)).toNat:Int)):=by
      show (96+x.pic:Int)=_
      rw [HPD.out]
      simp [hp]
      omega
     go_wp2_with fail
     go_quiet (fail)
     have hd1:Below wr.heap.size wr ((wr.alloc (cbox x)).drewN nq):=below_drewN (below1 _ _) _
     have HI1:Hid (ColInv w ((wr.alloc (cbox x)).drewN nq) pb b cap oo oc p.out p.g want P C k k pa pc):=HI.out.later hd1
     obtain⟨⟨z0,z1,z2,z3⟩,zf⟩:=four (show ((wr.alloc (cbox x)).drewN nq).heap[wr.heap.size]?=some (cbox x) from at_new wr _)
     have y0:=HI1.out.pen.scr.cells (P+J) hPJ
     rw [hoff] at y0
     obtain⟨y0,y1,y2,y3⟩:=y0
     have hfr1:=HI1.out.pen.scr.free
     have hne:wr.heap.size≠b:=by omega
     have hne2:b≠wr.heap.size:=by omega
     generalize (wr.alloc (cbox x)).drewN nq=W1 at*
     obtain⟨Z,hZ⟩:∃ Z,Z=(colK p.g want P C k).f (P+J):=⟨_,rfl⟩
     simp only [←hZ] at y0 y1 y2 y3
     clear hZ hd1 s0 s1 s2 s3 t0 t1 t2 t3 hfr HI E2
     have HM:Hid (ColInv w ((((W1.setCell ⟨b,P*4+J*4,none⟩ (.int .i64 x.ch)).setCell ⟨b,P*4+J*4+1,none⟩ (.int .i64 x.ink)).setCell ⟨b,P*4+J*4+2,none⟩ (.int .i64 x.pic)).setCell ⟨b,P*4+J*4+3,none⟩ (.bool x.bold)) pb b cap oo oc p.out p.g want P C (k+1) k pa pc):=by
      have hJ:=HJ.out
      exact HI1.out.put (by rw [HLB.out];simp [hp]) (by omega) _ _ _ _ (by omega) (by omega) (by omega) (by omega) x HXW.out
     have HB33:Hid ((97+x.pic - 1:Int)=((payD p.g.f want P (C+k)).toNat:Int)):=by
      show (97+x.pic - 1:Int)=_
      rw [←HB32.out]
      omega
     clear HI1 HB32
     go_wp2_with (first
      | (at_builtin;refine wpList_append_col rfl _ _ rfl HM.out _ HB33.out hk100 rfl _ (by simp) rfl ?_)
      | go_in)
     intro g' cap' wz HZ
     go_wp2
     go_roundw
     case rel=>exact⟨J+1,k+1,some ⟨g',0,none⟩,cap',by have:=HJ.out;omega,by omega,by go_num,rfl,HZ.out⟩
     case measure=>simp [intOf];omega
    ·have HM:Hid (∀ (o:Obj) (nq:Nat),ColInv w ((wr.alloc o).drewN nq) pb b cap oo oc p.out p.g want P C (k+1) k pa pc):=fun o nq=>(HI.out.same (by rw [HLB.out];simp)).later (below_drewN (below1 _ _) _)
     have HB32:Hid ((32:Int)=((payD p.g.f want P (C+k)).toNat:Int)):=by
      show (32:Int)=_
      rw [HPD.out]
      simp
     go_wp2_with fail
     go_quiet (fail)
     go_wp2_with (first
      | (at_builtin;refine wpList_append_col rfl _ _ rfl (HM.out _ _) _ HB32.out hk100 rfl _ (by simp) rfl ?_)
      | go_in)
     intro g' cap' wz HZ
     go_wp2
     go_roundw
     case rel=>exact⟨J+1,k+1,some ⟨g',0,none⟩,cap',by have:=HJ.out;omega,by omega,by go_num,rfl,HZ.out⟩
     case measure=>simp [intOf];omega
   ·have hp':x.pic≤0:=by omega
    have HM:Hid (∀ (o:Obj) (nq:Nat),ColInv w ((wr.alloc o).drewN nq) pb b cap oo oc p.out p.g want P C (k+1) k pa pc):=fun o nq=>(HI.out.same (by rw [HLB.out];simp [hp])).later (below_drewN (below1 _ _) _)
    have HB32:Hid ((32:Int)=((payD p.g.f want P (C+k)).toNat:Int)):=by
     show (32:Int)=_
     rw [HPD.out]
     simp [hp]
    have hd:decide (0 < x.pic)=false:=by simpa using hp'
    clear hx8 hp
    go_wp2_with fail
    go_quiet (fail)
    go_wp2_with (first
     | (at_builtin;refine wpList_append_col rfl _ _ rfl (HM.out _ _) _ HB32.out hk100 rfl _ (by simp) rfl ?_)
     | go_in)
    intro g' cap' wz HZ
    go_wp2
    go_roundw
    case rel=>exact⟨J+1,k+1,some ⟨g',0,none⟩,cap',by have:=HJ.out;omega,by omega,by go_num,rfl,HZ.out⟩
    case measure=>simp [intOf];omega
  ·have HIE:Hid (ColInv w wr pb b cap oo oc p.out p.g want P C (W - C) (W - C) pa pc∧k=W - C):=by
    have:k=W - C:=by omega
    rw [←this]
    exact⟨HI.out,rfl⟩
   obtain⟨pays,hpays⟩:∃ l,l=paysD p.g.f want P C (W - C):=⟨_,rfl⟩
   have hpl:pays.length=W - C:=by rw [hpays];exact paysD_length _ _ _ _ _
   obtain⟨S,hS⟩:∃ S,S=bs pays:=⟨_,rfl⟩
   have hSs:S.size≤24:=by rw [hS,bs_size];omega
   have hcv:(convert 165 9 (.slice pa k pc)).run Tryz.prog wr=.ok (.string S) wr:=by
    have h1:=HIE.out.1.pay
    rw [←hpays] at h1
    rw [←HIE.out.2] at h1
    rw [hS]
    exact run_text wr _ k pc pa pays (by rw [hpl];exact HIE.out.2) h1
   obtain⟨T,hT⟩:∃ T,T=bs (Lib.trimRightB pays 32):=⟨_,rfl⟩
   have hTs:T.size≤24:=by
    obtain⟨m,hm⟩:=trim_split pays 32
    have:=congrArg List.length hm
    rw [List.length_append] at this
    rw [hT,bs_size]
    omega
   have HTR:Hid (∀ w,Calls Tryz.prog 147 #[.string S,.string ⟨#[32]⟩] w fun e w'=>e=.returned (.string T)∧w'=w):=fun w=>by
    rw [hT,hS]
    have:=Tryz.strings_TrimRight_one (bs pays) 32 (by decide) w (by rw [←hS];omega)
    rw [bs_list] at this
    exact this
   have e1:¬ 9223372036854775807 < 2+T.size:=by omega
   have e2:¬ 9223372036854775807 < 2+T.size+2:=by omega
   have HWR:Hid (Calls Tryz.prog 134 #[.pointer (some ⟨pb,0,none⟩),.string (⟨#[27,80]⟩++T++⟨#[27,92]⟩)] wr fun e w'=>e=.returned (.tuple #[])∧PenTo w pb b cap oo (colourP p want) w'):=by
    have hpt:PenTo w pb b cap oo ⟨p.out,colK p.g want P C (W - C)⟩ wr:=⟨oo,oc,HIE.out.1.pen,HIE.out.1.kept⟩
    rw [HEND.out, ←hpays]
    exact write_from hpt _ (by simp only [ByteArray.size_append];show p.out.length+(2+T.size+2)≤_;omega) _ (by rw [hT];simp)
   clear hpays hpl hS hT HIE HI HRW HEND HGD HP0 HCE hinv
   go_wp2_with (first
    | (go_at_call 147;refine(HTR.out _).mono ?_;rintro e w9 ⟨rfl,hw9⟩;subst hw9)
    | (go_at_call 134;refine HWR.out.mono ?_;rintro e w5 ⟨rfl,hk5⟩))
   go_end0
   exact⟨rfl,hk5⟩
end Go.Proofs.YtjikokfjnbhngaaGreatDoor

/- The pen shows a row. -/
namespace Go.Proofs.YtjikokfjnbhngaaGreatDoor
open Go.RowKit
set_option maxRecDepth 100000
theorem good_bounds {c:Cel} (h:goodC c=true) (hp:¬ 0 < c.pic):(0≤c.ch∧c.ch≤126)∧(0≤c.ink∧c.ink≤8):=by
 by_cases hn:celB c noCel=true
 ·rw [celB_iff] at hn
  subst hn
  decide
 ·obtain⟨_,h2,h3⟩:=good_letter h hp (by simpa using hn)
  simp only [plainN,decide_eq_true_eq] at h2
  exact⟨by omega,h3⟩
theorem cellP_eq {q:Pen} {r:Nat} {want:Nat→Cel} {j:Nat} (h:celB (q.g.f (r*q.g.wide.toNat+j)) (want j)=true):cellP q r want j=q:=by
 unfold cellP;rw [if_pos h]
theorem cellP_col {q:Pen} {r:Nat} {want:Nat→Cel} {j:Nat} (h:celB (q.g.f (r*q.g.wide.toNat+j)) (want j)=false) (hp:0 < (want j).pic):cellP q r want j=colourP (moveP q r j) want:=by
 unfold cellP;rw [if_neg (by rw [h];simp),if_pos hp]
theorem cellP_print {q:Pen} {r:Nat} {want:Nat→Cel} {j:Nat} (h:celB (q.g.f (r*q.g.wide.toNat+j)) (want j)=false) (hp:¬ 0 < (want j).pic):cellP q r want j=printP (moveP q r j) (want j):=by
 unfold cellP;rw [if_neg (by rw [h];simp),if_neg hp]
set_option maxHeartbeats 1500000 in
theorem showRow_pen (pb b cap:Nat) (oo:Option Addr) (oc:Nat) (p:Pen) (ok:OkG p.g) (hcap:p.g.n≤cap) (r:Nat) (hr:(r:Int) < p.g.high) (want:Nat→Cel) (hgood:∀ j,j < p.g.wide.toNat→goodC (want j)=true) (aw:Option Addr) (cw:Nat) (W:Nat) (hW:W=p.g.wide.toNat) (hcw:W≤cw) (hl:p.out.length≤50000) (w:World) (h:PenIn w pb b cap oo oc p)
  (hw:∀ w' o',Kept w w' pb b oo o'→RdS w' aw W want):
  Calls Tryz.prog 138 #[.pointer (some ⟨pb,0,none⟩),.int .i64 r,.slice aw W cw] w fun e w'=>e=.returned (.tuple #[])∧PenTo w pb b cap oo (rowP p r want) w':=by
 have w1:=ok.w1
 have w2:=ok.w2
 have hW24:W≤24:=by omega
 obtain⟨bw,ow,rfl,_⟩:=(hw w oo (Kept.refl _ _ _ _)).resolve_left (by omega)
 obtain⟨P,hP⟩:∃ P,P=r*W:=⟨_,rfl⟩
 have hPn:P+W≤p.g.n:=by
  have h1:=size_nat ok
  have h2:(r+1)*W≤p.g.high.toNat*W:=Nat.mul_le_mul_right _ (by omega)
  rw [Nat.succ_mul] at h2
  rw [h1, ←hW]
  omega
 -- what the pen is behind k columns
 obtain⟨Q,hQ⟩:∃ Q:Nat→Pen,Q=fun k=>cellsP (eraseP p r want) r want k:=⟨_,rfl⟩
 have HQ:Hid (∀ k,k≤W→OkG (Q k).g∧(Q k).g.wide=p.g.wide∧(Q k).g.high=p.g.high∧(Q k).g.n=p.g.n∧(Q k).out.length≤60000):=fun k hk=>by
  obtain⟨pic,hi⟩:=row_cells ok r hr want hgood k (by omega)
  obtain⟨o1,o2,o3,o4⟩:=hi.adds.ok ok
  obtain⟨m,m1,m2,_⟩:=hi.adds.more
  rw [hQ]
  refine⟨o1,o2,o3,o4,?_⟩
  show (cellsP (eraseP p r want) r want k).out.length≤60000
  rw [m1,List.length_append]
  have h1:(if atB (cellsP (eraseP p r want) r want k).g r k then 8 else 0)≤8:=by split <;>omega
  have h2:(if pic=true then 36 else 0)≤36:=by split <;>omega
  omega
 have HER:Hid (Calls Tryz.prog 141 #[.pointer (some ⟨pb,0,none⟩),.int .i64 r,.slice (some ⟨bw,ow,none⟩) W cw] w fun e w'=>e=.returned (.tuple #[])∧PenTo w pb b cap oo (Q 0) w'):=by
  rw [hQ]
  exact erase_pen pb b cap oo oc p ok hcap r hr want _ cw W hW hcw (by omega) w h (hw w oo (Kept.refl _ _ _ _))
 have HST:Hid (∀ k,Q (k+1)=cellP (Q k) r want k):=fun k=>by rw [hQ];rfl
 have HGD:Hid (∀ j,j < W→goodC (want j)=true):=by rw [hW];exact hgood
 have HRW:Hid (∀ w' o',Kept w w' pb b oo o'→RdS w' (some ⟨bw,ow,none⟩) W want):=hw
 have HROW:Hid (rowP p r want=Q W):=by show rowP p r want=_;rw [hQ];unfold rowP;rw [hW]
 have HPW:Hid (P=r*W∧W=p.g.wide.toNat):=⟨hP,hW⟩
 have hlt:=h.lt
 have HCE:Hid (∀ w,Calls Tryz.prog 139 #[gval (Q 0).g (some ⟨b,0,none⟩) cap,.int .i64 r] w fun e w'=>e=.returned (.slice (some ⟨b,P*4,none⟩) W (cap - P))∧w'=w.alloc (gbox (Q 0).g (some ⟨b,0,none⟩) cap)):=fun w=>by
  obtain⟨z1,z2,z3,z4,_⟩:=HQ.out 0 (Nat.zero_le _)
  have:=cells_any (Q 0).g z1 b 0 cap r (by rw [z3];exact hr) (by rw [z4];exact hcap) w
  rw [Nat.zero_add,z2, ←hW, ←hP] at this
  exact this
 clear h hw hgood hW hP ok hQ
 go_enter Tryz.func138,Tryz.ntmps138
 go_wp2_with (first
  | (go_at_call 141;refine HER.out.mono ?_;rintro e v1 ⟨rfl,hk1⟩;have HK1:Hid (PenTo w pb b cap oo (Q 0) v1):=hk1;obtain⟨o1,q1,hp1,_⟩:=hk1;obtain⟨⟨c0,c1,c2,c3,c4,c5,c6,c7,c8,c9⟩,cf⟩:=ten hp1.box;clear hp1)
  | (go_at_call 139;refine(HCE.out _).mono ?_;rintro e v2 ⟨rfl,rfl⟩;clear c0 c1 c2 c3 c4 c5 c6 c7 c8 c9 cf))
 go_loopw [21] (fun i wr=>∃ k:Nat,k≤W∧i=.int .i64 k∧PenTo w pb b cap oo (Q k) wr) (fun i _=>W - (intOf i).toNat)
 case atStart=>exact⟨0,Nat.zero_le _,rfl,HK1.out.alloc _⟩
 case round=>
  obtain⟨k,hk,rfl,hpt⟩:=hrel
  have HI:Hid (PenTo w pb b cap oo (Q k) wr):=hpt
  clear HER HCE HK1
  by_cases hlt:k < W
  ·obtain⟨okq,e1,e2,e3,e4⟩:=HQ.out k hk
   obtain⟨oo1,oc1,hp1,hk1⟩:=hpt
   obtain⟨bw',ow',e,hcw'⟩:=(HRW.out wr oo1 hk1).resolve_left (by omega)
   simp only [Option.some.injEq,Addr.mk.injEq,and_true] at e
   obtain⟨rfl,rfl⟩:=e
   obtain⟨t0,t1,t2,t3⟩:=hcw' k hlt
   obtain⟨s0,s1,s2,s3⟩:=hp1.scr.cells (P+k) (by rw [e3];omega)
   have hoff:(P+k)*4=P*4+k*4:=by omega
   rw [hoff] at s0 s1 s2 s3
   obtain⟨q,hq⟩:∃ q,q=Q k:=⟨_,rfl⟩
   rw [←hq] at s0 s1 s2 s3 hp1 okq e1 e2 e3 e4 HI
   obtain⟨y,hy⟩:∃ y,y=q.g.f (P+k):=⟨_,rfl⟩
   obtain⟨x,hx⟩:∃ x,x=want k:=⟨_,rfl⟩
   rw [←hy] at s0 s1 s2 s3
   rw [←hx] at t0 t1 t2 t3
   have hblt:=hp1.blt
   have hwlt:=World.block_lt_of_cell? _ _ t0
   simp only at hwlt
   have hlt':(k:Int) < (W:Int):=by omega
   have hk0:(0:Int)≤(k:Int):=by omega
   obtain⟨c,hc⟩:∃ c,c=celB y x:=⟨_,rfl⟩
   have E1:∀ w,(binOp .eql 66 (.agg #[.int .i64 y.ch,.int .i64 y.ink,.int .i64 y.pic,.bool y.bold]) (.agg #[.int .i64 x.ch,.int .i64 x.ink,.int .i64 x.pic,.bool x.bold])).run Tryz.prog w=.ok (.bool c) w:=fun w=>by rw [hc];exact eql_cell y x w
   have HCB:Hid (celB (q.g.f (r*q.g.wide.toNat+k)) (want k)=c):=by
    show celB _ _=_
    rw [e1, ←HPW.out.2, ←HPW.out.1, ←hy, ←hx]
    exact hc.symm
   have HX:Hid (x=want k∧goodC x=true):=⟨hx,by rw [hx];exact HGD.out k hlt⟩
   have HNX:Hid (Q (k+1)=cellP q r want k):=by rw [hq];exact HST.out k
   have HPI:Hid (PenIn wr pb b cap oo1 oc1 q∧Kept w wr pb b oo oo1):=⟨hp1,hk1⟩
   have HOK:Hid (OkG q.g∧q.g.wide=p.g.wide∧q.g.high=p.g.high∧q.g.n=p.g.n∧q.out.length≤60000):=⟨okq,e1,e2,e3,e4⟩
   clear hcw' hy hx hc hq hp1 hk1 okq e1 e2 e3 e4 hoff
   cases c
   ·go_wp2_with fail
    go_quiet (fail)
    have hd1:Below wr.heap.size wr ((wr.alloc (cbox x)).drewN nq):=below_drewN (below1 _ _) _
    have hsz:wr.heap.size < ((wr.alloc (cbox x)).drewN nq).heap.size:=by show wr.heap.size < (wr.alloc (cbox x)).heap.size;simp
    have hbx:((wr.alloc (cbox x)).drewN nq).heap[wr.heap.size]?=some (cbox x):=at_new wr _
    obtain⟨⟨z0,z1,z2,z3⟩,zf⟩:=four hbx
    have HMV:Hid (Calls Tryz.prog 140 #[.pointer (some ⟨pb,0,none⟩),.int .i64 r,.int .i64 k] ((wr.alloc (cbox x)).drewN nq) fun e w'=>e=.returned (.tuple #[])∧PenTo w pb b cap oo (moveP q r k) w'∧w'.heap[wr.heap.size]?=some (cbox x)):=by
     obtain⟨okq,e1,e2,e3,e4⟩:=HOK.out
     have hWw:=HPW.out.2
     refine(move_any pb b cap oo1 oc1 q okq r k (by omega) (by omega) (by omega) (by omega) (by omega) _ (HPI.out.1.later hd1)).mono fun e w' hk=>⟨hk.1,?_⟩
     obtain⟨a1,a2⟩:=at_later HPI.out.1 hd1 hk.2
     exact⟨PenTo.trans HPI.out.2 a1,(a2 _ (Nat.le_refl _) hsz).trans hbx⟩
    generalize (wr.alloc (cbox x)).drewN nq=W1 at*
    clear hd1 hsz hbx s0 s1 s2 s3 t0 t1 t2 t3 E1 HPI
    by_cases hp:0 < x.pic
    ·have HCO:Hid (∀ v,PenTo w pb b cap oo (moveP q r k) v→Calls Tryz.prog 142 #[.pointer (some ⟨pb,0,none⟩),.slice (some ⟨bw,ow,none⟩) W cw] v fun e w'=>e=.returned (.tuple #[])∧PenTo w pb b cap oo (Q (k+1)) w'):=fun v hv=>by
      obtain⟨okq,e1,e2,e3,e4⟩:=HOK.out
      have hWw:=HPW.out.2
      obtain⟨o2,c2,a2,k2⟩:=hv
      rw [HNX.out,cellP_col HCB.out (by rw [←HX.out.1];exact hp)]
      refine(colour_pen pb b cap o2 c2 (moveP q r k) (ok_toG okq r k (by omega) (by omega) (by omega) (by omega)) (by show q.g.n≤cap;omega) (by show (k:Int) < q.g.wide;omega) want (by show ∀ j,j < q.g.wide.toNat→_;rw [e1, ←hWw];exact HGD.out) _ cw W (by show W=q.g.wide.toNat;rw [e1];exact hWw) hcw ?_ v a2 (fun w' o' hk'=>HRW.out w' o' (k2.trans hk'))).mono fun e w' hk'=>⟨hk'.1,PenTo.trans k2 hk'.2⟩
      have:=(len_moveD okq r k (by omega) (by omega) (by omega) (by omega)).1
      show (q.out++moveD q.g r k).length≤100000
      rw [List.length_append]
      omega
     go_wp2_with (first
      | (go_at_call 140;refine HMV.out.mono ?_;rintro e v3 ⟨rfl,hk3,hx3⟩;have HK3:Hid (PenTo w pb b cap oo (moveP q r k) v3):=hk3;clear z0 z1 z2 z3 zf hk3;obtain⟨⟨z0,z1,z2,z3⟩,zf⟩:=four hx3;clear hx3)
      | (go_at_call 142;refine(HCO.out _ HK3.out).mono ?_;rintro e v4 ⟨rfl,hk4⟩;have HK4:Hid (PenTo w pb b cap oo (Q (k+1)) v4):=hk4;clear hk4))
     go_roundw
     case rel=>exact⟨k+1,by omega,by go_num,HK4.out⟩
     case measure=>simp [intOf];omega
    ·have hp':x.pic≤0:=by omega
     have HCO:Hid (∀ v,PenTo w pb b cap oo (moveP q r k) v→Calls Tryz.prog 143 #[.pointer (some ⟨pb,0,none⟩),cval x] v fun e w'=>e=.returned (.tuple #[])∧PenTo w pb b cap oo (Q (k+1)) w'):=fun v hv=>by
      obtain⟨okq,e1,e2,e3,e4⟩:=HOK.out
      have hWw:=HPW.out.2
      obtain⟨o2,c2,a2,k2⟩:=hv
      obtain⟨g1,g2⟩:=good_bounds HX.out.2 hp
      rw [HNX.out,cellP_print HCB.out (by rw [←HX.out.1];exact hp), ←HX.out.1]
      refine(print_any pb b cap o2 c2 (moveP q r k) (ok_toG okq r k (by omega) (by omega) (by omega) (by omega)) (by show q.g.n≤cap;omega) x g2 g1 (by show (k:Int) < q.g.wide;omega) ?_ v a2).mono fun e w' hk'=>⟨hk'.1,PenTo.trans k2 hk'.2⟩
      have:=(len_moveD okq r k (by omega) (by omega) (by omega) (by omega)).1
      show (q.out++moveD q.g r k).length≤100000
      rw [List.length_append]
      omega
     clear hp
     go_wp2_with (first
      | (go_at_call 140;refine HMV.out.mono ?_;rintro e v3 ⟨rfl,hk3,hx3⟩;have HK3:Hid (PenTo w pb b cap oo (moveP q r k) v3):=hk3;clear z0 z1 z2 z3 zf hk3;obtain⟨⟨z0,z1,z2,z3⟩,zf⟩:=four hx3;clear hx3)
      | (go_at_call 143;refine(HCO.out _ HK3.out).mono ?_;rintro e v4 ⟨rfl,hk4⟩;have HK4:Hid (PenTo w pb b cap oo (Q (k+1)) v4):=hk4;clear hk4))
     go_roundw
     case rel=>exact⟨k+1,by omega,by go_num,HK4.out⟩
     case measure=>simp [intOf];omega
   ·have HK4:Hid (∀ (o:Obj) (nq:Nat),PenTo w pb b cap oo (Q (k+1)) ((wr.alloc o).drewN nq)):=fun o nq=>by
     rw [HNX.out,cellP_eq HCB.out]
     exact PenTo.trans HPI.out.2 (HPI.out.1.stay (below_drewN (below1 _ _) _))
    go_wp2_with fail
    go_quiet (fail)
    go_wp2
    go_roundw
    case rel=>exact⟨k+1,by omega,by go_num,HK4.out _ _⟩
    case measure=>simp [intOf];omega
  ·have HFI:Hid (PenTo w pb b cap oo (rowP p r want) wr):=by
    rw [HROW.out,show W=k by omega]
    exact HI.out
   clear hpt HI
   go_wp2
   go_end0
   exact⟨rfl,HFI.out⟩
end Go.Proofs.YtjikokfjnbhngaaGreatDoor
