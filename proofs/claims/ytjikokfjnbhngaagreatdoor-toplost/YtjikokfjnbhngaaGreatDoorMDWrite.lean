/- Several texts in one, each as it was: DWrite, DNums, DNums2, DMove. -/
import Derived.Test.YtjikokfjnbhngaaGreatDoorMDRow
import Derived.Deep.AppendLies
import Derived.Test.YtjikokfjnbhngaaGreatDoorMDMach
import Derived.Deep.RegionHeld3
import Derived.Deep.QuietTactic
import Derived.BigQuiet

/- The pen writes a text. -/
namespace Go.Proofs.YtjikokfjnbhngaaGreatDoor
open Go.RowKit
theorem PenIn.wrote {w w1:World} {pb b cap:Nat} {oo oo':Option Addr} {oc oc':Nat} {p:Pen} {s:ByteArray} (h:PenIn w pb b cap oo oc p)
  (k:w1.ownsRow 0 5 1 (.slice oo' (p.out.length+s.size) oc') (p.out.length+s.size) (bytesV p.out++Lib.strCells s)∧w.grownBy w1 (blkD oo)∧(blkD oo'=blkD oo∨∃ k,blkD oo'=some k∧w.heap.size≤k)):
  PenTo w pb b cap oo ⟨p.out++s.data.toList,p.g⟩ (w1.setCell ⟨pb,0,none⟩ (.slice oo' (p.out.length+s.size) oc')):=by
 obtain⟨k1,k2,k3⟩:=k
 have hlen:(p.out++s.data.toList).length=p.out.length+s.size:=by simp
 have hbox:w1.heap[pb]?=some (pbox p.out.length oo oc p.g b cap):=grown_block k2 h.box (fun e=>h.n2 e.symm)
 have hn:blkD oo'≠some pb:=by
  rcases k3 with e | ⟨j,e,hj⟩
  ·rw [e];exact h.n2
  ·rw [e];have:=h.lt;simp;omega
 refine⟨oo',oc',⟨?_,?_,?_⟩,⟨k2.os,k2.tape,k2.output,by have:=k2.size;simpa using this,fun j hj h1 h2 h3=>?_,k3⟩⟩
 ·rw [set_cells hbox]
  show _=some (Obj.cells (pcells (p.out++s.data.toList).length oo' oc' p.g b cap) _ _)
  rw [hlen]
  rfl
 ·show World.ownsRow _ 0 5 1 (.slice oo' (p.out++s.data.toList).length oc') (p.out++s.data.toList).length (bytesV (p.out++s.data.toList))
  rw [hlen,bytesV_append, ←bytesV_str]
  refine⟨k1.1,?_⟩
  rcases k1.2 with hv | ⟨g,c,cur,hv,hb,hg,rest⟩
  ·exact .inl hv
  ·refine .inr ⟨g,c,cur,hv,hb,?_,rest⟩
   rw [Below.heap_setCell _ _ _ _ (fun e=>hn (by simp only [Value.slice.injEq] at hv;rw [hv.1];simp [blkD,e]))]
   exact hg
 ·exact(h.scr.grown k2 (fun e=>h.n3 e.symm)).set (fun e=>h.n1 e) _
 ·rw [Below.heap_setCell _ _ _ _ h1]
  exact k2.block j hj (fun e=>h3 e.symm)
set_option maxHeartbeats 1000000 in
theorem write_any (pb b cap:Nat) (oo:Option Addr) (oc:Nat) (p:Pen) (s:ByteArray) (w:World) (h:PenIn w pb b cap oo oc p) (hb:p.out.length+s.size≤1048576):
  Calls Tryz.prog 134 #[.pointer (some ⟨pb,0,none⟩),.string s] w fun e w'=>e=.returned (.tuple #[])∧PenTo w pb b cap oo ⟨p.out++s.data.toList,p.g⟩ w':=by
 have HP:Hid (PenIn w pb b cap oo oc p):=h
 have HO:Hid (w.ownsRow 0 5 1 (.slice oo p.out.length oc) p.out.length (bytesV p.out)):=h.own
 obtain⟨⟨c0,c1,c2,c3,c4,c5,c6,c7,c8,c9⟩,cf⟩:=ten h.box
 have HN:Hid (∀ w1,w.grownBy w1 (blkD oo)→w1.heap[pb]?=some (pbox p.out.length oo oc p.g b cap)):=fun w1 hg=>grown_block hg h.box (fun e=>h.n2 e.symm)
 clear h
 go_enter Tryz.func134,Tryz.ntmps134
 go_wp2_with (first | (at_builtin;refine wpList_append_str rfl _ _ rfl oo p.out.length oc (bytesV p.out) rfl HO.out s rfl hb ?_) | go_in)
 intro oo' oc' w1 HK
 obtain⟨⟨d0,_⟩,df⟩:=ten (HN.out w1 HK.out.2.1)
 have HE:=HP.out.wrote HK.out
 have HE':Hid (PenTo w pb b cap oo ⟨p.out++s.data.toList,p.g⟩ (w1.setCell ⟨pb,0,none⟩ (.slice oo' (p.out.length+s.size) oc'))):=HE
 clear HE HK HN
 go_wp2
 go_end0
 exact⟨rfl,HE'.out⟩
end Go.Proofs.YtjikokfjnbhngaaGreatDoor

/- The numbers that lead from one ink to another. -/
namespace Go.Proofs.YtjikokfjnbhngaaGreatDoor
open Go.RowKit
set_option maxRecDepth 100000
def strV (L:List ByteArray):List Value:=L.map Value.string
structure InkS (w wi:World) (G C:Array Value) (ao:Option Addr) (cap:Nat) (L:List ByteArray):Prop where
 gb:wi.heap[w.heap.size]?=some (.cells G 40 (0,0))
 cb:wi.heap[w.heap.size+1]?=some (.cells C 66 (0,0))
 own:wi.ownsRow (w.heap.size+2) 9 1 (.slice ao L.length cap) L.length (strV L)
 below:Below w.heap.size w wi
 size:w.heap.size+2≤wi.heap.size
theorem info9:(Tryz.prog.info? 9).map (fun i=>(i.zero,i.size,i.bytes))=some (some (.string ⟨#[]⟩),1,16):=by kernel_rfl
theorem wpList_append_ink {w wi:World} {G C:Array Value} {ops:Array Oper} {rest:List Oper} {o:Oper} {a:Act} {Q:Exit→Act→World→Prop} (hgd:o.guard=none) (sl x:Operand)
  (ho:o.op=.call {callee:=.builtin .append,args:=#[sl,x],argTypes:=#[194,194]})
  (ao:Option Addr) (cap n:Nat) (L:List ByteArray) (hn:n=L.length) (s:ByteArray) (h:InkS w wi G C ao cap L) (hl:n≤4) (B:Nat) (hB:B=wi.heap.size) (hs:a.eval sl=.slice ao n cap) (hx:a.eval x=.slice (some ⟨B,0,none⟩) 1 1)
  (hk:∀ g' cap' w',Hid (InkS w w' G C (some ⟨g',0,none⟩) cap' (L++[s]))→wpList Tryz.prog ops Q rest (a.put o.dst (.slice (some ⟨g',0,none⟩) (n+1) cap')) w'):wpList Tryz.prog ops Q (o::rest) a (wi.alloc (.cells #[.string s] 9)):=by
 subst hB
 subst hn
 obtain⟨i,hi,hz0,hz1,hz2⟩:=info_parts info9
 have hsz:=h.size
 refine wpList_append_lies _ hgd sl x 194 ho (w.heap.size+2) 9 i (.string ⟨#[]⟩) 1 16 Tryz.underlying194 hi hz0 hz1 hz2 rfl (by decide) (.slice ao L.length cap) L.length (strV L) hs (h.own.alloc _) ⟨wi.heap.size,0,none⟩ 1 1 [.string s] hx rfl ?_ ?_ (by decide) (by unfold maxLen;omega) (by omega) (by simp;omega) (wi.heap.size+1) (by simp) ?_
 ·exact World.news_of_block (at_new wi _)
 ·intro u hu
  simp only [List.mem_singleton] at hu
  subst hu
  rfl
 ·intro g' cap' w' hown hgrow _ _
  have hne:∀ k,k < w.heap.size+2→some k≠Value.ownBlock (.slice ao L.length cap):=fun k hk e=>by
   have:=(h.own.lt k e.symm).1
   omega
  refine hk g' cap' w' ⟨?_,?_,?_,?_,?_⟩
  ·exact grown_block hgrow (at_old h.gb _) (hne _ (by omega))
  ·exact grown_block hgrow (at_old h.cb _) (hne _ (by omega))
  ·have:strV (L++[s])=strV L++[.string s]:=by simp [strV]
   rw [this,List.length_append]
   exact hown
  ·have b2:Below w.heap.size w (wi.alloc (.cells #[.string s] 9)):=h.below.trans ((below1 wi _).mono h.below.size)
   exact b2.grown hgrow (by simp;omega) (fun k hk=>by have:=(h.own.lt k hk).1;omega)
  ·have:=hgrow.size
   simp at this
   omega
theorem join_ink {w wi:World} {G C:Array Value} {ao:Option Addr} {cap:Nat} {L:List ByteArray} (h:InkS w wi G C ao cap L) (hl:L.length≤4) (R:List (List UInt8)) (hR:L.map (·.data.toList)=R) (hj:(Lib.join R [59]).length≤100):
  Calls Tryz.prog 159 #[.slice ao L.length cap,.string ⟨#[59]⟩] wi fun e w'=>e=.returned (.string (bs (Lib.join R [59])))∧Below w.heap.size w w':=by
 subst hR
 rcases h.own.2 with ⟨hv,h0⟩ | ⟨g,c,cur,hv,_,hg,hc,_,hs,ht⟩
 ·simp only [Value.slice.injEq] at hv
  obtain⟨rfl,_,rfl⟩:=hv
  have hL:L=[]:=List.length_eq_zero_iff.1 h0
  subst hL
  refine(Tryz.strings_Join_none none 0 ⟨#[59]⟩ wi).mono ?_
  rintro e w' ⟨rfl,rfl⟩
  exact⟨rfl,h.below⟩
 ·simp only [Value.slice.injEq] at hv
  obtain⟨rfl,_,rfl⟩:=hv
  refine(Tryz.strings_Join g 0 cap L ⟨#[59]⟩ wi (fun j x hx=>?_) (Array.getElem?_eq_some_iff.1 hg).1 (by omega) hc ?_).mono ?_
  ·have hj:j < L.length:=(List.getElem?_eq_some_iff.1 hx).1
   rw [cell_of_row wi g (0+j) _ _ _ hg]
   have h1:(strV L)[j]?=some (.string x):=by simp [strV,hx]
   rw [←ht,List.getElem?_take_of_lt (by omega)] at h1
   simpa using h1
  ·exact Nat.le_trans hj (by decide)
  ·rintro e w' ⟨rfl,hb⟩
   exact⟨rfl,h.below.trans (hb.mono h.below.size)⟩
theorem ink_start (w:World) (G C:Array Value):InkS w ((w.alloc (.cells G 40)).alloc (.cells C 66)) G C none 0 []:=
 ⟨at_old (at_new w _) _,at_new1 w _ _,World.ownsRow_nil _ _ _ _,(below1 _ _).alloc (by simp) _,by simp⟩
theorem InkS.set {w wi:World} {G C:Array Value} {ao:Option Addr} {cap:Nat} {L:List ByteArray} (h:InkS w wi G C ao cap L) (j:Nat) (u:Value):InkS w (wi.setCell ⟨w.heap.size,j,none⟩ u) (G.setIfInBounds j u) C ao cap L:=by
 refine⟨set_cells h.gb u,?_,?_,h.below.setCell (Nat.le_refl _) _,by have:=h.size;simpa using this⟩
 ·rw [Below.heap_setCell _ _ _ _ (by simp)]
  exact h.cb
 ·refine⟨h.own.1,?_⟩
  rcases h.own.2 with hn | ⟨g,c,cur,hv,hb,hg,rest⟩
  ·exact .inl hn
  ·refine .inr ⟨g,c,cur,hv,hb,?_,rest⟩
   rw [Below.heap_setCell _ _ _ _ (by simp;omega)]
   exact hg
end Go.Proofs.YtjikokfjnbhngaaGreatDoor

/- The numbers that lead from one ink to another: the walks, a case each (laid by wip/tools/gen_nums.py). -/
namespace Go.Proofs.YtjikokfjnbhngaaGreatDoor
open Go.RowKit
set_option maxRecDepth 100000
theorem hit_ink (cink:Int) (h1:1≤cink) (h2:cink≤8):Hid (∀ w,Calls Tryz.prog 144 #[.int .i64 (29+cink)] w fun e w'=>e=.returned (.string (bs (Ps.dec (29+cink).toNat)))∧w'=w):=fun w=>itoa_any (29+cink) (by omega) (by omega) w
theorem hln_ink (cink:Int) (h1:1≤cink) (h2:cink≤8):Hid ((Ps.dec (29+cink).toNat).length≤2):=by show (Ps.dec (29+cink).toNat).length≤2;rw [len_ink cink h1 h2];exact Nat.le_refl _
theorem ink_open (w:World) (g:Gr) (c:Cel) (ao:Option Addr) (cap:Nat):Hid (InkS w ((w.alloc (gbox g ao cap)).alloc (.cells (ccells c) 66)) (gcells g ao cap) (ccells c) none 0 []):=ink_start w _ _
theorem ink_zero {w w1:World} {wide high:Int} {n:Nat} {f:Nat→Cel} {row col ink top bottom:Int} {d:Bool} {ao a:Option Addr} {cap q:Nat} {C:Array Value} {L:List ByteArray} (h:InkS w w1 (gcells ⟨wide,high,n,f,row,col,ink,d,top,bottom⟩ ao cap) C a q L):
  Hid (InkS w ((w1.setCell ⟨w.heap.size,5,none⟩ (.int .i64 0)).setCell ⟨w.heap.size,6,none⟩ (.bool false)) (gcells ⟨wide,high,n,f,row,col,0,false,top,bottom⟩ ao cap) C a q L):=(h.set 5 (.int .i64 0)).set 6 (.bool false)
def InkN (g:Gr) (ao:Option Addr) (cap:Nat) (c:Cel) (R:List (List UInt8)) (w:World):Prop:=Calls Tryz.prog 154 #[gval g ao cap,cval c] w fun e w'=>e=.returned (.string (bs (Lib.join R [59])))∧Below w.heap.size w w'
set_option maxHeartbeats 2000000 in
theorem nums_TF0 (wide high:Int) (n:Nat) (f:Nat→Cel) (row col top bottom ch pic:Int) (ink:Int) (ao:Option Addr) (cap:Nat) (w:World):
  InkN ⟨wide,high,n,f,row,col,ink,true,top,bottom⟩ ao cap ⟨ch,0,pic,false⟩ [[]] w:=by
 have HS0:=ink_open w ⟨wide,high,n,f,row,col,ink,true,top,bottom⟩ ⟨ch,0,pic,false⟩ ao cap
 go_enter Tryz.func154,Tryz.ntmps154
 go_wp2_with (first
  | (have _t:=HS0;at_builtin;refine wpList_append_ink rfl _ _ rfl none 0 0 [] rfl (⟨#[]⟩) HS0.out (by omega) _ (by simp) rfl rfl ?_;intro b1 q1 w1 HS1;have HZ:=ink_zero HS1.out;obtain⟨⟨x00,x01,x02,x03,x04,x05,x06,x07,x08⟩,y0⟩:=nine HS1.out.gb;obtain⟨⟨z00,z01,z02,z03⟩,v0⟩:=four HS1.out.cb;clear HS0)
  | (go_at_call 159;refine(join_ink HZ.out (by simp) [[]] (by simp) (by simp [Lib.join_cons,Lib.joinTail])).mono ?_;rintro e wj ⟨rfl,hbj⟩)
  | go_in)
 go_ret
 exact⟨rfl,hbj⟩
set_option maxHeartbeats 2000000 in
theorem nums_TF1 (wide high:Int) (n:Nat) (f:Nat→Cel) (row col top bottom ch pic:Int) (ink:Int) (cink:Int) (ao:Option Addr) (cap:Nat) (h1:1≤cink) (h2:cink≤8) (w:World):
  InkN ⟨wide,high,n,f,row,col,ink,true,top,bottom⟩ ao cap ⟨ch,cink,pic,false⟩ [[],Ps.dec (29+cink).toNat] w:=by
 have e1:(cink !=0)=true:=by simp;omega
 have HIT:=hit_ink cink h1 h2
 have HLN:=hln_ink cink h1 h2
 have HS0:=ink_open w ⟨wide,high,n,f,row,col,ink,true,top,bottom⟩ ⟨ch,cink,pic,false⟩ ao cap
 go_enter Tryz.func154,Tryz.ntmps154
 go_wp2_with (first
  | (have _t:=HZ;at_builtin;refine wpList_append_ink rfl _ _ rfl (some ⟨b1,0,none⟩) q1 1 ([]++[⟨#[]⟩]) rfl (bs (Ps.dec (29+cink).toNat)) HZ.out (by omega) _ (by simp) rfl rfl ?_;intro b2 q2 w2 HS2;obtain⟨⟨x10,x11,x12,x13,x14,x15,x16,x17,x18⟩,y1⟩:=nine HS2.out.gb;obtain⟨⟨z10,z11,z12,z13⟩,v1⟩:=four HS2.out.cb;clear HZ)
  | (have _t:=HS0;at_builtin;refine wpList_append_ink rfl _ _ rfl none 0 0 [] rfl (⟨#[]⟩) HS0.out (by omega) _ (by simp) rfl rfl ?_;intro b1 q1 w1 HS1;have HZ:=ink_zero HS1.out;obtain⟨⟨x00,x01,x02,x03,x04,x05,x06,x07,x08⟩,y0⟩:=nine HS1.out.gb;obtain⟨⟨z00,z01,z02,z03⟩,v0⟩:=four HS1.out.cb;clear HS0)
  | (go_at_call 144;refine(HIT.out _).mono ?_;rintro e w9 ⟨rfl,hw9⟩;subst hw9)
  | (go_at_call 159;refine(join_ink HS2.out (by simp) [[],Ps.dec (29+cink).toNat] (by simp) (by have:=HLN.out;simp [Lib.join_cons,Lib.joinTail];omega)).mono ?_;rintro e wj ⟨rfl,hbj⟩)
  | go_in)
 go_ret
 exact⟨rfl,hbj⟩
set_option maxHeartbeats 2000000 in
theorem nums_FF0 (wide high:Int) (n:Nat) (f:Nat→Cel) (row col top bottom ch pic:Int) (ink:Int) (ao:Option Addr) (cap:Nat) (hi:0 < ink) (w:World):
  InkN ⟨wide,high,n,f,row,col,ink,false,top,bottom⟩ ao cap ⟨ch,0,pic,false⟩ [[]] w:=by
 have HS0:=ink_open w ⟨wide,high,n,f,row,col,ink,false,top,bottom⟩ ⟨ch,0,pic,false⟩ ao cap
 go_enter Tryz.func154,Tryz.ntmps154
 go_wp2_with (first
  | (have _t:=HS0;at_builtin;refine wpList_append_ink rfl _ _ rfl none 0 0 [] rfl (⟨#[]⟩) HS0.out (by omega) _ (by simp) rfl rfl ?_;intro b1 q1 w1 HS1;have HZ:=ink_zero HS1.out;obtain⟨⟨x00,x01,x02,x03,x04,x05,x06,x07,x08⟩,y0⟩:=nine HS1.out.gb;obtain⟨⟨z00,z01,z02,z03⟩,v0⟩:=four HS1.out.cb;clear HS0)
  | (go_at_call 159;refine(join_ink HZ.out (by simp) [[]] (by simp) (by simp [Lib.join_cons,Lib.joinTail])).mono ?_;rintro e wj ⟨rfl,hbj⟩)
  | go_in)
 go_ret
 exact⟨rfl,hbj⟩
set_option maxHeartbeats 2000000 in
theorem nums_FFi (wide high:Int) (n:Nat) (f:Nat→Cel) (row col top bottom ch pic:Int) (ink:Int) (cink:Int) (ao:Option Addr) (cap:Nat) (h1:1≤cink) (h2:cink≤8) (hi:0 < ink) (hne:cink≠ink) (w:World):
  InkN ⟨wide,high,n,f,row,col,ink,false,top,bottom⟩ ao cap ⟨ch,cink,pic,false⟩ [Ps.dec (29+cink).toNat] w:=by
 have e1:(cink==0)=false:=by simp;omega
 have e2:(cink !=ink)=true:=by simpa using hne
 have HIT:=hit_ink cink h1 h2
 have HLN:=hln_ink cink h1 h2
 have HS0:=ink_open w ⟨wide,high,n,f,row,col,ink,false,top,bottom⟩ ⟨ch,cink,pic,false⟩ ao cap
 go_enter Tryz.func154,Tryz.ntmps154
 go_wp2_with (first
  | (have _t:=HS0;at_builtin;refine wpList_append_ink rfl _ _ rfl none 0 0 [] rfl (bs (Ps.dec (29+cink).toNat)) HS0.out (by omega) _ (by simp) rfl rfl ?_;intro b1 q1 w1 HS1;obtain⟨⟨x00,x01,x02,x03,x04,x05,x06,x07,x08⟩,y0⟩:=nine HS1.out.gb;obtain⟨⟨z00,z01,z02,z03⟩,v0⟩:=four HS1.out.cb;clear HS0)
  | (go_at_call 144;refine(HIT.out _).mono ?_;rintro e w9 ⟨rfl,hw9⟩;subst hw9)
  | (go_at_call 159;refine(join_ink HS1.out (by simp) [Ps.dec (29+cink).toNat] (by simp) (by have:=HLN.out;simp [Lib.join_cons,Lib.joinTail];omega)).mono ?_;rintro e wj ⟨rfl,hbj⟩)
  | go_in)
 go_ret
 exact⟨rfl,hbj⟩
set_option maxHeartbeats 2000000 in
theorem nums_FFz (wide high:Int) (n:Nat) (f:Nat→Cel) (row col top bottom ch pic:Int) (cink:Int) (ao:Option Addr) (cap:Nat) (h1:1≤cink) (h2:cink≤8) (w:World):
  InkN ⟨wide,high,n,f,row,col,0,false,top,bottom⟩ ao cap ⟨ch,cink,pic,false⟩ [Ps.dec (29+cink).toNat] w:=by
 have e1:(cink !=0)=true:=by simp;omega
 have HIT:=hit_ink cink h1 h2
 have HLN:=hln_ink cink h1 h2
 have HS0:=ink_open w ⟨wide,high,n,f,row,col,0,false,top,bottom⟩ ⟨ch,cink,pic,false⟩ ao cap
 go_enter Tryz.func154,Tryz.ntmps154
 go_wp2_with (first
  | (have _t:=HS0;at_builtin;refine wpList_append_ink rfl _ _ rfl none 0 0 [] rfl (bs (Ps.dec (29+cink).toNat)) HS0.out (by omega) _ (by simp) rfl rfl ?_;intro b1 q1 w1 HS1;obtain⟨⟨x00,x01,x02,x03,x04,x05,x06,x07,x08⟩,y0⟩:=nine HS1.out.gb;obtain⟨⟨z00,z01,z02,z03⟩,v0⟩:=four HS1.out.cb;clear HS0)
  | (go_at_call 144;refine(HIT.out _).mono ?_;rintro e w9 ⟨rfl,hw9⟩;subst hw9)
  | (go_at_call 159;refine(join_ink HS1.out (by simp) [Ps.dec (29+cink).toNat] (by simp) (by have:=HLN.out;simp [Lib.join_cons,Lib.joinTail];omega)).mono ?_;rintro e wj ⟨rfl,hbj⟩)
  | go_in)
 go_ret
 exact⟨rfl,hbj⟩
set_option maxHeartbeats 2000000 in
theorem nums_TT0 (wide high:Int) (n:Nat) (f:Nat→Cel) (row col top bottom ch pic:Int) (ink:Int) (ao:Option Addr) (cap:Nat) (hi:0 < ink) (w:World):
  InkN ⟨wide,high,n,f,row,col,ink,true,top,bottom⟩ ao cap ⟨ch,0,pic,true⟩ [[],[49]] w:=by
 have HS0:=ink_open w ⟨wide,high,n,f,row,col,ink,true,top,bottom⟩ ⟨ch,0,pic,true⟩ ao cap
 go_enter Tryz.func154,Tryz.ntmps154
 go_wp2_with (first
  | (have _t:=HZ;at_builtin;refine wpList_append_ink rfl _ _ rfl (some ⟨b1,0,none⟩) q1 1 ([]++[⟨#[]⟩]) rfl (⟨#[49]⟩) HZ.out (by omega) _ (by simp) rfl rfl ?_;intro b2 q2 w2 HS2;obtain⟨⟨x10,x11,x12,x13,x14,x15,x16,x17,x18⟩,y1⟩:=nine HS2.out.gb;obtain⟨⟨z10,z11,z12,z13⟩,v1⟩:=four HS2.out.cb;clear HZ)
  | (have _t:=HS0;at_builtin;refine wpList_append_ink rfl _ _ rfl none 0 0 [] rfl (⟨#[]⟩) HS0.out (by omega) _ (by simp) rfl rfl ?_;intro b1 q1 w1 HS1;have HZ:=ink_zero HS1.out;obtain⟨⟨x00,x01,x02,x03,x04,x05,x06,x07,x08⟩,y0⟩:=nine HS1.out.gb;obtain⟨⟨z00,z01,z02,z03⟩,v0⟩:=four HS1.out.cb;clear HS0)
  | (go_at_call 159;refine(join_ink HS2.out (by simp) [[],[49]] (by simp) (by simp [Lib.join_cons,Lib.joinTail])).mono ?_;rintro e wj ⟨rfl,hbj⟩)
  | go_in)
 go_ret
 exact⟨rfl,hbj⟩
set_option maxHeartbeats 2000000 in
theorem nums_TTi (wide high:Int) (n:Nat) (f:Nat→Cel) (row col top bottom ch pic:Int) (ink:Int) (cink:Int) (ao:Option Addr) (cap:Nat) (h1:1≤cink) (h2:cink≤8) (hi:0 < ink) (hne:cink≠ink) (w:World):
  InkN ⟨wide,high,n,f,row,col,ink,true,top,bottom⟩ ao cap ⟨ch,cink,pic,true⟩ [Ps.dec (29+cink).toNat] w:=by
 have e1:(cink==0)=false:=by simp;omega
 have e2:(cink !=ink)=true:=by simpa using hne
 have HIT:=hit_ink cink h1 h2
 have HLN:=hln_ink cink h1 h2
 have HS0:=ink_open w ⟨wide,high,n,f,row,col,ink,true,top,bottom⟩ ⟨ch,cink,pic,true⟩ ao cap
 go_enter Tryz.func154,Tryz.ntmps154
 go_wp2_with (first
  | (have _t:=HS0;at_builtin;refine wpList_append_ink rfl _ _ rfl none 0 0 [] rfl (bs (Ps.dec (29+cink).toNat)) HS0.out (by omega) _ (by simp) rfl rfl ?_;intro b1 q1 w1 HS1;obtain⟨⟨x00,x01,x02,x03,x04,x05,x06,x07,x08⟩,y0⟩:=nine HS1.out.gb;obtain⟨⟨z00,z01,z02,z03⟩,v0⟩:=four HS1.out.cb;clear HS0)
  | (go_at_call 144;refine(HIT.out _).mono ?_;rintro e w9 ⟨rfl,hw9⟩;subst hw9)
  | (go_at_call 159;refine(join_ink HS1.out (by simp) [Ps.dec (29+cink).toNat] (by simp) (by have:=HLN.out;simp [Lib.join_cons,Lib.joinTail];omega)).mono ?_;rintro e wj ⟨rfl,hbj⟩)
  | go_in)
 go_ret
 exact⟨rfl,hbj⟩
set_option maxHeartbeats 2000000 in
theorem nums_TTz (wide high:Int) (n:Nat) (f:Nat→Cel) (row col top bottom ch pic:Int) (cink:Int) (ao:Option Addr) (cap:Nat) (h1:1≤cink) (h2:cink≤8) (w:World):
  InkN ⟨wide,high,n,f,row,col,0,true,top,bottom⟩ ao cap ⟨ch,cink,pic,true⟩ [Ps.dec (29+cink).toNat] w:=by
 have e1:(cink !=0)=true:=by simp;omega
 have HIT:=hit_ink cink h1 h2
 have HLN:=hln_ink cink h1 h2
 have HS0:=ink_open w ⟨wide,high,n,f,row,col,0,true,top,bottom⟩ ⟨ch,cink,pic,true⟩ ao cap
 go_enter Tryz.func154,Tryz.ntmps154
 go_wp2_with (first
  | (have _t:=HS0;at_builtin;refine wpList_append_ink rfl _ _ rfl none 0 0 [] rfl (bs (Ps.dec (29+cink).toNat)) HS0.out (by omega) _ (by simp) rfl rfl ?_;intro b1 q1 w1 HS1;obtain⟨⟨x00,x01,x02,x03,x04,x05,x06,x07,x08⟩,y0⟩:=nine HS1.out.gb;obtain⟨⟨z00,z01,z02,z03⟩,v0⟩:=four HS1.out.cb;clear HS0)
  | (go_at_call 144;refine(HIT.out _).mono ?_;rintro e w9 ⟨rfl,hw9⟩;subst hw9)
  | (go_at_call 159;refine(join_ink HS1.out (by simp) [Ps.dec (29+cink).toNat] (by simp) (by have:=HLN.out;simp [Lib.join_cons,Lib.joinTail];omega)).mono ?_;rintro e wj ⟨rfl,hbj⟩)
  | go_in)
 go_ret
 exact⟨rfl,hbj⟩
set_option maxHeartbeats 2000000 in
theorem nums_FT0 (wide high:Int) (n:Nat) (f:Nat→Cel) (row col top bottom ch pic:Int) (ink:Int) (ao:Option Addr) (cap:Nat) (hi:0 < ink) (w:World):
  InkN ⟨wide,high,n,f,row,col,ink,false,top,bottom⟩ ao cap ⟨ch,0,pic,true⟩ [[],[49]] w:=by
 have HS0:=ink_open w ⟨wide,high,n,f,row,col,ink,false,top,bottom⟩ ⟨ch,0,pic,true⟩ ao cap
 go_enter Tryz.func154,Tryz.ntmps154
 go_wp2_with (first
  | (have _t:=HZ;at_builtin;refine wpList_append_ink rfl _ _ rfl (some ⟨b1,0,none⟩) q1 1 ([]++[⟨#[]⟩]) rfl (⟨#[49]⟩) HZ.out (by omega) _ (by simp) rfl rfl ?_;intro b2 q2 w2 HS2;obtain⟨⟨x10,x11,x12,x13,x14,x15,x16,x17,x18⟩,y1⟩:=nine HS2.out.gb;obtain⟨⟨z10,z11,z12,z13⟩,v1⟩:=four HS2.out.cb;clear HZ)
  | (have _t:=HS0;at_builtin;refine wpList_append_ink rfl _ _ rfl none 0 0 [] rfl (⟨#[]⟩) HS0.out (by omega) _ (by simp) rfl rfl ?_;intro b1 q1 w1 HS1;have HZ:=ink_zero HS1.out;obtain⟨⟨x00,x01,x02,x03,x04,x05,x06,x07,x08⟩,y0⟩:=nine HS1.out.gb;obtain⟨⟨z00,z01,z02,z03⟩,v0⟩:=four HS1.out.cb;clear HS0)
  | (go_at_call 159;refine(join_ink HS2.out (by simp) [[],[49]] (by simp) (by simp [Lib.join_cons,Lib.joinTail])).mono ?_;rintro e wj ⟨rfl,hbj⟩)
  | go_in)
 go_ret
 exact⟨rfl,hbj⟩
set_option maxHeartbeats 2000000 in
theorem nums_FTs (wide high:Int) (n:Nat) (f:Nat→Cel) (row col top bottom ch pic:Int) (ink:Int) (ao:Option Addr) (cap:Nat) (hi:0 < ink) (w:World):
  InkN ⟨wide,high,n,f,row,col,ink,false,top,bottom⟩ ao cap ⟨ch,ink,pic,true⟩ [[49]] w:=by
 have e1:(ink==0)=false:=by simp;omega
 have HS0:=ink_open w ⟨wide,high,n,f,row,col,ink,false,top,bottom⟩ ⟨ch,ink,pic,true⟩ ao cap
 go_enter Tryz.func154,Tryz.ntmps154
 go_wp2_with (first
  | (have _t:=HS0;at_builtin;refine wpList_append_ink rfl _ _ rfl none 0 0 [] rfl (⟨#[49]⟩) HS0.out (by omega) _ (by simp) rfl rfl ?_;intro b1 q1 w1 HS1;obtain⟨⟨x00,x01,x02,x03,x04,x05,x06,x07,x08⟩,y0⟩:=nine HS1.out.gb;obtain⟨⟨z00,z01,z02,z03⟩,v0⟩:=four HS1.out.cb;clear HS0)
  | (go_at_call 159;refine(join_ink HS1.out (by simp) [[49]] (by simp) (by simp [Lib.join_cons,Lib.joinTail])).mono ?_;rintro e wj ⟨rfl,hbj⟩)
  | go_in)
 go_ret
 exact⟨rfl,hbj⟩
set_option maxHeartbeats 2000000 in
theorem nums_FTt (wide high:Int) (n:Nat) (f:Nat→Cel) (row col top bottom ch pic:Int) (ao:Option Addr) (cap:Nat) (w:World):
  InkN ⟨wide,high,n,f,row,col,0,false,top,bottom⟩ ao cap ⟨ch,0,pic,true⟩ [[49]] w:=by
 have HS0:=ink_open w ⟨wide,high,n,f,row,col,0,false,top,bottom⟩ ⟨ch,0,pic,true⟩ ao cap
 go_enter Tryz.func154,Tryz.ntmps154
 go_wp2_with (first
  | (have _t:=HS0;at_builtin;refine wpList_append_ink rfl _ _ rfl none 0 0 [] rfl (⟨#[49]⟩) HS0.out (by omega) _ (by simp) rfl rfl ?_;intro b1 q1 w1 HS1;obtain⟨⟨x00,x01,x02,x03,x04,x05,x06,x07,x08⟩,y0⟩:=nine HS1.out.gb;obtain⟨⟨z00,z01,z02,z03⟩,v0⟩:=four HS1.out.cb;clear HS0)
  | (go_at_call 159;refine(join_ink HS1.out (by simp) [[49]] (by simp) (by simp [Lib.join_cons,Lib.joinTail])).mono ?_;rintro e wj ⟨rfl,hbj⟩)
  | go_in)
 go_ret
 exact⟨rfl,hbj⟩
set_option maxHeartbeats 2000000 in
theorem nums_FTi (wide high:Int) (n:Nat) (f:Nat→Cel) (row col top bottom ch pic:Int) (ink:Int) (cink:Int) (ao:Option Addr) (cap:Nat) (h1:1≤cink) (h2:cink≤8) (hi:0 < ink) (hne:cink≠ink) (w:World):
  InkN ⟨wide,high,n,f,row,col,ink,false,top,bottom⟩ ao cap ⟨ch,cink,pic,true⟩ [[49],Ps.dec (29+cink).toNat] w:=by
 have e1:(cink==0)=false:=by simp;omega
 have e2:(cink !=ink)=true:=by simpa using hne
 have HIT:=hit_ink cink h1 h2
 have HLN:=hln_ink cink h1 h2
 have HS0:=ink_open w ⟨wide,high,n,f,row,col,ink,false,top,bottom⟩ ⟨ch,cink,pic,true⟩ ao cap
 go_enter Tryz.func154,Tryz.ntmps154
 go_wp2_with (first
  | (have _t:=HS1;at_builtin;refine wpList_append_ink rfl _ _ rfl (some ⟨b1,0,none⟩) q1 1 ([]++[⟨#[49]⟩]) rfl (bs (Ps.dec (29+cink).toNat)) HS1.out (by omega) _ (by simp) rfl rfl ?_;intro b2 q2 w2 HS2;obtain⟨⟨x10,x11,x12,x13,x14,x15,x16,x17,x18⟩,y1⟩:=nine HS2.out.gb;obtain⟨⟨z10,z11,z12,z13⟩,v1⟩:=four HS2.out.cb;clear HS1)
  | (have _t:=HS0;at_builtin;refine wpList_append_ink rfl _ _ rfl none 0 0 [] rfl (⟨#[49]⟩) HS0.out (by omega) _ (by simp) rfl rfl ?_;intro b1 q1 w1 HS1;obtain⟨⟨x00,x01,x02,x03,x04,x05,x06,x07,x08⟩,y0⟩:=nine HS1.out.gb;obtain⟨⟨z00,z01,z02,z03⟩,v0⟩:=four HS1.out.cb;clear HS0)
  | (go_at_call 144;refine(HIT.out _).mono ?_;rintro e w9 ⟨rfl,hw9⟩;subst hw9)
  | (go_at_call 159;refine(join_ink HS2.out (by simp) [[49],Ps.dec (29+cink).toNat] (by simp) (by have:=HLN.out;simp [Lib.join_cons,Lib.joinTail];omega)).mono ?_;rintro e wj ⟨rfl,hbj⟩)
  | go_in)
 go_ret
 exact⟨rfl,hbj⟩
set_option maxHeartbeats 2000000 in
theorem nums_FTz (wide high:Int) (n:Nat) (f:Nat→Cel) (row col top bottom ch pic:Int) (cink:Int) (ao:Option Addr) (cap:Nat) (h1:1≤cink) (h2:cink≤8) (w:World):
  InkN ⟨wide,high,n,f,row,col,0,false,top,bottom⟩ ao cap ⟨ch,cink,pic,true⟩ [[49],Ps.dec (29+cink).toNat] w:=by
 have e1:(cink !=0)=true:=by simp;omega
 have HIT:=hit_ink cink h1 h2
 have HLN:=hln_ink cink h1 h2
 have HS0:=ink_open w ⟨wide,high,n,f,row,col,0,false,top,bottom⟩ ⟨ch,cink,pic,true⟩ ao cap
 go_enter Tryz.func154,Tryz.ntmps154
 go_wp2_with (first
  | (have _t:=HS1;at_builtin;refine wpList_append_ink rfl _ _ rfl (some ⟨b1,0,none⟩) q1 1 ([]++[⟨#[49]⟩]) rfl (bs (Ps.dec (29+cink).toNat)) HS1.out (by omega) _ (by simp) rfl rfl ?_;intro b2 q2 w2 HS2;obtain⟨⟨x10,x11,x12,x13,x14,x15,x16,x17,x18⟩,y1⟩:=nine HS2.out.gb;obtain⟨⟨z10,z11,z12,z13⟩,v1⟩:=four HS2.out.cb;clear HS1)
  | (have _t:=HS0;at_builtin;refine wpList_append_ink rfl _ _ rfl none 0 0 [] rfl (⟨#[49]⟩) HS0.out (by omega) _ (by simp) rfl rfl ?_;intro b1 q1 w1 HS1;obtain⟨⟨x00,x01,x02,x03,x04,x05,x06,x07,x08⟩,y0⟩:=nine HS1.out.gb;obtain⟨⟨z00,z01,z02,z03⟩,v0⟩:=four HS1.out.cb;clear HS0)
  | (go_at_call 144;refine(HIT.out _).mono ?_;rintro e w9 ⟨rfl,hw9⟩;subst hw9)
  | (go_at_call 159;refine(join_ink HS2.out (by simp) [[49],Ps.dec (29+cink).toNat] (by simp) (by have:=HLN.out;simp [Lib.join_cons,Lib.joinTail];omega)).mono ?_;rintro e wj ⟨rfl,hbj⟩)
  | go_in)
 go_ret
 exact⟨rfl,hbj⟩
end Go.Proofs.YtjikokfjnbhngaaGreatDoor

/- The pen moves. -/
namespace Go.Proofs.YtjikokfjnbhngaaGreatDoor
open Go.RowKit
set_option maxRecDepth 100000
theorem undrew {w w1:World} {B:Nat} (h:Below B w.drew w1):Below B w w1:=⟨h.os,h.tape,h.output,h.size,h.block⟩
theorem own_setD {w:World} {base n oc:Nat} {oo:Option Addr} {xs:List Value} (h:w.ownsRow base 5 1 (.slice oo n oc) n xs) {p:Addr} (hp:blkD oo≠some p.block) (u:Value):(w.setCell p u).ownsRow base 5 1 (.slice oo n oc) n xs:=by
 refine⟨h.1,?_⟩
 rcases h.2 with hn | ⟨g,c,cur,hv,hb,hg,rest⟩
 ·exact .inl hn
 ·refine .inr ⟨g,c,cur,hv,hb,?_,rest⟩
  rw [Below.heap_setCell _ _ _ _ (fun e=>hp (by simp only [Value.slice.injEq] at hv;rw [hv.1];simp [blkD,e]))]
  exact hg
theorem Kept.set {w w1:World} {pb b:Nat} {oo o1:Option Addr} (h:Kept w w1 pb b oo o1) (j:Nat) (u:Value):Kept w (w1.setCell ⟨pb,j,none⟩ u) pb b oo o1:=
 ⟨h.os,h.tape,h.output,by have:=h.size;simpa using this,fun k hk h1 h2 h3=>(Below.heap_setCell _ _ _ _ h1).trans (h.block k hk h1 h2 h3),h.fresh⟩
theorem PenTo.set2 {w w3:World} {pb b cap:Nat} {oo:Option Addr} {l:List UInt8} {g x:Gr} (h:PenTo w pb b cap oo ⟨l,g⟩ w3) (i j:Nat) (u v:Value)
  (hn:x.n=g.n) (hf:x.f=g.f) (hx:∀ oo oc,((pcells l.length oo oc g b cap).setIfInBounds i u).setIfInBounds j v=pcells l.length oo oc x b cap):
  PenTo w pb b cap oo ⟨l,x⟩ ((w3.setCell ⟨pb,i,none⟩ u).setCell ⟨pb,j,none⟩ v):=by
 obtain⟨o',c',hp,hk⟩:=h
 refine⟨o',c',⟨?_,own_setD (own_setD hp.own hp.n2 _) hp.n2 _,?_⟩,(hk.set i u).set j v⟩
 ·rw [set_cells (set_cells hp.box _) _,hx]
 ·show Scr _ b x.n x.f
  rw [hn,hf]
  exact(hp.scr.set hp.n1 _).set hp.n1 _
theorem PenTo.moved {w w3:World} {pb b cap:Nat} {oo:Option Addr} {l:List UInt8} {g:Gr} (h:PenTo w pb b cap oo ⟨l,g⟩ w3) (r c:Int):
  PenTo w pb b cap oo ⟨l,toG g r c⟩ ((w3.setCell ⟨pb,4,none⟩ (.int .i64 r)).setCell ⟨pb,5,none⟩ (.int .i64 c)):=
 h.set2 4 5 _ _ rfl rfl (fun _ _=>rfl)
theorem PenTo.drew {w w':World} {pb b cap:Nat} {oo:Option Addr} {q:Pen} (h:PenTo w pb b cap oo q w'):PenTo w pb b cap oo q w'.drew:=by
 obtain⟨o',c',a,k⟩:=h
 exact⟨o',c',⟨a.box,a.own.drew,a.scr⟩,⟨k.os,k.tape,k.output,k.size,k.block,k.fresh⟩⟩
theorem at_later {w w1 w':World} {pb b cap:Nat} {oo:Option Addr} {oc:Nat} {p q:Pen} (h:PenIn w pb b cap oo oc p) (hb:Below w.heap.size w w1) (hk:PenTo w1 pb b cap oo q w'):PenTo w pb b cap oo q w'∧∀ k,w.heap.size≤k→k < w1.heap.size→w'.heap[k]?=w1.heap[k]?:=by
 refine⟨PenTo.trans (Kept.below pb b oo hb) hk,fun k h1 h2=>?_⟩
 obtain⟨_,_,_,z⟩:=hk
 exact z.block k h2 (by have:=h.lt;omega) (by have:=h.blt;omega) (fun e=>by have:=h.olt e;omega)
theorem write_at {w w1:World} {pb b cap:Nat} {oo:Option Addr} {oc:Nat} {p:Pen} (h:PenIn w pb b cap oo oc p) (hb:Below w.heap.size w w1) (S:ByteArray) (hS:p.out.length+S.size≤1048576) (l:List UInt8) (hl:S.data.toList=l):
  Calls Tryz.prog 134 #[.pointer (some ⟨pb,0,none⟩),.string S] w1 fun e w'=>e=.returned (.tuple #[])∧PenTo w pb b cap oo ⟨p.out++l,p.g⟩ w'∧∀ k,w.heap.size≤k→k < w1.heap.size→w'.heap[k]?=w1.heap[k]?:=by
 subst hl
 exact(write_any pb b cap oo oc p S w1 (h.later hb) hS).mono fun e w' hk=>⟨hk.1,at_later h hb hk.2⟩
set_option maxHeartbeats 2000000 in
theorem move_same (pb b cap:Nat) (oo:Option Addr) (oc:Nat) (p:Pen) (r c:Int) (hr:p.g.row=r) (hc:p.g.col=c) (w:World) (h:PenIn w pb b cap oo oc p):
  Calls Tryz.prog 140 #[.pointer (some ⟨pb,0,none⟩),.int .i64 r,.int .i64 c] w fun e w'=>e=.returned (.tuple #[])∧PenTo w pb b cap oo (moveP p r c) w':=by
 have HE:Hid (PenTo w pb b cap oo (moveP p r c) w):=by
  have e:moveP p r c=p:=by
   unfold moveP moveD
   rw [if_pos ⟨hr,hc⟩, ←hr, ←hc]
   simp [toG]
  rw [e]
  exact h.stay (Below.refl _ _)
 have e1:(p.g.row==r)=true:=by simpa using hr
 have e2:(p.g.col==c)=true:=by simpa using hc
 obtain⟨⟨c0,c1,c2,c3,c4,c5,c6,c7,c8,c9⟩,cf⟩:=ten h.box
 have hlt:=h.lt
 clear h hr hc
 go_enter Tryz.func140,Tryz.ntmps140
 go_wp2
 exact bodyPost_ret (v:=.tuple #[]) (by simp [results,Tryz.results140,go_sem]) rfl ⟨rfl,HE.out⟩
set_option maxHeartbeats 2000000 in
theorem move_other (pb b cap:Nat) (oo:Option Addr) (oc:Nat) (p:Pen) (r c:Int) (h1:0≤r) (h2:r < 90) (h3:0≤c) (h4:c < 90) (hs:¬ (p.g.row=r∧p.g.col=c)) (hl:p.out.length≤1000000) (w:World) (h:PenIn w pb b cap oo oc p):
  Calls Tryz.prog 140 #[.pointer (some ⟨pb,0,none⟩),.int .i64 r,.int .i64 c] w fun e w'=>e=.returned (.tuple #[])∧PenTo w pb b cap oo (moveP p r c) w':=by
 obtain⟨T,hT,HT,HC⟩:=itoa_letter (r+1) (by omega) (by omega)
 obtain⟨U,hU,HU,HD⟩:=itoa_letter (c+1) (by omega) (by omega)
 have HM:Hid (moveD p.g r c=27::91::(Ps.dec (r+1).toNat++59::(Ps.dec (c+1).toNat++[72]))):=by show moveD p.g r c=_;unfold moveD;rw [if_neg hs];rfl
 have HWR:Hid (∀ w1,Below w.heap.size w w1→Calls Tryz.prog 134 #[.pointer (some ⟨pb,0,none⟩),.string (⟨#[27,91]⟩++T++⟨#[59]⟩++U++⟨#[72]⟩)] w1 fun e w'=>e=.returned (.tuple #[])∧PenTo w pb b cap oo ⟨p.out++moveD p.g r c,p.g⟩ w'∧∀ k,w.heap.size≤k→k < w1.heap.size→w'.heap[k]?=w1.heap[k]?):=fun w1 hb=>write_at h hb _ (by simp only [ByteArray.size_append];show p.out.length+(2+T.size+1+U.size+1)≤_;omega) _ (by rw [HM.out,HT.out,HU.out];simp)
 have HE:Hid (∀ w5,PenTo w pb b cap oo ⟨p.out++moveD p.g r c,p.g⟩ w5→PenTo w pb b cap oo (moveP p r c) ((w5.setCell ⟨pb,4,none⟩ (.int .i64 r)).setCell ⟨pb,5,none⟩ (.int .i64 c))):=fun w5 h5=>h5.moved r c
 have e1:¬ 9223372036854775807 < 2+T.size:=by omega
 have e2:¬ 9223372036854775807 < 2+T.size+1:=by omega
 have e3:¬ 9223372036854775807 < 2+T.size+1+U.size:=by omega
 have e4:¬ 9223372036854775807 < 2+T.size+1+U.size+1:=by omega
 have HBX:Hid (∀ w1,Below w.heap.size w w1→w1.heap[pb]?=some (pbox p.out.length oo oc p.g b cap)):=fun w1 hb=>below_block hb h.box h.lt
 obtain⟨⟨c0,c1,c2,c3,c4,c5,c6,c7,c8,c9⟩,cf⟩:=ten h.box
 have hlt:=h.lt
 clear h HT HU HM hl
 have hor:(p.g.row==r)=true∧(p.g.col==c)=false∨(p.g.row==r)=false:=by
  by_cases hi:p.g.row=r
  ·exact .inl ⟨by simpa using hi,by simpa [hi] using hs⟩
  ·exact .inr (by simpa using hi)
 clear hs
 rcases hor with ⟨f1,f2⟩ | f1
 all_goals (
  go_enter Tryz.func140,Tryz.ntmps140
  go_wp2_with (first
   | (go_at_call 144;have _t:=HC;refine(HC.out _).mono ?_;rintro e w1 ⟨rfl,hw1⟩;subst w1;clear HC _t)
   | (go_at_call 144;refine(HD.out _).mono ?_;rintro e w2 ⟨rfl,hw2⟩;subst w2)
   | (go_at_call 134;refine(HWR.out _ (Below.refl _ _)).mono ?_;rintro e w5 ⟨rfl,hk5,_⟩;clear c0 c1 c2 c3 c4 c5 c6 c7 c8 c9 cf;have HP5:Hid (PenTo w pb b cap oo ⟨p.out++moveD p.g r c,p.g⟩ w5):=hk5;obtain⟨o5,q5,hp5,_⟩:=hk5;obtain⟨⟨c0,c1,c2,c3,c4,c5,c6,c7,c8,c9⟩,cf⟩:=ten hp5.box;clear hp5))
  have HE5:Hid (PenTo w pb b cap oo (moveP p r c) ((w5.setCell ⟨pb,4,none⟩ (.int .i64 r)).setCell ⟨pb,5,none⟩ (.int .i64 c))):=HE.out w5 HP5.out
  go_end0
  exact⟨rfl,HE5.out⟩)
theorem move_any (pb b cap:Nat) (oo:Option Addr) (oc:Nat) (p:Pen) (ok:OkG p.g) (r c:Int) (h1:0≤r) (h2:r < p.g.high) (h3:0≤c) (h4:c < p.g.wide) (hl:p.out.length≤1000000) (w:World) (h:PenIn w pb b cap oo oc p):
  Calls Tryz.prog 140 #[.pointer (some ⟨pb,0,none⟩),.int .i64 r,.int .i64 c] w fun e w'=>e=.returned (.tuple #[])∧PenTo w pb b cap oo (moveP p r c) w':=by
 have k1:=ok.w2
 have k2:=ok.h2
 by_cases hs:p.g.row=r∧p.g.col=c
 ·exact move_same pb b cap oo oc p r c hs.1 hs.2 w h
 ·exact move_other pb b cap oo oc p r c h1 (by omega) h3 (by omega) hs hl w h
end Go.Proofs.YtjikokfjnbhngaaGreatDoor
