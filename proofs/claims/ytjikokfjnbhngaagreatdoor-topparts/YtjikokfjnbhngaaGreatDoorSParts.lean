/- The law TopParts. -/
import Derived.Test.YtjikokfjnbhngaaGreatDoorZTake
import Derived.Test.YtjikokfjnbhngaaGreatDoorMSTwo
import Derived.Test.YtjikokfjnbhngaaGreatDoorSEnds
namespace Go.Proofs.YtjikokfjnbhngaaGreatDoor.Sv
open Go.RowKit
set_option maxRecDepth 100000
theorem yields_acP {ops:Array Oper} {T:World→Prop} {op:Oper} {a:Act} (hw:Region.wanted op (yielded ops a.tmps)=true) (x:Operand) (ho:op.op=.load 28 x) (b:Nat) (hx:a.eval x=.pointer (some ⟨b,0,none⟩)) (c:Ac) (hS:∀ w,T w→w.heap[b]?=some (abox c)):YieldsIf Tryz.prog ops T op (aval c) a:=
 yieldsIf_load_mid (P:=Tryz.prog) hw 28 x ho b 0 hx (acells c).toList _ (fun w h j v hv=>by rw [Nat.zero_add,cell_of_row w b j _ _ _ (hS w h)];simpa using hv) Tryz.underlying28 rfl infoAc
theorem yields_rpP {ops:Array Oper} {T:World→Prop} {op:Oper} {a:Act} (hw:Region.wanted op (yielded ops a.tmps)=true) (x:Operand) (ho:op.op=.load 31 x) (b:Nat) (hx:a.eval x=.pointer (some ⟨b,0,none⟩)) (c:Rp) (hS:∀ w,T w→w.heap[b]?=some (rpbox c)):YieldsIf Tryz.prog ops T op (rpval c) a:=
 yieldsIf_load_mid (P:=Tryz.prog) hw 31 x ho b 0 hx (rpcells c).toList _ (fun w h j v hv=>by rw [Nat.zero_add,cell_of_row w b j _ _ _ (hS w h)];simpa using hv) Tryz.underlying31 rfl infoRp
def PtEnd (w:World) (sa sb k:Nat) (wr:World):Prop:=∃ S L T M,TwoS w [] wr S L T M∧Like S T∧OkS S∧OkS T∧S.acts=k∧T.acts≤2*k∧L.sb=sa∧M.sb=sb
theorem PtEnd.later {w:World} {sa sb k:Nat} {wr w':World} (h:PtEnd w sa sb k wr) (hb:Below wr.heap.size wr w'):PtEnd w sa sb k w':=by
 obtain⟨S,L,T,M,h1,h2⟩:=h
 exact⟨S,L,T,M,h1.later hb,h2⟩
theorem PtEnd.below {w:World} {sa sb k:Nat} {wr:World} (h:PtEnd w sa sb k wr):Below w.heap.size w wr:=by
 obtain⟨S,L,T,M,h1,_⟩:=h
 exact h1.a.below
structure PtIn (w:World) (sa sb k:Nat) (S:Srv) (T:Srv) (M:Lay) (x:Ac) (r:Rp) (BA BR:Nat) (wr:World):Prop where
 two:∃ L,L.sb=sa∧TwoS w [] wr (doS S x).1 L T M
 ba:wr.heap[BA]?=some (abox x)
 br:wr.heap[BR]?=some (rpbox r)
theorem PtIn.later {w:World} {sa sb k:Nat} {S T:Srv} {M:Lay} {x:Ac} {r:Rp} {BA BR:Nat} {wr w':World} (h:PtIn w sa sb k S T M x r BA BR wr) (hb:Below wr.heap.size wr w'):PtIn w sa sb k S T M x r BA BR w':=by
 obtain⟨L,h1,h2⟩:=h.two
 exact⟨⟨L,h1,h2.later hb⟩,below_block hb h.ba (Array.getElem?_eq_some_iff.1 h.ba).1,below_block hb h.br (Array.getElem?_eq_some_iff.1 h.br).1⟩
structure PqIn (w:World) (sa sb:Nat) (S' T1:Srv) (y z:Ac) (r:Rp) (YB ZB BR:Nat) (wr:World):Prop where
 two:∃ L M,L.sb=sa∧M.sb=sb∧TwoS w [] wr S' L T1 M
 yb:wr.heap[YB]?=some (abox y)
 zb:wr.heap[ZB]?=some (abox z)
 br:wr.heap[BR]?=some (rpbox r)
theorem PqIn.later {w:World} {sa sb:Nat} {S' T1:Srv} {y z:Ac} {r:Rp} {YB ZB BR:Nat} {wr w':World} (h:PqIn w sa sb S' T1 y z r YB ZB BR wr) (hb:Below wr.heap.size wr w'):PqIn w sa sb S' T1 y z r YB ZB BR w':=by
 obtain⟨L,M,h1,h2,h3⟩:=h.two
 exact⟨⟨L,M,h1,h2,h3.later hb⟩,below_block hb h.yb (Array.getElem?_eq_some_iff.1 h.yb).1,below_block hb h.zb (Array.getElem?_eq_some_iff.1 h.zb).1,below_block hb h.br (Array.getElem?_eq_some_iff.1 h.br).1⟩
theorem PqIn.s {w:World} {sa sb:Nat} {S' T1:Srv} {y z:Ac} {r:Rp} {YB ZB BR:Nat} {wr:World} (h:PqIn w sa sb S' T1 y z r YB ZB BR wr):wr.heap[YB]?=some (abox y)∧wr.heap[ZB]?=some (abox z)∧wr.cell? ⟨BR,0,none⟩=some (.int .i64 r.code):=⟨h.yb,h.zb,cell_of_row wr BR 0 _ _ _ h.br⟩
theorem SrvK.poke {w0 w:World} {S:Srv} {L:Lay} (h:SrvK w0 [] w S L) {B:Nat} {c:Array Value} {t:TypeId} (hb:w.heap[B]?=some (.cells c t (0,0))) (ht:¬ Ours t) (hl:w0.heap.size≤B) (j:Nat) (u:Value):SrvK w0 [] (w.setCell ⟨B,j,none⟩ u) S L:=
 ⟨h.srv.set hb ht j u,h.mine,h.below.setCell (p:=⟨B,j,none⟩) hl u,fun k hk=>by simp at hk⟩
theorem TwoS.poke {w0 w:World} {S:Srv} {L:Lay} {T:Srv} {M:Lay} (h:TwoS w0 [] w S L T M) {B:Nat} {c:Array Value} {t:TypeId} (hb:w.heap[B]?=some (.cells c t (0,0))) (ht:¬ Ours t) (hl:w0.heap.size≤B) (j:Nat) (u:Value):TwoS w0 [] (w.setCell ⟨B,j,none⟩ u) S L T M:=⟨h.a.poke hb ht hl j u,h.b.poke hb ht hl j u,h.apart⟩
theorem tmod_both (a:Int) {m:Int} (hm:0 < m): -m < a.tmod m∧a.tmod m < m:=by
 refine⟨?_,Int.tmod_lt_of_pos a hm⟩
 by_cases h:0≤a
 ·have:=Int.tmod_nonneg m h
  omega
 ·have h1:=Int.tmod_lt_of_pos (-a) hm
  rw [Int.neg_tmod] at h1
  omega
theorem cut_num (c:Int) (n:Nat) (hn:n≤140737488355328):∃ K:Nat,(wrap64 ((wrap64 c).tmod ((n:Int)+1)+((n:Int)+1))).tmod ((n:Int)+1)=(K:Int)∧K≤n:=by
 have h1:=tmod_both (wrap64 c) (m:=(n:Int)+1) (by omega)
 have h2:wrap64 ((wrap64 c).tmod ((n:Int)+1)+((n:Int)+1))=(wrap64 c).tmod ((n:Int)+1)+((n:Int)+1):=(fun(u:Int) (p: -4611686018427387904≤u) (q:u≤4611686018427387904)=>(by unfold wrap64;omega:wrap64 u=u)) _ (by omega) (by omega)
 rw [h2]
 have h3:=tmod_both ((wrap64 c).tmod ((n:Int)+1)+((n:Int)+1)) (m:=(n:Int)+1) (by omega)
 have h4:=Int.tmod_nonneg (a:=(wrap64 c).tmod ((n:Int)+1)+((n:Int)+1)) ((n:Int)+1) (by omega)
 obtain⟨K,hK⟩:=Int.eq_ofNat_of_zero_le h4
 exact⟨K,hK,by omega⟩
set_option maxHeartbeats 8000000 in
theorem topParts_any (l:List Ac) (lo:Option Addr) (lc:Nat) (cut:Int) (w:World) (hr:RdA w lo l) (hb:∀ a∈l,a.bytes.length≤140737488355328) (hlen:l.length≤4398046511104):
  Calls Tryz.prog 6 #[.slice lo l.length lc,.int .i64 cut] w fun e w'=>e=.returned (.bool true)∧Below w.heap.size w w':=by
 have HR:Hid (RdA w lo l∧(∀ a∈l,a.bytes.length≤140737488355328)):=⟨hr,hb⟩
 clear hr hb
 go_enter Tryz.func6,Tryz.ntmps6
 go_wp2_with (first
  | (go_at_call 22;refine(alive_any _).mono ?_;rintro e w1 ⟨rfl,hb1⟩;have HB1:Hid (Below w.heap.size w w1):=hb1;clear hb1)
  | (go_at_call 23;refine(newK (w0:=w) (ks:=[]) HB1.out (fun _ h=>by simp at h)).mono ?_;rintro e w2 ⟨L0,rfl,hl2,h2,h3⟩;obtain⟨sa,hsa⟩:∃ sa,sa=L0.sb:=⟨_,rfl⟩;have H2:Hid (L0.sb=sa∧SrvK w [] w2 newS L0):=⟨hsa.symm,h2⟩;rw [←hsa];clear hl2 h2 h3 hsa HB1)
  | (go_at_call 23;refine(newK (w0:=w) (ks:=[]) H2.out.2.below (fun _ h=>by simp at h)).mono ?_;rintro e w3 ⟨M0,rfl,hl3,h3,h4⟩;obtain⟨sb,hsb⟩:∃ sb,sb=M0.sb:=⟨_,rfl⟩;have H3:Hid (PtEnd w sa sb 0 w3):=⟨newS,L0,newS,M0,⟨H2.out.2.later h4,h3,fun b e1 e2=>by
    have q1:=H2.out.2.srv.mut_lt e1
    rcases e2 with e2 | ⟨i,_,hc,_⟩
    ·omega
    ·cases hc⟩,Like.refl _,ok_newS,ok_newS,rfl,Nat.zero_le _,H2.out.1,hsb.symm⟩;rw [←hsb];clear hl3 h3 h4 hsb H2))
 go_loopw [7] (fun i wr=>∃ k:Nat,k≤l.length∧k≤100∧i=.int .i64 k∧PtEnd w sa sb k wr) (fun i _=>100 - (intOf i).toNat)
 case atStart=>exact⟨0,by omega,by omega,rfl,H3.out⟩
 case round=>
  obtain⟨k,hkl,hk100,rfl,hi⟩:=hrel
  clear H3
  by_cases hlt:k < l.length∧k < 100
  ·obtain⟨S,L,T,M,h1,h2,h3,h4,h5,h6,h7,h8⟩:=hi
   have hlt1:(k:Int) < (l.length:Int):=by omega
   have hlt2:(k:Int) < 100:=by omega
   obtain⟨b,off,rfl,hbl,c0,c1,c2,c3,c4⟩:=(HR.out.1.kept (M:=fun _=>False) (Kp.of_below _ h1.a.below) (fun _ _ _ e=>e)).at hlt.1
   obtain⟨x,hx⟩:∃ x,x=l[k]:=⟨_,rfl⟩
   have hxb:x.bytes.length≤140737488355328:=HR.out.2 x (by rw [hx];exact List.getElem_mem hlt.1)
   rw [←hx] at c0 c1 c2 c3 c4
   obtain⟨r,hrr⟩:∃ r,r=(doS S x).2:=⟨_,rfl⟩
   have HDA:Hid (Calls Tryz.prog 19 #[.pointer (some ⟨sa,0,none⟩),aval x] (wr.alloc (abox x)) fun e w'=>e=.returned (rpval r)∧PtIn w sa sb k S T M x r wr.heap.size w'.heap.size (w'.alloc (rpbox r))):=by
    have h0:=do_any x hxb (wr.alloc (abox x)) S L (h1.a.srv.alloc _) h3
    rw [h7] at h0
    refine h0.mono ?_
    rintro e w' ⟨rfl,L',h'⟩
    have hts:=(h1.later (below1 wr (abox x))).left h'
    exact⟨by rw [hrr],⟨⟨L',h'.sb.trans h7,hts.later (below1 _ _)⟩,at_old (h'.keeps (h1.a.srv.alloc _) (at_new wr _) (by decide) (by decide)) _,at_new _ _⟩⟩
   have HDB0:Hid (∀ BA BR W,PtIn w sa sb k S T M x r BA BR W→Calls Tryz.prog 19 #[.pointer (some ⟨sb,0,none⟩),aval x] W fun e w'=>e=.returned (rpval r)∧PtEnd w sa sb (k+1) w'∧w'.heap[BA]?=some (abox x)∧w'.heap[BR]?=some (rpbox r)):=fun BA BR W hW=>by
    obtain⟨L',q1,q2⟩:=hW.two
    have h0:=do_any x hxb W T M q2.b.srv h4
    rw [h8] at h0
    refine h0.mono ?_
    rintro e w' ⟨rfl,M',h'⟩
    obtain⟨d1,d2⟩:=like_do h2 (by omega) (by omega) x
    refine⟨by rw [d1,hrr],⟨_,L',_,M',q2.right h',d2,ok_do h3 x,ok_do h4 x,by rw [do_acts (by omega),h5],by rw [do_acts (by omega)];omega,q1,h'.sb.trans h8⟩,h'.keeps q2.b.srv hW.ba (by decide) (by decide),h'.keeps q2.b.srv hW.br (by decide) (by decide)⟩
   have hor:(x.kind !=3)=true∨(x.kind=3∧(x.kind !=3)=false):=by
    by_cases h:x.kind=3
    ·exact .inr ⟨h,by simp [h]⟩
    ·exact .inl (by simpa using h)
   rcases hor with e3 | ⟨hk3,e3⟩
   ·clear h1 h2 h3 h4 h5 h6 h7 h8 hx hrr
    go_wp2_with (go_at_call 19;refine HDA.out.mono ?_;rintro e w4 ⟨rfl,h4⟩;have H3:Hid (PtIn w sa sb k S T M x r wr.heap.size w4.heap.size (w4.alloc (rpbox r))):=h4;obtain⟨⟨a0,a1,a2,a3,a4⟩,af⟩:=fiveA h4.ba;have al:=(Array.getElem?_eq_some_iff.1 h4.ba).1;clear h4 HDA)
    have HDB:Hid (∀ W,PtIn w sa sb k S T M x r wr.heap.size w4.heap.size W→Calls Tryz.prog 19 #[.pointer (some ⟨sb,0,none⟩),aval x] W fun e w'=>e=.returned (rpval r)∧PtEnd w sa sb (k+1) w'∧w'.heap[wr.heap.size]?=some (abox x)∧w'.heap[w4.heap.size]?=some (rpbox r)):=fun W hW=>HDB0.out _ _ W hW
    clear HDB0 a0 a1 a2 a3 a4 af al
    generalize w4.alloc (rpbox r)=W4 at*
    generalize w4.heap.size=BR at*
    generalize wr.heap.size=BA at*
    refine bg (fun w'=>w'.heap[BA]?=some (abox x)∧w'.heap[BR]?=some (rpbox r)) ⟨H3.out.ba,H3.out.br⟩ (fun hHeld=>?_)
    refine ty 0 rfl (rpval r) (yields_rpP (by rfl) _ rfl BR rfl r (fun w0 h=>h.2)) hHeld ?_
    refine tk 1 hHeld ?_
    refine ty 2 rfl (aval x) (yields_acP (by rfl) _ rfl BA rfl x (fun w0 h=>h.1)) hHeld ?_
    refine wpAnyH_ready (rs:=[3]) (by kernel_rfl) (by simp) ?_
    refine AllReadyH.cons rfl (fun K hK=>?_) AllReadyH.nil
    go_simp
    go_at_call 19
    refine(HDB.out _ (H3.out.later ((Below.refl _ _).drew))).mono ?_
    rintro e w5 ⟨rfl,h5⟩
    have H5:Hid (PtEnd w sa sb (k+1) w5∧w5.heap[BA]?=some (abox x)∧w5.heap[BR]?=some (rpbox r)):=h5
    clear h5
    (try go_simp)
    refine hK.out _ _ H5.out.2 (fun hHeld=>?_)
    clear hK K
    refine pt ?_
    refine tk 4 hHeld ?_
    refine dn ?_
    go_wp2
    go_roundw
    case rel=>exact⟨k+1,by omega,by omega,by go_num,H5.out.1⟩
    case measure=>simp [intOf];omega
   ·clear HDB0
    have HPU:Hid (TwoS w [] wr S L T M∧Like S T∧OkS S∧OkS T∧S.acts=k∧T.acts≤2*k∧L.sb=sa∧M.sb=sb∧x.kind=3∧r=(doS S x).2):=⟨h1,h2,h3,h4,h5,h6,h7,h8,hk3,hrr⟩
    clear hx h1 h2 h3 h4 h5 h6 h7 h8 hk3 hrr
    go_wp2_with (go_at_call 19;refine HDA.out.mono ?_;rintro e w4 ⟨rfl,h4'⟩;have H3:Hid (PtIn w sa sb k S T M x r wr.heap.size w4.heap.size (w4.alloc (rpbox r))):=h4';obtain⟨⟨a0,a1,a2,a3,a4⟩,af⟩:=fiveA h4'.ba;have al:=(Array.getElem?_eq_some_iff.1 h4'.ba).1;clear h4' HDA)
    obtain⟨K,hK,hKn⟩:=cut_num (cut+(k:Int)) x.bytes.length hxb
    rw [hK]
    have hKi:(K:Int)≤(x.bytes.length:Int):=by omega
    have hK0:(0:Int)≤(K:Int):=by omega
    clear hK
    obtain⟨y,hy⟩:∃ y:Ac,y={x with bytes:=x.bytes.take K}:=⟨_,rfl⟩
    obtain⟨z,hz⟩:∃ z:Ac,z={x with bytes:=x.bytes.drop K}:=⟨_,rfl⟩
    have HY:Hid (y={x with bytes:=x.bytes.take K}∧z={x with bytes:=x.bytes.drop K}):=⟨hy,hz⟩
    have HPP:Hid ((doS T y).2.code=r.code∧(doS (doS T y).1 z).2.code=r.code∧Like (doS S x).1 (doS (doS T y).1 z).1):=by
     obtain⟨_,g2,_,_,g5,g6,_,_,g9,g10⟩:=HPU.out
     have:=parts_do g2 (by omega) (by omega) g9 (x.bytes.take K) (x.bytes.drop K) (List.take_append_drop K x.bytes).symm
     rw [←hy, ←hz, ←g10] at this
     exact this
    have hyb:y.bytes.length≤140737488355328:=by rw [hy];show (x.bytes.take K).length≤_;rw [List.length_take];omega
    have hzb:z.bytes.length≤140737488355328:=by rw [hz];show (x.bytes.drop K).length≤_;rw [List.length_drop];omega
    have HD10:Hid (∀ YB ZB W,PqIn w sa sb (doS S x).1 T y z r YB ZB w4.heap.size W→Calls Tryz.prog 19 #[.pointer (some ⟨sb,0,none⟩),aval y] W fun e w'=>∃ n o,e=.returned (.agg #[.int .i64 r.code,.int .i64 n,.string (bs o)])∧PqIn w sa sb (doS S x).1 (doS T y).1 y z r YB ZB w4.heap.size w'):=fun YB ZB W hW=>by
     obtain⟨L',M',q1,q2,q3⟩:=hW.two
     have h0:=do_any y hyb W T M' q3.b.srv HPU.out.2.2.2.1
     rw [q2] at h0
     refine h0.mono ?_
     rintro e w' ⟨rfl,M'',h'⟩
     exact⟨_,_,by rw [←HPP.out.1],⟨⟨L',M'',q1,h'.sb.trans q2,q3.right h'⟩,h'.keeps q3.b.srv hW.yb (by decide) (by decide),h'.keeps q3.b.srv hW.zb (by decide) (by decide),h'.keeps q3.b.srv hW.br (by decide) (by decide)⟩⟩
    have HD20:Hid (∀ YB ZB W,PqIn w sa sb (doS S x).1 (doS T y).1 y z r YB ZB w4.heap.size W→Calls Tryz.prog 19 #[.pointer (some ⟨sb,0,none⟩),aval z] W fun e w'=>∃ n o,e=.returned (.agg #[.int .i64 r.code,.int .i64 n,.string (bs o)])∧PtEnd w sa sb (k+1) w'∧(w'.heap[YB]?=some (abox y)∧w'.heap[ZB]?=some (abox z)∧w'.cell? ⟨w4.heap.size,0,none⟩=some (.int .i64 r.code))):=fun YB ZB W hW=>by
     obtain⟨L',M',q1,q2,q3⟩:=hW.two
     obtain⟨_,g2,g3,g4,g5,g6,_,_,g9,g10⟩:=HPU.out
     have h0:=do_any z hzb W (doS T y).1 M' q3.b.srv (ok_do g4 y)
     rw [q2] at h0
     refine h0.mono ?_
     rintro e w' ⟨rfl,M'',h'⟩
     have hbr:=h'.keeps q3.b.srv hW.br (by decide) (by decide)
     have t1:(doS T y).1.acts=T.acts+1:=do_acts (by omega) y
     exact⟨_,_,by rw [←HPP.out.2.1],⟨_,L',_,M'',q3.right h',HPP.out.2.2,ok_do g3 x,ok_do (ok_do g4 y) z,by rw [do_acts (by omega),g5],by rw [do_acts (by omega),t1];omega,q1,h'.sb.trans q2⟩,h'.keeps q3.b.srv hW.yb (by decide) (by decide),h'.keeps q3.b.srv hW.zb (by decide) (by decide),cell_of_row w' _ 0 _ _ _ hbr⟩
    clear hy hz hyb hzb
    generalize w4.alloc (rpbox r)=W4 at*
    generalize w4.heap.size=BR at*
    generalize wr.heap.size=BA at*
    have HW5:Hid (PtIn w sa sb k S T M x r BA BR ((W4.alloc (abox x)).alloc (abox x)).drew∧((W4.alloc (abox x)).alloc (abox x)).drew.heap[W4.heap.size]?=some (abox x)∧((W4.alloc (abox x)).alloc (abox x)).drew.heap[W4.heap.size+1]?=some (abox x)∧BA < W4.heap.size∧BR < W4.heap.size∧w.heap.size≤W4.heap.size):=by
     obtain⟨L',q1,q2⟩:=H3.out.two
     exact⟨((H3.out.later (below1 _ _)).later (below1 _ _)).later ((Below.refl _ _).drew),at_old (at_new W4 _) _,at_new1 W4 _ _,(Array.getElem?_eq_some_iff.1 H3.out.ba).1,(Array.getElem?_eq_some_iff.1 H3.out.br).1,q2.a.below.size⟩
    go_region
    all_goals (
     clear a0 a1 a2 a3 a4 af al
     show Exit.then _ _ _ _ ((W4.alloc (abox x)).alloc (abox x)).drew
     generalize ((W4.alloc (abox x)).alloc (abox x)).drew=W5 at*
     generalize W4.heap.size=Y0 at *)
    ·skip
     obtain⟨YB,hYB⟩:∃ B,B=Y0:=⟨_,rfl⟩
     obtain⟨ZB,hZB⟩:∃ B,B=Y0+1:=⟨_,rfl⟩
     have H5:Hid (PtIn w sa sb k S T M x r BA BR W5∧W5.heap[YB]?=some (abox x)∧W5.heap[ZB]?=some (abox x)∧BA < YB∧BA < ZB∧BR < YB∧BR < ZB∧YB≠ZB∧w.heap.size≤YB∧w.heap.size≤ZB):=by
      rw [hYB,hZB]
      exact⟨HW5.out.1,by first | exact HW5.out.2.1 | exact HW5.out.2.2.1,by first | exact HW5.out.2.2.1 | exact HW5.out.2.1,by have:=HW5.out.2.2.2;omega,by have:=HW5.out.2.2.2;omega,by have:=HW5.out.2.2.2;omega,by have:=HW5.out.2.2.2;omega,by omega,by have:=HW5.out.2.2.2;omega,by have:=HW5.out.2.2.2;omega⟩
     rw [←hZB, ←hYB]
     clear hYB hZB HW5
     obtain⟨⟨a0,a1,a2,a3,a4⟩,af⟩:=fiveA H5.out.1.ba
     obtain⟨⟨y0,y1,y2,y3,y4⟩,yf⟩:=fiveA H5.out.2.1
     obtain⟨⟨z0,z1,z2,z3,z4⟩,zf⟩:=fiveA H5.out.2.2.1
     have al:=(Array.getElem?_eq_some_iff.1 H5.out.1.ba).1
     have yl:=(Array.getElem?_eq_some_iff.1 H5.out.2.1).1
     have zl:=(Array.getElem?_eq_some_iff.1 H5.out.2.2.1).1
     have n1:BA≠YB:=by have:=H5.out.2.2.2;omega
     have n2:BA≠ZB:=by have:=H5.out.2.2.2;omega
     have n3:YB≠ZB:=H5.out.2.2.2.2.2.2.2.1
     have n4:ZB≠YB:=fun e=>n3 e.symm
     have n5:YB≠BA:=fun e=>n1 e.symm
     have n6:ZB≠BA:=fun e=>n2 e.symm
     go_wp2_with fail
     have H8a:Hid (PqIn w sa sb (doS S x).1 T y z r YB ZB BR ((W5.setCell ⟨YB,4,none⟩ (.string ((bs x.bytes).extract 0 K))).setCell ⟨ZB,4,none⟩ (.string ((bs x.bytes).extract K x.bytes.length))).drew):=by
      obtain⟨hp,hy,hz,m1,m2,m3,m4,m5,m6,m7⟩:=H5.out
      obtain⟨L',q1,q2⟩:=hp.two
      have e1:(acells x).setIfInBounds 4 (.string ((bs x.bytes).extract 0 K))=acells y:=by rw [bs_take,HY.out.1];rfl
      have e2:(acells x).setIfInBounds 4 (.string ((bs x.bytes).extract K x.bytes.length))=acells z:=by rw [bs_drop,HY.out.2];rfl
      have hz1:(W5.setCell ⟨YB,4,none⟩ (.string ((bs x.bytes).extract 0 K))).heap[ZB]?=some (abox x):=by rw [Below.heap_setCell _ _ _ _ (by simpa using n4)];exact hz
      have hy1:(W5.setCell ⟨YB,4,none⟩ (.string ((bs x.bytes).extract 0 K))).heap[YB]?=some (abox y):=by rw [set_cells hy,e1]
      refine PqIn.later ⟨⟨L',M,q1,HPU.out.2.2.2.2.2.2.2.1,(q2.poke hy act_foreign m6 4 _).poke hz1 act_foreign m7 4 _⟩,?_,?_,?_⟩ ((Below.refl _ _).drew)
      ·rw [Below.heap_setCell _ _ _ _ (by simpa using n3)];exact hy1
      ·rw [set_cells hz1,e2]
      ·rw [Below.heap_setCell _ _ _ _ (by simp;omega),Below.heap_setCell _ _ _ _ (by simp;omega)];exact hp.br
     go_region
     generalize ((W5.setCell ⟨YB,4,none⟩ (.string ((bs x.bytes).extract 0 K))).setCell ⟨ZB,4,none⟩ (.string ((bs x.bytes).extract K x.bytes.length))).drew=W8 at*
     have H8:Hid (PqIn w sa sb (doS S x).1 T y z r YB ZB BR W8):=H8a
     have HD1:Hid (∀ W,PqIn w sa sb (doS S x).1 T y z r YB ZB BR W→Calls Tryz.prog 19 #[.pointer (some ⟨sb,0,none⟩),aval y] W fun e w'=>∃ n o,e=.returned (.agg #[.int .i64 r.code,.int .i64 n,.string (bs o)])∧PqIn w sa sb (doS S x).1 (doS T y).1 y z r YB ZB BR w'):=fun W hW=>HD10.out YB ZB W hW
     have HD2:Hid (∀ W,PqIn w sa sb (doS S x).1 (doS T y).1 y z r YB ZB BR W→Calls Tryz.prog 19 #[.pointer (some ⟨sb,0,none⟩),aval z] W fun e w'=>∃ n o,e=.returned (.agg #[.int .i64 r.code,.int .i64 n,.string (bs o)])∧PtEnd w sa sb (k+1) w'∧(w'.heap[YB]?=some (abox y)∧w'.heap[ZB]?=some (abox z)∧w'.cell? ⟨BR,0,none⟩=some (.int .i64 r.code))):=fun W hW=>HD20.out YB ZB W hW
     clear H8a H5 a0 a1 a2 a3 a4 af y0 y1 y2 y3 y4 yf z0 z1 z2 z3 z4 zf al yl zl n1 n2 n3 n4 n5 n6 HD10 HD20
     go_wp2_with fail
     refine bg (fun w'=>w'.heap[YB]?=some (abox y)∧w'.heap[ZB]?=some (abox z)∧w'.cell? ⟨BR,0,none⟩=some (.int .i64 r.code)) H8.out.s (fun hHeld=>?_)
     refine tk 0 hHeld ?_
     refine ty 1 rfl (aval y) (yields_acP (by rfl) _ rfl YB rfl y (fun w0 h=>h.1)) hHeld ?_
     refine tk 4 hHeld ?_
     refine tk 5 hHeld ?_
     refine wpAnyH_ready (rs:=[2]) (by kernel_rfl) (by simp) ?_
     refine AllReadyH.cons rfl (fun K hK=>?_) AllReadyH.nil
     go_simp
     go_at_call 19
     refine(HD1.out _ (H8.out.later ((Below.refl _ _).drew))).mono ?_
     rintro e w9 ⟨n9,o9,rfl,h9⟩
     have H9:Hid (PqIn w sa sb (doS S x).1 (doS T y).1 y z r YB ZB BR w9):=h9
     clear h9
     (try go_simp)
     refine hK.out _ _ H9.out.s (fun hHeld=>?_)
     clear hK K
     refine pt ?_
     refine wpAnyH_take (i:=3) (v:=.int .i64 r.code) rfl (by kernel_rfl) (by kernel_rfl) (by kernel_rfl) (fun _ _ _ h=>h) (Or.inl ⟨by kernel_rfl,?_⟩) hHeld ?_
     ·(intro w0 hSw;(try dsimp only at hSw);go_simp;try rfl)
     (try simp only [Act.put,List.setIfInBounds_toArray,List.set_cons_zero,List.set_cons_succ,List.getElem_toArray,List.getElem_cons_zero,List.getElem_cons_succ])
     refine tk 6 hHeld ?_
     refine tk 7 hHeld ?_
     refine tk 8 hHeld ?_
     refine ty 9 rfl (aval z) (yields_acP (by rfl) _ rfl ZB rfl z (fun w0 h=>h.2.1)) hHeld ?_
     refine tk 12 hHeld ?_
     refine tk 13 hHeld ?_
     refine wpAnyH_ready (rs:=[10]) (by kernel_rfl) (by simp) ?_
     refine AllReadyH.cons rfl (fun K hK=>?_) AllReadyH.nil
     go_simp
     go_at_call 19
     refine(HD2.out _ H9.out).mono ?_
     rintro e w10 ⟨n10,o10,rfl,h10,s10⟩
     have H10:Hid (PtEnd w sa sb (k+1) w10):=h10
     clear h10
     (try go_simp)
     refine hK.out _ _ s10 (fun hHeld=>?_)
     clear hK K
     refine pt ?_
     refine wpAnyH_take (i:=11) (v:=.int .i64 r.code) rfl (by kernel_rfl) (by kernel_rfl) (by kernel_rfl) (fun _ _ _ h=>h) (Or.inl ⟨by kernel_rfl,?_⟩) hHeld ?_
     ·(intro w0 hSw;(try dsimp only at hSw);go_simp;try rfl)
     (try simp only [Act.put,List.setIfInBounds_toArray,List.set_cons_zero,List.set_cons_succ,List.getElem_toArray,List.getElem_cons_zero,List.getElem_cons_succ])
     refine tk 14 hHeld ?_
     refine tk 15 hHeld ?_
     refine dn ?_
     go_wp2
     go_roundw
     case rel=>exact⟨k+1,by omega,by omega,by go_num,H10.out⟩
     case measure=>simp [intOf];omega
    ·skip
     obtain⟨YB,hYB⟩:∃ B,B=Y0+1:=⟨_,rfl⟩
     obtain⟨ZB,hZB⟩:∃ B,B=Y0:=⟨_,rfl⟩
     have H5:Hid (PtIn w sa sb k S T M x r BA BR W5∧W5.heap[YB]?=some (abox x)∧W5.heap[ZB]?=some (abox x)∧BA < YB∧BA < ZB∧BR < YB∧BR < ZB∧YB≠ZB∧w.heap.size≤YB∧w.heap.size≤ZB):=by
      rw [hYB,hZB]
      exact⟨HW5.out.1,by first | exact HW5.out.2.1 | exact HW5.out.2.2.1,by first | exact HW5.out.2.2.1 | exact HW5.out.2.1,by have:=HW5.out.2.2.2;omega,by have:=HW5.out.2.2.2;omega,by have:=HW5.out.2.2.2;omega,by have:=HW5.out.2.2.2;omega,by omega,by have:=HW5.out.2.2.2;omega,by have:=HW5.out.2.2.2;omega⟩
     rw [←hYB, ←hZB]
     clear hYB hZB HW5
     obtain⟨⟨a0,a1,a2,a3,a4⟩,af⟩:=fiveA H5.out.1.ba
     obtain⟨⟨y0,y1,y2,y3,y4⟩,yf⟩:=fiveA H5.out.2.1
     obtain⟨⟨z0,z1,z2,z3,z4⟩,zf⟩:=fiveA H5.out.2.2.1
     have al:=(Array.getElem?_eq_some_iff.1 H5.out.1.ba).1
     have yl:=(Array.getElem?_eq_some_iff.1 H5.out.2.1).1
     have zl:=(Array.getElem?_eq_some_iff.1 H5.out.2.2.1).1
     have n1:BA≠YB:=by have:=H5.out.2.2.2;omega
     have n2:BA≠ZB:=by have:=H5.out.2.2.2;omega
     have n3:YB≠ZB:=H5.out.2.2.2.2.2.2.2.1
     have n4:ZB≠YB:=fun e=>n3 e.symm
     have n5:YB≠BA:=fun e=>n1 e.symm
     have n6:ZB≠BA:=fun e=>n2 e.symm
     go_wp2_with fail
     have H8a:Hid (PqIn w sa sb (doS S x).1 T y z r YB ZB BR ((W5.setCell ⟨YB,4,none⟩ (.string ((bs x.bytes).extract 0 K))).setCell ⟨ZB,4,none⟩ (.string ((bs x.bytes).extract K x.bytes.length))).drew):=by
      obtain⟨hp,hy,hz,m1,m2,m3,m4,m5,m6,m7⟩:=H5.out
      obtain⟨L',q1,q2⟩:=hp.two
      have e1:(acells x).setIfInBounds 4 (.string ((bs x.bytes).extract 0 K))=acells y:=by rw [bs_take,HY.out.1];rfl
      have e2:(acells x).setIfInBounds 4 (.string ((bs x.bytes).extract K x.bytes.length))=acells z:=by rw [bs_drop,HY.out.2];rfl
      have hz1:(W5.setCell ⟨YB,4,none⟩ (.string ((bs x.bytes).extract 0 K))).heap[ZB]?=some (abox x):=by rw [Below.heap_setCell _ _ _ _ (by simpa using n4)];exact hz
      have hy1:(W5.setCell ⟨YB,4,none⟩ (.string ((bs x.bytes).extract 0 K))).heap[YB]?=some (abox y):=by rw [set_cells hy,e1]
      refine PqIn.later ⟨⟨L',M,q1,HPU.out.2.2.2.2.2.2.2.1,(q2.poke hy act_foreign m6 4 _).poke hz1 act_foreign m7 4 _⟩,?_,?_,?_⟩ ((Below.refl _ _).drew)
      ·rw [Below.heap_setCell _ _ _ _ (by simpa using n3)];exact hy1
      ·rw [set_cells hz1,e2]
      ·rw [Below.heap_setCell _ _ _ _ (by simp;omega),Below.heap_setCell _ _ _ _ (by simp;omega)];exact hp.br
     go_region
     generalize ((W5.setCell ⟨YB,4,none⟩ (.string ((bs x.bytes).extract 0 K))).setCell ⟨ZB,4,none⟩ (.string ((bs x.bytes).extract K x.bytes.length))).drew=W8 at*
     have H8:Hid (PqIn w sa sb (doS S x).1 T y z r YB ZB BR W8):=H8a
     have HD1:Hid (∀ W,PqIn w sa sb (doS S x).1 T y z r YB ZB BR W→Calls Tryz.prog 19 #[.pointer (some ⟨sb,0,none⟩),aval y] W fun e w'=>∃ n o,e=.returned (.agg #[.int .i64 r.code,.int .i64 n,.string (bs o)])∧PqIn w sa sb (doS S x).1 (doS T y).1 y z r YB ZB BR w'):=fun W hW=>HD10.out YB ZB W hW
     have HD2:Hid (∀ W,PqIn w sa sb (doS S x).1 (doS T y).1 y z r YB ZB BR W→Calls Tryz.prog 19 #[.pointer (some ⟨sb,0,none⟩),aval z] W fun e w'=>∃ n o,e=.returned (.agg #[.int .i64 r.code,.int .i64 n,.string (bs o)])∧PtEnd w sa sb (k+1) w'∧(w'.heap[YB]?=some (abox y)∧w'.heap[ZB]?=some (abox z)∧w'.cell? ⟨BR,0,none⟩=some (.int .i64 r.code))):=fun W hW=>HD20.out YB ZB W hW
     clear H8a H5 a0 a1 a2 a3 a4 af y0 y1 y2 y3 y4 yf z0 z1 z2 z3 z4 zf al yl zl n1 n2 n3 n4 n5 n6 HD10 HD20
     go_wp2_with fail
     refine bg (fun w'=>w'.heap[YB]?=some (abox y)∧w'.heap[ZB]?=some (abox z)∧w'.cell? ⟨BR,0,none⟩=some (.int .i64 r.code)) H8.out.s (fun hHeld=>?_)
     refine tk 0 hHeld ?_
     refine ty 1 rfl (aval y) (yields_acP (by rfl) _ rfl YB rfl y (fun w0 h=>h.1)) hHeld ?_
     refine tk 4 hHeld ?_
     refine tk 5 hHeld ?_
     refine wpAnyH_ready (rs:=[2]) (by kernel_rfl) (by simp) ?_
     refine AllReadyH.cons rfl (fun K hK=>?_) AllReadyH.nil
     go_simp
     go_at_call 19
     refine(HD1.out _ (H8.out.later ((Below.refl _ _).drew))).mono ?_
     rintro e w9 ⟨n9,o9,rfl,h9⟩
     have H9:Hid (PqIn w sa sb (doS S x).1 (doS T y).1 y z r YB ZB BR w9):=h9
     clear h9
     (try go_simp)
     refine hK.out _ _ H9.out.s (fun hHeld=>?_)
     clear hK K
     refine pt ?_
     refine wpAnyH_take (i:=3) (v:=.int .i64 r.code) rfl (by kernel_rfl) (by kernel_rfl) (by kernel_rfl) (fun _ _ _ h=>h) (Or.inl ⟨by kernel_rfl,?_⟩) hHeld ?_
     ·(intro w0 hSw;(try dsimp only at hSw);go_simp;try rfl)
     (try simp only [Act.put,List.setIfInBounds_toArray,List.set_cons_zero,List.set_cons_succ,List.getElem_toArray,List.getElem_cons_zero,List.getElem_cons_succ])
     refine tk 6 hHeld ?_
     refine tk 7 hHeld ?_
     refine tk 8 hHeld ?_
     refine ty 9 rfl (aval z) (yields_acP (by rfl) _ rfl ZB rfl z (fun w0 h=>h.2.1)) hHeld ?_
     refine tk 12 hHeld ?_
     refine tk 13 hHeld ?_
     refine wpAnyH_ready (rs:=[10]) (by kernel_rfl) (by simp) ?_
     refine AllReadyH.cons rfl (fun K hK=>?_) AllReadyH.nil
     go_simp
     go_at_call 19
     refine(HD2.out _ H9.out).mono ?_
     rintro e w10 ⟨n10,o10,rfl,h10,s10⟩
     have H10:Hid (PtEnd w sa sb (k+1) w10):=h10
     clear h10
     (try go_simp)
     refine hK.out _ _ s10 (fun hHeld=>?_)
     clear hK K
     refine pt ?_
     refine wpAnyH_take (i:=11) (v:=.int .i64 r.code) rfl (by kernel_rfl) (by kernel_rfl) (by kernel_rfl) (fun _ _ _ h=>h) (Or.inl ⟨by kernel_rfl,?_⟩) hHeld ?_
     ·(intro w0 hSw;(try dsimp only at hSw);go_simp;try rfl)
     (try simp only [Act.put,List.setIfInBounds_toArray,List.set_cons_zero,List.set_cons_succ,List.getElem_toArray,List.getElem_cons_zero,List.getElem_cons_succ])
     refine tk 14 hHeld ?_
     refine tk 15 hHeld ?_
     refine dn ?_
     go_wp2
     go_roundw
     case rel=>exact⟨k+1,by omega,by omega,by go_num,H10.out⟩
     case measure=>simp [intOf];omega
  ·have hor:(k:Int) < (l.length:Int)∧100≤(k:Int)∨(l.length:Int)≤(k:Int):=by omega
   have HSM:Hid (Calls Tryz.prog 24 #[.pointer (some ⟨sa,0,none⟩),.pointer (some ⟨sb,0,none⟩)] wr fun e w'=>e=.returned (.bool true)∧Below w.heap.size w w'):=by
    obtain⟨S,L,T,M,h1,h2,h3,h4,h5,h6,h7,h8⟩:=hi
    have h0:=two_same h1 h3 h2
    rw [h7,h8] at h0
    refine h0.mono ?_
    rintro e w' ⟨rfl,h'⟩
    exact⟨rfl,h'.a.below⟩
   clear hi
   rcases hor with ⟨g1,g2⟩ | g1
   all_goals (
    go_wp2_with (go_at_call 24;refine HSM.out.mono ?_;rintro e w9 ⟨rfl,h9⟩;have H9:Hid (Below w.heap.size w w9):=h9;clear h9)
    go_ret
    exact⟨rfl,H9.out⟩)
end Go.Proofs.YtjikokfjnbhngaaGreatDoor.Sv
