/- The law TopRuns. -/
import Derived.Test.YtjikokfjnbhngaaGreatDoorZTake
import Derived.Test.YtjikokfjnbhngaaGreatDoorSRun
import Derived.Laws.AppendOwnNone
namespace Go.Proofs.YtjikokfjnbhngaaGreatDoor.Sv
open Go.RowKit
set_option maxRecDepth 100000
theorem flat_get {α:Type} (f:α→List Value) (s:Nat) (hs:∀ a,(f a).length=s):∀ (l:List α) (k:Nat) (hk:k < l.length) (j:Nat),j < s→(l.flatMap f)[k*s+j]?=(f l[k])[j]?
 | a::l,0,_,j,hj=>by
  rw [List.flatMap_cons,List.getElem?_append_left (by rw [hs];omega)]
  simp
 | a::l,k+1,hk,j,hj=>by
  have e:(k+1)*s+j=s+(k*s+j):=by rw [Nat.add_mul];omega
  rw [List.flatMap_cons,List.getElem?_append_right (by rw [hs,e];omega),hs,e,Nat.add_sub_cancel_left,flat_get f s hs l k (by simpa using hk) j hj]
  simp
theorem flat_len {α:Type} (f:α→List Value) (s:Nat) (hs:∀ a,(f a).length=s):∀ l:List α,(l.flatMap f).length=l.length*s
 | []=>by simp
 | a::l=>by rw [List.flatMap_cons,List.length_append,hs,flat_len f s hs l,List.length_cons,Nat.add_mul];omega
def acs (l:List Ac):List Value:=l.flatMap fun a=>(acells a).toList
theorem acs_len (l:List Ac):(acs l).length=l.length*5:=flat_len _ 5 (fun _=>rfl) l
theorem acs_get (l:List Ac) {k:Nat} (hk:k < l.length) {j:Nat} (hj:j < 5):(acs l)[k*5+j]?=(acells l[k]).toList[j]?:=flat_get _ 5 (fun _=>rfl) l k hk j hj
theorem rcs_get (l:List Rp) {k:Nat} (hk:k < l.length) {j:Nat} (hj:j < 3):(rcs l)[k*3+j]?=(rpcells l[k]).toList[j]?:=flat_get _ 3 (fun _=>rfl) l k hk j hj
theorem infoA5:(Tryz.prog.info? 28).map (fun i=>(i.zero,i.size,i.bytes))=some (some (.agg #[.int .i64 0,.int .i64 0,.int .i64 0,.int .i64 0,.string ⟨#[]⟩]),5,48):=by kernel_rfl
theorem one_acs (l:List Ac):∀ u∈acs l,u.oneCell'=true:=fun u hu=>by
 unfold acs at hu
 obtain⟨a,_,h⟩:=List.mem_flatMap.1 hu
 simp at h
 rcases h with h | h | h | h | h <;>subst h <;>rfl
def LiesA (w:World) (b off:Nat) (c:Ac):Prop:=∀ (j:Nat) (v:Value),(acells c).toList[j]?=some v→w.cell? ⟨b,off+j,none⟩=some v
def LiesR (w:World) (b off:Nat) (c:Rp):Prop:=∀ (j:Nat) (v:Value),(rpcells c).toList[j]?=some v→w.cell? ⟨b,off+j,none⟩=some v
theorem yields_acM {ops:Array Oper} {T:World→Prop} {op:Oper} {a:Act} (hw:Region.wanted op (yielded ops a.tmps)=true) (x:Operand) (ho:op.op=.load 28 x) (b off:Nat) (hx:a.eval x=.pointer (some ⟨b,off,none⟩)) (c:Ac) (hS:∀ w,T w→LiesA w b off c):YieldsIf Tryz.prog ops T op (aval c) a:=
 yieldsIf_load_mid (P:=Tryz.prog) hw 28 x ho b off hx (acells c).toList _ (fun w h j v hv=>hS w h j v hv) Tryz.underlying28 rfl infoAc
theorem yields_rpM {ops:Array Oper} {T:World→Prop} {op:Oper} {a:Act} (hw:Region.wanted op (yielded ops a.tmps)=true) (x:Operand) (ho:op.op=.load 31 x) (b off:Nat) (hx:a.eval x=.pointer (some ⟨b,off,none⟩)) (c:Rp) (hS:∀ w,T w→LiesR w b off c):YieldsIf Tryz.prog ops T op (rpval c) a:=
 yieldsIf_load_mid (P:=Tryz.prog) hw 31 x ho b off hx (rpcells c).toList _ (fun w h j v hv=>hS w h j v hv) Tryz.underlying31 rfl infoRp
theorem five_lt {c:Ac} {j:Nat} {v:Value} (h:(acells c).toList[j]?=some v):j < 5:=by
 have:=(List.getElem?_eq_some_iff.1 h).1
 simpa using this
theorem three_lt {c:Rp} {j:Nat} {v:Value} (h:(rpcells c).toList[j]?=some v):j < 3:=by
 have:=(List.getElem?_eq_some_iff.1 h).1
 simpa using this
theorem RdA.lies {w:World} {lo:Option Addr} {l:List Ac} (h:RdA w lo l) {k:Nat} (hk:k < l.length):∃ b off,lo=some ⟨b,off,none⟩∧LiesA w b (off+k*5) l[k]:=by
 obtain⟨b,off,e,_,c0,c1,c2,c3,c4⟩:=h.at hk
 refine⟨b,off,e,fun j v hv=>?_⟩
 have:=five_lt hv
 rcases(show j=0∨j=1∨j=2∨j=3∨j=4 by omega) with rfl | rfl | rfl | rfl | rfl <;>simp at hv <;>subst hv <;>assumption
theorem RdA.of_lies {w:World} {l:List Ac} {b off:Nat} (h:∀ k (hk:k < l.length),LiesA w b (off+k*5) l[k]):RdA w (some ⟨b,off,none⟩) l:=
 .inr ⟨b,off,rfl,fun k hk=>⟨h k hk 0 _ rfl,h k hk 1 _ rfl,h k hk 2 _ rfl,h k hk 3 _ rfl,h k hk 4 _ rfl⟩⟩
theorem RdA.take {w:World} {lo:Option Addr} {l:List Ac} (h:RdA w lo l) (m:Nat):RdA w lo (l.take m):=by
 rcases h with h | ⟨b,off,e,hc⟩
 ·exact .inl (by rw [h,List.take_nil])
 ·refine .inr ⟨b,off,e,fun k hk=>?_⟩
  have hk':k < l.length:=by rw [List.length_take] at hk;omega
  have:=hc k hk'
  rw [List.getElem_take]
  exact this
theorem row_base {w:World} {base base' sz n:Nat} {e:TypeId} {v:Value} {xs:List Value} (h:w.ownsRow base e sz v n xs) (hb:base'≤base):w.ownsRow base' e sz v n xs:=by
 refine⟨h.1,?_⟩
 rcases h.2 with h0 | ⟨g,c,cur,hv,hbb,hg,rest⟩
 ·exact .inl h0
 ·exact .inr ⟨g,c,cur,hv,Nat.le_trans hb hbb,hg,rest⟩
theorem wpList_copy_acts {w:World} {ops:Array Oper} {rest:List Oper} {o:Oper} {a:Act} {Q:Exit→Act→World→Prop} (hgd:o.guard=none) (s x:Operand)
  (ho:o.op=.call {callee:=.builtin .append,args:=#[s,x],argTypes:=#[22,22]}) (hs:a.eval s=.slice none 0 0)
  (l:List Ac) (lo:Option Addr) (lc m:Nat) (hx:a.eval x=.slice lo m lc) (hm:l.length=m) (hr:RdA w lo l) (hn:lo=none→l=[]∧lc=0) (hlen:l.length≤300)
  (h:∀ ao cap w',RdA w' ao l→Below w.heap.size w w'→wpList Tryz.prog ops Q rest (a.put o.dst (.slice ao m cap)) w'):wpList Tryz.prog ops Q (o::rest) a w:=by
 obtain⟨i0,hi0,hz0,hz1,hz2⟩:=info_parts infoA5
 subst hm
 cases lo with
 | none=>
  obtain⟨rfl,rfl⟩:=hn rfl
  exact wpList_append_own_none hgd s x 22 ho w.heap.size 28 i0 5 Tryz.underlying22 hi0 _ 0 [] hs (World.ownsRow_nil _ _ _ _) hx (h none 0 w (.inl rfl) (Below.refl _ _))
 | some ad=>
  refine wpList_append_own w hgd s x 22 ho w.heap.size 28 i0 _ 5 48 Tryz.underlying22 hi0 hz0 hz1 hz2 rfl (by decide) _ 0 [] hs (World.ownsRow_nil _ _ _ _) ad l.length lc (acs l) hx (acs_len l) ?_ (one_acs l) (by unfold maxLen;omega) (by omega) (Nat.le_refl _) ?_
  ·intro j u hu
   have hj:=(List.getElem?_eq_some_iff.1 hu).1
   rw [acs_len] at hj
   have hk:j / 5 < l.length:=by omega
   obtain⟨b,off,e,hL⟩:=hr.lies hk
   cases e
   have hh:=hL (j % 5) u (by rw [←acs_get l hk (by omega),show j / 5*5+j % 5=j by omega];exact hu)
   rw [show off+j / 5*5+j % 5=off+j by omega] at hh
   have ea:(⟨b,off,none⟩:Addr).add j=⟨b,off+j,none⟩:=by unfold Addr.add;split <;>simp_all
   rw [ea]
   exact hh
  ·intro v' w' hown hg _
   have hbel:Below w.heap.size w w':=⟨hg.os,hg.tape,hg.output,hg.size,fun b hb=>hg.block b hb (fun e=>by cases e)⟩
   rw [Nat.zero_add,List.nil_append] at hown
   rcases hown.2 with ⟨hv,hz⟩ | ⟨g,c,cur,hv,_⟩
   ·subst hv
    obtain rfl:l=[]:=by
     exact List.eq_nil_of_length_eq_zero hz
    exact h none 0 w' (.inl rfl) hbel
   ·subst hv
    refine h _ c w' (RdA.of_lies fun k hk j v hv=>?_) hbel
    have:=five_lt hv
    rw [Nat.zero_add,hown.cellAt _ (by omega),acs_get l hk this]
    exact hv
theorem rpAt_take (l:List Ac) {K j:Nat} (hj:j < K):rpAt (l.take K) j=rpAt l j:=by
 have e1:(l.take K).take j=l.take j:=by rw [List.take_take,Nat.min_eq_left (by omega)]
 have e2:(l.take K).getD j noAct=l.getD j noAct:=by rw [List.getD_eq_getElem?_getD,List.getD_eq_getElem?_getD,List.getElem?_take,if_pos hj]
 unfold rpAt
 rw [e1,e2]
theorem row_lies {w:World} {base n cap m:Nat} {ao:Option Addr} {l:List Ac} (h:w.ownsRow base 31 3 (.slice ao n cap) n (rcs (repl l n))) {j:Nat} (hj:j < n) (hm:n=m):∃ g,ao=some ⟨g,0,none⟩∧LiesR w g (j*3) (rpAt l j):=by
 rcases h.2 with ⟨hv,hz⟩ | ⟨g,c,cur,hv,_⟩
 ·simp only [Value.slice.injEq] at hv
  omega
 ·simp only [Value.slice.injEq] at hv
  obtain⟨rfl,_,rfl⟩:=hv
  refine⟨g,rfl,fun q v hq=>?_⟩
  have h3:=three_lt hq
  rw [h.cellAt _ (by omega),rcs_get _ (by rw [repl_length];exact hj) h3]
  have e:(repl l n)[j]'(by rw [repl_length];exact hj)=rpAt l j:=by unfold repl;simp
  rw [e]
  exact hq
theorem tmod_two (a:Int) {m:Int} (hm:0 < m): -m < a.tmod m∧a.tmod m < m:=by
 refine⟨?_,Int.tmod_lt_of_pos a hm⟩
 by_cases h:0≤a
 ·have:=Int.tmod_nonneg m h
  omega
 ·have h1:=Int.tmod_lt_of_pos (-a) hm
  rw [Int.neg_tmod] at h1
  omega
theorem runs_num (c:Int) (n:Nat) (hn:n≤300):∃ K:Nat,(wrap64 (wrap64 (c.tmod ((n:Int)+1)+n)+1)).tmod ((n:Int)+1)=(K:Int)∧K≤n:=by
 have h1:=tmod_two c (m:=(n:Int)+1) (by omega)
 have hw:∀ u:Int, -4611686018427387904≤u→u≤4611686018427387904→wrap64 u=u:=fun u p q=>by unfold wrap64;omega
 rw [hw (c.tmod ((n:Int)+1)+n) (by omega) (by omega),hw (c.tmod ((n:Int)+1)+n+1) (by omega) (by omega)]
 have h3:=tmod_two (c.tmod ((n:Int)+1)+n+1) (m:=(n:Int)+1) (by omega)
 have h4:=Int.tmod_nonneg (a:=c.tmod ((n:Int)+1)+n+1) ((n:Int)+1) (by omega)
 obtain⟨K,hK⟩:=Int.eq_ofNat_of_zero_le h4
 exact⟨K,hK,by omega⟩
theorem run_n {l:List Ac} {n:Nat} (hl:l.length=n) (ao:Option Addr) (cap:Nat) (w:World) (hr:RdA w ao l) (hb:∀ a∈l,a.bytes.length≤140737488355328) (hlen:n≤300):
  Calls Tryz.prog 34 #[.slice ao n cap] w fun e w'=>∃ ag cg,e=.returned (.tuple #[.slice ag n cg,.int .i64 0])∧w'.ownsRow w.heap.size 31 3 (.slice ag n cg) n (rcs (repl l n))∧Below w.heap.size w w':=by
 subst hl
 exact run_any l ao cap w hr hb hlen
structure RsIn (w:World) (l:List Ac) (n K:Nat) (ag:Option Addr) (cg:Nat) (bg:Option Addr) (cb sb j:Nat) (wr:World):Prop where
 sk:∃ L,L.sb=sb∧SrvK w [] wr (playP (l.take j)).1 L
 a:wr.ownsRow w.heap.size 31 3 (.slice ag n cg) n (rcs (repl l n))
 b:wr.ownsRow w.heap.size 31 3 (.slice bg K cb) K (rcs (repl (l.take K) K))
theorem RsIn.later {w:World} {l:List Ac} {n K:Nat} {ag:Option Addr} {cg:Nat} {bg:Option Addr} {cb sb j:Nat} {wr w':World} (h:RsIn w l n K ag cg bg cb sb j wr) (hb:Below wr.heap.size wr w'):RsIn w l n K ag cg bg cb sb j w':=by
 obtain⟨L,e,h1⟩:=h.sk
 exact⟨⟨L,e,h1.later hb⟩,row_keep h.a (fun b _ h2=>hb.block b h2),row_keep h.b (fun b _ h2=>hb.block b h2)⟩
theorem RsIn.below {w:World} {l:List Ac} {n K:Nat} {ag:Option Addr} {cg:Nat} {bg:Option Addr} {cb sb j:Nat} {wr:World} (h:RsIn w l n K ag cg bg cb sb j wr):Below w.heap.size w wr:=by
 obtain⟨L,e,h1⟩:=h.sk
 exact h1.below
theorem row_do {w w':World} {base n sz:Nat} {v:Value} {xs:List Value} (k:∀ {b:Nat} {c:Array Value},w.heap[b]?=some (.cells c 31 (0,0))→w'.heap[b]?=some (.cells c 31 (0,0))) (h:w.ownsRow base 31 sz v n xs):w'.ownsRow base 31 sz v n xs:=by
 refine⟨h.1,?_⟩
 rcases h.2 with h1 | ⟨g,c,cur,hv,hbb,hg,rest⟩
 ·exact .inl h1
 ·exact .inr ⟨g,c,cur,hv,hbb,k hg,rest⟩
set_option maxHeartbeats 8000000 in
theorem topRuns_any (l0:List Ac) (lo:Option Addr) (lc:Nat) (k:Int) (w:World) (hr:RdA w lo l0) (hn:lo=none→l0=[]∧lc=0) (hc:l0.length≤lc) (hb:∀ a∈l0,a.bytes.length≤140737488355328) (hlen:l0.length≤4398046511104):
  Calls Tryz.prog 11 #[.slice lo l0.length lc,.int .i64 k] w fun e w'=>e=.returned (.bool true)∧Below w.heap.size w w':=by
 by_cases hbig:300 < l0.length
 ·have hbig':300 < (l0.length:Int):=by omega
  go_enter Tryz.func11,Tryz.ntmps11
  go_wp2_with (first
   | (go_at_call 22;refine(alive_any w).mono ?_;rintro e w1 ⟨rfl,hb1⟩;have HB1:Hid (Below w.heap.size w w1):=hb1;clear hb1)
   | (go_at_call 34;refine(run_full l0 lo lc _ hbig hlen).mono ?_;rintro e w2 ⟨rfl,rfl⟩)
   | (go_at_call 22;refine(alive_any _).mono ?_;rintro e w3 ⟨rfl,hb3⟩;have HB3:Hid (Below w.heap.size w w3):=HB1.out.trans (hb3.mono HB1.out.size);clear hb3))
  go_ret
  exact⟨rfl,HB3.out⟩
 ·have hlen3:(l0.length:Int)≤300:=by omega
  have HR0:Hid (RdA w lo l0∧(lo=none→l0=[]∧lc=0)∧l0.length≤lc∧∀ a∈l0,a.bytes.length≤140737488355328):=⟨hr,hn,hc,hb⟩
  clear hr hn hc hb hlen hbig
  by_cases h100:l0.length≤100
  ·obtain⟨l,hl⟩:∃ l,l=l0:=⟨_,rfl⟩
   obtain⟨n,hn⟩:∃ n,n=l0.length:=⟨_,rfl⟩
   have HR:Hid (RdA w lo l∧(lo=none→l=[]∧lc=0)∧n≤lc∧(∀ a∈l,a.bytes.length≤140737488355328)∧l.length=n):=by rw [hl,hn];exact⟨HR0.out.1,HR0.out.2.1,HR0.out.2.2.1,HR0.out.2.2.2,rfl⟩
   rw [←hn] at h100 hlen3 ⊢
   have h100':(n:Int)≤100:=by omega
   have hnc:(n:Int)≤(lc:Int):=by have:=HR.out.2.2.1;omega
   obtain⟨K,hK,hKn⟩:=runs_num k n (by omega)
   clear hl hn HR0
   have hKi:(K:Int)≤(n:Int):=by omega
   have hK0:(0:Int)≤(K:Int):=by omega
   have hKc:(K:Int)≤(lc:Int):=by omega
   have HT:Hid ((l.take K).length=K∧RdA w lo (l.take K)∧(lo=none→l.take K=[]∧lc=0)∧(∀ a∈l.take K,a.bytes.length≤140737488355328)):=⟨by rw [List.length_take,HR.out.2.2.2.2];omega,HR.out.1.take K,fun e=>⟨by rw [(HR.out.2.1 e).1,List.take_nil],(HR.out.2.1 e).2⟩,fun a ha=>HR.out.2.2.2.1 a (List.mem_of_mem_take ha)⟩
   go_enter Tryz.func11,Tryz.ntmps11
   go_wp2_with (first
    | (go_at_call 22;refine(alive_any w).mono ?_;rintro e w1 ⟨rfl,hb1⟩;have HB1:Hid (Below w.heap.size w w1):=hb1;clear hb1)
    | (at_builtin;refine wpList_copy_acts rfl _ _ rfl rfl l lo lc _ rfl HR.out.2.2.2.2 (HR.out.1.below HB1.out) HR.out.2.1 (by rw [HR.out.2.2.2.2];omega) ?_;intro ao2 cap2 w2 r2 b2;have H2:Hid (RdA w2 ao2 l∧Below w.heap.size w w2):=⟨r2,HB1.out.trans (b2.mono HB1.out.size)⟩;clear r2 b2 HB1)
    | (go_at_call 34;refine(run_n HR.out.2.2.2.2 ao2 cap2 w2 H2.out.1 HR.out.2.2.2.1 (by omega)).mono ?_;rintro e w3 ⟨ag,cg,rfl,q1,q2⟩;have H3:Hid (w3.ownsRow w.heap.size 31 3 (.slice ag n cg) n (rcs (repl l n))∧Below w.heap.size w w3):=⟨row_base q1 H2.out.2.size,H2.out.2.trans (q2.mono H2.out.2.size)⟩;clear q1 q2 H2)
    | (at_builtin;refine wpList_copy_acts rfl _ _ rfl rfl (l.take K) lo lc K rfl HT.out.1 (HT.out.2.1.below H3.out.2) HT.out.2.2.1 (by rw [HT.out.1];omega) ?_;intro ao4 cap4 w4 r4 b4;have H4:Hid (RdA w4 ao4 (l.take K)∧w4.ownsRow w.heap.size 31 3 (.slice ag n cg) n (rcs (repl l n))∧Below w.heap.size w w4):=⟨r4,row_keep H3.out.1 (fun b _ h2=>b4.block b h2),H3.out.2.trans (b4.mono H3.out.2.size)⟩;clear r4 b4 H3)
    | (go_at_call 34;refine(run_n HT.out.1 ao4 cap4 w4 H4.out.1 HT.out.2.2.2 (by omega)).mono ?_;rintro e w5 ⟨bg,cb,rfl,q1,q2⟩;have H5:Hid (w5.ownsRow w.heap.size 31 3 (.slice ag n cg) n (rcs (repl l n))∧w5.ownsRow w.heap.size 31 3 (.slice bg K cb) K (rcs (repl (l.take K) K))∧Below w.heap.size w w5):=⟨row_keep H4.out.2.1 (fun b _ h2=>q2.block b h2),row_base q1 H4.out.2.2.size,H4.out.2.2.trans (q2.mono H4.out.2.2.size)⟩;clear q1 q2 H4)
    | (go_at_call 23;refine(newK (w0:=w) (ks:=[]) H5.out.2.2 (fun _ h=>by simp at h)).mono ?_;rintro e w6 ⟨L0,rfl,hl2,h2,h3⟩;obtain⟨sb,hsb⟩:∃ sb,sb=L0.sb:=⟨_,rfl⟩;have H6:Hid (RsIn w l n K ag cg bg cb sb 0 w6):=⟨⟨L0,hsb.symm,h2⟩,row_keep H5.out.1 (fun b _ h2=>h3.block b h2),row_keep H5.out.2.1 (fun b _ h2=>h3.block b h2)⟩;rw [←hsb];clear hl2 h2 h3 hsb H5))
   go_loopw [89] (fun i wr=>∃ j:Nat,j≤n∧i=.int .i64 j∧RsIn w l n K ag cg bg cb sb j wr) (fun i _=>n - (intOf i).toNat)
   case atStart=>exact⟨0,by omega,rfl,H6.out⟩
   case round=>
    obtain⟨j,hjn,rfl,hi⟩:=hrel
    have HI:Hid (RsIn w l n K ag cg bg cb sb j wr):=hi
    clear H6
    by_cases hlt:j < n
    ·have hlt':(j:Int) < (n:Int):=by omega
     have hj0:(0:Int)≤(j:Int):=by omega
     have hjl:j < l.length:=by rw [HR.out.2.2.2.2];exact hlt
     obtain⟨x,hx⟩:∃ x,x=l[j]:=⟨_,rfl⟩
     obtain⟨r,hrr⟩:∃ r,r=rpAt l j:=⟨_,rfl⟩
     obtain⟨b,off,rfl,zz⟩:=HR.out.1.lies hjl
     obtain⟨g,rfl,zz2⟩:=row_lies hi.a hlt rfl
     clear zz zz2
     have HDO0:Hid (∀ W,RsIn w l n K (some ⟨g,0,none⟩) cg bg cb sb j W→(LiesA W b (off+j*5) x∧LiesR W g (j*3) r)∧Calls Tryz.prog 19 #[.pointer (some ⟨sb,0,none⟩),aval x] W fun e w'=>e=.returned (rpval r)∧RsIn w l n K (some ⟨g,0,none⟩) cg bg cb sb (j+1) w'):=fun W hW=>by
      refine⟨⟨?_,?_⟩,?_⟩
      ·obtain⟨b',off',e,h⟩:=(HR.out.1.below hW.below).lies hjl
       cases e
       rw [hx]
       exact h
      ·obtain⟨g',e,h⟩:=row_lies hW.a hlt rfl
       cases e
       rw [hrr]
       exact h
      ·obtain⟨L,hLs,hsk⟩:=hW.sk
       have h0:=do_any x (HR.out.2.2.2.1 x (by rw [hx];exact List.getElem_mem hjl)) W _ L hsk.srv (okp_take l j (by omega) (by omega)).ok
       rw [hLs] at h0
       refine h0.mono ?_
       rintro e w' ⟨rfl,L',h'⟩
       refine⟨by rw [hrr,rpAt_eq l hjl,hx],⟨L',h'.sb.trans hLs,?_⟩,row_do (fun hg=>h'.keeps hsk.srv hg (by decide) (by decide)) hW.a,row_do (fun hg=>h'.keeps hsk.srv hg (by decide) (by decide)) hW.b⟩
       rw [take_succ_play l j hjl, ←hx]
       exact hsk.to h'
     by_cases hjK:j < K
     ·have hjK':(j:Int) < (K:Int):=by omega
      obtain⟨g2,rfl,zz⟩:=row_lies hi.b hjK rfl
      clear zz
      have HDO:Hid (∀ W,RsIn w l n K (some ⟨g,0,none⟩) cg (some ⟨g2,0,none⟩) cb sb j W→(LiesA W b (off+j*5) x∧LiesR W g (j*3) r∧LiesR W g2 (j*3) r)∧Calls Tryz.prog 19 #[.pointer (some ⟨sb,0,none⟩),aval x] W fun e w'=>e=.returned (rpval r)∧RsIn w l n K (some ⟨g,0,none⟩) cg (some ⟨g2,0,none⟩) cb sb (j+1) w'∧(LiesA w' b (off+j*5) x∧LiesR w' g (j*3) r∧LiesR w' g2 (j*3) r)):=fun W hW=>by
       have hB:∀ jj W',RsIn w l n K (some ⟨g,0,none⟩) cg (some ⟨g2,0,none⟩) cb sb jj W'→LiesA W' b (off+j*5) x∧LiesR W' g (j*3) r∧LiesR W' g2 (j*3) r:=fun jj W' hW'=>by
        obtain⟨b',off',e,h⟩:=(HR.out.1.below hW'.below).lies hjl
        obtain⟨g',e',h'⟩:=row_lies hW'.a hlt rfl
        obtain⟨g'',e'',h''⟩:=row_lies hW'.b hjK rfl
        cases e;cases e';cases e''
        rw [rpAt_take l hjK] at h''
        rw [hx,hrr]
        exact⟨h,h',h''⟩
       refine⟨hB _ _ hW,(HDO0.out W hW).2.mono ?_⟩
       rintro e w' ⟨rfl,h'⟩
       exact⟨rfl,h',hB _ _ h'⟩
      have HS:Hid (LiesA wr b (off+j*5) x∧LiesR wr g (j*3) r∧LiesR wr g2 (j*3) r):=(HDO.out wr HI.out).1
      clear hi hx hrr HDO0 hjl
      go_wp2_with fail
      refine Go.Proofs.YtjikokfjnbhngaaGreatDoor.bg (fun w'=>LiesA w' b (off+j*5) x∧LiesR w' g (j*3) r∧LiesR w' g2 (j*3) r) HS.out (fun hHeld=>?_)
      refine tk 0 hHeld ?_
      refine tk 1 hHeld ?_
      refine tk 2 hHeld ?_
      refine tk 3 hHeld ?_
      refine ty 4 rfl (aval x) (yields_acM (by rfl) _ rfl b (off+j*5) rfl x (fun w0 h=>h.1)) hHeld ?_
      refine tk 6 hHeld ?_
      refine tk 7 hHeld ?_
      refine tk 8 hHeld ?_
      refine ty 9 rfl (rpval r) (yields_rpM (by rfl) _ rfl g (j*3) rfl r (fun w0 h=>h.2.1)) hHeld ?_
      refine wpAnyH_ready (rs:=[5]) (by kernel_rfl) (by simp) ?_
      refine AllReadyH.cons rfl (fun KK hKK=>?_) AllReadyH.nil
      go_simp
      go_at_call 19
      refine(HDO.out _ (HI.out.later ((Below.refl _ _).drew))).2.mono ?_
      rintro e w5 ⟨rfl,h5,s5⟩
      have H5:Hid (RsIn w l n K (some ⟨g,0,none⟩) cg (some ⟨g2,0,none⟩) cb sb (j+1) w5):=h5
      clear h5
      (try go_simp)
      refine hKK.out _ _ s5 (fun hHeld=>?_)
      clear hKK KK
      (try simp only [Act.put,List.setIfInBounds_toArray,List.set_cons_zero,List.set_cons_succ,List.getElem_toArray,List.getElem_cons_zero,List.getElem_cons_succ])
      refine wpAnyH_take (i:=10) (v:=.bool false) rfl (by kernel_rfl) (by kernel_rfl) (by kernel_rfl) (fun _ _ _ h=>h) (Or.inl ⟨by kernel_rfl,?_⟩) hHeld ?_
      ·(intro w0 hSw;(try dsimp only at hSw);go_simp;try rfl)
      (try simp only [Act.put,List.setIfInBounds_toArray,List.set_cons_zero,List.set_cons_succ,List.getElem_toArray,List.getElem_cons_zero,List.getElem_cons_succ])
      refine tk 11 hHeld ?_
      refine tk 12 hHeld ?_
      refine tk 13 hHeld ?_
      refine wpAnyH_take (i:=14) (v:=.bool true) rfl (by kernel_rfl) (by kernel_rfl) (by kernel_rfl) (fun _ _ _ h=>h) (Or.inl ⟨by kernel_rfl,?_⟩) hHeld ?_
      ·(intro w0 hSw;(try dsimp only at hSw);go_simp;try rfl)
      (try simp only [Act.put,List.setIfInBounds_toArray,List.set_cons_zero,List.set_cons_succ,List.getElem_toArray,List.getElem_cons_zero,List.getElem_cons_succ])
      refine tk 15 hHeld ?_
      refine tk 16 hHeld ?_
      refine tk 17 hHeld ?_
      refine tk 18 hHeld ?_
      refine ty 19 rfl (rpval r) (yields_rpM (by rfl) _ rfl g (j*3) rfl r (fun w0 h=>h.2.1)) hHeld ?_
      refine tk 20 hHeld ?_
      refine tk 21 hHeld ?_
      refine tk 22 hHeld ?_
      refine ty 23 rfl (rpval r) (yields_rpM (by rfl) _ rfl g2 (j*3) rfl r (fun w0 h=>h.2.2)) hHeld ?_
      refine wpAnyH_take (i:=24) (v:=.bool false) rfl (by kernel_rfl) (by kernel_rfl) (by kernel_rfl) (fun _ _ _ h=>h) (Or.inl ⟨by kernel_rfl,?_⟩) hHeld ?_
      ·(intro w0 hSw;(try dsimp only at hSw);go_simp;try rfl)
      (try simp only [Act.put,List.setIfInBounds_toArray,List.set_cons_zero,List.set_cons_succ,List.getElem_toArray,List.getElem_cons_zero,List.getElem_cons_succ])
      refine tk 25 hHeld ?_
      refine tk 26 hHeld ?_
      refine dn ?_
      go_wp2
      go_roundw
      case rel=>exact⟨j+1,by omega,by go_num,H5.out⟩
      case measure=>simp [intOf];omega
     ·have hjK':(K:Int)≤(j:Int):=by omega
      have HDO:Hid (∀ W,RsIn w l n K (some ⟨g,0,none⟩) cg bg cb sb j W→(LiesA W b (off+j*5) x∧LiesR W g (j*3) r)∧Calls Tryz.prog 19 #[.pointer (some ⟨sb,0,none⟩),aval x] W fun e w'=>e=.returned (rpval r)∧RsIn w l n K (some ⟨g,0,none⟩) cg bg cb sb (j+1) w'∧(LiesA w' b (off+j*5) x∧LiesR w' g (j*3) r)):=fun W hW=>by
       refine⟨(HDO0.out W hW).1,(HDO0.out W hW).2.mono ?_⟩
       rintro e w' ⟨rfl,h'⟩
       refine⟨rfl,h',?_⟩
       obtain⟨b',off',e,h⟩:=(HR.out.1.below h'.below).lies hjl
       obtain⟨g',e',h2⟩:=row_lies h'.a hlt rfl
       cases e;cases e'
       rw [hx,hrr]
       exact⟨h,h2⟩
      have HS:Hid (LiesA wr b (off+j*5) x∧LiesR wr g (j*3) r):=(HDO.out wr HI.out).1
      clear hi hx hrr HDO0 hjl
      go_wp2_with fail
      refine Go.Proofs.YtjikokfjnbhngaaGreatDoor.bg (fun w'=>LiesA w' b (off+j*5) x∧LiesR w' g (j*3) r) HS.out (fun hHeld=>?_)
      refine tk 0 hHeld ?_
      refine tk 1 hHeld ?_
      refine tk 2 hHeld ?_
      refine tk 3 hHeld ?_
      refine ty 4 rfl (aval x) (yields_acM (by rfl) _ rfl b (off+j*5) rfl x (fun w0 h=>h.1)) hHeld ?_
      refine tk 6 hHeld ?_
      refine tk 7 hHeld ?_
      refine tk 8 hHeld ?_
      refine ty 9 rfl (rpval r) (yields_rpM (by rfl) _ rfl g (j*3) rfl r (fun w0 h=>h.2)) hHeld ?_
      refine wpAnyH_ready (rs:=[5]) (by kernel_rfl) (by simp) ?_
      refine AllReadyH.cons rfl (fun KK hKK=>?_) AllReadyH.nil
      go_simp
      go_at_call 19
      refine(HDO.out _ (HI.out.later ((Below.refl _ _).drew))).2.mono ?_
      rintro e w5 ⟨rfl,h5,s5⟩
      have H5:Hid (RsIn w l n K (some ⟨g,0,none⟩) cg bg cb sb (j+1) w5):=h5
      clear h5
      (try go_simp)
      refine hKK.out _ _ s5 (fun hHeld=>?_)
      clear hKK KK
      (try simp only [Act.put,List.setIfInBounds_toArray,List.set_cons_zero,List.set_cons_succ,List.getElem_toArray,List.getElem_cons_zero,List.getElem_cons_succ])
      refine wpAnyH_take (i:=10) (v:=.bool false) rfl (by kernel_rfl) (by kernel_rfl) (by kernel_rfl) (fun _ _ _ h=>h) (Or.inl ⟨by kernel_rfl,?_⟩) hHeld ?_
      ·(intro w0 hSw;(try dsimp only at hSw);go_simp;try rfl)
      (try simp only [Act.put,List.setIfInBounds_toArray,List.set_cons_zero,List.set_cons_succ,List.getElem_toArray,List.getElem_cons_zero,List.getElem_cons_succ])
      refine tk 11 hHeld ?_
      refine tk 12 hHeld ?_
      refine tk 13 hHeld ?_
      refine wpAnyH_take (i:=14) (v:=.bool false) rfl (by kernel_rfl) (by kernel_rfl) (by kernel_rfl) (fun _ _ _ h=>h) (Or.inl ⟨by kernel_rfl,?_⟩) hHeld ?_
      ·(intro w0 hSw;(try dsimp only at hSw);go_simp;try rfl)
      (try simp only [Act.put,List.setIfInBounds_toArray,List.set_cons_zero,List.set_cons_succ,List.getElem_toArray,List.getElem_cons_zero,List.getElem_cons_succ])
      refine tk 15 hHeld ?_
      refine sk 16 hHeld ?_
      refine sk 17 hHeld ?_
      refine sk 18 hHeld ?_
      refine sk 19 hHeld ?_
      refine sk 20 hHeld ?_
      refine sk 21 hHeld ?_
      refine sk 22 hHeld ?_
      refine sk 23 hHeld ?_
      refine sk 24 hHeld ?_
      refine tk 25 hHeld ?_
      refine tk 26 hHeld ?_
      refine dn ?_
      go_wp2
      go_roundw
      case rel=>exact⟨j+1,by omega,by go_num,H5.out⟩
      case measure=>simp [intOf];omega
    ·obtain rfl:j=n:=by omega
     go_wp2
     go_ret
     exact⟨rfl,HI.out.below⟩
  ·have h100':100 < (l0.length:Int):=by omega
   obtain⟨l,hl⟩:∃ l,l=l0.take 100:=⟨_,rfl⟩
   have HR:Hid (RdA w lo l∧(lo=none→l=[]∧lc=0)∧100≤lc∧(∀ a∈l,a.bytes.length≤140737488355328)∧l.length=100):=by
    rw [hl]
    exact⟨HR0.out.1.take 100,fun e=>⟨by rw [(HR0.out.2.1 e).1,List.take_nil],(HR0.out.2.1 e).2⟩,by have:=HR0.out.2.2.1;omega,fun a ha=>HR0.out.2.2.2 a (List.mem_of_mem_take ha),by rw [List.length_take];omega⟩
   have hnc:(100:Int)≤(lc:Int):=by have:=HR.out.2.2.1;omega
   obtain⟨K,hK,hKn⟩:∃ K:Nat,(wrap64 (wrap64 (k.tmod 101+100)+1)).tmod 101=(K:Int)∧K≤100:=by simpa using runs_num k 100 (by omega)
   clear hl HR0 h100
   have hKi:(K:Int)≤(100:Int):=by omega
   have hK0:(0:Int)≤(K:Int):=by omega
   have hKc:(K:Int)≤(lc:Int):=by omega
   have HT:Hid ((l.take K).length=K∧RdA w lo (l.take K)∧(lo=none→l.take K=[]∧lc=0)∧(∀ a∈l.take K,a.bytes.length≤140737488355328)):=⟨by rw [List.length_take,HR.out.2.2.2.2];omega,HR.out.1.take K,fun e=>⟨by rw [(HR.out.2.1 e).1,List.take_nil],(HR.out.2.1 e).2⟩,fun a ha=>HR.out.2.2.2.1 a (List.mem_of_mem_take ha)⟩
   go_enter Tryz.func11,Tryz.ntmps11
   go_wp2_with (first
    | (go_at_call 22;refine(alive_any w).mono ?_;rintro e w1 ⟨rfl,hb1⟩;have HB1:Hid (Below w.heap.size w w1):=hb1;clear hb1)
    | (at_builtin;refine wpList_copy_acts rfl _ _ rfl rfl l lo lc _ rfl HR.out.2.2.2.2 (HR.out.1.below HB1.out) HR.out.2.1 (by rw [HR.out.2.2.2.2];omega) ?_;intro ao2 cap2 w2 r2 b2;have H2:Hid (RdA w2 ao2 l∧Below w.heap.size w w2):=⟨r2,HB1.out.trans (b2.mono HB1.out.size)⟩;clear r2 b2 HB1)
    | (go_at_call 34;refine(run_n HR.out.2.2.2.2 ao2 cap2 w2 H2.out.1 HR.out.2.2.2.1 (by omega)).mono ?_;rintro e w3 ⟨ag,cg,rfl,q1,q2⟩;have H3:Hid (w3.ownsRow w.heap.size 31 3 (.slice ag 100 cg) 100 (rcs (repl l 100))∧Below w.heap.size w w3):=⟨row_base q1 H2.out.2.size,H2.out.2.trans (q2.mono H2.out.2.size)⟩;clear q1 q2 H2)
    | (at_builtin;refine wpList_copy_acts rfl _ _ rfl rfl (l.take K) lo lc K rfl HT.out.1 (HT.out.2.1.below H3.out.2) HT.out.2.2.1 (by rw [HT.out.1];omega) ?_;intro ao4 cap4 w4 r4 b4;have H4:Hid (RdA w4 ao4 (l.take K)∧w4.ownsRow w.heap.size 31 3 (.slice ag 100 cg) 100 (rcs (repl l 100))∧Below w.heap.size w w4):=⟨r4,row_keep H3.out.1 (fun b _ h2=>b4.block b h2),H3.out.2.trans (b4.mono H3.out.2.size)⟩;clear r4 b4 H3)
    | (go_at_call 34;refine(run_n HT.out.1 ao4 cap4 w4 H4.out.1 HT.out.2.2.2 (by omega)).mono ?_;rintro e w5 ⟨bg,cb,rfl,q1,q2⟩;have H5:Hid (w5.ownsRow w.heap.size 31 3 (.slice ag 100 cg) 100 (rcs (repl l 100))∧w5.ownsRow w.heap.size 31 3 (.slice bg K cb) K (rcs (repl (l.take K) K))∧Below w.heap.size w w5):=⟨row_keep H4.out.2.1 (fun b _ h2=>q2.block b h2),row_base q1 H4.out.2.2.size,H4.out.2.2.trans (q2.mono H4.out.2.2.size)⟩;clear q1 q2 H4)
    | (go_at_call 23;refine(newK (w0:=w) (ks:=[]) H5.out.2.2 (fun _ h=>by simp at h)).mono ?_;rintro e w6 ⟨L0,rfl,hl2,h2,h3⟩;obtain⟨sb,hsb⟩:∃ sb,sb=L0.sb:=⟨_,rfl⟩;have H6:Hid (RsIn w l 100 K ag cg bg cb sb 0 w6):=⟨⟨L0,hsb.symm,h2⟩,row_keep H5.out.1 (fun b _ h2=>h3.block b h2),row_keep H5.out.2.1 (fun b _ h2=>h3.block b h2)⟩;rw [←hsb];clear hl2 h2 h3 hsb H5))
   go_loopw [89] (fun i wr=>∃ j:Nat,j≤100∧i=.int .i64 j∧RsIn w l 100 K ag cg bg cb sb j wr) (fun i _=>100 - (intOf i).toNat)
   case atStart=>exact⟨0,by omega,rfl,H6.out⟩
   case round=>
    obtain⟨j,hjn,rfl,hi⟩:=hrel
    have HI:Hid (RsIn w l 100 K ag cg bg cb sb j wr):=hi
    clear H6
    by_cases hlt:j < 100
    ·have hlt':(j:Int) < (100:Int):=by omega
     have hj0:(0:Int)≤(j:Int):=by omega
     have hjl:j < l.length:=by rw [HR.out.2.2.2.2];exact hlt
     obtain⟨x,hx⟩:∃ x,x=l[j]:=⟨_,rfl⟩
     obtain⟨r,hrr⟩:∃ r,r=rpAt l j:=⟨_,rfl⟩
     obtain⟨b,off,rfl,zz⟩:=HR.out.1.lies hjl
     obtain⟨g,rfl,zz2⟩:=row_lies hi.a hlt rfl
     clear zz zz2
     have HDO0:Hid (∀ W,RsIn w l 100 K (some ⟨g,0,none⟩) cg bg cb sb j W→(LiesA W b (off+j*5) x∧LiesR W g (j*3) r)∧Calls Tryz.prog 19 #[.pointer (some ⟨sb,0,none⟩),aval x] W fun e w'=>e=.returned (rpval r)∧RsIn w l 100 K (some ⟨g,0,none⟩) cg bg cb sb (j+1) w'):=fun W hW=>by
      refine⟨⟨?_,?_⟩,?_⟩
      ·obtain⟨b',off',e,h⟩:=(HR.out.1.below hW.below).lies hjl
       cases e
       rw [hx]
       exact h
      ·obtain⟨g',e,h⟩:=row_lies hW.a hlt rfl
       cases e
       rw [hrr]
       exact h
      ·obtain⟨L,hLs,hsk⟩:=hW.sk
       have h0:=do_any x (HR.out.2.2.2.1 x (by rw [hx];exact List.getElem_mem hjl)) W _ L hsk.srv (okp_take l j (by omega) (by omega)).ok
       rw [hLs] at h0
       refine h0.mono ?_
       rintro e w' ⟨rfl,L',h'⟩
       refine⟨by rw [hrr,rpAt_eq l hjl,hx],⟨L',h'.sb.trans hLs,?_⟩,row_do (fun hg=>h'.keeps hsk.srv hg (by decide) (by decide)) hW.a,row_do (fun hg=>h'.keeps hsk.srv hg (by decide) (by decide)) hW.b⟩
       rw [take_succ_play l j hjl, ←hx]
       exact hsk.to h'
     by_cases hjK:j < K
     ·have hjK':(j:Int) < (K:Int):=by omega
      obtain⟨g2,rfl,zz⟩:=row_lies hi.b hjK rfl
      clear zz
      have HDO:Hid (∀ W,RsIn w l 100 K (some ⟨g,0,none⟩) cg (some ⟨g2,0,none⟩) cb sb j W→(LiesA W b (off+j*5) x∧LiesR W g (j*3) r∧LiesR W g2 (j*3) r)∧Calls Tryz.prog 19 #[.pointer (some ⟨sb,0,none⟩),aval x] W fun e w'=>e=.returned (rpval r)∧RsIn w l 100 K (some ⟨g,0,none⟩) cg (some ⟨g2,0,none⟩) cb sb (j+1) w'∧(LiesA w' b (off+j*5) x∧LiesR w' g (j*3) r∧LiesR w' g2 (j*3) r)):=fun W hW=>by
       have hB:∀ jj W',RsIn w l 100 K (some ⟨g,0,none⟩) cg (some ⟨g2,0,none⟩) cb sb jj W'→LiesA W' b (off+j*5) x∧LiesR W' g (j*3) r∧LiesR W' g2 (j*3) r:=fun jj W' hW'=>by
        obtain⟨b',off',e,h⟩:=(HR.out.1.below hW'.below).lies hjl
        obtain⟨g',e',h'⟩:=row_lies hW'.a hlt rfl
        obtain⟨g'',e'',h''⟩:=row_lies hW'.b hjK rfl
        cases e;cases e';cases e''
        rw [rpAt_take l hjK] at h''
        rw [hx,hrr]
        exact⟨h,h',h''⟩
       refine⟨hB _ _ hW,(HDO0.out W hW).2.mono ?_⟩
       rintro e w' ⟨rfl,h'⟩
       exact⟨rfl,h',hB _ _ h'⟩
      have HS:Hid (LiesA wr b (off+j*5) x∧LiesR wr g (j*3) r∧LiesR wr g2 (j*3) r):=(HDO.out wr HI.out).1
      clear hi hx hrr HDO0 hjl
      go_wp2_with fail
      refine Go.Proofs.YtjikokfjnbhngaaGreatDoor.bg (fun w'=>LiesA w' b (off+j*5) x∧LiesR w' g (j*3) r∧LiesR w' g2 (j*3) r) HS.out (fun hHeld=>?_)
      refine tk 0 hHeld ?_
      refine tk 1 hHeld ?_
      refine tk 2 hHeld ?_
      refine tk 3 hHeld ?_
      refine ty 4 rfl (aval x) (yields_acM (by rfl) _ rfl b (off+j*5) rfl x (fun w0 h=>h.1)) hHeld ?_
      refine tk 6 hHeld ?_
      refine tk 7 hHeld ?_
      refine tk 8 hHeld ?_
      refine ty 9 rfl (rpval r) (yields_rpM (by rfl) _ rfl g (j*3) rfl r (fun w0 h=>h.2.1)) hHeld ?_
      refine wpAnyH_ready (rs:=[5]) (by kernel_rfl) (by simp) ?_
      refine AllReadyH.cons rfl (fun KK hKK=>?_) AllReadyH.nil
      go_simp
      go_at_call 19
      refine(HDO.out _ (HI.out.later ((Below.refl _ _).drew))).2.mono ?_
      rintro e w5 ⟨rfl,h5,s5⟩
      have H5:Hid (RsIn w l 100 K (some ⟨g,0,none⟩) cg (some ⟨g2,0,none⟩) cb sb (j+1) w5):=h5
      clear h5
      (try go_simp)
      refine hKK.out _ _ s5 (fun hHeld=>?_)
      clear hKK KK
      (try simp only [Act.put,List.setIfInBounds_toArray,List.set_cons_zero,List.set_cons_succ,List.getElem_toArray,List.getElem_cons_zero,List.getElem_cons_succ])
      refine wpAnyH_take (i:=10) (v:=.bool false) rfl (by kernel_rfl) (by kernel_rfl) (by kernel_rfl) (fun _ _ _ h=>h) (Or.inl ⟨by kernel_rfl,?_⟩) hHeld ?_
      ·(intro w0 hSw;(try dsimp only at hSw);go_simp;try rfl)
      (try simp only [Act.put,List.setIfInBounds_toArray,List.set_cons_zero,List.set_cons_succ,List.getElem_toArray,List.getElem_cons_zero,List.getElem_cons_succ])
      refine tk 11 hHeld ?_
      refine tk 12 hHeld ?_
      refine tk 13 hHeld ?_
      refine wpAnyH_take (i:=14) (v:=.bool true) rfl (by kernel_rfl) (by kernel_rfl) (by kernel_rfl) (fun _ _ _ h=>h) (Or.inl ⟨by kernel_rfl,?_⟩) hHeld ?_
      ·(intro w0 hSw;(try dsimp only at hSw);go_simp;try rfl)
      (try simp only [Act.put,List.setIfInBounds_toArray,List.set_cons_zero,List.set_cons_succ,List.getElem_toArray,List.getElem_cons_zero,List.getElem_cons_succ])
      refine tk 15 hHeld ?_
      refine tk 16 hHeld ?_
      refine tk 17 hHeld ?_
      refine tk 18 hHeld ?_
      refine ty 19 rfl (rpval r) (yields_rpM (by rfl) _ rfl g (j*3) rfl r (fun w0 h=>h.2.1)) hHeld ?_
      refine tk 20 hHeld ?_
      refine tk 21 hHeld ?_
      refine tk 22 hHeld ?_
      refine ty 23 rfl (rpval r) (yields_rpM (by rfl) _ rfl g2 (j*3) rfl r (fun w0 h=>h.2.2)) hHeld ?_
      refine wpAnyH_take (i:=24) (v:=.bool false) rfl (by kernel_rfl) (by kernel_rfl) (by kernel_rfl) (fun _ _ _ h=>h) (Or.inl ⟨by kernel_rfl,?_⟩) hHeld ?_
      ·(intro w0 hSw;(try dsimp only at hSw);go_simp;try rfl)
      (try simp only [Act.put,List.setIfInBounds_toArray,List.set_cons_zero,List.set_cons_succ,List.getElem_toArray,List.getElem_cons_zero,List.getElem_cons_succ])
      refine tk 25 hHeld ?_
      refine tk 26 hHeld ?_
      refine dn ?_
      go_wp2
      go_roundw
      case rel=>exact⟨j+1,by omega,by go_num,H5.out⟩
      case measure=>simp [intOf];omega
     ·have hjK':(K:Int)≤(j:Int):=by omega
      have HDO:Hid (∀ W,RsIn w l 100 K (some ⟨g,0,none⟩) cg bg cb sb j W→(LiesA W b (off+j*5) x∧LiesR W g (j*3) r)∧Calls Tryz.prog 19 #[.pointer (some ⟨sb,0,none⟩),aval x] W fun e w'=>e=.returned (rpval r)∧RsIn w l 100 K (some ⟨g,0,none⟩) cg bg cb sb (j+1) w'∧(LiesA w' b (off+j*5) x∧LiesR w' g (j*3) r)):=fun W hW=>by
       refine⟨(HDO0.out W hW).1,(HDO0.out W hW).2.mono ?_⟩
       rintro e w' ⟨rfl,h'⟩
       refine⟨rfl,h',?_⟩
       obtain⟨b',off',e,h⟩:=(HR.out.1.below h'.below).lies hjl
       obtain⟨g',e',h2⟩:=row_lies h'.a hlt rfl
       cases e;cases e'
       rw [hx,hrr]
       exact⟨h,h2⟩
      have HS:Hid (LiesA wr b (off+j*5) x∧LiesR wr g (j*3) r):=(HDO.out wr HI.out).1
      clear hi hx hrr HDO0 hjl
      go_wp2_with fail
      refine Go.Proofs.YtjikokfjnbhngaaGreatDoor.bg (fun w'=>LiesA w' b (off+j*5) x∧LiesR w' g (j*3) r) HS.out (fun hHeld=>?_)
      refine tk 0 hHeld ?_
      refine tk 1 hHeld ?_
      refine tk 2 hHeld ?_
      refine tk 3 hHeld ?_
      refine ty 4 rfl (aval x) (yields_acM (by rfl) _ rfl b (off+j*5) rfl x (fun w0 h=>h.1)) hHeld ?_
      refine tk 6 hHeld ?_
      refine tk 7 hHeld ?_
      refine tk 8 hHeld ?_
      refine ty 9 rfl (rpval r) (yields_rpM (by rfl) _ rfl g (j*3) rfl r (fun w0 h=>h.2)) hHeld ?_
      refine wpAnyH_ready (rs:=[5]) (by kernel_rfl) (by simp) ?_
      refine AllReadyH.cons rfl (fun KK hKK=>?_) AllReadyH.nil
      go_simp
      go_at_call 19
      refine(HDO.out _ (HI.out.later ((Below.refl _ _).drew))).2.mono ?_
      rintro e w5 ⟨rfl,h5,s5⟩
      have H5:Hid (RsIn w l 100 K (some ⟨g,0,none⟩) cg bg cb sb (j+1) w5):=h5
      clear h5
      (try go_simp)
      refine hKK.out _ _ s5 (fun hHeld=>?_)
      clear hKK KK
      (try simp only [Act.put,List.setIfInBounds_toArray,List.set_cons_zero,List.set_cons_succ,List.getElem_toArray,List.getElem_cons_zero,List.getElem_cons_succ])
      refine wpAnyH_take (i:=10) (v:=.bool false) rfl (by kernel_rfl) (by kernel_rfl) (by kernel_rfl) (fun _ _ _ h=>h) (Or.inl ⟨by kernel_rfl,?_⟩) hHeld ?_
      ·(intro w0 hSw;(try dsimp only at hSw);go_simp;try rfl)
      (try simp only [Act.put,List.setIfInBounds_toArray,List.set_cons_zero,List.set_cons_succ,List.getElem_toArray,List.getElem_cons_zero,List.getElem_cons_succ])
      refine tk 11 hHeld ?_
      refine tk 12 hHeld ?_
      refine tk 13 hHeld ?_
      refine wpAnyH_take (i:=14) (v:=.bool false) rfl (by kernel_rfl) (by kernel_rfl) (by kernel_rfl) (fun _ _ _ h=>h) (Or.inl ⟨by kernel_rfl,?_⟩) hHeld ?_
      ·(intro w0 hSw;(try dsimp only at hSw);go_simp;try rfl)
      (try simp only [Act.put,List.setIfInBounds_toArray,List.set_cons_zero,List.set_cons_succ,List.getElem_toArray,List.getElem_cons_zero,List.getElem_cons_succ])
      refine tk 15 hHeld ?_
      refine sk 16 hHeld ?_
      refine sk 17 hHeld ?_
      refine sk 18 hHeld ?_
      refine sk 19 hHeld ?_
      refine sk 20 hHeld ?_
      refine sk 21 hHeld ?_
      refine sk 22 hHeld ?_
      refine sk 23 hHeld ?_
      refine sk 24 hHeld ?_
      refine tk 25 hHeld ?_
      refine tk 26 hHeld ?_
      refine dn ?_
      go_wp2
      go_roundw
      case rel=>exact⟨j+1,by omega,by go_num,H5.out⟩
      case measure=>simp [intOf];omega
    ·obtain rfl:j=100:=by omega
     go_wp2
     go_ret
     exact⟨rfl,HI.out.below⟩
end Go.Proofs.YtjikokfjnbhngaaGreatDoor.Sv
