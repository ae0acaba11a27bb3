/- What 'Run' answers: the replies, one by one. -/
import Derived.Test.YtjikokfjnbhngaaGreatDoorSPlayM
import Derived.Test.YtjikokfjnbhngaaGreatDoorSEnds
import Derived.Laws.AppendOwn
namespace Go.Proofs.YtjikokfjnbhngaaGreatDoor.Sv
open Go.RowKit
set_option maxRecDepth 100000
def rpAt (l:List Ac) (j:Nat):Rp:=(doS (playP (l.take j)).1 (l.getD j noAct)).2
def repl (l:List Ac) (k:Nat):List Rp:=(List.range k).map (rpAt l)
def rcs (rs:List Rp):List Value:=rs.flatMap fun r=>(rpcells r).toList
theorem repl_succ (l:List Ac) (k:Nat):repl l (k+1)=repl l k++[rpAt l k]:=by unfold repl;rw [List.range_succ,List.map_append];rfl
theorem repl_length (l:List Ac) (k:Nat):(repl l k).length=k:=by unfold repl;simp
theorem rcs_snoc (rs:List Rp) (r:Rp):rcs (rs++[r])=rcs rs++(rpcells r).toList:=by unfold rcs;simp
theorem rcs_length (rs:List Rp):(rcs rs).length=rs.length*3:=by
 induction rs with
 | nil=>rfl
 | cons r rs ih=>
  have:rcs (r::rs)=(rpcells r).toList++rcs rs:=by unfold rcs;rw [List.flatMap_cons]
  rw [this,List.length_append,ih]
  show 3+rs.length*3=(rs.length+1)*3
  omega
theorem rpAt_eq (l:List Ac) {j:Nat} (hj:j < l.length):rpAt l j=(doS (playP (l.take j)).1 l[j]).2:=by unfold rpAt;simp [hj]
theorem infoR3:(Tryz.prog.info? 31).map (fun i=>(i.zero,i.size,i.bytes))=some (some (.agg #[.int .i64 0,.int .i64 0,.string ⟨#[]⟩]),3,32):=by kernel_rfl
structure RuIn (w:World) (l:List Ac) (k:Nat) (L:Lay) (ao:Option Addr) (cap:Nat) (wr:World):Prop where
 sk:SrvK w [] wr (playP (l.take k)).1 L
 row:wr.ownsRow w.heap.size 31 3 (.slice ao k cap) k (rcs (repl l k))
theorem RuIn.later {w:World} {l:List Ac} {k:Nat} {L:Lay} {ao:Option Addr} {cap:Nat} {wr w':World} (h:RuIn w l k L ao cap wr) (hb:Below wr.heap.size wr w'):RuIn w l k L ao cap w':=⟨h.sk.later hb,row_keep h.row (fun b _ h2=>hb.block b h2)⟩
def RunEnd (w:World) (l:List Ac) (e:Ending) (w':World):Prop:=∃ ao cap,e=.returned (.tuple #[.slice ao l.length cap,.int .i64 0])∧w'.ownsRow w.heap.size 31 3 (.slice ao l.length cap) l.length (rcs (repl l l.length))∧Below w.heap.size w w'
theorem ru_next {w w3 w6:World} {S:Srv} {L:Lay} {ao:Option Addr} {cap k:Nat} {xs:List Value} {r:Rp} (h:SrvK w [] w3 S L) (hr:w3.ownsRow w.heap.size 31 3 (.slice ao k cap) k xs) (hg:(w3.alloc (rpbox r)).grownBy w6 (Value.slice ao k cap).ownBlock):SrvK w [] w6 S L:=by
 have ha:=h.later (below1 w3 (rpbox r))
 have key:∀ b,(Value.slice ao k cap).ownBlock=some b→w.heap.size≤b∧∃ c,(w3.alloc (rpbox r)).heap[b]?=some (.cells c 31 (0,0)):=fun b e=>by
  rcases hr.2 with ⟨hv,_⟩ | ⟨g,c,cur,hv,hbb,hgg,_⟩
  ·simp only [Value.slice.injEq] at hv
   rw [hv.1] at e
   cases e
  ·simp only [Value.slice.injEq] at hv
   rw [hv.1] at e
   have:g=b:=by simpa [Value.ownBlock] using e
   subst this
   exact⟨hbb,cur,at_old hgg _⟩
 refine⟨ha.srv.same fun b y ty ho hy=>hg.block b (Array.getElem?_eq_some_iff.1 hy).1 (fun e=>?_),ha.mine,⟨hg.os.trans ha.below.os,hg.tape.trans ha.below.tape,hg.output.trans ha.below.output,Nat.le_trans ha.below.size hg.size,fun b hb=>?_⟩,fun k hk=>by simp at hk⟩
 ·obtain⟨_,c,hc⟩:=key b e.symm
  rw [hc] at hy
  simp only [Option.some.injEq,Obj.cells.injEq] at hy
  exact rep_foreign (hy.2.1 ▸ ho)
 ·rw [hg.block b (Nat.lt_of_lt_of_le hb ha.below.size) (fun e=>?_),ha.below.block b hb]
  obtain⟨h1,_⟩:=key b e.symm
  omega
set_option maxHeartbeats 4000000 in
theorem run_any (l:List Ac) (lo:Option Addr) (lc:Nat) (w:World) (hr:RdA w lo l) (hb:∀ a∈l,a.bytes.length≤140737488355328) (hlen:l.length≤300):
  Calls Tryz.prog 34 #[.slice lo l.length lc] w (RunEnd w l):=by
 have HR:Hid (RdA w lo l∧(∀ a∈l,a.bytes.length≤140737488355328)):=⟨hr,hb⟩
 have hlen':(l.length:Int)≤300:=by omega
 clear hr hb
 go_enter Tryz.func34,Tryz.ntmps34
 go_wp2_with (go_at_call 23;refine(newK (w0:=w) (ks:=[]) (Below.refl _ _) (fun _ h=>by simp at h)).mono ?_;rintro e w2 ⟨L0,rfl,hl2,h2,h3⟩;obtain⟨sb,hsb⟩:∃ sb,sb=L0.sb:=⟨_,rfl⟩;have H2:Hid (L0.sb=sb∧RuIn w l 0 L0 none 0 w2):=⟨hsb.symm,h2,World.ownsRow_nil _ _ _ _⟩;rw [←hsb];clear hl2 h2 h3 hsb)
 go_loopw [5,14] (fun v i wr=>∃ (k:Nat) (L:Lay) (ao:Option Addr) (cap:Nat),k≤l.length∧v=.slice ao k cap∧i=.int .i64 k∧L.sb=sb∧RuIn w l k L ao cap wr) (fun _ i _=>l.length - (intOf i).toNat)
 case atStart=>exact⟨0,L0,none,0,by omega,rfl,rfl,H2.out.1,H2.out.2⟩
 case round=>
  obtain⟨k,L,ao,cap,hk,rfl,rfl,hLs,hi⟩:=hrel
  have HI:Hid (RuIn w l k L ao cap wr):=hi
  clear H2
  by_cases hlt:k < l.length
  ·have hlt':(k:Int) < (l.length:Int):=by omega
   obtain⟨b,off,rfl,hbl,c0,c1,c2,c3,c4⟩:=(HR.out.1.kept (M:=fun _=>False) (Kp.of_below _ hi.sk.below) (fun _ _ _ e=>e)).at hlt
   obtain⟨x,hx⟩:∃ x,x=l[k]:=⟨_,rfl⟩
   have okp:=okp_take l k (by omega) hk
   obtain⟨r,hrr⟩:∃ r,r=rpAt l k:=⟨_,rfl⟩
   have hst:=take_succ_play l k hlt
   rw [←hx] at c0 c1 c2 c3 c4 hst
   have HDO:Hid (Calls Tryz.prog 19 #[.pointer (some ⟨sb,0,none⟩),aval x] (wr.alloc (abox x)) fun e w'=>e=.returned (rpval r)∧∃ L',L'.sb=sb∧SrvK w [] w' (playP (l.take (k+1))).1 L'∧w'.ownsRow w.heap.size 31 3 (.slice ao k cap) k (rcs (repl l k))):=by
    have hia:=hi.later (below1 wr (abox x))
    have h0:=do_any x (HR.out.2 x (by rw [hx];exact List.getElem_mem hlt)) (wr.alloc (abox x)) _ L hia.sk.srv okp.ok
    rw [hLs] at h0
    refine h0.mono ?_
    rintro e w' ⟨rfl,L',h'⟩
    refine⟨by rw [hrr,rpAt_eq l hlt,hx],L',h'.sb.trans hLs,by rw [hst];exact hia.sk.to h',?_⟩
    refine⟨hia.row.1,?_⟩
    rcases hia.row.2 with h1 | ⟨g,c,cur,hv,hbb,hg,rest⟩
    ·exact .inl h1
    ·exact .inr ⟨g,c,cur,hv,hbb,h'.keeps hia.sk.srv hg (by decide) (by decide),rest⟩
   have HRS:Hid (repl l (k+1)=repl l k++[r]):=by rw [hrr];exact repl_succ l k
   obtain⟨i0,hi0,hz0,hz1,hz2⟩:=info_parts infoR3
   clear hi hx okp hrr hst hLs
   go_wp2_with (first
    | (go_at_call 19;refine HDO.out.mono ?_;rintro e w3 ⟨rfl,L3,hs3,h3,r3⟩;have H3:Hid (L3.sb=sb∧SrvK w [] w3 (playP (l.take (k+1))).1 L3):=⟨hs3,h3⟩;have HR3:Hid (w3.ownsRow w.heap.size 31 3 (.slice ao k cap) k (rcs (repl l k))):=r3;have hsz:=h3.below.size;clear hs3 h3 r3 HDO)
    | (at_builtin;refine wpList_append_lies _ rfl _ _ 73 rfl w.heap.size 31 i0 _ 3 32 Tryz.underlying73 hi0 hz0 hz1 hz2 rfl (by decide) _ k (rcs (repl l k)) rfl (HR3.out.alloc _) ⟨w3.heap.size,0,none⟩ 1 1 (rpcells r).toList rfl rfl ?d1 ?d2 (by decide) ?d3 ?d4 ?d5 (w3.heap.size+1) ?d6 ?_)
    | go_in)
   case d2=>exact⟨rfl,rfl,rfl⟩
   case d3=>unfold maxLen;omega
   case d4=>omega
   case d5=>simp;omega
   case d6=>simp
   ·intro g' cap' w6 hown6 hgrow6 _ _
    have H6:Hid (RuIn w l (k+1) L3 (some ⟨g',0,none⟩) cap' w6):=⟨ru_next H3.out.2 HR3.out hgrow6,by rw [HRS.out,rcs_snoc];exact hown6⟩
    clear hown6 hgrow6 HR3 c0 c1 c2 c3 c4
    go_wp2
    go_roundw
    case rel=>exact⟨k+1,L3,some ⟨g',0,none⟩,cap',by omega,rfl,by go_num,H3.out.1,H6.out⟩
    case measure=>simp [intOf];omega
  ·obtain rfl:k=l.length:=by omega
   clear hi
   go_wp2
   go_ret2
   exact⟨ao,cap,rfl,HI.out.row,HI.out.sk.below⟩
theorem run_full (l:List Ac) (lo:Option Addr) (lc:Nat) (w:World) (hlen:300 < l.length) (hm:l.length≤4398046511104):
  Calls Tryz.prog 34 #[.slice lo l.length lc] w fun e w'=>e=.returned (.tuple #[.slice none 0 0,.int .i64 5])∧w'=w:=by
 have hlen':300 < (l.length:Int):=by omega
 go_enter Tryz.func34,Tryz.ntmps34
 go_wp2
 go_ret2
 exact⟨rfl,rfl⟩
end Go.Proofs.YtjikokfjnbhngaaGreatDoor.Sv
