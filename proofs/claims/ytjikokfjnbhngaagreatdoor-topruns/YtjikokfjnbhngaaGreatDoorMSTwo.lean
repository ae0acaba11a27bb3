/- Several texts in one, each as it was: STwo, SRefused. -/
import Derived.Test.YtjikokfjnbhngaaGreatDoorMSQuiet

/- Two servers side by side. -/
namespace Go.Proofs.YtjikokfjnbhngaaGreatDoor.Sv
open Go.RowKit
set_option maxRecDepth 100000
structure TwoS (w0:World) (ks:List Bx) (w:World) (S:Srv) (L:Lay) (T:Srv) (M:Lay):Prop where
 a:SrvK w0 ks w S L
 b:SrvK w0 ks w T M
 apart:∀ x,Mut S L x→¬ Mut T M x
theorem TwoS.swap {w0:World} {ks:List Bx} {w:World} {S:Srv} {L:Lay} {T:Srv} {M:Lay} (h:TwoS w0 ks w S L T M):TwoS w0 ks w T M S L:=⟨h.b,h.a,fun x h1 h2=>h.apart x h2 h1⟩
theorem mut_block {w:World} {S:Srv} {L:Lay} (h:SrvIn w S L) {b:Nat} (hb:Mut S L b):∃ (c:Array Value) (t:TypeId) (fr:Nat×Nat),w.heap[b]?=some (.cells c t fr)∧(t=86∨t=81):=by
 rcases hb with e | ⟨i,hi,hs,e⟩
 ·rw [e];exact⟨_,_,_,h.box,.inl rfl⟩
 ·obtain⟨x,hx⟩:=Option.isSome_iff_exists.1 hs
  rw [e];exact⟨_,_,_,(h.cl i hi x hx).1,.inr rfl⟩
theorem TwoS.left {w0:World} {ks:List Bx} {w:World} {S:Srv} {L:Lay} {T:Srv} {M:Lay} (h:TwoS w0 ks w S L T M) {S':Srv} {L':Lay} {w':World} (k:SrvTo w S L S' L' w'):TwoS w0 ks w' S' L' T M:=by
 have ha:=h.a.to k
 refine⟨ha,⟨h.b.srv.keep k.kp (fun x hx _=>⟨mut_block h.a.srv hx,h.apart x hx⟩),h.b.mine,ha.below,ha.ks⟩,fun x h1 h2=>?_⟩
 rcases k.mut h1 with e | e
 ·exact h.apart x e h2
 ·have:=h.b.srv.mut_lt h2
  omega
theorem TwoS.right {w0:World} {ks:List Bx} {w:World} {S:Srv} {L:Lay} {T:Srv} {M:Lay} (h:TwoS w0 ks w S L T M) {T':Srv} {M':Lay} {w':World} (k:SrvTo w T M T' M' w'):TwoS w0 ks w' S L T' M':=(h.swap.left k).swap
theorem TwoS.later {w0:World} {ks:List Bx} {w w':World} {S:Srv} {L:Lay} {T:Srv} {M:Lay} (h:TwoS w0 ks w S L T M) (hb:Below w.heap.size w w'):TwoS w0 ks w' S L T M:=⟨h.a.later hb,h.b.later hb,h.apart⟩
theorem TwoS.add {w0:World} {ks:List Bx} {w:World} {S:Srv} {L:Lay} {T:Srv} {M:Lay} (h:TwoS w0 ks w S L T M) (c:Array Value) (t:TypeId) (ht:¬ Ours t):TwoS w0 ((w.heap.size,c,t)::ks) (w.alloc (.cells c t)) S L T M:=⟨h.a.add c t ht,h.b.add c t ht,h.apart⟩
theorem two_start {w0 w w1 w2:World} {ks:List Bx} (h0:Below w0.heap.size w0 w) (hks:∀ k∈ks,w.heap[k.1]?=some (.cells k.2.1 k.2.2 (0,0))∧¬ Ours k.2.2) {x y:Srv×(Nat→Tm)} {L M:Lay} {TB TC:Nat} {T U:TL} (h1:PlIn (fun _=>False) w x L TB T w1) (h2:PlIn (fun _=>False) w1 y M TC U w2):TwoS w0 ks w2 x.1 L y.1 M:=by
 have b1:=kp_below h1.kp
 have b2:=kp_below h2.kp
 have s0:=h0.size
 have s1:=b1.size
 have hk:∀ k∈ks,w2.heap[k.1]?=some (.cells k.2.1 k.2.2 (0,0))∧¬ Ours k.2.2:=fun k hk=>by
  obtain⟨e1,e2⟩:=hks k hk
  have e3:=below_block b1 e1 (Array.getElem?_eq_some_iff.1 e1).1
  exact⟨below_block b2 e3 (Array.getElem?_eq_some_iff.1 e3).1,e2⟩
 have hb:Below w0.heap.size w0 w2:=(h0.trans (b1.mono s0)).trans (b2.mono (by omega))
 refine⟨⟨h1.srv.below b2,fun b hm=>by have:=h1.mine b hm;omega,hb,hk⟩,⟨h2.srv,fun b hm=>by have:=h2.mine b hm;omega,hb,hk⟩,fun b e1 e2=>?_⟩
 have:=h1.srv.mut_lt e1
 have:=h2.mine b e2
 omega
theorem two_do (a:Ac) (hl:a.bytes.length≤140737488355328) {w0:World} {ks:List Bx} {w:World} {S:Srv} {L:Lay} {T:Srv} {M:Lay} (h:TwoS w0 ks w S L T M) (ok:OkS S):
  Calls Tryz.prog 19 #[.pointer (some ⟨L.sb,0,none⟩),aval a] w fun e w'=>e=.returned (rpval (doS S a).2)∧∃ L',L'.sb=L.sb∧TwoS w0 ks w' (doS S a).1 L' T M:=by
 refine(do_any a hl w S L h.a.srv ok).mono ?_
 rintro e w' ⟨rfl,L',h'⟩
 exact⟨rfl,L',h'.sb,h.left h'⟩
theorem two_same {w0:World} {ks:List Bx} {w:World} {S:Srv} {L:Lay} {T:Srv} {M:Lay} (h:TwoS w0 ks w S L T M) (ok:OkS S) (hl:Like S T):
  Calls Tryz.prog 24 #[.pointer (some ⟨L.sb,0,none⟩),.pointer (some ⟨M.sb,0,none⟩)] w fun e w'=>e=.returned (.bool true)∧TwoS w0 ks w' S L T M:=by
 refine(same_eq w S L T M h.a.srv h.b.srv ok.v hl.v (fun i _=>by rw [hl.cl])).mono ?_
 rintro e w' ⟨rfl,hb⟩
 exact⟨rfl,h.later hb⟩
end Go.Proofs.YtjikokfjnbhngaaGreatDoor.Sv

/- The law TopRefused. -/
namespace Go.Proofs.YtjikokfjnbhngaaGreatDoor.Sv
open Go.RowKit
set_option maxRecDepth 100000
theorem abox_ks (w:World) (a:Ac):∀ k∈[((w.heap.size,acells a,28):Bx)],(w.alloc (abox a)).heap[k.1]?=some (.cells k.2.1 k.2.2 (0,0))∧¬ Ours k.2.2:=fun k hk=>by
 simp only [List.mem_singleton] at hk
 rw [hk]
 exact⟨at_new w _,act_foreign⟩
set_option maxHeartbeats 2000000 in
theorem topRefused_any (l:List Ac) (lo:Option Addr) (lc:Nat) (a:Ac) (w:World) (hr:RdA w lo l) (hb:∀ a∈l,a.bytes.length≤140737488355328) (hlen:l.length≤4398046511104) (ha:a.bytes.length≤140737488355328):
  Calls Tryz.prog 10 #[.slice lo l.length lc,aval a] w fun e w'=>e=.returned (.bool true)∧Below w.heap.size w w':=by
 obtain⟨ks,hks⟩:∃ ks:List Bx,ks=[((w.heap.size,acells a,28):Bx)]:=⟨_,rfl⟩
 obtain⟨x,hx⟩:∃ x,x=playP (l.take 100):=⟨_,rfl⟩
 have okx:OkP x (min 100 l.length):=by
  have:=okp_play (l.take 100) (by simp;omega)
  rwa [List.length_take, ←hx] at this
 obtain⟨S,t⟩:=x
 have HP1:Hid (Calls Tryz.prog 14 #[.slice lo l.length lc,.func (.func 18) #[] #[]] (w.alloc (abox a)) fun e w'=>∃ L TB T,e=.returned (.tuple #[.pointer (some ⟨L.sb,0,none⟩),.pointer (some ⟨TB,0,none⟩),.bool true])∧PlIn (fun _=>False) (w.alloc (abox a)) (S,t) L TB T w'):=by
  rw [hx];exact quiet_any l lo lc _ (hr.below (below1 w (abox a))) hb hlen
 have HP2:Hid (∀ w1:World,Below (w.alloc (abox a)).heap.size (w.alloc (abox a)) w1→Calls Tryz.prog 14 #[.slice lo l.length lc,.func (.func 18) #[] #[]] w1 fun e w'=>∃ L TB T,e=.returned (.tuple #[.pointer (some ⟨L.sb,0,none⟩),.pointer (some ⟨TB,0,none⟩),.bool true])∧PlIn (fun _=>False) w1 (S,t) L TB T w'):=fun w1 h1=>by
  rw [hx];exact quiet_any l lo lc w1 ((hr.below (below1 w (abox a))).below h1) hb hlen
 have HT:Hid (∀ (w1 w2:World) L TB T M TC U,PlIn (fun _=>False) (w.alloc (abox a)) (S,t) L TB T w1→PlIn (fun _=>False) w1 (S,t) M TC U w2→TwoS w ks w2 S L S M):=fun w1 w2 L TB T M TC U h1 h2=>by
  rw [hks];exact two_start (below1 w (abox a)) (abox_ks w a) h1 h2
 obtain⟨r,hrr⟩:∃ r,r=(doS S a).2:=⟨_,rfl⟩
 obtain⟨S',hS'⟩:∃ S',S'=(doS S a).1:=⟨_,rfl⟩
 have HDO:Hid (∀ W L M,TwoS w ks W S L S M→Calls Tryz.prog 19 #[.pointer (some ⟨L.sb,0,none⟩),aval a] W fun e w'=>e=.returned (rpval r)∧∃ L',L'.sb=L.sb∧TwoS w ks w' S' L' S M):=fun W L M hW=>by
  rw [hrr,hS'];exact two_do a ha hW okx.ok
 have hcase:r.code=0∨(r.code≠0∧r.n=0∧r.out=[]∧Like S S'):=by
  by_cases h0:r.code=0
  ·exact .inl h0
  ·rw [hrr] at h0
   obtain⟨q1,q2,q3⟩:=refused_do h0
   rw [←hrr] at h0 q2 q3
   rw [←hS'] at q1
   exact .inr ⟨h0,q2,q3,q1⟩
 have HSM:Hid (Like S S'→∀ W L M ks,TwoS w ks W S' L S M→Calls Tryz.prog 24 #[.pointer (some ⟨M.sb,0,none⟩),.pointer (some ⟨L.sb,0,none⟩)] W fun e w'=>e=.returned (.bool true)∧Below w.heap.size w w'):=fun hl W L M ks hW=>by
  refine(two_same hW.swap okx.ok hl).mono ?_
  rintro e w' ⟨rfl,h'⟩
  exact⟨rfl,h'.a.below⟩
 have HK:Hid (∀ (W:World) S L T M,TwoS w ks W S L T M→W.heap[w.heap.size]?=some (abox a)):=fun W S L T M hW=>(hW.a.ks (w.heap.size,acells a,28) (by rw [hks];simp)).1
 clear hr hb hlen ha hks hx okx hrr hS'
 obtain⟨rc,rn,ro⟩:=r
 have key:∀ (ct:Prop),(rc=0∨(rc≠0∧rn=0∧ro=[]∧Like S S'))→((rc=0→ct)→((rc==0)=false→rn=0→ro=[]→Like S S'→ct)→ct):=fun ct h h1 h2=>by
  rcases h with h | ⟨h,h3,h4,h5⟩
  ·exact h1 h
  ·exact h2 (by simpa using h) h3 h4 h5
 refine key _ hcase (fun h0=>?_) (fun h0 h1 h2 h3=>?_)
 ·subst h0
  clear hcase key
  go_enter Tryz.func10,Tryz.ntmps10
  go_wp2_with (first
   | (go_at_call 14;refine HP1.out.mono ?_;rintro e w1 ⟨L,TB,T,rfl,h1⟩;have H1:Hid (PlIn (fun _=>False) (w.alloc (abox a)) (S,t) L TB T w1):=h1;clear h1 HP1)
   | (go_at_call 14;refine(HP2.out _ (kp_below H1.out.kp)).mono ?_;rintro e w2 ⟨M,TC,U,rfl,h2⟩;have H2:Hid (TwoS w ks w2 S L S M):=HT.out _ _ _ _ _ _ _ _ H1.out h2;obtain⟨⟨a0,a1,a2,a3,a4⟩,af⟩:=fiveA (HK.out _ _ _ _ _ H2.out);have al:=(Array.getElem?_eq_some_iff.1 (HK.out _ _ _ _ _ H2.out)).1;clear h2 HP2)
   | (go_at_call 19;refine(HDO.out _ L M H2.out).mono ?_;rintro e w3 ⟨rfl,L3,hs3,h3⟩;have H3:Hid (Below w.heap.size w (w3.alloc (rpbox ⟨0,rn,ro⟩))):=h3.a.below.alloc h3.a.below.size _;clear hs3 h3 HDO))
  go_ret
  exact⟨rfl,H3.out⟩
 ·subst h1 h2
  have HL:Hid (Like S S'):=h3
  clear hcase key h3
  go_enter Tryz.func10,Tryz.ntmps10
  go_wp2_with (first
   | (go_at_call 14;refine HP1.out.mono ?_;rintro e w1 ⟨L,TB,T,rfl,h1⟩;have H1:Hid (PlIn (fun _=>False) (w.alloc (abox a)) (S,t) L TB T w1):=h1;clear h1 HP1)
   | (go_at_call 14;refine(HP2.out _ (kp_below H1.out.kp)).mono ?_;rintro e w2 ⟨M,TC,U,rfl,h2⟩;have H2:Hid (TwoS w ks w2 S L S M):=HT.out _ _ _ _ _ _ _ _ H1.out h2;obtain⟨⟨a0,a1,a2,a3,a4⟩,af⟩:=fiveA (HK.out _ _ _ _ _ H2.out);have al:=(Array.getElem?_eq_some_iff.1 (HK.out _ _ _ _ _ H2.out)).1;clear h2 HP2)
   | (go_at_call 19;refine(HDO.out _ L M H2.out).mono ?_;rintro e w3 ⟨rfl,L3,hs3,h3⟩;have H3:Hid (L3.sb=L.sb∧TwoS w ((w3.heap.size,rpcells ⟨rc,0,[]⟩,31)::ks) (w3.alloc (rpbox ⟨rc,0,[]⟩)) S' L3 S M):=⟨hs3,h3.add _ _ rep_foreign⟩;clear hs3 h3 HDO)
   | (go_at_call 24;have hsm:=HSM.out HL.out _ _ _ _ H3.out.2;rw [H3.out.1] at hsm;refine hsm.mono ?_;rintro e w4 ⟨rfl,h4⟩;have H4:Hid (Below w.heap.size w w4):=h4;clear h4 hsm))
  go_ret
  exact⟨rfl,H4.out⟩
end Go.Proofs.YtjikokfjnbhngaaGreatDoor.Sv
