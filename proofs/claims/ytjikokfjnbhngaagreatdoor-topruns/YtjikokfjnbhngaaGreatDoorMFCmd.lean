/- Several texts in one, each as it was: FCmd, FStep, FGood, FClone. -/
import Derived.Test.YtjikokfjnbhngaaGreatDoorMFBase
import Derived.Deep.AppendLies

/- What 'inCommand' does to the world: it answers what the plain machine answers. -/
namespace Go.Proofs.YtjikokfjnbhngaaGreatDoor.Ps
open Go.RowKit
set_option maxRecDepth 100000
theorem info3:(Tryz.prog.info? 3).map (fun i=>(i.zero,i.size,i.bytes))=some (some (.int .i64 0),1,8):=by kernel_rfl
theorem digit_end {base:Nat} {w:World} {g cap k:Nat} {ps:List Int} {at0 b y:Int} {pl:ByteArray} {lg:Bool} {o1 o2 o3:Obj} (h:Own base w (some ⟨g,0,none⟩) cap ps) (hk:ps.length=k+1)
  (hF:cmdF ⟨at0,ps,pl,lg⟩ b=(⟨at0,ps.set k y,pl,lg⟩,noEv)):
  StepEnd base w (some ⟨g,0,none⟩) (cmdF ⟨at0,ps,pl,lg⟩ b) (.returned (.tuple #[.agg #[.int .i64 at0,.slice (some ⟨g,0,none⟩) (k+1) cap,.string pl,.bool lg],.agg #[.int .i64 0,.int .i64 0,.slice none 0 0,.string ⟨#[]⟩]]))
   ((((w.setCell ⟨g,k,none⟩ (.int .i64 y)).alloc o1).alloc o2).alloc o3).drew:=by
 rw [hF]
 obtain⟨h1,h2⟩:=own_store h k y
 exact⟨some ⟨g,0,none⟩,cap,none,0,by simp [hk,noEv],own_drew (own_alloc (own_alloc (own_alloc h1 _) _) _),own_nil _ _,grown_drew (grown_alloc (grown_alloc (grown_alloc h2 _) _) _),.inr (.inl rfl),.inl rfl⟩
set_option maxHeartbeats 400000 in
theorem cmd_digit (base g k cap:Nat) (ps:List Int) (at0:Int) (pl:ByteArray) (lg:Bool) (b:Int) (w:World) (hown:Own base w (some ⟨g,0,none⟩) cap ps) (hkl:ps.length=k+1)
  (hx:0≤ps.getD k 0∧ps.getD k 0≤999) (hb0:48≤b) (hb1:b≤57) (hk:k < 4):
  Calls Tryz.prog 97 #[.agg #[.int .i64 at0,.slice (some ⟨g,0,none⟩) (k+1) cap,.string pl,.bool lg],.int .i64 b] w fun e w'=>StepEnd base w (some ⟨g,0,none⟩) (cmdF ⟨at0,ps,pl,lg⟩ b) e w':=by
 have hc:=own_cell hown k (by omega)
 have hf:w.frozen? ⟨g,k,none⟩=false:=World.ownsRow.frozenAt hown k
 have HF:Hid (cmdF ⟨at0,ps,pl,lg⟩ b=(⟨at0,ps.set k (min (10*ps.getD k 0+b - 48) 999),pl,lg⟩,noEv)):=by
  show cmdF _ b=_
  simp [cmdF,hb0,hb1,lastUp,hkl]
 have HO:Hid (Own base w (some ⟨g,0,none⟩) cap ps):=hown
 have HL:Hid (ps.length=k+1):=hkl
 obtain⟨x,hxe⟩:∃ x,x=ps.getD k 0:=⟨_,rfl⟩
 rw [←hxe] at hc hx HF
 obtain⟨hx0,hx1⟩:=hx
 clear hown hkl hxe
 have hg:g < w.heap.size:=World.block_lt_of_cell? w _ hc
 have hg1:g < w.heap.size+1:=by omega
 have hg2:g < w.heap.size+1+1:=by omega
 have hgn:w.heap.size≠g:=by omega
 have hk1:(k:Int) < (k:Int)+1:=by omega
 go_enter Tryz.func97,Tryz.ntmps97
 go_wp2
 go_region
 all_goals go_wp2
 all_goals refine bodyPost_ret (v:=.tuple #[.agg #[.int .i64 at0,.slice (some ⟨g,0,none⟩) (k+1) cap,.string pl,.bool lg],.agg #[.int .i64 0,.int .i64 0,.slice none 0 0,.string ⟨#[]⟩]]) (by simp [results,Tryz.results97,go_sem]) rfl ?_
 ·have h:999 < 10*x+b - 48:=by assumption
  exact digit_end HO.out HL.out (by rw [HF.out,Int.min_eq_right (by omega)])
 ·have h:10*x+b - 48≤999:=by assumption
  exact digit_end HO.out HL.out (by rw [HF.out,Int.min_eq_left (by omega)])
set_option maxHeartbeats 400000 in
theorem cmd_semi (base g k cap:Nat) (ps:List Int) (at0:Int) (pl:ByteArray) (lg:Bool) (w:World) (hown:Own base w (some ⟨g,0,none⟩) cap ps) (hkl:ps.length=k+1) (hbase:base≤w.heap.size) (hk:k < 3):
  Calls Tryz.prog 97 #[.agg #[.int .i64 at0,.slice (some ⟨g,0,none⟩) (k+1) cap,.string pl,.bool lg],.int .i64 59] w fun e w'=>StepEnd base w (some ⟨g,0,none⟩) (cmdF ⟨at0,ps,pl,lg⟩ 59) e w':=by
 obtain⟨i0,hi,hz0,hz1,hz2⟩:=info_parts info3
 have HF:Hid (cmdF ⟨at0,ps,pl,lg⟩ 59=(⟨at0,ps++[0],pl,lg⟩,noEv)):=by
  show cmdF _ _=_
  have:ps.length < 4:=by omega
  simp [cmdF,this]
 have hown':w.ownsRow base 3 1 (.slice (some ⟨g,0,none⟩) (k+1) cap) (k+1) (ints ps):=by rw [←hkl];exact hown
 have HL:Hid (ps.length=k+1):=hkl
 have hk1:(k:Int)+1 < 4:=by omega
 clear hown hkl
 go_enter Tryz.func97,Tryz.ntmps97
 go_wp2_with (first | (at_builtin;refine wpList_append_lies _ rfl _ _ 35 rfl base 3 i0 (.int .i64 0) 1 8 Tryz.underlying35 hi hz0 hz1 hz2 rfl (by decide) _ (k+1) (ints ps) rfl ((((hown'.alloc _).alloc _).alloc _).alloc _) ⟨w.heap.size+1+1+1,0,none⟩ 1 1 [.int .i64 0] rfl rfl ?c1 ?c2 (by decide) ?c3 ?c4 ?c5 (w.heap.size+1+1+1+1) ?c6 ?_) | go_in)
 case c1=>
  intro j u hj
  match j,hj with
  | 0,hj=>simp at hj;subst hj;simp [Addr.add,go_sem]
 case c2=>intro u hu;simp at hu;subst hu;rfl
 case c3=>unfold maxLen;omega
 case c4=>omega
 case c5=>simp;omega
 case c6=>simp
 ·intro g' cap' w1 hown1 hgrow hat hlt
  have hgl:g < w.heap.size:=(World.ownsRow.lt hown' g rfl).2
  have B0:=four (grown_block hgrow (at_old (at_old (at_old (at_new w _) _) _) _) (by simp [Value.ownBlock];omega))
  have B1:=four (grown_block hgrow (at_old (at_old (at_new1 w _ _) _) _) (by simp [Value.ownBlock];omega))
  have B2:=four (grown_block hgrow (at_old (at_new2 w _ _ _) _) (by simp [Value.ownBlock];omega))
  obtain⟨a0,a1,a2,a3,f0,f1,f2,f3⟩:=B0
  obtain⟨b0,b1,b2,b3,d0,d1,d2,d3⟩:=B1
  obtain⟨e0,e1,e2,e3,j0,j1,j2,j3⟩:=B2
  have HG:Hid (w.grownBy w1 (some g)):=grown_trans (grown_alloc (grown_alloc (grown_alloc (World.grownBy_alloc w _ _) _) _) _) hgrow
  have HO:Hid (Own base w1 (some ⟨g',0,none⟩) cap' (ps++[0])):=by
   have e:(ps++[0]).length=k+1+1:=by simp [HL.out]
   show w1.ownsRow _ _ _ _ _ _
   rw [e]
   simpa [ints] using hown1
  have HA:Hid (g'=g∨g'=w.heap.size+4):=by
   rcases hat with h | h
   ·left;simpa [Value.ownBlock] using h.symm
   ·right;omega
  have HN:Hid (g < w.heap.size):=hgl
  clear hown1 hgrow hat hown'
  go_wp2
  refine bodyPost_ret (v:=.tuple #[.agg #[.int .i64 at0,.slice (some ⟨g',0,none⟩) (k+1+1) cap',.string pl,.bool lg],.agg #[.int .i64 0,.int .i64 0,.slice none 0 0,.string ⟨#[]⟩]]) (by simp [results,Tryz.results97,go_sem,b0,b1,b2,b3,e0,e1,e2,e3]) rfl ?_
  clear a0 a1 a2 a3 b0 b1 b2 b3 e0 e1 e2 e3 f0 f1 f2 f3 d0 d1 d2 d3 j0 j1 j2 j3
  rw [HF.out]
  have hA:=HA.out
  have hl:=HL.out
  refine⟨some ⟨g',0,none⟩,cap',none,0,by simp [hl,noEv],?_,own_nil _ _,?_,?_,.inl rfl⟩
  ·iterate 9 (refine own_set ?_ (by simp [blk];omega) _)
   exact HO.out
  ·iterate 9 (refine grown_set ?_ (by simp;try omega) _)
   exact HG.out
  ·rcases hA with h | h
   ·exact .inr (.inl (by simp [blk,h]))
   ·exact .inr (.inr ⟨g',rfl,by omega⟩)
theorem over_end {base:Nat} {w w':World} {a0:Option Addr} {r:PS×Ev} {pa:Int} (hr:r=(⟨pa,[],⟨#[]⟩,false⟩,noEv)) (hb:Below w.heap.size w w'):
  StepEnd base w a0 r (.returned (.tuple #[.agg #[.int .i64 pa,.slice none 0 0,.string ⟨#[]⟩,.bool false],.agg #[.int .i64 0,.int .i64 0,.slice none 0 0,.string ⟨#[]⟩]])) w':=by
 subst hr
 exact end_nil rfl rfl rfl hb
set_option maxHeartbeats 400000 in
theorem cmd_final (base g k cap:Nat) (ps:List Int) (at0:Int) (pl:ByteArray) (lg:Bool) (b:Int) (w:World) (hown:Own base w (some ⟨g,0,none⟩) cap ps) (hkl:ps.length=k+1) (hb0:64≤b) (hb1:b≤126):
  Calls Tryz.prog 97 #[.agg #[.int .i64 at0,.slice (some ⟨g,0,none⟩) (k+1) cap,.string pl,.bool lg],.int .i64 b] w fun e w'=>StepEnd base w (some ⟨g,0,none⟩) (cmdF ⟨at0,ps,pl,lg⟩ b) e w':=by
 have HF:Hid (cmdF ⟨at0,ps,pl,lg⟩ b=(ground,⟨3,b,ps,⟨#[]⟩⟩)):=by
  show cmdF _ _=_
  have h1:¬ (48≤b∧b≤57):=by omega
  have h2:¬ b=59:=by omega
  simp [cmdF,h1,h2,hb0,hb1]
 have n1:(b==59)=false:=by simp;omega
 have n2:57 < b:=by omega
 have n3:48≤b:=by omega
 have HO:Hid (Own base w (some ⟨g,0,none⟩) cap ps):=hown
 have HL:Hid (ps.length=k+1):=hkl
 clear hown hkl
 go_enter Tryz.func97,Tryz.ntmps97
 go_wp2
 go_region
 go_wp2
 refine bodyPost_ret (v:=.tuple #[.agg #[.int .i64 0,.slice none 0 0,.string ⟨#[]⟩,.bool false],.agg #[.int .i64 3,.int .i64 b,.slice (some ⟨g,0,none⟩) (k+1) cap,.string ⟨#[]⟩]]) (by simp [results,Tryz.results97,go_sem]) rfl ?_
 rw [HF.out]
 have hl:=HL.out
 exact⟨none,0,some ⟨g,0,none⟩,cap,by simp [hl,ground],own_nil _ _,own_drew (own_alloc (own_alloc (own_alloc HO.out _) _) _),grown_drew (grown_alloc (grown_alloc (World.grownBy_alloc w _ _) _) _),.inl rfl,.inr ⟨rfl,rfl⟩⟩
set_option maxHeartbeats 400000 in
theorem cmd_esc (base n cap:Nat) (a0:Option Addr) (ps:List Int) (at0:Int) (pl:ByteArray) (lg:Bool) (w:World):
  Calls Tryz.prog 97 #[.agg #[.int .i64 at0,.slice a0 n cap,.string pl,.bool lg],.int .i64 27] w fun e w'=>StepEnd base w a0 (cmdF ⟨at0,ps,pl,lg⟩ 27) e w':=by
 go_enter Tryz.func97,Tryz.ntmps97
 go_wp2
 exact bodyPost_ret (v:=.tuple #[.agg #[.int .i64 1,.slice none 0 0,.string ⟨#[]⟩,.bool false],.agg #[.int .i64 0,.int .i64 0,.slice none 0 0,.string ⟨#[]⟩]]) (by simp [results,Tryz.results97,go_sem]) rfl
  (over_end rfl ((((Below.refl _ _).alloc (Nat.le_refl _) _).alloc (by simp) _).alloc (by simp;omega) _))
set_option maxHeartbeats 400000 in
theorem cmd_full (base n cap:Nat) (a0:Option Addr) (ps:List Int) (at0:Int) (pl:ByteArray) (lg:Bool) (w:World) (hn:n=ps.length) (h4:4≤n):
  Calls Tryz.prog 97 #[.agg #[.int .i64 at0,.slice a0 n cap,.string pl,.bool lg],.int .i64 59] w fun e w'=>StepEnd base w a0 (cmdF ⟨at0,ps,pl,lg⟩ 59) e w':=by
 have HF:Hid (cmdF ⟨at0,ps,pl,lg⟩ 59=(ground,noEv)):=by
  show cmdF _ _=_
  have h1:¬ ps.length < 4:=by omega
  simp [cmdF,h1]
 clear hn
 have h4':¬ (n:Int) < 4:=by omega
 clear h4
 go_enter Tryz.func97,Tryz.ntmps97
 go_wp2
 exact bodyPost_ret (v:=.tuple #[.agg #[.int .i64 0,.slice none 0 0,.string ⟨#[]⟩,.bool false],.agg #[.int .i64 0,.int .i64 0,.slice none 0 0,.string ⟨#[]⟩]]) (by simp [results,Tryz.results97,go_sem]) rfl
  (over_end HF.out ((((Below.refl _ _).alloc (Nat.le_refl _) _).alloc (by simp) _).alloc (by simp;omega) _))
set_option maxHeartbeats 400000 in
theorem cmd_other (base n cap:Nat) (a0:Option Addr) (ps:List Int) (at0:Int) (pl:ByteArray) (lg:Bool) (b:Int) (w:World) (h27:b≠27) (h59:b≠59) (hr:b < 48∨(57 < b∧b < 64)∨126 < b):
  Calls Tryz.prog 97 #[.agg #[.int .i64 at0,.slice a0 n cap,.string pl,.bool lg],.int .i64 b] w fun e w'=>StepEnd base w a0 (cmdF ⟨at0,ps,pl,lg⟩ b) e w':=by
 have HF:Hid (cmdF ⟨at0,ps,pl,lg⟩ b=(ground,noEv)):=by
  show cmdF _ _=_
  have h1:¬ (48≤b∧b≤57):=by omega
  have h2:¬ (64≤b∧b≤126):=by omega
  simp [cmdF,h1,h2,h27,h59]
 have n1:(b==59)=false:=by simpa using h59
 have n2:(b==27)=false:=by simpa using h27
 clear h27 h59
 rcases hr with h | h | h
 ·go_enter Tryz.func97,Tryz.ntmps97
  go_wp2
  exact bodyPost_ret (v:=.tuple #[.agg #[.int .i64 0,.slice none 0 0,.string ⟨#[]⟩,.bool false],.agg #[.int .i64 0,.int .i64 0,.slice none 0 0,.string ⟨#[]⟩]]) (by simp [results,Tryz.results97,go_sem]) rfl
   (over_end HF.out ((((Below.refl _ _).alloc (Nat.le_refl _) _).alloc (by simp) _).alloc (by simp;omega) _))
 ·obtain⟨h1,h2⟩:=h
  go_enter Tryz.func97,Tryz.ntmps97
  go_wp2
  exact bodyPost_ret (v:=.tuple #[.agg #[.int .i64 0,.slice none 0 0,.string ⟨#[]⟩,.bool false],.agg #[.int .i64 0,.int .i64 0,.slice none 0 0,.string ⟨#[]⟩]]) (by simp [results,Tryz.results97,go_sem]) rfl
   (over_end HF.out ((((Below.refl _ _).alloc (Nat.le_refl _) _).alloc (by simp) _).alloc (by simp;omega) _))
 ·go_enter Tryz.func97,Tryz.ntmps97
  go_wp2
  exact bodyPost_ret (v:=.tuple #[.agg #[.int .i64 0,.slice none 0 0,.string ⟨#[]⟩,.bool false],.agg #[.int .i64 0,.int .i64 0,.slice none 0 0,.string ⟨#[]⟩]]) (by simp [results,Tryz.results97,go_sem]) rfl
   (over_end HF.out ((((Below.refl _ _).alloc (Nat.le_refl _) _).alloc (by simp) _).alloc (by simp;omega) _))
theorem inCommand_any (base cap:Nat) (ao:Option Addr) (ps:List Int) (at0:Int) (pl:ByteArray) (lg:Bool) (b:Int) (w:World) (hown:Own base w ao cap ps) (hbase:base≤w.heap.size)
  (hl0:0 < ps.length) (hl4:ps.length≤4) (hx:∀ x∈ps,0≤x∧x≤999):
  Calls Tryz.prog 97 #[.agg #[.int .i64 at0,.slice ao ps.length cap,.string pl,.bool lg],.int .i64 b] w fun e w'=>StepEnd base w ao (cmdF ⟨at0,ps,pl,lg⟩ b) e w':=by
 obtain⟨k,hk⟩:∃ k,ps.length=k+1:=⟨ps.length - 1,by omega⟩
 obtain⟨g,rfl,hg1,hg2⟩:=own_form hown hl0
 have hxk:0≤ps.getD k 0∧ps.getD k 0≤999:=by
  have:k < ps.length:=by omega
  rw [List.getD_eq_getElem?_getD,List.getElem?_eq_getElem this]
  exact hx _ (List.getElem_mem this)
 by_cases h1:48≤b∧b≤57
 ·rw [hk]
  exact cmd_digit base g k cap ps at0 pl lg b w hown hk hxk h1.1 h1.2 (by omega)
 ·by_cases h2:b=59
  ·subst h2
   by_cases h3:ps.length < 4
   ·rw [hk]
    exact cmd_semi base g k cap ps at0 pl lg w hown hk hbase (by omega)
   ·exact cmd_full base _ cap _ ps at0 pl lg w rfl (by omega)
  ·by_cases h3:64≤b∧b≤126
   ·rw [hk]
    exact cmd_final base g k cap ps at0 pl lg b w hown hk h3.1 h3.2
   ·by_cases h4:b=27
    ·subst h4
     exact cmd_esc base _ cap _ ps at0 pl lg w
    ·exact cmd_other base _ cap _ ps at0 pl lg b w h4 h2 (by omega)
end Go.Proofs.YtjikokfjnbhngaaGreatDoor.Ps

/- What 'step' does to the world: it answers what the plain machine answers to one byte. -/
namespace Go.Proofs.YtjikokfjnbhngaaGreatDoor.Ps
open Go.RowKit
structure GoodS (s:PS):Prop where
 lo:0≤s.place
 hi:s.place≤4
 len:s.ps.length≤4
 some':s.place=2↔0 < s.ps.length
 nums:∀ x∈s.ps,0≤x∧x≤999
 size:s.pl.size≤48
 empty:s.place≠3→s.place≠4→s.pl=⟨#[]⟩∧s.lg=false
theorem own_kept {base:Nat} {w w':World} {ao:Option Addr} {cap:Nat} {l:List Int} {row:Option Nat} (h:Own base w ao cap l) (hg:w.grownBy w' row) (hne:blk ao=none∨blk ao≠row):Own base w' ao cap l:=by
 refine World.ownsRow.kept h hg ?_
 cases ao with
 | none=>exact .inl rfl
 | some a=>simpa [Value.ownBlock,blk] using hne
theorem own_blk {base:Nat} {w:World} {ao:Option Addr} {cap:Nat} {l:List Int} (h:Own base w ao cap l) {g:Nat} (hg:blk ao=some g):base≤g∧g < w.heap.size:=by
 refine World.ownsRow.lt h g ?_
 cases ao with
 | none=>simp [blk] at hg
 | some a=>simpa [Value.ownBlock,blk] using hg
theorem step_up {base:Nat} {w w1:World} {ao:Option Addr} {cap:Nat} {l:List Int} {r:PS×Ev} {a:Option Addr} {c:Nat} {p:Option Addr} {pc:Nat} {o1 o2 o3:Obj} (hown:Own base w ao cap l)
  (h:Stepped base (((w.alloc o1).alloc o2).alloc o3) ao r a c p pc w1) (u0 u1 u2 u3 u4 u5 u6 u7:Value):
  Stepped base w ao r a c p pc ((((((((w1.setCell ⟨w.heap.size+1,0,none⟩ u0).setCell ⟨w.heap.size+1,1,none⟩ u1).setCell ⟨w.heap.size+1,2,none⟩ u2).setCell ⟨w.heap.size+1,3,none⟩ u3).setCell ⟨w.heap.size+1+1,0,none⟩ u4).setCell ⟨w.heap.size+1+1,1,none⟩ u5).setCell ⟨w.heap.size+1+1,2,none⟩ u6).setCell ⟨w.heap.size+1+1,3,none⟩ u7):=by
 obtain⟨h1,h2,h3,h4,h5⟩:=h
 have ho:∀ g,blk ao=some g→g < w.heap.size:=fun g hg=>(own_blk hown hg).2
 have hA:∀ g,blk a=some g→g < w.heap.size∨w.heap.size+3≤g:=by
  intro g hg
  rcases h4 with e | e | ⟨g',e,hle⟩
  ·rw [hg] at e;cases e
  ·exact .inl (ho g (e ▸ hg))
  ·rw [hg] at e;cases e;right;simpa using hle
 have hP:∀ g,blk p=some g→g < w.heap.size:=by
  intro g hg
  rcases h5 with e | ⟨e,_⟩
  ·subst e;simp [blk] at hg
  ·exact ho g (e ▸ hg)
 refine⟨?_,?_,?_,?_,h5⟩
 ·iterate 8 (refine own_set ?_ (fun e=>by have:=hA _ e;simp at this;omega) _)
  exact h1
 ·iterate 8 (refine own_set ?_ (fun e=>by have:=hP _ e;simp at this;omega) _)
  exact h2
 ·iterate 8 (refine grown_set ?_ (by simp;try omega) _)
  exact grown_trans (grown_alloc (grown_alloc (World.grownBy_alloc w _ _) _) _) h3
 ·rcases h4 with e | e | ⟨g',e,hle⟩
  ·exact .inl e
  ·exact .inr (.inl e)
  ·exact .inr (.inr ⟨g',e,by simp at hle;omega⟩)
theorem boxes {base:Nat} {w w1:World} {ao:Option Addr} {cap:Nat} {l:List Int} {row:Option Nat} (hown:Own base w ao cap l) {t0 t1 t2:TypeId} {x0 x1 x2 x3 y0 y1 y2 y3 z0 z1 z2 z3:Value}
  (hg:(((w.alloc (.cells #[x0,x1,x2,x3] t0)).alloc (.cells #[y0,y1,y2,y3] t1)).alloc (.cells #[z0,z1,z2,z3] t2)).grownBy w1 row) (hrow:row=blk ao∨row=none):
  (w1.cell? ⟨w.heap.size+1,0,none⟩=some y0∧w1.cell? ⟨w.heap.size+1,1,none⟩=some y1∧w1.cell? ⟨w.heap.size+1,2,none⟩=some y2∧w1.cell? ⟨w.heap.size+1,3,none⟩=some y3∧
  w1.frozen? ⟨w.heap.size+1,0,none⟩=false∧w1.frozen? ⟨w.heap.size+1,1,none⟩=false∧w1.frozen? ⟨w.heap.size+1,2,none⟩=false∧w1.frozen? ⟨w.heap.size+1,3,none⟩=false)∧
  (w1.cell? ⟨w.heap.size+1+1,0,none⟩=some z0∧w1.cell? ⟨w.heap.size+1+1,1,none⟩=some z1∧w1.cell? ⟨w.heap.size+1+1,2,none⟩=some z2∧w1.cell? ⟨w.heap.size+1+1,3,none⟩=some z3∧
  w1.frozen? ⟨w.heap.size+1+1,0,none⟩=false∧w1.frozen? ⟨w.heap.size+1+1,1,none⟩=false∧w1.frozen? ⟨w.heap.size+1+1,2,none⟩=false∧w1.frozen? ⟨w.heap.size+1+1,3,none⟩=false):=by
 have hbl:∀ k,w.heap.size≤k→some k≠row:=by
  intro k hk e
  rcases hrow with h | h
  ·rw [h] at e
   have:=(own_blk hown e.symm).2
   omega
  ·rw [h] at e;cases e
 exact⟨four (grown_block hg (at_old (at_new1 w _ _) _) (hbl _ (by omega))),four (grown_block hg (at_new2 w _ _ _) (hbl _ (by omega)))⟩
set_option maxHeartbeats 400000 in
theorem step_esc (base cap:Nat) (ao:Option Addr) (ps:List Int) (pl:ByteArray) (lg:Bool) (b:Int) (w:World) (hown:Own base w ao cap ps) (hbase:base≤w.heap.size):
  Calls Tryz.prog 76 #[.agg #[.int .i64 1,.slice ao ps.length cap,.string pl,.bool lg],.int .i64 b] w fun e w'=>StepEnd base w ao (stp ⟨1,ps,pl,lg⟩ b) e w':=by
 have HO:Hid (Own base w ao cap ps):=hown
 clear hown
 go_enter Tryz.func76,Tryz.ntmps76
 go_wp2_with fail
 refine(escaped_any base ao b _ (by simp;omega)).mono ?_
 rintro e w1 ⟨a,c,p,pc,rfl,hst⟩
 obtain⟨⟨b0,b1,b2,b3,d0,d1,d2,d3⟩,⟨e0,e1,e2,e3,j0,j1,j2,j3⟩⟩:=boxes HO.out hst.grown (.inl rfl)
 have HS:Hid _:=step_up HO.out hst
 clear hst
 go_wp2
 exact bodyPost_ret (v:=.tuple #[.agg #[.int .i64 (escF b).1.place,.slice a (escF b).1.ps.length c,.string (escF b).1.pl,.bool (escF b).1.lg],.agg #[.int .i64 (escF b).2.kind,.int .i64 (escF b).2.b,.slice p (escF b).2.ps.length pc,.string (escF b).2.pl]])
  (by simp [results,Tryz.results76,go_sem,b0,b1,b2,b3,e0,e1,e2,e3]) rfl ⟨a,c,p,pc,rfl,HS.out _ _ _ _ _ _ _ _⟩
set_option maxHeartbeats 400000 in
theorem step_gnd (base cap:Nat) (ao:Option Addr) (ps:List Int) (pl:ByteArray) (lg:Bool) (b:Int) (w:World) (hown:Own base w ao cap ps) (_hbase:base≤w.heap.size):
  Calls Tryz.prog 76 #[.agg #[.int .i64 0,.slice ao ps.length cap,.string pl,.bool lg],.int .i64 b] w fun e w'=>StepEnd base w ao (stp ⟨0,ps,pl,lg⟩ b) e w':=by
 have HO:Hid (Own base w ao cap ps):=hown
 clear hown
 go_enter Tryz.func76,Tryz.ntmps76
 go_wp2_with fail
 refine(onGround_any base ao b _).mono ?_
 rintro e w1 ⟨a,c,p,pc,rfl,hst⟩
 obtain⟨⟨b0,b1,b2,b3,d0,d1,d2,d3⟩,⟨e0,e1,e2,e3,j0,j1,j2,j3⟩⟩:=boxes HO.out hst.grown (.inl rfl)
 have HS:Hid _:=step_up HO.out hst
 clear hst
 go_wp2
 exact bodyPost_ret (v:=.tuple #[.agg #[.int .i64 (gndF b).1.place,.slice a (gndF b).1.ps.length c,.string (gndF b).1.pl,.bool (gndF b).1.lg],.agg #[.int .i64 (gndF b).2.kind,.int .i64 (gndF b).2.b,.slice p (gndF b).2.ps.length pc,.string (gndF b).2.pl]])
  (by simp [results,Tryz.results76,go_sem,b0,b1,b2,b3,e0,e1,e2,e3]) rfl ⟨a,c,p,pc,rfl,HS.out _ _ _ _ _ _ _ _⟩
set_option maxHeartbeats 400000 in
theorem step_end (base cap:Nat) (ao:Option Addr) (ps:List Int) (pl:ByteArray) (lg:Bool) (b:Int) (w:World) (hown:Own base w ao cap ps) (_hbase:base≤w.heap.size):
  Calls Tryz.prog 76 #[.agg #[.int .i64 4,.slice ao ps.length cap,.string pl,.bool lg],.int .i64 b] w fun e w'=>StepEnd base w ao (stp ⟨4,ps,pl,lg⟩ b) e w':=by
 have HO:Hid (Own base w ao cap ps):=hown
 clear hown
 go_enter Tryz.func76,Tryz.ntmps76
 go_wp2_with fail
 refine(ending_any base ao ps.length cap 4 ps pl lg b _).mono ?_
 rintro e w1 ⟨a,c,p,pc,rfl,hst⟩
 obtain⟨⟨b0,b1,b2,b3,d0,d1,d2,d3⟩,⟨e0,e1,e2,e3,j0,j1,j2,j3⟩⟩:=boxes HO.out hst.grown (.inl rfl)
 have HS:Hid _:=step_up HO.out hst
 clear hst
 go_wp2
 exact bodyPost_ret (v:=.tuple #[.agg #[.int .i64 (endF ⟨4,ps,pl,lg⟩ b).1.place,.slice a (endF ⟨4,ps,pl,lg⟩ b).1.ps.length c,.string (endF ⟨4,ps,pl,lg⟩ b).1.pl,.bool (endF ⟨4,ps,pl,lg⟩ b).1.lg],.agg #[.int .i64 (endF ⟨4,ps,pl,lg⟩ b).2.kind,.int .i64 (endF ⟨4,ps,pl,lg⟩ b).2.b,.slice p (endF ⟨4,ps,pl,lg⟩ b).2.ps.length pc,.string (endF ⟨4,ps,pl,lg⟩ b).2.pl]])
  (by simp [results,Tryz.results76,go_sem,b0,b1,b2,b3,e0,e1,e2,e3]) rfl ⟨a,c,p,pc,rfl,HS.out _ _ _ _ _ _ _ _⟩
set_option maxHeartbeats 400000 in
theorem step_cmd (base cap:Nat) (ao:Option Addr) (ps:List Int) (pl:ByteArray) (lg:Bool) (b:Int) (w:World) (hown:Own base w ao cap ps) (hbase:base≤w.heap.size) (hl0:0 < ps.length) (hl4:ps.length≤4) (hx:∀ x∈ps,0≤x∧x≤999):
  Calls Tryz.prog 76 #[.agg #[.int .i64 2,.slice ao ps.length cap,.string pl,.bool lg],.int .i64 b] w fun e w'=>StepEnd base w ao (stp ⟨2,ps,pl,lg⟩ b) e w':=by
 have HO:Hid (Own base w ao cap ps):=hown
 clear hown
 go_enter Tryz.func76,Tryz.ntmps76
 go_wp2_with fail
 refine(inCommand_any base cap ao ps 2 pl lg b _ (own_alloc (own_alloc (own_alloc HO.out _) _) _) (by simp;omega) hl0 hl4 hx).mono ?_
 rintro e w1 ⟨a,c,p,pc,rfl,hst⟩
 obtain⟨⟨b0,b1,b2,b3,d0,d1,d2,d3⟩,⟨e0,e1,e2,e3,j0,j1,j2,j3⟩⟩:=boxes HO.out hst.grown (.inl rfl)
 have HS:Hid _:=step_up HO.out hst
 clear hst
 go_wp2
 exact bodyPost_ret (v:=.tuple #[.agg #[.int .i64 (cmdF ⟨2,ps,pl,lg⟩ b).1.place,.slice a (cmdF ⟨2,ps,pl,lg⟩ b).1.ps.length c,.string (cmdF ⟨2,ps,pl,lg⟩ b).1.pl,.bool (cmdF ⟨2,ps,pl,lg⟩ b).1.lg],.agg #[.int .i64 (cmdF ⟨2,ps,pl,lg⟩ b).2.kind,.int .i64 (cmdF ⟨2,ps,pl,lg⟩ b).2.b,.slice p (cmdF ⟨2,ps,pl,lg⟩ b).2.ps.length pc,.string (cmdF ⟨2,ps,pl,lg⟩ b).2.pl]])
  (by simp [results,Tryz.results76,go_sem,b0,b1,b2,b3,e0,e1,e2,e3]) rfl ⟨a,c,p,pc,rfl,HS.out _ _ _ _ _ _ _ _⟩
theorem pic_stepped {base:Nat} {w w':World} {a0 ao:Option Addr} {cap c:Nat} {ps:List Int} {r:PS} (hown:Own base w a0 cap ps) (h:(ao=a0∧c=cap∧r.ps=ps)∨(ao=none∧c=0∧r.ps=[])) (hb:Below w.heap.size w w'):Stepped base w a0 (r,noEv) ao c none 0 w':=by
 rcases h with ⟨rfl,rfl,h⟩ | ⟨rfl,rfl,h⟩
 ·refine⟨?_,own_nil _ _,Below.toGrown hb _,.inr (.inl rfl),.inl rfl⟩
  show Own base w' ao c r.ps
  rw [h]
  exact own_kept hown (Below.toGrown hb none) (by cases ao <;>simp [blk])
 ·refine⟨?_,own_nil _ _,Below.toGrown hb _,.inl rfl,.inl rfl⟩
  show Own base w' none 0 r.ps
  rw [h]
  exact own_nil _ _
set_option maxHeartbeats 400000 in
theorem step_pic (base cap:Nat) (ao:Option Addr) (ps:List Int) (pl:ByteArray) (lg:Bool) (b:Int) (w:World) (hown:Own base w ao cap ps) (hpl:pl.size≤48) (hb0:0≤b) (hb1:b≤255):
  Calls Tryz.prog 76 #[.agg #[.int .i64 3,.slice ao ps.length cap,.string pl,.bool lg],.int .i64 b] w fun e w'=>StepEnd base w ao (stp ⟨3,ps,pl,lg⟩ b) e w':=by
 have HO:Hid (Own base w ao cap ps):=hown
 clear hown
 go_enter Tryz.func76,Tryz.ntmps76
 go_wp2_with fail
 refine(inPicture_any ao cap 3 ps pl lg b _ hpl hb0 hb1).mono ?_
 rintro e w1 ⟨a,c,rfl,hor,hbel⟩
 have hst:=pic_stepped (own_alloc (own_alloc (own_alloc HO.out _) _) _) hor hbel
 obtain⟨⟨b0,b1,b2,b3,d0,d1,d2,d3⟩,⟨e0,e1,e2,e3,j0,j1,j2,j3⟩⟩:=boxes HO.out hst.grown (.inl rfl)
 have HS:Hid _:=step_up HO.out hst
 clear hst hor hbel
 go_wp2
 exact bodyPost_ret (v:=.tuple #[.agg #[.int .i64 (picF ⟨3,ps,pl,lg⟩ b).place,.slice a (picF ⟨3,ps,pl,lg⟩ b).ps.length c,.string (picF ⟨3,ps,pl,lg⟩ b).pl,.bool (picF ⟨3,ps,pl,lg⟩ b).lg],.agg #[.int .i64 0,.int .i64 0,.slice none 0 0,.string ⟨#[]⟩]])
  (by simp [results,Tryz.results76,go_sem,b0,b1,b2,b3,e0,e1,e2,e3]) rfl ⟨a,c,none,0,rfl,HS.out _ _ _ _ _ _ _ _⟩
theorem step_any (base cap:Nat) (ao:Option Addr) (s:PS) (b:Int) (w:World) (hown:Own base w ao cap s.ps) (hbase:base≤w.heap.size) (hg:GoodS s) (hb0:0≤b) (hb1:b≤255):
  Calls Tryz.prog 76 #[.agg #[.int .i64 s.place,.slice ao s.ps.length cap,.string s.pl,.bool s.lg],.int .i64 b] w fun e w'=>StepEnd base w ao (stp s b) e w':=by
 obtain⟨place,ps,pl,lg⟩:=s
 obtain⟨h1,h2,h3,h4,h5,h6,h7⟩:=hg
 simp only at h1 h2 h3 h4 h5 h6 h7 hown ⊢
 have:place=0∨place=1∨place=2∨place=3∨place=4:=by omega
 rcases this with h | h | h | h | h <;>subst h
 ·exact step_gnd base cap ao ps pl lg b w hown hbase
 ·exact step_esc base cap ao ps pl lg b w hown hbase
 ·exact step_cmd base cap ao ps pl lg b w hown hbase (h4.1 rfl) h3 h5
 ·exact step_pic base cap ao ps pl lg b w hown h6 hb0 hb1
 ·exact step_end base cap ao ps pl lg b w hown hbase
end Go.Proofs.YtjikokfjnbhngaaGreatDoor.Ps

/- What 'Good' and its parts answer: just whether a parser is good (P1.1); they change nothing. -/
namespace Go.Proofs.YtjikokfjnbhngaaGreatDoor.Ps
open Go.RowKit
def Rd (w:World) (ao:Option Addr) (l:List Int):Prop:=l=[]∨∃ b off,ao=some ⟨b,off,none⟩∧∀ j,j < l.length→w.cell? ⟨b,off+j,none⟩=some (.int .i64 (l.getD j 0))
theorem Rd.below {w w':World} {ao:Option Addr} {l:List Int} (h:Rd w ao l) (hb:Below w.heap.size w w'):Rd w' ao l:=by
 rcases h with h | ⟨b,off,ha,hc⟩
 ·exact .inl h
 ·refine .inr ⟨b,off,ha,fun j hj=>?_⟩
  have:=hc j hj
  rw [hb.cell (p:=⟨b,off+j,none⟩) (World.block_lt_of_cell? _ _ this)]
  exact this
theorem Own.rd {base:Nat} {w:World} {ao:Option Addr} {cap:Nat} {l:List Int} (h:Own base w ao cap l):Rd w ao l:=by
 by_cases hl:0 < l.length
 ·obtain⟨g,rfl,_,_⟩:=own_form h hl
  exact .inr ⟨g,0,rfl,fun j hj=>by rw [Nat.zero_add];exact own_cell h j hj⟩
 ·exact .inl (List.length_eq_zero_iff.1 (by omega))
def numB (x:Int):Bool:=decide (0≤x∧x≤999)
def numsB (l:List Int):Bool:=l.all numB
def parB (s:PS):Bool:=(decide (s.place=2)==decide (0 < s.ps.length)) && decide (s.ps.length≤4) && numsB s.ps
def payB (s:PS):Bool:=if s.place=3∨s.place=4 then decide (s.pl.size≤48) else (s.pl.toList.isEmpty && !s.lg)
def plcB (s:PS):Bool:=decide (0≤s.place∧s.place≤4)
def goodB (s:PS):Bool:=plcB s && parB s && payB s
theorem numsB_take (l:List Int) (k:Nat) (hk:k < l.length):numsB (l.take (k+1))=(numsB (l.take k) && numB (l.getD k 0)):=by
 unfold numsB
 rw [List.take_succ_eq_append_getElem hk,List.all_append]
 simp [hk]
theorem ret_bool {a b:Bool} (h:a=b):Ending.returned (.bool a)=.returned (.bool b):=by rw [h]
theorem parB_no1 (s:PS) (h:¬(s.place==2)=decide (0 < s.ps.length)):false=parB s:=by
 have:(s.place==2)=decide (s.place=2):=by rw [Bool.eq_iff_iff];simp
 rw [this] at h
 simp [parB,h]
theorem parB_no2 (s:PS) (h:(4:Int) < (s.ps.length:Int)):false=parB s:=by
 have:¬ s.ps.length≤4:=by omega
 simp [parB,this]
theorem parB_yes (s:PS) (h:(s.place==2)=decide (0 < s.ps.length)) (h4:(s.ps.length:Int)≤4):parB s=numsB s.ps:=by
 have e:(s.place==2)=decide (s.place=2):=by rw [Bool.eq_iff_iff];simp
 have:s.ps.length≤4:=by omega
 rw [e] at h
 simp [parB,this,h]
theorem numsB_no (l:List Int) (k:Nat) (hk:k < l.length) (h:numB (l.getD k 0)=false):numsB l=false:=by
 unfold numsB
 rw [List.all_eq_false]
 refine⟨l[k],List.getElem_mem hk,?_⟩
 simp [hk] at h
 simp [h]
set_option maxHeartbeats 400000 in
theorem goodParams_any (s:PS) (ao:Option Addr) (cap:Nat) (w:World) (hr:Rd w ao s.ps) (hm:s.ps.length≤9223372036854775807):
  Calls Tryz.prog 94 #[.agg #[.int .i64 s.place,.slice ao s.ps.length cap,.string s.pl,.bool s.lg]] w fun e w'=>e=.returned (.bool (parB s))∧Below w.heap.size w w':=by
 obtain⟨place,ps,pl,lg⟩:=s
 simp only at hr hm ⊢
 rcases hr with rfl | ⟨b,off,rfl,hc⟩
 ·cases h:(place==2)
  ·go_enter Tryz.func94,Tryz.ntmps94
   go_wp2
   go_loop [22] (fun i=>i=.int .i64 0) (fun _=>0)
   case atStart=>rfl
   case round=>
    subst hrel
    go_wp2
    go_ret
    refine⟨ret_bool ?_,(Below.refl _ _).alloc (Nat.le_refl _) _⟩
    rw [parB_yes _ (by simpa using h) (by simp)]
    rfl
  ·go_enter Tryz.func94,Tryz.ntmps94
   go_wp2
   go_ret
   exact⟨ret_bool (parB_no1 _ (by simp [h])),(Below.refl _ _).alloc (Nat.le_refl _) _⟩
 ·have HC:Hid (∀ j,j < ps.length→w.cell? ⟨b,off+j,none⟩=some (.int .i64 (ps.getD j 0))):=hc
  clear hc
  go_enter Tryz.func94,Tryz.ntmps94
  go_wp2
  ·go_ret
   have h:(4:Int) < ps.length:=by assumption
   exact⟨ret_bool (parB_no2 _ h),(Below.refl _ _).alloc (Nat.le_refl _) _⟩
  ·have h1:(place==2)=decide (0 < ps.length):=by assumption
   have h2:(ps.length:Int)≤4:=by assumption
   have HP:Hid (parB ⟨place,ps,pl,lg⟩=numsB ps):=parB_yes ⟨place,ps,pl,lg⟩ h1 h2
   go_loop [22] (fun i=>∃ k:Nat,k≤ps.length∧i=.int .i64 k∧numsB (ps.take k)=true) (fun i=>ps.length - (intOf i).toNat)
   case atStart=>exact⟨0,Nat.zero_le _,rfl,rfl⟩
   case round=>
    obtain⟨k,hk,rfl,hnum⟩:=hrel
    have HN:Hid (numsB (ps.take k)=true):=hnum
    clear hnum
    by_cases hlt:k < ps.length
    ·have hcell:=HC.out k hlt
     have hbl:b < w.heap.size:=World.block_lt_of_cell? w _ hcell
     have hcell':(w.alloc (.cells #[.int .i64 place,.slice (some ⟨b,off,none⟩) ps.length cap,.string pl,.bool lg] 37)).cell? ⟨b,off+k,none⟩=some (.int .i64 (ps.getD k 0)):=by rw [World.cell?_alloc_past _ _ _ hbl];exact hcell
     obtain⟨x,hx⟩:∃ x,x=ps.getD k 0:=⟨_,rfl⟩
     rw [←hx] at hcell'
     have HX:Hid (x=ps.getD k 0):=hx
     have hlt':(k:Int) < (ps.length:Int):=by omega
     clear hcell hx h1
     by_cases hx0:x < 0
     ·go_wp2
      go_ret
      refine⟨ret_bool ?_,(Below.refl _ _).alloc (Nat.le_refl _) _⟩
      rw [HP.out]
      exact(numsB_no ps k hlt (by rw [←HX.out];simp [numB];omega)).symm
     ·by_cases hx1:999 < x
      ·go_wp2
       go_ret
       refine⟨ret_bool ?_,(Below.refl _ _).alloc (Nat.le_refl _) _⟩
       rw [HP.out]
       exact(numsB_no ps k hlt (by rw [←HX.out];simp [numB];omega)).symm
      ·go_wp2
       go_round
       case rel=>exact⟨k+1,by omega,by go_num,by rw [numsB_take ps k hlt,HN.out, ←HX.out];simp [numB];omega⟩
       case measure=>simp [intOf];omega
    ·go_wp2
     go_ret
     refine⟨ret_bool ?_,(Below.refl _ _).alloc (Nat.le_refl _) _⟩
     rw [HP.out, ←HN.out,List.take_of_length_le (by omega)]
  ·go_ret
   have h:¬ (place==2)=decide (0 < ps.length):=by assumption
   exact⟨ret_bool (parB_no1 _ h),(Below.refl _ _).alloc (Nat.le_refl _) _⟩
set_option maxHeartbeats 400000 in
theorem goodPayload_any (s:PS) (ao:Option Addr) (n cap:Nat) (w:World):
  Calls Tryz.prog 95 #[.agg #[.int .i64 s.place,.slice ao n cap,.string s.pl,.bool s.lg]] w fun e w'=>e=.returned (.bool (payB s))∧Below w.heap.size w w':=by
 obtain⟨place,ps,pl,lg⟩:=s
 simp only
 go_enter Tryz.func95,Tryz.ntmps95
 go_wp2
 ·go_ret
  have h:place=3:=by assumption
  refine⟨ret_bool ?_,(Below.refl _ _).alloc (Nat.le_refl _) _⟩
  simp [payB,h]
  omega
 ·go_ret
  have h:(place==3)=true∨(place==4)=true:=by assumption
  refine⟨ret_bool ?_,(Below.refl _ _).alloc (Nat.le_refl _) _⟩
  simp at h
  simp [payB,h]
  omega
 ·go_ret
  have h:(place==3)=false∧(place==4)=false:=by assumption
  have h2:pl.toList=[]:=by assumption
  refine⟨ret_bool ?_,(Below.refl _ _).alloc (Nat.le_refl _) _⟩
  simp at h
  simp [payB,h,h2]
 ·go_ret
  have h:(place==3)=false∧(place==4)=false:=by assumption
  have h2:¬ pl.toList=[]:=by assumption
  refine⟨ret_bool ?_,(Below.refl _ _).alloc (Nat.le_refl _) _⟩
  simp at h
  simp [payB,h,h2]
end Go.Proofs.YtjikokfjnbhngaaGreatDoor.Ps

/- What 'Good' and 'slices.Clone' do to the world: the one answers whether a parser is good; the other makes a row of its own that holds the same numbers. -/
namespace Go.Proofs.YtjikokfjnbhngaaGreatDoor.Ps
open Go.RowKit
theorem bcell {W w1:World} (hb:Below W.heap.size W w1):(∀ b o,b < W.heap.size→w1.cell? ⟨b,o,none⟩=W.cell? ⟨b,o,none⟩)∧(∀ b o,b < W.heap.size→w1.frozen? ⟨b,o,none⟩=W.frozen? ⟨b,o,none⟩):=
 ⟨fun b o h=>hb.cell (p:=⟨b,o,none⟩) h,fun b o h=>hb.frozen (p:=⟨b,o,none⟩) h⟩
theorem below_block {w w':World} {B b:Nat} {o:Obj} (hb:Below B w w') (h:w.heap[b]?=some o) (hB:b < B):w'.heap[b]?=some o:=by
 rw [hb.block b hB];exact h
theorem below_up {w w1:World} {o:Obj} (hb:Below (w.alloc o).heap.size (w.alloc o) w1):Below w.heap.size w w1:=
 ((Below.refl _ _).alloc (Nat.le_refl _) _).trans (hb.mono (by simp))
set_option maxHeartbeats 400000 in
theorem good_any (s:PS) (ao:Option Addr) (cap:Nat) (w:World) (hr:Rd w ao s.ps) (hm:s.ps.length≤9223372036854775807):
  Calls Tryz.prog 75 #[.agg #[.int .i64 s.place,.slice ao s.ps.length cap,.string s.pl,.bool s.lg]] w fun e w'=>e=.returned (.bool (goodB s))∧Below w.heap.size w w':=by
 have HR:Hid (Rd w ao s.ps):=hr
 clear hr
 by_cases h0:0≤s.place
 ·by_cases h4:s.place≤4
  ·have hp:plcB s=true:=by simp [plcB,h0,h4]
   have HP:Hid (plcB s=true):=hp
   clear hp
   go_enter Tryz.func75,Tryz.ntmps75
   go_wp2_with (first | (go_at_call 93;go_in) | fail)
   refine(goodParams_any s ao cap _ (HR.out.below ((Below.refl _ _).alloc (Nat.le_refl _) _)) hm).mono ?_
   rintro e w1 ⟨rfl,hb1⟩
   obtain⟨a0,a1,a2,a3,f0,f1,f2,f3⟩:=four (below_block hb1 (at_new w _) (by simp))
   have HB:Hid (Below w.heap.size w w1):=below_up hb1
   clear hb1
   cases hpar:parB s
   ·go_wp2
    go_ret
    exact⟨ret_bool (by simp [goodB,hpar]),HB.out⟩
   ·go_wp2_with fail
    refine(goodPayload_any s ao s.ps.length cap _).mono ?_
    rintro e w2 ⟨rfl,hb2⟩
    have HB2:Hid (Below w.heap.size w w2):=HB.out.trans (hb2.mono HB.out.size)
    clear hb2
    go_wp2
    go_ret
    exact⟨ret_bool (by simp [goodB,hpar,HP.out]),HB2.out⟩
  ·have HP:Hid (goodB s=false):=by show goodB s=false;simp [goodB,plcB,h4]
   have h4':4 < s.place:=by omega
   go_enter Tryz.func75,Tryz.ntmps75
   go_wp2
   go_ret
   exact⟨ret_bool HP.out.symm,(Below.refl _ _).alloc (Nat.le_refl _) _⟩
 ·have HP:Hid (goodB s=false):=by show goodB s=false;simp [goodB,plcB,h0]
  have h0':s.place < 0:=by omega
  go_enter Tryz.func75,Tryz.ntmps75
  go_wp2
  go_ret
  exact⟨ret_bool HP.out.symm,(Below.refl _ _).alloc (Nat.le_refl _) _⟩
theorem nil22 (w:World) (a:Option Addr) (n c:Nat):(binOp .eql 35 (.slice a n c) (.slice none 0 0)).run Tryz.prog w=.ok (.bool a.isNone) w:=Lib.run_eql_slice_nil w 35 3 a n c 0 0 Tryz.underlying35
set_option maxHeartbeats 400000 in
theorem clone_nil (w:World):Calls Tryz.prog 47 #[.slice none 0 0] w fun e w'=>e=.returned (.slice none 0 0)∧w'=w:=by
 have hn:=nil22
 go_enter Tryz.func47,Tryz.ntmps47
 go_wp2
 go_ret
 exact⟨rfl,rfl⟩
theorem own_shape {base:Nat} {w:World} {v:Value} {l:List Int} (h:w.ownsRow base 3 1 v l.length (ints l)):∃ ao cap,v=.slice ao l.length cap∧Own base w ao cap l:=by
 rcases h.2 with ⟨rfl,h0⟩ | ⟨g,cap,cur,rfl,_⟩
 ·exact⟨none,0,by rw [h0],by unfold Own;rw [h0] at h ⊢;exact h⟩
 ·exact⟨_,_,rfl,h⟩
set_option maxHeartbeats 400000 in
theorem clone_some (a:Addr) (cap:Nat) (l:List Int) (w:World) (hr:Rd w (some a) l) (hm:l.length*8≤140737488355328):
  Calls Tryz.prog 47 #[.slice (some a) l.length cap] w fun e w'=>∃ ao' cap',e=.returned (.slice ao' l.length cap')∧Own w.heap.size w' ao' cap' l∧Below w.heap.size w w':=by
 obtain⟨i0,hi,hz0,hz1,hz2⟩:=info_parts info3
 have hn:=nil22
 have HR:Hid (∀ j u,(ints l)[j]?=some u→(w.alloc (.cells #[] 3)).cell? (a.add j)=some u):=by
  intro j u hu
  have hr':=hr.below ((Below.refl _ _).alloc (Nat.le_refl _) (.cells #[] 3))
  have hj:j < l.length:=by have:=(List.getElem?_eq_some_iff.1 hu).1;simpa [ints] using this
  rcases hr' with h | ⟨b,off,ha,hc⟩
  ·subst h;simp at hj
  ·simp only [Option.some.injEq] at ha
   subst ha
   have e:(⟨b,off,none⟩:Addr).add j=⟨b,off+j,none⟩:=by unfold Addr.add;split <;>simp_all
   rw [e,hc j hj]
   simp [ints,hj] at hu
   simp [hj,hu]
 clear hr
 go_enter Tryz.func47,Tryz.ntmps47
 go_wp2_with (first | (at_builtin;refine wpList_append_own _ rfl _ _ 35 rfl w.heap.size 3 i0 (.int .i64 0) 1 8 Tryz.underlying35 hi hz0 hz1 hz2 rfl (by decide) _ 0 [] rfl (World.ownsRow_made w #[] 0 (Nat.le_refl _) (by decide) rfl) a l.length cap (ints l) rfl (by simp [ints]) HR.out (by simp [ints];intros;rfl) (by unfold maxLen;omega) (by omega) (by simp) ?_) | go_in)
 intro v' w1 hown hgrow _
 obtain⟨ao,c,rfl,ho⟩:=own_shape hown
 clear hown
 have HB:Hid (Below w.heap.size w w1):=((Below.refl _ _).alloc (Nat.le_refl _) _).grown hgrow (by simp) (fun k hk=>by simp [Value.ownBlock] at hk;omega)
 have HO:Hid (Own w.heap.size w1 ao c l):=ho
 clear ho hgrow
 go_wp2
 go_ret
 exact⟨ao,c,rfl,HO.out,HB.out⟩
theorem clone_any (ao:Option Addr) (cap:Nat) (l:List Int) (w:World) (hr:Rd w ao l) (hn:ao=none→l.length=0∧cap=0) (hm:l.length*8≤140737488355328):
  Calls Tryz.prog 47 #[.slice ao l.length cap] w fun e w'=>∃ ao' cap',e=.returned (.slice ao' l.length cap')∧Own w.heap.size w' ao' cap' l∧Below w.heap.size w w':=by
 cases ao with
 | none=>
  obtain⟨h1,rfl⟩:=hn rfl
  obtain rfl:=List.length_eq_zero_iff.1 h1
  refine(clone_nil w).mono ?_
  rintro e w' ⟨rfl,rfl⟩
  exact⟨none,0,rfl,own_nil _ _,Below.refl _ _⟩
 | some a=>exact clone_some a cap l w hr hm
end Go.Proofs.YtjikokfjnbhngaaGreatDoor.Ps
