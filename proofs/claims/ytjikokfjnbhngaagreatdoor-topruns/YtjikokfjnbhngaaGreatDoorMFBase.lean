/- Several texts in one, each as it was: FBase, FEsc, FGnd, FPic. -/
import Derived.Test.YtjikokfjnbhngaaGreatDoorRows
import Derived.Test.YtjikokfjnbhngaaGreatDoorMFMach
import Derived.WalkKit
import Derived.WalkSpells
import Derived.WalkLawsBesides

/- Words for what one byte's step leaves in memory: rows of numbers of the call's own, and where they lie. -/
namespace Go.Proofs.YtjikokfjnbhngaaGreatDoor.Ps
open Go.RowKit
def ints (l:List Int):List Value:=l.map (.int .i64)
def Own (base:Nat) (w:World) (ao:Option Addr) (cap:Nat) (l:List Int):Prop:=w.ownsRow base 3 1 (.slice ao l.length cap) l.length (ints l)
theorem own_nil (base:Nat) (w:World):Own base w none 0 []:=World.ownsRow_nil _ _ _ _
def blk (ao:Option Addr):Option Nat:=ao.map (·.block)
structure Stepped (base:Nat) (w:World) (a0:Option Addr) (r:PS×Ev) (ao:Option Addr) (cap:Nat) (po:Option Addr) (pc:Nat) (w':World):Prop where
 own:Own base w' ao cap r.1.ps
 pown:Own base w' po pc r.2.ps
 grown:w.grownBy w' (blk a0)
 lies:blk ao=none∨blk ao=blk a0∨∃ g,blk ao=some g∧w.heap.size≤g
 plies:po=none∨(blk po=blk a0∧ao=none)
theorem Below.toGrown {w w':World} (h:Below w.heap.size w w') (row:Option Nat):w.grownBy w' row:=
 ⟨h.os,h.tape,h.output,h.size,fun k hk _=>h.block k hk⟩
theorem stepped_nil {base:Nat} {w w':World} {a0:Option Addr} {r:PS×Ev} (h1:r.1.ps=[]) (h2:r.2.ps=[]) (hb:Below w.heap.size w w'):Stepped base w a0 r none 0 none 0 w':=
 ⟨by rw [h1];exact own_nil _ _,by rw [h2];exact own_nil _ _,Below.toGrown hb _,.inl rfl,.inl rfl⟩
def StepEnd (base:Nat) (w:World) (a0:Option Addr) (r:PS×Ev) (e:Ending) (w':World):Prop:=
 ∃ ao cap po pc,e=.returned (.tuple #[.agg #[.int .i64 r.1.place,.slice ao r.1.ps.length cap,.string r.1.pl,.bool r.1.lg],.agg #[.int .i64 r.2.kind,.int .i64 r.2.b,.slice po r.2.ps.length pc,.string r.2.pl]])∧Stepped base w a0 r ao cap po pc w'
theorem end_nil {base:Nat} {w w':World} {a0:Option Addr} {r:PS×Ev} {e:Ending} (h1:r.1.ps=[]) (h2:r.2.ps=[])
  (he:e=.returned (.tuple #[.agg #[.int .i64 r.1.place,.slice none 0 0,.string r.1.pl,.bool r.1.lg],.agg #[.int .i64 r.2.kind,.int .i64 r.2.b,.slice none 0 0,.string r.2.pl]])) (hb:Below w.heap.size w w'):StepEnd base w a0 r e w':=
 ⟨none,0,none,0,by rw [he,h1,h2];rfl,stepped_nil h1 h2 hb⟩
theorem grown_trans {a b c:World} {row:Option Nat} (h:a.grownBy b row) (k:b.grownBy c row):a.grownBy c row:=
 ⟨k.os.trans h.os,k.tape.trans h.tape,k.output.trans h.output,Nat.le_trans h.size k.size,fun i hi hne=>(k.block i (Nat.lt_of_lt_of_le hi h.size) hne).trans (h.block i hi hne)⟩
theorem grown_alloc {a w:World} {row:Option Nat} (h:a.grownBy w row) (o:Obj):a.grownBy (w.alloc o) row:=grown_trans h (World.grownBy_alloc w o row)
theorem grown_drew {a w:World} {row:Option Nat} (h:a.grownBy w row):a.grownBy w.drew row:=⟨h.os,h.tape,h.output,h.size,h.block⟩
theorem grown_refl (w:World) (row:Option Nat):w.grownBy w row:=⟨rfl,rfl,rfl,Nat.le_refl _,fun _ _ _=>rfl⟩
theorem own_alloc {base:Nat} {w:World} {ao:Option Addr} {cap:Nat} {l:List Int} (h:Own base w ao cap l) (o:Obj):Own base (w.alloc o) ao cap l:=World.ownsRow.alloc h o
theorem own_drew {base:Nat} {w:World} {ao:Option Addr} {cap:Nat} {l:List Int} (h:Own base w ao cap l):Own base w.drew ao cap l:=World.ownsRow.drew h
theorem own_form {base:Nat} {w:World} {ao:Option Addr} {cap:Nat} {l:List Int} (h:Own base w ao cap l) (hl:0 < l.length):∃ g,ao=some ⟨g,0,none⟩∧base≤g∧g < w.heap.size:=by
 rcases h.2 with ⟨_,h0⟩ | ⟨g,c,cur,hv,hb,hg,_⟩
 ·omega
 ·simp only [Value.slice.injEq] at hv
  refine⟨g,hv.1,hb,?_⟩
  rcases Nat.lt_or_ge g w.heap.size with hlt | hge
  ·exact hlt
  ·rw [Array.getElem?_eq_none hge] at hg;cases hg
theorem own_cell {base:Nat} {w:World} {g cap:Nat} {l:List Int} (h:Own base w (some ⟨g,0,none⟩) cap l) (j:Nat) (hj:j < l.length):w.cell? ⟨g,j,none⟩=some (.int .i64 (l.getD j 0)):=by
 rw [World.ownsRow.cellAt h j (by omega)]
 simp [ints,hj]
theorem own_store {base:Nat} {w:World} {g cap:Nat} {l:List Int} (h:Own base w (some ⟨g,0,none⟩) cap l) (j:Nat) (x:Int):
  Own base (w.setCell ⟨g,j,none⟩ (.int .i64 x)) (some ⟨g,0,none⟩) cap (l.set j x)∧w.grownBy (w.setCell ⟨g,j,none⟩ (.int .i64 x)) (some g):=by
 obtain⟨h1,h2⟩:=World.ownsRow.stored h j (.int .i64 x)
 refine⟨?_,h2⟩
 unfold Own
 rw [List.length_set]
 simpa [ints,List.map_set] using h1
theorem four {w:World} {b:Nat} {c0 c1 c2 c3:Value} {t:TypeId} (h:w.heap[b]?=some (.cells #[c0,c1,c2,c3] t (0,0))):
  w.cell? ⟨b,0,none⟩=some c0∧w.cell? ⟨b,1,none⟩=some c1∧w.cell? ⟨b,2,none⟩=some c2∧w.cell? ⟨b,3,none⟩=some c3∧
  w.frozen? ⟨b,0,none⟩=false∧w.frozen? ⟨b,1,none⟩=false∧w.frozen? ⟨b,2,none⟩=false∧w.frozen? ⟨b,3,none⟩=false:=
 ⟨cell_of_row w b 0 _ t _ h,cell_of_row w b 1 _ t _ h,cell_of_row w b 2 _ t _ h,cell_of_row w b 3 _ t _ h,frozen_of_row w b 0 _ t h,frozen_of_row w b 1 _ t h,frozen_of_row w b 2 _ t h,frozen_of_row w b 3 _ t h⟩
theorem grown_set {a w:World} {row:Option Nat} (h:a.grownBy w row) {p:Addr} (hp:a.heap.size≤p.block) (u:Value):a.grownBy (w.setCell p u) row:=
 ⟨h.os,h.tape,h.output,by have:=h.size;simpa [World.setCell] using this,fun k hk hne=>(Below.heap_setCell _ _ _ _ (by omega)).trans (h.block k hk hne)⟩
theorem own_set {base:Nat} {w:World} {ao:Option Addr} {cap:Nat} {l:List Int} (h:Own base w ao cap l) {p:Addr} (hp:blk ao≠some p.block) (u:Value):Own base (w.setCell p u) ao cap l:=by
 refine⟨h.1,?_⟩
 rcases h.2 with hn | ⟨g,c,cur,hv,hb,hg,rest⟩
 ·exact .inl hn
 ·refine .inr ⟨g,c,cur,hv,hb,?_,rest⟩
  rw [Below.heap_setCell _ _ _ _ (fun e=>hp (by simp only [Value.slice.injEq] at hv;rw [hv.1];simp [blk,e]))]
  exact hg
theorem grown_block {w w':World} {row:Option Nat} (hg:w.grownBy w' row) {b:Nat} {o:Obj} (h:w.heap[b]?=some o) (hne:some b≠row):w'.heap[b]?=some o:=by
 rw [hg.block b (Array.getElem?_eq_some_iff.1 h).1 hne];exact h
theorem at_new (w:World) (o:Obj):(w.alloc o).heap[w.heap.size]?=some o:=heap_alloc_new w o
theorem at_old {w:World} {b:Nat} {x:Obj} (h:w.heap[b]?=some x) (o:Obj):(w.alloc o).heap[b]?=some x:=by
 rw [Below.heap_alloc w o b (Array.getElem?_eq_some_iff.1 h).1];exact h
theorem at_new1 (w:World) (o1 o2:Obj):((w.alloc o1).alloc o2).heap[w.heap.size+1]?=some o2:=by
 have:=at_new (w.alloc o1) o2
 simpa using this
theorem at_new2 (w:World) (o1 o2 o3:Obj):(((w.alloc o1).alloc o2).alloc o3).heap[w.heap.size+1+1]?=some o3:=by
 have:=at_new ((w.alloc o1).alloc o2) o3
 simpa using this
end Go.Proofs.YtjikokfjnbhngaaGreatDoor.Ps

/- What 'escaped' do to the world: each answers what the plain machine answers. -/
namespace Go.Proofs.YtjikokfjnbhngaaGreatDoor.Ps
open Go.RowKit
set_option maxHeartbeats 400000 in
theorem escaped_any (base:Nat) (a0:Option Addr) (b:Int) (w:World) (hbase:base≤w.heap.size):
  Calls Tryz.prog 96 #[.int .i64 b] w fun e w'=>StepEnd base w a0 (escF b) e w':=by
 go_enter Tryz.func96,Tryz.ntmps96
 go_wp2
 ·have h:b=27:=by simpa using ‹(b==27)=true›
  refine bodyPost_ret (v:=.tuple #[.agg #[.int .i64 1,.slice none 0 0,.string ⟨#[]⟩,.bool false],.agg #[.int .i64 0,.int .i64 0,.slice none 0 0,.string ⟨#[]⟩]]) (by simp [results,Tryz.results96,go_sem]) rfl ?_
  exact end_nil (by simp [escF,h]) (by simp [escF,h,noEv]) (by simp [escF,h,noEv]) (((Below.refl _ _).alloc (Nat.le_refl _) _).alloc (by simp) _)
 ·have h:b=91:=by simpa using ‹(b==91)=true›
  refine bodyPost_ret (v:=.tuple #[.agg #[.int .i64 2,.slice (some ⟨w.heap.size+1+1,0,none⟩) 1 1,.string ⟨#[]⟩,.bool false],.agg #[.int .i64 0,.int .i64 0,.slice none 0 0,.string ⟨#[]⟩]]) (by simp [results,Tryz.results96,go_sem]) rfl ?_
  subst h
  refine⟨some ⟨w.heap.size+1+1,0,none⟩,1,none,0,rfl,?_,own_nil _ _,Below.toGrown ((((Below.refl _ _).alloc (Nat.le_refl _) _).alloc (by simp) _).alloc (by simp;omega) _) _,.inr (.inr ⟨w.heap.size+1+1,rfl,by omega⟩),.inl rfl⟩
  have:=World.ownsRow_lit (base:=base) (e:=3) (size:=1) ((w.alloc (Obj.cells #[Value.int IntKind.i64 2,Value.slice (some ⟨w.heap.size+1+1,0,none⟩) 1 1,Value.string ⟨#[]⟩,Value.bool false] 37)).alloc (Obj.cells #[Value.int IntKind.i64 0,Value.int IntKind.i64 0,Value.slice none 0 0,Value.string ⟨#[]⟩] 124)) #[.int .i64 0] 1 (by simp;omega) (by decide) rfl
  simpa [Own,ints,escF] using this
 ·have h:b=80:=by simpa using ‹(b==80)=true›
  refine bodyPost_ret (v:=.tuple #[.agg #[.int .i64 3,.slice none 0 0,.string ⟨#[]⟩,.bool false],.agg #[.int .i64 0,.int .i64 0,.slice none 0 0,.string ⟨#[]⟩]]) (by simp [results,Tryz.results96,go_sem]) rfl ?_
  exact end_nil (by simp [escF,h]) (by simp [escF,h,noEv]) (by simp [escF,h,noEv]) (((Below.refl _ _).alloc (Nat.le_refl _) _).alloc (by simp) _)
 ·have h:b=99:=by simpa using ‹(b==99)=true›
  refine bodyPost_ret (v:=.tuple #[.agg #[.int .i64 0,.slice none 0 0,.string ⟨#[]⟩,.bool false],.agg #[.int .i64 5,.int .i64 0,.slice none 0 0,.string ⟨#[]⟩]]) (by simp [results,Tryz.results96,go_sem]) rfl ?_
  exact end_nil (by simp [escF,h,ground]) (by simp [escF,h]) (by simp [escF,h,ground]) (((Below.refl _ _).alloc (Nat.le_refl _) _).alloc (by simp) _)
 ·have h1:b≠27:=by simpa using ‹(b==27)=false›
  have h2:b≠91:=by simpa using ‹(b==91)=false›
  have h3:b≠80:=by simpa using ‹(b==80)=false›
  have h4:b≠99:=by simpa using ‹(b==99)=false›
  refine bodyPost_ret (v:=.tuple #[.agg #[.int .i64 0,.slice none 0 0,.string ⟨#[]⟩,.bool false],.agg #[.int .i64 0,.int .i64 0,.slice none 0 0,.string ⟨#[]⟩]]) (by simp [results,Tryz.results96,go_sem]) rfl ?_
  exact end_nil (by simp [escF,h1,h2,h3,h4,ground]) (by simp [escF,h1,h2,h3,h4,noEv]) (by simp [escF,h1,h2,h3,h4,ground,noEv]) (((Below.refl _ _).alloc (Nat.le_refl _) _).alloc (by simp) _)
end Go.Proofs.YtjikokfjnbhngaaGreatDoor.Ps

/- What 'onGround' and 'ending' do to the world: each answers what the plain machine answers. -/
namespace Go.Proofs.YtjikokfjnbhngaaGreatDoor.Ps
open Go.RowKit
theorem gnd_end {base:Nat} {w:World} {a0:Option Addr} {r:PS×Ev} {o1 o2:Obj} {pa:Int} {k b:Int} (hr:r=(⟨pa,[],⟨#[]⟩,false⟩,⟨k,b,[],⟨#[]⟩⟩)):
  StepEnd base w a0 r (.returned (.tuple #[.agg #[.int .i64 pa,.slice none 0 0,.string ⟨#[]⟩,.bool false],.agg #[.int .i64 k,.int .i64 b,.slice none 0 0,.string ⟨#[]⟩]])) ((w.alloc o1).alloc o2):=by
 subst hr
 exact end_nil rfl rfl rfl (((Below.refl _ _).alloc (Nat.le_refl _) _).alloc (by simp) _)
set_option maxHeartbeats 400000 in
theorem onGround_any (base:Nat) (a0:Option Addr) (b:Int) (w:World):
  Calls Tryz.prog 100 #[.int .i64 b] w fun e w'=>StepEnd base w a0 (gndF b) e w':=by
 by_cases h1:b=27
 ·subst h1
  go_enter Tryz.func100,Tryz.ntmps100
  go_wp2
  exact bodyPost_ret (v:=.tuple #[.agg #[.int .i64 1,.slice none 0 0,.string ⟨#[]⟩,.bool false],.agg #[.int .i64 0,.int .i64 0,.slice none 0 0,.string ⟨#[]⟩]]) (by simp [results,Tryz.results100,go_sem]) rfl (gnd_end rfl)
 ·have e1:(b==27)=false:=by simpa using h1
  by_cases h2:32≤b∧b≤126
  ·have hF:gndF b=(ground,⟨1,b,[],⟨#[]⟩⟩):=by simp [gndF,h1,h2]
   have HF:Hid (gndF b=(ground,⟨1,b,[],⟨#[]⟩⟩)):=hF
   clear hF
   obtain⟨h2a,h2b⟩:=h2
   go_enter Tryz.func100,Tryz.ntmps100
   go_wp2
   exact bodyPost_ret (v:=.tuple #[.agg #[.int .i64 0,.slice none 0 0,.string ⟨#[]⟩,.bool false],.agg #[.int .i64 1,.int .i64 b,.slice none 0 0,.string ⟨#[]⟩]]) (by simp [results,Tryz.results100,go_sem]) rfl (gnd_end HF.out)
  ·by_cases h3:b=8∨b=9∨b=10∨b=13
   ·rcases h3 with h | h | h | h <;>subst h
    all_goals
     go_enter Tryz.func100,Tryz.ntmps100
     go_wp2
     exact bodyPost_ret (v:=.tuple #[.agg #[.int .i64 0,.slice none 0 0,.string ⟨#[]⟩,.bool false],.agg #[.int .i64 2,.int .i64 _,.slice none 0 0,.string ⟨#[]⟩]]) (by simp [results,Tryz.results100,go_sem]) rfl (gnd_end rfl)
   ·have HF:Hid (gndF b=(ground,noEv)):=by show gndF b=_;simp [gndF,h1,h2,h3]
    have n1:(b==8)=false:=by simp;omega
    have n2:(b==9)=false:=by simp;omega
    have n3:(b==10)=false:=by simp;omega
    have n4:(b==13)=false:=by simp;omega
    have h2':b < 32∨126 < b:=by omega
    clear h3 h2 h1
    rcases h2' with h2 | h2
    all_goals
     go_enter Tryz.func100,Tryz.ntmps100
     go_wp2
     exact bodyPost_ret (v:=.tuple #[.agg #[.int .i64 0,.slice none 0 0,.string ⟨#[]⟩,.bool false],.agg #[.int .i64 0,.int .i64 0,.slice none 0 0,.string ⟨#[]⟩]]) (by simp [results,Tryz.results100,go_sem]) rfl (gnd_end HF.out)
set_option maxHeartbeats 400000 in
theorem ending_any (base:Nat) (a0:Option Addr) (n cap:Nat) (at0:Int) (ps:List Int) (pl:ByteArray) (lg:Bool) (b:Int) (w:World):
  Calls Tryz.prog 99 #[.agg #[.int .i64 at0,.slice a0 n cap,.string pl,.bool lg],.int .i64 b] w fun e w'=>StepEnd base w a0 (endF ⟨at0,ps,pl,lg⟩ b) e w':=by
 by_cases h1:b=92
 ·subst h1
  cases lg
  ·go_enter Tryz.func99,Tryz.ntmps99
   go_wp2
   go_region
   go_wp2
   exact bodyPost_ret (v:=.tuple #[.agg #[.int .i64 0,.slice none 0 0,.string ⟨#[]⟩,.bool false],.agg #[.int .i64 4,.int .i64 0,.slice none 0 0,.string pl]]) (by simp [results,Tryz.results99,go_sem]) rfl
    (end_nil rfl rfl rfl (((((Below.refl _ _).alloc (Nat.le_refl _) _).alloc (by simp) _).alloc (by simp;omega) _).drew))
  ·go_enter Tryz.func99,Tryz.ntmps99
   go_wp2
   exact bodyPost_ret (v:=.tuple #[.agg #[.int .i64 0,.slice none 0 0,.string ⟨#[]⟩,.bool false],.agg #[.int .i64 0,.int .i64 0,.slice none 0 0,.string ⟨#[]⟩]]) (by simp [results,Tryz.results99,go_sem]) rfl
    (end_nil rfl rfl rfl ((((Below.refl _ _).alloc (Nat.le_refl _) _).alloc (by simp) _).alloc (by simp;omega) _))
 ·have e1:(b==92)=false:=by simpa using h1
  have HF:Hid (endF ⟨at0,ps,pl,lg⟩ b=(ground,noEv)):=by show endF _ b=_;simp [endF,h1]
  clear h1
  go_enter Tryz.func99,Tryz.ntmps99
  go_wp2
  refine bodyPost_ret (v:=.tuple #[.agg #[.int .i64 0,.slice none 0 0,.string ⟨#[]⟩,.bool false],.agg #[.int .i64 0,.int .i64 0,.slice none 0 0,.string ⟨#[]⟩]]) (by simp [results,Tryz.results99,go_sem]) rfl ?_
  rw [HF.out]
  exact end_nil rfl rfl rfl ((((Below.refl _ _).alloc (Nat.le_refl _) _).alloc (by simp) _).alloc (by simp;omega) _)
end Go.Proofs.YtjikokfjnbhngaaGreatDoor.Ps

/- What 'inPicture' does to the world: it answers what the plain machine answers. -/
namespace Go.Proofs.YtjikokfjnbhngaaGreatDoor.Ps
open Go.RowKit
theorem encode_plain (b:Int) (h0:0≤b) (h1:b≤127):Utf8.encode b=⟨#[UInt8.ofNat b.toNat]⟩:=by
 have hv:Utf8.valid b=true:=by
  simp only [Utf8.valid,Bool.or_eq_true,Bool.and_eq_true,decide_eq_true_eq]
  omega
 have hc:b.toNat < 0x80:=by omega
 unfold Utf8.encode
 simp only [hv,if_true,if_pos hc]
theorem push_eq (pl:ByteArray) (b:Int) (h0:0≤b) (h1:b≤127):pl++Utf8.encode b=pl.push (UInt8.ofNat b.toNat):=by
 rw [encode_plain b h0 h1]
 ext1
 simp
theorem encode_size (b:Int) (h0:0≤b) (h1:b≤127):(Utf8.encode b).size=1:=by
 rw [encode_plain b h0 h1];rfl
def PicEnd (w:World) (a0:Option Addr) (cap:Nat) (ps:List Int) (r:PS) (e:Ending) (w':World):Prop:=
 ∃ ao c,e=.returned (.agg #[.int .i64 r.place,.slice ao r.ps.length c,.string r.pl,.bool r.lg])∧((ao=a0∧c=cap∧r.ps=ps)∨(ao=none∧c=0∧r.ps=[]))∧Below w.heap.size w w'
set_option maxHeartbeats 400000 in
theorem inPicture_any (a0:Option Addr) (cap:Nat) (at0:Int) (ps:List Int) (pl:ByteArray) (lg:Bool) (b:Int) (w:World) (hpl:pl.size≤48) (hb0:0≤b) (hb1:b≤255):
  Calls Tryz.prog 98 #[.agg #[.int .i64 at0,.slice a0 ps.length cap,.string pl,.bool lg],.int .i64 b] w fun e w'=>PicEnd w a0 cap ps (picF ⟨at0,ps,pl,lg⟩ b) e w':=by
 by_cases h1:b=27
 ·subst h1
  go_enter Tryz.func98,Tryz.ntmps98
  go_wp2
  exact bodyPost_ret (v:=.agg #[.int .i64 4,.slice a0 ps.length cap,.string pl,.bool lg]) (by simp [results,Tryz.results98,go_sem]) rfl ⟨_,_,rfl,.inl ⟨rfl,rfl,rfl⟩,((Below.refl _ _).alloc (Nat.le_refl _) _).alloc (by simp) _⟩
 ·have e1:(b==27)=false:=by simpa using h1
  by_cases h2:b=24
  ·subst h2
   go_enter Tryz.func98,Tryz.ntmps98
   go_wp2
   exact bodyPost_ret (v:=.agg #[.int .i64 0,.slice none 0 0,.string ⟨#[]⟩,.bool false]) (by simp [results,Tryz.results98,go_sem]) rfl ⟨_,_,rfl,.inr ⟨rfl,rfl,rfl⟩,((Below.refl _ _).alloc (Nat.le_refl _) _).alloc (by simp) _⟩
  ·have e2:(b==24)=false:=by simpa using h2
   by_cases h3:32≤b∧b≤126
   ·by_cases h4:pl.size < 48
    ·have HF:Hid (picF ⟨at0,ps,pl,lg⟩ b=⟨at0,ps,pl++Utf8.encode b,lg⟩):=by
      show picF _ _=_
      simp [picF,h1,h2,h3,h4,push_eq pl b hb0 (by omega)]
     have hsz:=encode_size b hb0 (by omega)
     have h4':(pl.size:Int) < 48:=by omega
     obtain⟨h3a,h3b⟩:=h3
     clear h1 h2
     go_enter Tryz.func98,Tryz.ntmps98
     go_wp2
     refine bodyPost_ret (v:=.agg #[.int .i64 at0,.slice a0 ps.length cap,.string (pl++Utf8.encode b),.bool lg]) (by simp [results,Tryz.results98,go_sem]) rfl ?_
     rw [HF.out]
     exact⟨_,_,rfl,.inl ⟨rfl,rfl,rfl⟩,((Below.refl _ _).alloc (Nat.le_refl _) _).alloc (by simp) _⟩
    ·have HF:Hid (picF ⟨at0,ps,pl,lg⟩ b=⟨at0,ps,pl,true⟩):=by
      show picF _ _=_
      simp [picF,h1,h2,h3,h4]
     have h4':¬ (pl.size:Int) < 48:=by omega
     obtain⟨h3a,h3b⟩:=h3
     clear h1 h2 h4
     go_enter Tryz.func98,Tryz.ntmps98
     go_wp2
     refine bodyPost_ret (v:=.agg #[.int .i64 at0,.slice a0 ps.length cap,.string pl,.bool true]) (by simp [results,Tryz.results98,go_sem]) rfl ?_
     rw [HF.out]
     exact⟨_,_,rfl,.inl ⟨rfl,rfl,rfl⟩,((Below.refl _ _).alloc (Nat.le_refl _) _).alloc (by simp) _⟩
   ·have HF:Hid (picF ⟨at0,ps,pl,lg⟩ b=⟨at0,ps,pl,lg⟩):=by
     show picF _ _=_
     simp only [picF,if_neg h1,if_neg h2,if_neg h3]
    have h3':b < 32∨126 < b:=by omega
    clear h1 h2 h3
    rcases h3' with h3 | h3
    all_goals
     go_enter Tryz.func98,Tryz.ntmps98
     go_wp2
     refine bodyPost_ret (v:=.agg #[.int .i64 at0,.slice a0 ps.length cap,.string pl,.bool lg]) (by simp [results,Tryz.results98,go_sem]) rfl ?_
     rw [HF.out]
     exact⟨_,_,rfl,.inl ⟨rfl,rfl,rfl⟩,((Below.refl _ _).alloc (Nat.le_refl _) _).alloc (by simp) _⟩
end Go.Proofs.YtjikokfjnbhngaaGreatDoor.Ps
