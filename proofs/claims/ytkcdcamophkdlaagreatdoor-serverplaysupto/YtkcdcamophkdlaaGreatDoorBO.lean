import Derived.Test.YtkcdcamophkdlaaGreatDoorAQ
import Derived.Test.YtkcdcamophkdlaaGreatDoorBJ
set_option maxHeartbeats 2000000
set_option maxRecDepth 100000
open Go.Proofs.Tryz
namespace Go.Proofs.YtkcdcamophkdlaaGreatDoor.Tl
open Go.RowKit
section
variable {P : Program}
end
theorem NT:(30:TypeId)≠38:=by decide
theorem Js:(30:TypeId)≠3:=by decide
theorem Sw:(38:TypeId)≠3:=by decide
@[reducible] def Bq (v:Value):Obj:=.cells #[v] 30
theorem zA {w w':World} {base d z n m:Nat} {e u:TypeId} {v A:Value} {B G:List Value} (h:w.ownsRow base e z v n B) (F:w.ownsRow d u 1 A m G) (s:u≠e) (y:w.grownBy w' A.ownBlock):w'.ownsRow base e z v n B:=by
 rcases F.2 with ⟨rfl,_⟩ | ⟨g,c,D,rfl,_,r,_⟩
 ·refine⟨h.1,?_⟩;rcases h.2 with E | ⟨x,C,f,t,o,k,l⟩
  ·exact .inl E
  ·exact .inr ⟨x,C,f,t,o,by rw [y.block x (dI k) (by simp [Value.ownBlock])];exact k,l⟩
 ·exact JL h y r s
variable (p n:Int) (right:Bool) (a c:List Int) (q:Int) (b:List Int) {aj:List (List Int)} {i j:Nat}
def fI (p n:Int) (right:Bool) (c:List Int):List Int:=c.flatMap fun q=>if q=p∧right=false then [q,n] else [q]
def fF (p n:Int) (right:Bool) (aj:List (List Int)):List (List Int):=aj.flatMap fun c=>fI p n right c::(if right=true∧p∈c then [[n]] else [])
def fu (p:Int) (c:List Int):List Int:=c.flatMap fun q=>if q=p then [] else [q]
def lJ (p:Int) (aj:List (List Int)):List (List Int):=aj.flatMap fun c=>if fu p c=[] then [] else [fu p c]
theorem L8:fI p n right (c++[q])=fI p n right c++(if q=p∧right=false then [q,n] else [q]):=by
 simp [fI]
theorem Qv:fu p (c++[q])=fu p c++(if q=p then [] else [q]):=by
 simp [fu]
theorem ac8 (aj:List (List Int)) (c:List Int):fF p n right (aj++[c])=fF p n right aj++fI p n right c::(if right=true∧p∈c then [[n]] else []):=by
 simp [fF]
theorem ac4 (aj:List (List Int)) (c:List Int):lJ p (aj++[c])=lJ p aj++(if fu p c=[] then [] else [fu p c]):=by
 simp [lJ]
theorem E5 (p n:Int) (right:Bool):∀ (c:List Int),p ∉ c->fI p n right c=c
 | [],_=>rfl
 | q::r,h=>by
  simp only [List.mem_cons,not_or] at h
  have d:=E5 p n right r h.2
  unfold fI at d ⊢
  rw [List.flatMap_cons,d,if_neg (fun e=>h.1 e.1.symm)]
  rfl
theorem Qx:fI p n true c=c:=by
 induction c with
 | nil=>rfl
 | cons q r ih=>
  unfold fI at ih ⊢;rw [List.flatMap_cons,ih,if_neg (by simp)]
  rfl
theorem IE (p:Int):∀ (c:List Int),p ∉ c->fu p c=c
 | [],_=>rfl
 | q::r,h=>by
  simp only [List.mem_cons,not_or] at h
  have d:=IE p r h.2
  unfold fu at d ⊢
  rw [List.flatMap_cons,d,if_neg (fun e=>h.1 e.symm)]
  rfl
theorem Yf:fI p n right (a++b)=fI p n right a++fI p n right b:=by simp [fI]
theorem Yd:fu p (a++b)=fu p a++fu p b:=by simp [fu]
theorem S9 (a b:List (List Int)):fF p n right (a++b)=fF p n right a++fF p n right b:=by simp [fF]
theorem ac2 (a b:List (List Int)):lJ p (a++b)=lJ p a++lJ p b:=by simp [lJ]
theorem F6 (p n:Int) (right:Bool):∀ (aj:List (List Int)),(∀ c∈aj,p ∉ c)->fF p n right aj=aj
 | [],_=>rfl
 | c::r,h=>by
  have g:=F6 p n right r (fun d k=>h d (by simp [k]))
  have f:=h c (by simp)
  unfold fF at g ⊢
  rw [List.flatMap_cons,g,E5 p n right c f,if_neg (fun e=>f e.2)]
  rfl
theorem Om (p:Int):∀ (aj:List (List Int)),(∀ c∈aj,p ∉ c∧c≠[])->lJ p aj=aj
 | [],_=>rfl
 | c::r,h=>by
  have f:=Om p r (fun d g=>h d (by simp [g]))
  have e:=h c (by simp)
  unfold lJ at f ⊢
  rw [List.flatMap_cons,f,IE p c e.1,if_neg e.2]
  rfl
theorem parts {p:Int} (C:eY aj) (B:bL p aj=some (i,j)):
  ∃ (l:i < aj.length) (m:j < aj[i].length),aj=aj.take i++aj[i]::aj.drop (i+1)∧aj[i]=aj[i].take j++p::aj[i].drop (j+1)∧p ∉ aj[i].take j∧p ∉ aj[i].drop (j+1)∧(∀ c∈aj.take i,p ∉ c)∧(∀ c∈aj.drop (i+1),p ∉ c):=by
 obtain⟨l,m,A⟩:=jI B;have u:aj=aj.take i++aj[i]::aj.drop (i+1):=by rw [<-List.drop_eq_getElem_cons l,List.take_append_drop]
 have g:aj[i]=aj[i].take j++p::aj[i].drop (j+1):=by
  have:=(List.take_append_drop j aj[i]).symm;rw [List.drop_eq_getElem_cons m,A] at this;exact this
 have x:=C.once;have z:aj.flatten=(aj.take i).flatten++(aj[i]++(aj.drop (i+1)).flatten):=by
  have e:=congrArg List.flatten u;rw [List.flatten_append,List.flatten_cons] at e;exact e
 rw [z,List.nodup_append] at x;obtain⟨_,d,y⟩:=x;rw [List.nodup_append] at d;obtain⟨t,_,o⟩:=d;have f:p∈aj[i]:=by rw [g];simp
 rw [g,List.nodup_append] at t;obtain⟨_,s,r⟩:=t;rw [List.nodup_cons] at s;refine⟨l,m,u,g,fun h=>r p h p (by simp) rfl,s.1,fun c k h=>?_,fun c k h=>?_⟩
 ·exact y p (List.mem_flatten.2 ⟨c,k,h⟩) p (List.mem_append_left _ f) rfl
 ·exact o p f p (List.mem_flatten.2 ⟨c,k,h⟩) rfl
theorem Qw {p n:Int} (r:eY aj) (d:bL p aj=some (i,j)) (s:i < aj.length):fI p n false aj[i]=bZ aj[i] (j+1) n:=by
 obtain⟨_,o,_,h,k,l,_⟩:=parts r d;have e:fI p n false aj[i]=aj[i].take j++(p::n::aj[i].drop (j+1)):=by
  have:fI p n false aj[i]=fI p n false (aj[i].take j++p::aj[i].drop (j+1)):=(by rw [<-h]);rw [this,Yf,E5 _ _ _ _ k];have f:fI p n false (p::aj[i].drop (j+1))=[p,n]++fI p n false (aj[i].drop (j+1)):=by
   unfold fI;rw [List.flatMap_cons,if_pos ⟨rfl,rfl⟩]
  rw [f,E5 _ _ _ _ l]
  rfl
 rw [e];unfold bZ;have g:aj[i].take (j+1)=aj[i].take j++[p]:=by
  obtain⟨_,_,m⟩:=jI d;rw [List.take_succ_eq_append_getElem o,m]
 rw [g];simp
theorem Ye {p:Int} (k:eY aj) (h:bL p aj=some (i,j)) (l:i < aj.length):fu p aj[i]=aj[i].eraseIdx j:=by
 obtain⟨_,_,_,e,f,g,_⟩:=parts k h;have:fu p aj[i]=fu p (aj[i].take j++p::aj[i].drop (j+1)):=by rw [<-e]
 rw [this,Yd,IE _ _ f];have d:fu p (p::aj[i].drop (j+1))=fu p (aj[i].drop (j+1)):=by
  unfold fu;rw [List.flatMap_cons,if_pos rfl]
  rfl
 rw [d,IE _ _ g,List.eraseIdx_eq_take_drop_succ]
theorem ac7 {p n:Int} (m:eY aj) (k:bL p aj=some (i,j)):fF p n true aj=bZ aj (i+1) [n]:=by
 obtain⟨l,_,d,f,_,_,g,h⟩:=parts m k;have:fF p n true aj=fF p n true (aj.take i++aj[i]::aj.drop (i+1)):=by rw [<-d]
 rw [this,S9,F6 _ _ _ _ g];have e:fF p n true (aj[i]::aj.drop (i+1))=(aj[i]::[[n]])++fF p n true (aj.drop (i+1)):=by
  unfold fF;rw [List.flatMap_cons,Qx,if_pos ⟨rfl,by rw [f];simp⟩]
 rw [e,F6 _ _ _ _ h];unfold bZ;rw [List.take_succ_eq_append_getElem l,List.append_assoc]
 rfl
theorem ac5 {p n:Int} (g:eY aj) (d:bL p aj=some (i,j)) (f:i < aj.length):fF p n false aj=aj.set i (bZ aj[i] (j+1) n):=by
 obtain⟨_,_,h,_,_,_,k,l⟩:=parts g d;have:fF p n false aj=fF p n false (aj.take i++aj[i]::aj.drop (i+1)):=by rw [<-h]
 rw [this,S9,F6 _ _ _ _ k];have e:fF p n false (aj[i]::aj.drop (i+1))=[fI p n false aj[i]]++fF p n false (aj.drop (i+1)):=by
  unfold fF;rw [List.flatMap_cons,if_neg (by simp)]
 rw [e,F6 _ _ _ _ l,Qw g d f,List.set_eq_take_append_cons_drop,if_pos f]
 rfl
theorem ac3 {p:Int} (g:eY aj) (k:bL p aj=some (i,j)) (l:i < aj.length):lJ p aj=if aj[i].length=1 then aj.eraseIdx i else aj.set i (aj[i].eraseIdx j):=by
 obtain⟨_,t,o,_,_,_,r,s⟩:=parts g k;have f:∀ c∈aj,c≠[]:=fun c d e=>by have:=(g.kI c d).1;rw [e] at this;simp at this
 have:lJ p aj=lJ p (aj.take i++aj[i]::aj.drop (i+1)):=by rw [<-o]
 rw [this,ac2,Om _ _ (fun c d=>⟨r c d,f c (List.mem_of_mem_take d)⟩)];have e:lJ p (aj[i]::aj.drop (i+1))=(if fu p aj[i]=[] then [] else [fu p aj[i]])++lJ p (aj.drop (i+1)):=by
  unfold lJ;rw [List.flatMap_cons]
 rw [e,Om _ _ (fun c d=>⟨s c d,f c (List.mem_of_mem_drop d)⟩),Ye g k l];have m:(aj[i].eraseIdx j).length=aj[i].length - 1:=by rw [List.length_eraseIdx];simp [t]
 by_cases h:aj[i].length=1
 ·rw [if_pos h,if_pos (List.length_eq_zero_iff.1 (by omega)),List.eraseIdx_eq_take_drop_succ]
  rfl
 ·rw [if_neg h,if_neg (fun e=>by rw [e] at m;simp at m;omega),List.set_eq_take_append_cons_drop,if_pos l]
  rfl
variable {w wr w2 wx:World} {its done:List bn} {co:Option Addr} {cap O:Nat} {v:Value}
structure jw (w:World) (its:List bn) (co:Option Addr) (cap O:Nat) (done:List bn) (v:Value) (wr:World):Prop where
 row:wr.ownsRow (O+1) 38 1 v done.length (done.map cv)
 own:∀ x∈done,wr.ownsRow (O+1) 3 1 (cv x) x.1.length (ints x.1)
 box:wr.heap[w.heap.size]?=some (aT co its.length cap)
 res:wr.heap[w.heap.size+1]?=some (aT none 0 0)
 out:wr.heap[O]?=some (Bq v)
 rd:aI wr co its
 old:aI w co its
 far:w.heap.size+2<=O
 below:Below w.heap.size w wr
theorem jw.next (h:jw w its co cap O done v wr) (d:Below wr.heap.size wr w2):jw w its co cap O done v w2:=
 ⟨kR h.row d,fun x e=>kR (h.own x e) d,aG d h.box (dI h.box),aG d h.res (dI h.res),aG d h.out (dI h.out),h.rd.below d,h.old,h.far,iG h.below d⟩
theorem jw.push {B:Value} (h:jw w its co cap O done v wr) (x:bn) (D:wr.ownsRow (O+1) 3 1 (cv x) x.1.length (ints x.1)) (A:w2.ownsRow (O+1) 38 1 B (done.length+1) (done.map cv++[cv x])) (l:(wr.alloc (.cells #[cv x] 38)).grownBy w2 v.ownBlock):
  jw w its co cap O (done++[x]) B (w2.setCell ⟨O,0,none⟩ B):=by
 have f:Below wr.heap.size wr (wr.alloc (.cells #[cv x] 38)):=aM _ _;have g:=kR h.row f;have F:=dI h.out;have E:=h.far;have k:∀ b,b < O+1->some b≠v.ownBlock:=fun b m e=>by have:=uO h.row e.symm;omega
 have r:∀ (b:Nat) (o:Obj),wr.heap[b]?=some o->b < O+1->w2.heap[b]?=some o:=fun b o z m=>by
  have C:=aG f z (dI z);rw [l.block b (dI C) (k b m)];exact C
 have d:=r _ _ h.out (by omega);have t:Below w.heap.size w w2:=(iG h.below f).trans ⟨l.os,l.tape,l.output,l.size,fun b m=>l.block b (by have:=(iG h.below f).size;omega) (k b (by omega))⟩;refine⟨?_,?_,?_,?_,?_,?_,h.old,h.far,t.setCell (by simp;omega) _⟩
 ·have:=kS (j:=0) (u:=B) A d NT;simpa using this
 ·intro y s;rcases List.mem_append.1 s with s | s
  ·exact kS (zA (kR (h.own y s) f) g Sw l) d Js
  ·simp at s;subst s;exact kS (zA (kR D f) g Sw l) d Js
 ·rw [Below.heap_setCell _ _ _ _ (by simp;omega)];exact r _ _ h.box (by omega)
 ·rw [Below.heap_setCell _ _ _ _ (by simp;omega)];exact r _ _ h.res (by omega)
 ·rw [heap_setCell_same w2 O 0 _ _ B d]
  rfl
 ·exact Oz h.old (by omega) (h.old.below t) _ _
theorem jw.F4 {o:Obj} (h:jw w its co cap O done v wr) (f:(wr.alloc o).grownBy w2 v.ownBlock):w2.heap[O]?=some (Bq v):=by
 have d:=aF h.out o;rw [f.block _ (dI d) (fun e=>by have:=uO h.row e.symm;omega)];exact d
def vE (w:World) (r:List (List Int)×Int) (e:Ending) (w':World):Prop:=
 ∃ Ah cap' aP,e=.returned (.tuple #[tval Ah aP.length cap',.int .i64 r.2])∧ak aP=r.1∧(aI w' Ah aP∧(r.2=0->dK w' Ah aP))∧Below w.heap.size w w'
theorem jw.fin {d:Option Addr} {n f:Nat} (h:jw w its co cap O done (.slice d n f) wr) (r:List (List Int)×Int) (m:r=(ak done,0)):
  vE w r (.returned (.tuple #[tval d n f,.int .i64 0])) (wr.setCell ⟨w.heap.size+1,0,none⟩ (.slice d n f)):=by
 subst m;have l:n=done.length:=by
  obtain⟨_,_,e⟩:=oG h.row;simp only [Value.slice.injEq] at e;exact e.2.1
 subst l;exact⟨d,f,done,rfl,rfl,⟨(Ox (kS h.row h.res NT) (fun x k=>⟨_,kS (h.own x k) h.res Js⟩)).2,fun _=>⟨fun a g=>Gj (kS h.row h.res NT) a g,fun x k a g=>Gj (kS (h.own x k) h.res Js) a g⟩⟩,h.below.setCell (by simp) _⟩
theorem yQ (d:aI w co its) (f:Below w.heap.size w wr) (q:Int) (r:List (List Int)×Int) (h:r=(ak its,q)) (g:q≠0:=by decide):
  vE w r (.returned (.tuple #[tval co its.length cap,.int .i64 q])) (wr.setCell ⟨w.heap.size+1,0,none⟩ (.slice co its.length cap)):=by
 subst h;exact⟨co,cap,its,rfl,rfl,⟨Oz d (by omega) (d.below f) _ _,fun e=>absurd e g⟩,f.setCell (by simp) _⟩
structure JInv (w:World) (its:List bn) (co:Option Addr) (cap:Nat) (wx:World):Prop where
 box:wx.heap[w.heap.size]?=some (aT co its.length cap)
 res:wx.heap[w.heap.size+1]?=some (aT none 0 0)
 rd:aI wx co its
 below:Below w.heap.size w wx
theorem JInv.next (h:JInv w its co cap wx) (d:Below wx.heap.size wx w2):JInv w its co cap w2:=
 ⟨aG d h.box (dI h.box),aG d h.res (dI h.res),h.rd.below d,iG h.below d⟩
theorem Jo (d:aI w co its):JInv w its co cap ((w.alloc (aT co its.length cap)).alloc (aT none 0 0)):=
 ⟨aF (at_new w _) _,bK w _ _,d.below (aO _ _ _),aO _ _ _⟩
theorem JInv.make (h:JInv w its co cap wx) (d:aI w co its):jw w its co cap wx.heap.size [] (.slice none 0 0) (wx.alloc (Bq (.slice none 0 0))):=
 ⟨by simpa using World.ownsRow_nil _ _ _ _,fun x e=>by simp at e,aF h.box _,aF h.res _,at_new _ _,h.rd.below (aM _ _),d,by have:=dI h.res;omega,iG h.below (aM _ _)⟩
theorem CV {its:List bn} (h:cK (ak its)=true):its.length<=6∧(ak its).flatten.length<=17592186044416∧∀ x∈its,x.1.length<=3:=by
 have d:=(nG _).1 h;have e:=sM d;have f:=Ms (ak its) (fun c g=>(d.kI c g).2);simp only [ak,List.length_map] at e f;refine⟨e,by simp only [ak];omega,fun x k=>(d.kI x.1 (List.mem_map.2 ⟨x,k,rfl⟩)).2⟩
theorem Yg {aj:List (List Int)} {p n:Int} {right:Bool} {i j k:Nat} (l:eY aj) (f:bL p aj=some (i,j)) (d:k < aj.length):
  (fI p n right aj[k]).length<=3∧¬ (right=false∧i=k∧(aj.getD i []).length=3)∨(right=false∧i=k∧(aj.getD i []).length=3)∧(fI p n right aj[k]).length=4:=by
 have o:=l.kI aj[k] (List.getElem_mem d);cases right with
 | true=>left;rw [Qx];exact⟨o.2,by simp⟩
 | false=>
  by_cases e:i=k
  ·subst e;obtain⟨_,_,_⟩:=jI f;have s:aj.getD i []=aj[i]:=(by simp [d]);have t:(fI p n false aj[i]).length=aj[i].length+1:=by
    rw [Qw l f d];simp [bZ];omega
   rw [t,s];by_cases m:aj[i].length=3
   ·right;exact⟨⟨rfl,rfl,m⟩,by omega⟩
   ·left;exact⟨by omega,fun h=>m h.2.2⟩
  ·left;have u:p ∉ aj[k]:=by
    intro h;obtain⟨_,g,r⟩:=List.getElem_of_mem h;have:=QT l d g r;rw [f] at this;simp only [Option.some.injEq,Prod.mk.injEq] at this;exact e this.1
   rw [E5 _ _ _ _ u];exact⟨o.2,fun h=>e h.2.1⟩
theorem JU (its:List bn) (co:Option Addr) (cap:Nat) (p n:Int) (right:Bool) (w:World) (K:aI w co its) (G:its.length<=5864062014805) (t:∀ x∈its,x.1.length<=17592186044416) (r:List (List Int)×Int) (k:r=dP (ak its) p n right)
  (h:cK (ak its)=false∨(cK (ak its)=true∧dG n=false)∨(cK (ak its)=true∧dG n=true∧bL p (ak its)=none)∨(cK (ak its)=true∧dG n=true∧aR (ak its) p=true∧aR (ak its) n=true)):
  kC 24 #[tval co its.length cap,.int .i64 p,.int .i64 n,.bool right] w (vE w r):=by
 have H:Hid (JInv w its co cap ((w.alloc (aT co its.length cap)).alloc (aT none 0 0))):=Jo K;have M:Hid (aI w co its):=K;have N:Hid (∀ p w,kD 49 #[.int .i64 p] w (.bool (dG p))):=NK;have E:Hid (∀ g,g=cK (ak its)->∀ W,aI W co its->kA 48 #[tval co its.length cap] W (.bool g)):=fun g V W h=>Am its co cap W h G t g V;rcases h with h | ⟨o,F⟩ | ⟨o,F,D⟩ | ⟨o,F,D,Q⟩
 ·have l:Hid (r=(ak its,1)):=(by show r=_;rw [k];simp [dP,h]);have u:=E.out false h.symm;have I:Hid (∀ W,aI W co its->kA 48 #[tval co its.length cap] W (.bool false)):=u;clear K t k h E u G;go_enter func24,ntmps24
  go_wp2_with (first
   | (go_at_call 48;refine(I.out _ H.out.rd).mono ?_;rintro e J ⟨rfl,d⟩;have f:Hid (JInv w its co cap J):=H.out.next d;clear d;obtain⟨y,z⟩:=one f.out.box;obtain⟨A,B⟩:=one f.out.res)
   | fail)
  refine bodyPost_ret (v:=.tuple #[tval co its.length cap,.int .i64 1]) (by simp [results,results24,go_sem, *]) rfl ?_;exact yQ M.out f.out.below 1 r l.out
 ·have l:Hid (r=(ak its,1)):=(by show r=_;rw [k];simp [dP,F]);have u:=E.out true o.symm;have I:Hid (∀ W,aI W co its->kA 48 #[tval co its.length cap] W (.bool true)):=u;clear K t k o E u G;go_enter func24,ntmps24
  go_wp2_with (first
   | (go_at_call 48;refine(I.out _ H.out.rd).mono ?_;rintro e J ⟨rfl,d⟩;have f:Hid (JInv w its co cap J):=H.out.next d;clear d;obtain⟨y,z⟩:=one f.out.box;obtain⟨A,B⟩:=one f.out.res)
   | (go_at_call 49;refine(N.out _ _).mono ?_;rintro e w2 ⟨rfl,rfl⟩;rw [F])
   | fail)
  refine bodyPost_ret (v:=.tuple #[tval co its.length cap,.int .i64 1]) (by simp [results,results24,go_sem, *]) rfl ?_;exact yQ M.out f.out.below 1 r l.out
 ·have l:Hid (r=(ak its,3)):=(by show r=_;rw [k];simp [dP,o,F,D]);have m:=CV o;have R:Hid (∀ W,aI W co its->kA 23 #[tval co its.length cap,.int .i64 p] W (.bool false)):=fun W h=>pU its co cap p W h G m.2.1 false (by unfold aR;rw [D];rfl);have u:=E.out true o.symm;have I:Hid (∀ W,aI W co its->kA 48 #[tval co its.length cap] W (.bool true)):=u;clear K t k o E u G D m;go_enter func24,ntmps24
  go_wp2_with (first
   | (go_at_call 48;refine(I.out _ H.out.rd).mono ?_;rintro e J ⟨rfl,d⟩;have f:Hid (JInv w its co cap J):=H.out.next d;clear d;obtain⟨y,z⟩:=one f.out.box;obtain⟨A,B⟩:=one f.out.res)
   | (go_at_call 49;refine(N.out _ _).mono ?_;rintro e w2 ⟨rfl,rfl⟩;rw [F])
   | (go_at_call 23;refine(R.out _ f.out.rd).mono ?_;rintro e T ⟨rfl,s⟩;have C:Hid (JInv w its co cap T):=f.out.next s;clear s y z A B;obtain⟨y,z⟩:=one C.out.box;obtain⟨A,B⟩:=one C.out.res)
   | fail)
  refine bodyPost_ret (v:=.tuple #[tval co its.length cap,.int .i64 3]) (by simp [results,results24,go_sem, *]) rfl ?_;exact yQ M.out C.out.below 3 r l.out
 ·have l:Hid (r=(ak its,4)):=by
   show r=_;rw [k];unfold dP;rw [if_neg (by simp [o,F])];cases U:bL p (ak its) with
   | none=>unfold aR at D;rw [U] at D;cases D
   | some x=>simp [Q]
  have m:=CV o;have R:Hid (∀ W,aI W co its->kA 23 #[tval co its.length cap,.int .i64 p] W (.bool true)):=fun W h=>pU its co cap p W h G m.2.1 true D.symm;have Y:Hid (∀ W,aI W co its->kA 23 #[tval co its.length cap,.int .i64 n] W (.bool true)):=fun W h=>pU its co cap n W h G m.2.1 true Q.symm;have u:=E.out true o.symm;have I:Hid (∀ W,aI W co its->kA 48 #[tval co its.length cap] W (.bool true)):=u;clear K t k o E u G D Q m;go_enter func24,ntmps24
  go_wp2_with (first
   | (go_at_call 48;refine(I.out _ H.out.rd).mono ?_;rintro e J ⟨rfl,d⟩;have f:Hid (JInv w its co cap J):=H.out.next d;clear d;obtain⟨y,z⟩:=one f.out.box;obtain⟨A,B⟩:=one f.out.res)
   | (go_at_call 49;refine(N.out _ _).mono ?_;rintro e w2 ⟨rfl,rfl⟩;rw [F])
   | (have _t:=C;go_at_call 23;refine(Y.out _ C.out.rd).mono ?_;rintro e X ⟨rfl,L⟩;have S:Hid (JInv w its co cap X):=C.out.next L;clear L y z A B;obtain⟨y,z⟩:=one S.out.box;obtain⟨A,B⟩:=one S.out.res)
   | (go_at_call 23;refine(R.out _ f.out.rd).mono ?_;rintro e T ⟨rfl,s⟩;have C:Hid (JInv w its co cap T):=f.out.next s;clear s y z A B;obtain⟨y,z⟩:=one C.out.box;obtain⟨A,B⟩:=one C.out.res)
   | fail)
  refine bodyPost_ret (v:=.tuple #[tval co its.length cap,.int .i64 4]) (by simp [results,results24,go_sem, *]) rfl ?_;exact yQ M.out S.out.below 4 r l.out
end Go.Proofs.YtkcdcamophkdlaaGreatDoor.Tl
