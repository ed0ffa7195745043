import Derived.Test.YtbfibfmnemnbbaaGreatVecI
set_option linter.unusedSimpArgs false
set_option linter.unusedVariables false
set_option maxHeartbeats 2000000
namespace Go.Proofs.YtbfibfmnemnbbaaGreat
open Go.RowKit Go.Sort
theorem index_any(a:Option Addr)(c:Nat)(ss:List ByteArray)(w:World)(l:ss.length<=4398046511104)(h:LisAt w a (ss.map .string)) :
  Calls Tryz.prog 96 #[.slice a ss.length c,.func (.func 36) #[] #[]] w fun e w'=>(∃i:Int,e=.returned (.int .i64 i)/\Hid (decide (0<=i)=ss.any largeB))/\w'=w:=by
 have H:=hide h
 clear h
 go_enter Tryz.func96,Tryz.ntmps96
 go_wp2_with fail
 go_loopw[8] (fun i wr=>∃k:Nat,k<=ss.length/\i=.int .i64 k/\Hid (∀i y,i<k->ss[i]?=some y->largeB y=false)/\wr=w) (fun i _=>ss.length-(intOf i).toNat)
 case atStart=>exact⟨0,Nat.zero_le _,rfl,fun i y h=>by omega,rfl⟩
 case round=>
  obtain⟨k,hk,rfl,HN,rfl⟩:=hrel
  by_cases h1:k<ss.length
  ·obtain⟨s,hs⟩:∃s,ss[k]?=some s:=⟨_,List.getElem?_eq_getElem h1⟩
   obtain⟨pb,po,rfl,cp⟩:=(unhide H).get (k:=k) (x:=.string s) (by simp[hs])
   have HS:=hide hs
   have i1:(k:Int)<(ss.length:Int):=by omega
   clear hs
   rcases Bool.eq_false_or_eq_true (largeB s) with e1|e1
   ·have HE:Hid (decide (0<=(k:Int))=ss.any largeB):=by show _=_;rw[hitG (unhide HS) e1];simp
    go_wp2_with (go_at_call 36;refine(islarge_any _ _).mono ?_;rintro e w1 ⟨rfl,rfl⟩)
    go_ret
    exact⟨⟨_,rfl,HE⟩,rfl⟩
   ·have HP:=hide (stepG (unhide HN) (unhide HS) e1)
    go_wp2_with (go_at_call 36;refine(islarge_any _ _).mono ?_;rintro e w1 ⟨rfl,rfl⟩)
    go_roundw
    case rel=>exact⟨k+1,by omega,by go_num,HP,by first|rfl|trivial⟩
    case measure=>simp[intOf];omega
  ·have i1:¬(k:Int)<(ss.length:Int):=by omega
   have HE:Hid (decide (0<=(-1:Int))=ss.any largeB):=by
    show _=_
    have e:k=ss.length:=by omega
    rw[noneG (by rw[<-e];exact unhide HN)];rfl
   go_wp2
   go_ret
   exact⟨⟨_,rfl,HE⟩,rfl⟩
theorem contains_any(a:Option Addr)(c:Nat)(ss:List ByteArray)(w:World)(l:ss.length<=4398046511104)(h:LisAt w a (ss.map .string)) :
  Calls Tryz.prog 71 #[.slice a ss.length c,.func (.func 36) #[] #[]] w fun e w'=>e=.returned (.bool (ss.any largeB))/\w'=w:=by
 have HI:=hide (index_any a c ss w l h)
 generalize ss.any largeB=Z at HI ⊢
 clear h l
 go_enter Tryz.func71,Tryz.ntmps71
 go_wp2_with (go_at_call 96;refine(unhide HI).mono ?_;rintro e w1 ⟨⟨i,rfl,HE⟩,rfl⟩)
 go_ret
 exact⟨by rw[<-unhide HE];rfl,rfl⟩
def small(X:Vc):Prop:=X.nl.length<=4398046511104/\X.ns.length<=4398046511104/\X.ss.length<=4398046511104
def goodB(X:Vc):Bool:=
 if X.k == 1 then X.ss.length == 0 && znN X.nl X.ns
 else if X.k == 2 then (X.ns.length == 0 && znS X.nl X.ss) && !X.ss.any largeB
 else false
theorem good_any(X:Vc)(p:Sl)(w:World)(hs:small X)(hp:VecAt w X p) :
  Calls Tryz.prog 45 #[vecV X p] w fun e w'=>e=.returned (.bool (goodB X))/\Below w.heap.size w w':=by
 rw[vecV_open]
 obtain⟨l1,l2,l3⟩:=hs
 have HN:Hid (∀w',Below w.heap.size w w'->Calls Tryz.prog 69 #[.slice p.a1 X.nl.length p.c1,.slice p.a2 X.ns.length p.c2] w' fun e w''=>e=.returned (.bool (znN X.nl X.ns))/\w''=w'):=
  fun w' hb=>zeroN_any _ _ _ _ _ _ _ l1 l2 (hp.1.later hb) (hp.2.1.later hb)
 have HT:Hid (∀w',Below w.heap.size w w'->Calls Tryz.prog 70 #[.slice p.a1 X.nl.length p.c1,.slice p.a3 X.ss.length p.c3] w' fun e w''=>e=.returned (.bool (znS X.nl X.ss))/\w''=w'):=
  fun w' hb=>zeroS_any _ _ _ _ _ _ _ l1 l3 (hp.1.later hb) (hp.2.2.later hb)
 have HC:Hid (∀w',Below w.heap.size w w'->Calls Tryz.prog 71 #[.slice p.a3 X.ss.length p.c3,.func (.func 36) #[] #[]] w' fun e w''=>e=.returned (.bool (X.ss.any largeB))/\w''=w'):=
  fun w' hb=>contains_any _ _ _ _ l3 (hp.2.2.later hb)
 clear hp
 rcases Bool.eq_false_or_eq_true (X.k == 1) with k1|k1
 ·have HG:Hid (goodB X=(X.ss.length == 0 && znN X.nl X.ns)):=by show _=_;simp[goodB,k1]
  generalize goodB X=G at HG ⊢
  by_cases z:X.ss.length=0
  ·have z':((X.ss.length:Int) == 0)=true:=by simp[z]
   have HE:Hid (G=znN X.nl X.ns):=by show _=_;rw[unhide HG,z];simp
   clear z HG
   generalize znN X.nl X.ns=Z at HE HN
   go_enter Tryz.func45,Tryz.ntmps45
   go_wp2_with (go_at_call 69;refine(unhide HN _ (below_alloc (Below.refl _ _) _)).mono ?_;rintro e w1 ⟨rfl,rfl⟩)
   go_ret
   exact⟨by rw[unhide HE];rfl,below_alloc (Below.refl _ _) _⟩
  ·have z':((X.ss.length:Int) == 0)=false:=by simp;intro e;exact z (by rw[e];rfl)
   have HE:Hid (G=false):=by show _=_;rw[unhide HG];simp;intro e;exact absurd (by rw[e];rfl) z
   clear z HG
   go_enter Tryz.func45,Tryz.ntmps45
   go_wp2
   go_ret
   exact⟨by rw[unhide HE];rfl,below_alloc (Below.refl _ _) _⟩
 ·rcases Bool.eq_false_or_eq_true (X.k == 2) with k2|k2
  ·have HG:Hid (goodB X=((X.ns.length == 0 && znS X.nl X.ss) && !X.ss.any largeB)):=by show _=_;simp[goodB,k1,k2]
   generalize goodB X=G at HG ⊢
   generalize znS X.nl X.ss=Z at HG HT
   generalize X.ss.any largeB=L at HG HC
   by_cases z:X.ns.length=0
   ·have z':((X.ns.length:Int) == 0)=true:=by simp[z]
    have HE:Hid (G=(Z && !L)):=by show _=_;rw[unhide HG,z];simp
    clear z HG
    cases Z
    ·go_enter Tryz.func45,Tryz.ntmps45
     go_wp2_with (go_at_call 70;refine(unhide HT _ (below_alloc (Below.refl _ _) _)).mono ?_;rintro e w1 ⟨rfl,rfl⟩)
     go_ret
     exact⟨by rw[unhide HE];rfl,below_alloc (Below.refl _ _) _⟩
    ·go_enter Tryz.func45,Tryz.ntmps45
     go_wp2_with (first | (go_at_call 70;refine(unhide HT _ (below_alloc (Below.refl _ _) _)).mono ?_;rintro e w1 ⟨rfl,rfl⟩) | (go_at_call 71;refine(unhide HC _ (below_alloc (Below.refl _ _) _)).mono ?_;rintro e w1 ⟨rfl,rfl⟩))
     go_ret
     exact⟨by rw[unhide HE];rfl,below_alloc (Below.refl _ _) _⟩
   ·have z':((X.ns.length:Int) == 0)=false:=by simp;intro e;exact z (by rw[e];rfl)
    have HE:Hid (G=false):=by show _=_;rw[unhide HG];simp;intro e;exact absurd (by rw[e];rfl) z
    clear z HG
    go_enter Tryz.func45,Tryz.ntmps45
    go_wp2
    go_ret
    exact⟨by rw[unhide HE];rfl,below_alloc (Below.refl _ _) _⟩
  ·have HE:Hid (goodB X=false):=by show _=_;simp[goodB,k1,k2]
   generalize goodB X=G at HE ⊢
   go_enter Tryz.func45,Tryz.ntmps45
   go_wp2
   go_ret
   exact⟨by rw[unhide HE];rfl,below_alloc (Below.refl _ _) _⟩
end Go.Proofs.YtbfibfmnemnbbaaGreat
