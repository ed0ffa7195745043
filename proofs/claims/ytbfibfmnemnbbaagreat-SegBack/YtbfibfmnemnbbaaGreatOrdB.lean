import Derived.Test.YtbfibfmnemnbbaaGreatPackP
import Derived.Sort.Statements
set_option linter.unusedSimpArgs false
set_option linter.unusedVariables false
namespace Go.Proofs.YtbfibfmnemnbbaaGreat
open Go.RowKit Go.Sort
theorem cb_anti:∀(s t:List UInt8),Lib.compareBytes s t=- Lib.compareBytes t s
 | [],[]=>rfl
 | [],b::t=>rfl
 | a::s,[]=>rfl
 | a::s,b::t=>by
  rw[Lib.compareBytes,Lib.compareBytes]
  by_cases h:a<b
  ·have h2:¬b<a:=fun h3=>absurd (UInt8.lt_trans h h3) (UInt8.lt_irrefl a)
   simp[h,h2]
  ·by_cases h2:b<a
   ·simp[h,h2]
   ·simp only[h,h2,if_false]
    exact cb_anti s t
theorem cb_zero:∀(s t:List UInt8),Lib.compareBytes s t=0->s=t
 | [],[],_=>rfl
 | [],b::t,h=>by simp[Lib.compareBytes] at h
 | a::s,[],h=>by simp[Lib.compareBytes] at h
 | a::s,b::t,h=>by
  rw[Lib.compareBytes] at h
  by_cases h1:a<b
  ·simp[h1] at h
  ·by_cases h2:b<a
   ·simp[h1,h2] at h
   ·simp only[h1,h2,if_false] at h
    have e:a=b:=UInt8.le_antisymm (UInt8.not_lt.1 h2) (UInt8.not_lt.1 h1)
    rw[e,cb_zero s t h]
theorem cb_le:∀(s t u:List UInt8),Lib.compareBytes s t<=0->Lib.compareBytes t u<=0->Lib.compareBytes s u<=0
 | [],t,[],_,_=>by simp[Lib.compareBytes]
 | [],t,c::u,_,_=>by simp[Lib.compareBytes]
 | a::s,[],u,h,_=>by simp[Lib.compareBytes] at h
 | a::s,b::t,[],_,h=>by simp[Lib.compareBytes] at h
 | a::s,b::t,c::u,h1,h2=>by
  rw[Lib.compareBytes] at h1 h2 ⊢
  by_cases hab:a<b
  ·by_cases hbc:b<c
   ·have:=UInt8.lt_trans hab hbc
    simp[this]
   ·by_cases hcb:c<b
    ·simp[hbc,hcb] at h2
    ·have e:b=c:=UInt8.le_antisymm (UInt8.not_lt.1 hcb) (UInt8.not_lt.1 hbc)
     subst e
     simp[hab]
  ·by_cases hba:b<a
   ·simp[hab,hba] at h1
   ·have e:a=b:=UInt8.le_antisymm (UInt8.not_lt.1 hba) (UInt8.not_lt.1 hab)
    subst e
    simp only[hab,if_false] at h1
    by_cases hbc:a<c
    ·simp[hbc]
    ·by_cases hcb:c<a
     ·simp[hbc,hcb] at h2
     ·simp only[hbc,hcb,if_false] at h2 ⊢
      exact cb_le s t u h1 h2
theorem cmpI_neg(x y:Int):cmpI x y<0 ↔ x<y:=by unfold cmpI;split<;>(try split)<;>omega
theorem cmpI_zero(x y:Int):cmpI x y=0 ↔ x=y:=by unfold cmpI;split<;>(try split)<;>omega
theorem cmpI_anti(x y:Int):cmpI x y=- cmpI y x:=by unfold cmpI;split<;>(try split)<;>(try split)<;>omega
theorem orI_le(x y z:Int):orI x y z<=0 ↔ x<0∨(x=0/\(y<0∨(y=0/\z<=0))):=by unfold orI;split<;>(try split)<;>omega
theorem orI_zero(x y z:Int):orI x y z=0 ↔ x=0/\y=0/\z=0:=by unfold orI;split<;>(try split)<;>omega
theorem ord_anti(x y:Val):ordV x y=- ordV y x:=by
 unfold ordV
 rw[cmpI_anti (cleanV x).k,cmpI_anti (cleanV x).n]
 have:=cb_anti (cleanV x).s.data.toList (cleanV y).s.data.toList
 have e:cmpB (cleanV x).s (cleanV y).s=- cmpB (cleanV y).s (cleanV x).s:=this
 rw[e]
 unfold orI
 split<;>(try split)<;>(try split)<;>(try split)<;>omega
theorem ord_le{x y z:Val}(h1:ordV x y<=0)(h2:ordV y z<=0):ordV x z<=0:=by
 unfold ordV at *
 rw[orI_le,cmpI_neg,cmpI_zero,cmpI_neg,cmpI_zero] at *
 have h3:=cb_le (cleanV x).s.data.toList (cleanV y).s.data.toList (cleanV z).s.data.toList
 have h4:cmpB (cleanV x).s (cleanV y).s<=0->cmpB (cleanV y).s (cleanV z).s<=0->cmpB (cleanV x).s (cleanV z).s<=0:=h3
 generalize cmpB (cleanV x).s (cleanV y).s=p at *
 generalize cmpB (cleanV y).s (cleanV z).s=q at *
 generalize cmpB (cleanV x).s (cleanV z).s=r at *
 omega
theorem ord_self(x:Val):ordV x x=0:=by have:=ord_anti x x;omega
theorem ord_eq{x y:Val}(h:ordV x y=0):cleanV x=cleanV y:=by
 unfold ordV at h
 rw[orI_zero,cmpI_zero,cmpI_zero] at h
 obtain⟨h1,h2,h3⟩:=h
 have h4:=cb_zero _ _ h3
 cases hx:cleanV x with
 | mk a b c=>
  cases hy:cleanV y with
  | mk a' b' c'=>
   rw[hx,hy] at h1 h2 h4
   simp only at h1 h2 h4
   rw[h1,h2]
   congr 1
   exact ByteArray.ext (Array.toList_inj.1 h4)
def ltV(x y:Val):Bool:=decide (ordV x y<0)
theorem swoV:SWO ltV where
 irrefl x:=by simp[ltV,ord_self]
 trans x y z h1 h2:=by
  simp only[ltV,decide_eq_true_eq] at *
  have h3:=ord_le (x:=x) (y:=y) (z:=z) (by omega) (by omega)
  rcases Int.lt_or_eq_of_le h3 with h|h
  ·exact h
  ·have h4:=ord_anti x z
   have h5:=ord_le (x:=z) (y:=x) (z:=y) (by omega) (by omega)
   have h6:=ord_anti y z
   omega
 ntrans x y z h1 h2:=by
  simp only[ltV,decide_eq_false_iff_not] at *
  have a1:=ord_anti x y
  have a2:=ord_anti y z
  have a3:=ord_anti x z
  have h3:=ord_le (x:=z) (y:=y) (z:=x) (by omega) (by omega)
  omega
theorem sameB_eq{x y:Val}:sameB x y=true ↔ x=y:=by
 unfold sameB
 constructor
 ·intro h
  simp only[Bool.and_eq_true,beq_iff_eq] at h
  obtain⟨⟨h1,h2⟩,h3⟩:=h
  cases x;cases y
  simp only at h1 h2 h3
  rw[h1,h2]
  congr 1
  rw[Lib.toList_data,Lib.toList_data] at h3
  exact ByteArray.ext (Array.toList_inj.1 h3)
 ·rintro rfl;simp
end Go.Proofs.YtbfibfmnemnbbaaGreat
set_option linter.unusedSimpArgs false
set_option linter.unusedVariables false
namespace Go.Proofs.YtbfibfmnemnbbaaGreat
open Go.RowKit Go.Sort
def compT(xs:List Val):Nat->List Val
 | 0=>xs.take 1
 | j+1=>compT xs j++(if sameB (xs.getD (j+1) Val.null) (xs.getD j Val.null) then [] else [xs.getD (j+1) Val.null])
def compL(xs:List Val):List Val:=compT xs (xs.length-1)
theorem comp_next{xs:List Val}{j:Nat}{x y:Val}(hx:xs[j+1]?=some x)(hy:xs[j]?=some y):compT xs (j+1)=compT xs j++(if sameB x y then [] else [x]):=by
 simp only[compT,List.getD_eq_getElem?_getD,hx,hy,Option.getD_some]
theorem comp_sub(xs:List Val):∀j,j<xs.length->(compT xs j).Sublist (xs.take (j+1))
 | 0,_=>List.Sublist.refl _
 | j+1,h=>by
  rw[comp_next (List.getElem?_eq_getElem h) (List.getElem?_eq_getElem (by omega:j<xs.length)),List.take_succ_eq_append_getElem h]
  refine List.Sublist.append (comp_sub xs j (by omega)) ?_
  split
  ·exact List.nil_sublist _
  ·exact List.Sublist.refl _
theorem compL_sub(xs:List Val):(compL xs).Sublist xs:=by
 unfold compL
 by_cases h:xs.length=0
 ·have:xs=[]:=List.eq_nil_of_length_eq_zero h
  subst this
  exact List.Sublist.refl _
 ·have:=comp_sub xs (xs.length-1) (by omega)
  rw[show xs.length-1+1=xs.length by omega,List.take_length] at this
  exact this
theorem compL_len(xs:List Val):(compL xs).length<=xs.length:=(compL_sub xs).length_le
theorem comp_mem(xs:List Val):∀j,j<xs.length->∀i x,i<=j->xs[i]?=some x->x∈compT xs j
 | 0,h,i,x,hi,hx=>by
  have:i=0:=by omega
  subst this
  obtain⟨h1,rfl⟩:=List.getElem?_eq_some_iff.1 hx
  simp only[compT]
  rw[List.take_one]
  simp[List.head?_eq_getElem?,hx]
 | j+1,h,i,x,hi,hx=>by
  have e1:xs[j+1]?=some xs[j+1]:=List.getElem?_eq_getElem h
  have e2:xs[j]?=some (xs[j]'(by omega)):=List.getElem?_eq_getElem (by omega)
  rw[comp_next e1 e2,List.mem_append]
  by_cases hij:i<=j
  ·exact .inl (comp_mem xs j (by omega) i x hij hx)
  ·have:i=j+1:=by omega
   subst this
   rw[hx] at e1
   injection e1 with e1
   rw[<-e1]
   by_cases hs:sameB x (xs[j]'(by omega))=true
   ·rw[if_pos hs]
    left
    have:=sameB_eq.1 hs
    rw[this]
    exact comp_mem xs j (by omega) j _ (Nat.le_refl _) e2
   ·rw[if_neg hs]
    right
    simp
theorem compL_mem{xs:List Val}{x:Val}(h:x∈xs):x∈compL xs:=by
 obtain⟨i,hi,rfl⟩:=List.getElem_of_mem h
 exact comp_mem xs _ (by omega) i _ (by omega) (List.getElem?_eq_getElem hi)
def Rises(xs:List Val):Prop:=xs.Pairwise fun x y=>ordV x y<=0
theorem rises_eq{xs ys:List Val}(h1:Rises xs)(h2:Rises ys)(hp:xs.Perm ys)(hc:∀x∈xs,cleanV x=x):xs=ys:=
 List.Perm.eq_of_pairwise (le:=fun x y=>ordV x y<=0) (fun a b ha hb h3 h4=>by
  have:=ord_anti a b
  have:=ord_eq (x:=a) (y:=b) (by omega)
  rw[hc a ha,hc b (hp.mem_iff.2 hb)] at this
  exact this) h1 h2 hp
theorem Rises.at{xs:List Val}(h:Rises xs){a b:Nat}{x y:Val}(hab:a<=b)(hx:xs[a]?=some x)(hy:xs[b]?=some y):ordV x y<=0:=by
 by_cases e:a=b
 ·subst e
  rw[hx] at hy
  injection hy with hy
  subst hy
  rw[ord_self]
  omega
 ·obtain⟨ha,rfl⟩:=List.getElem?_eq_some_iff.1 hx
  obtain⟨hb,rfl⟩:=List.getElem?_eq_some_iff.1 hy
  exact List.pairwise_iff_getElem.1 h a b ha hb (by omega)
theorem compL_rises{xs:List Val}(h:Rises xs):Rises (compL xs):=h.sublist (compL_sub xs)
theorem Rises.mono{xs:List Val}(h:Rises xs)(t:Val):∀(a b:Nat) (x y:Val),a<=b->xs[a]?=some x->xs[b]?=some y->ordV y t<0->ordV x t<0:=fun a b x y hab hx hy hl=>by
 have h1:=h.at hab hx hy
 have h2:=ord_le h1 (by omega:ordV y t<=0)
 rcases Int.lt_or_eq_of_le h2 with h3|h3
 ·exact h3
 ·have h4:=ord_anti x t
  have h5:=ord_le (x:=t) (y:=x) (z:=y) (by omega) h1
  have h6:=ord_anti t y
  omega
def posN(xs:List Val)(t:Val):Nat:=(xs.takeWhile fun x=>decide (ordV x t<0)).length
theorem posN_eq{xs:List Val}{t:Val}{k:Nat}(hk:k<=xs.length)(h1:∀a x,a<k->xs[a]?=some x->ordV x t<0)(h2:∀a x,k<=a->xs[a]?=some x->¬ordV x t<0):posN xs t=k:=
 while_len _ xs k (fun i y hi hy=>by simp[h1 i y hi hy]) hk (fun y hy=>by simpa using h2 k y (Nat.le_refl _) hy)
theorem posN_lt{xs:List Val}{t:Val}(h:t∈xs):posN xs t<xs.length:=by
 unfold posN
 rcases Nat.lt_or_ge (xs.takeWhile fun x=>decide (ordV x t<0)).length xs.length with h1|h1
 ·exact h1
 ·exfalso
  have h2:xs.takeWhile (fun x=>decide (ordV x t<0))=xs:=by
   obtain⟨r,hr⟩:=List.takeWhile_prefix (l:=xs) (fun x=>decide (ordV x t<0))
   have:r.length=0:=by have:=congrArg List.length hr;rw[List.length_append] at this;omega
   rw[List.eq_nil_of_length_eq_zero this,List.append_nil] at hr
   exact hr
  have h3:=List.all_takeWhile (l:=xs) (p:=fun x=>decide (ordV x t<0))
  rw[h2,List.all_eq_true] at h3
  have:=h3 t h
  simp[ord_self] at this
end Go.Proofs.YtbfibfmnemnbbaaGreat
