import Derived.Test.YtekgpapophibcaaGreatRyW
import Derived.Test.YtekgpapophibcaaGreatRefD
import Derived.OrdersHeld
import Derived.Deep.RegionHeld3
import Derived.Deep.DeepCutAuto
import Derived.Deep.DrawnRows
import Derived.Lib.Bytealg
import Derived.Lib.AppendStr
import Derived.Laws.AppendOwnNone
import Derived.Lib.ConvBytes
import Derived.Deep.WholeRow
import Derived.Lib.SlBytesConst
import Derived.ArgAppend
import Derived.Test.YtekgpapophibcaaGreatRows
import Derived.WalkKit
import Derived.WalkSpells
import Derived.WalkLawsBesides
import Derived.StillTactics
import Derived.Lib.QuietBelow
import Derived.BigQuiet
import Derived.RowKit3
import Derived.Maps.AppendAt
import Derived.Deep.AppendLies
import Derived.Deep.OwnRows
import Derived.ProofKit
import Derived.OpenShut
import Derived.Lib.SmallJoins
import Derived.ChangeOld
import Derived.Deep.Slices
import Derived.Deep.Strs
import Derived.JoinedCond
import Derived.SizedLaws
import Derived.Test.YtekgpapophibcaaGreatSgF
import Derived.Test.YtekgpapophibcaaGreatSgN
import Derived.Test.YtekgpapophibcaaGreatRyT
import Derived.Shelf.GgSortFunc.SmallK
set_option linter.unusedSimpArgs false
set_option linter.unusedVariables false
namespace Go.Proofs.YtekgpapophibcaaGreat
open Go.RowKit Go.Sort
theorem zPH(k:Nat)(h:k<256):(ofI (k:Int)).toNat=k:=by simp[ofI];omega
theorem two8(m:Nat):(2:Int) ^ (8*m)=((256 ^ m:Nat):Int):=by
 have:(2:Nat) ^ (8*m)=256 ^ m:=by rw[Nat.pow_mul]
 rw[<-this,Int.natCast_pow];rfl
theorem zSa(U p:Nat):(U:Int) / (p:Int) % 256=((U / p % 256:Nat):Int):=by rw[Int.natCast_emod,Int.natCast_ediv];rfl
theorem zSE(U n:Nat):∀k,k<=n->beV ((beL (U:Int) n k).map ofI)=U / 256 ^ (n-k) % 256 ^ k:=by
 intro k
 induction k with
 | zero=>intro _;simp[beL,beV,Nat.mod_one]
 | succ k ih=>
  intro hk
  have e:beL (U:Int) n (k+1)=beL (U:Int) n k++[beN (U:Int) n k]:=by simp[beL,List.range_succ]
  rw[e,List.map_append,List.map_cons,List.map_nil,zE0,ih (by omega)]
  have e2:beN (U:Int) n k=((U / 256 ^ (n-(k+1)) % 256:Nat):Int):=by
   unfold beN
   rw[show n-1-k=n-(k+1) by omega,two8,zSa]
  rw[e2,zPH _ (Nat.mod_lt _ (by decide))]
  have e3:n-k=n-(k+1)+1:=by omega
  rw[e3,Nat.pow_succ,<-Nat.div_div_eq_div_mul]
  generalize U / 256 ^ (n-(k+1))=x
  rw[Nat.pow_succ,Nat.mul_comm (256 ^ k) 256,Nat.mod_mul]
  omega
theorem zSF(U n:Nat)(h:U<256 ^ n):beV ((beL (U:Int) n n).map ofI)=U:=by
 rw[zSE U n n (Nat.le_refl _)];simp[Nat.mod_eq_of_lt h]
theorem zLp(T m:Nat):leB T (m+1)=((T % 256:Nat):Int)::leB (T / 256) m:=by
 unfold leB
 rw[List.range_succ_eq_map,List.map_cons,List.map_map]
 congr 1
 ·simp[zCy]
 ·apply List.map_congr_left
  intro j _
  simp only[Function.comp,zCy,Nat.succ_eq_add_one,Nat.pow_succ,Nat.mul_comm (256 ^ j) 256,Nat.div_div_eq_div_mul]
theorem zLo:∀(m T:Nat),leV ((leB T m).map ofI)=T % 256 ^ m
 | 0,T=>by simp[leB,leV,Nat.mod_one]
 | m+1,T=>by
  rw[zLp,List.map_cons,leV,zLo m,zPH _ (Nat.mod_lt _ (by decide)),Nat.pow_succ,Nat.mul_comm (256 ^ m) 256,Nat.mod_mul]
theorem zJj:∀l:List UInt8,leB (leV l) l.length=l.map fun b=>(b.toNat:Int)
 | []=>by simp[leB]
 | b::l=>by
  have h2:=b.toNat_lt
  rw[List.length_cons,zLp,leV,List.map_cons,<-zJj l]
  congr 1
  ·congr 1;omega
  ·congr 1;omega
theorem zQQ(l:List UInt8):beL ((beV l:Nat):Int) l.length l.length=l.map fun b=>(b.toNat:Int):=by
 apply List.ext_getElem
 ·simp[beL]
 intro i h1 h2
 simp only[beL,List.length_map,List.length_range] at h1
 simp only[beL,List.getElem_map,List.getElem_range,beN]
 rw[two8,zSa]
 congr 1
 have key:∀(k:Nat) (l:List UInt8) (i:Nat) (hi:i<l.length),l.length=i+1+k->beV l / 256 ^ k % 256=(l[i]).toNat:=by
  intro k
  induction k with
  | zero=>
   intro l i hi hl
   have Hg:l≠[]:=by intro h;simp[h] at hi
   have e:=List.dropLast_concat_getLast Hg
   have e2:l[i]=l.getLast Hg:=by rw[List.getLast_eq_getElem];congr 1;omega
   rw[e2]
   conv=>lhs;rw[<-e,zE0]
   have:=(l.getLast Hg).toNat_lt
   omega
  | succ k ih=>
   intro l i hi hl
   have Hg:l≠[]:=by intro h;simp[h] at hi
   have e:=List.dropLast_concat_getLast Hg
   have e3:l[i]=l.dropLast[i]'(by simp;omega):=by simp
   rw[e3,<-ih l.dropLast i (by simp;omega) (by simp;omega)]
   conv=>lhs;rw[<-e,zE0]
   rw[Nat.pow_succ,Nat.mul_comm (256 ^ k) 256,<-Nat.div_div_eq_div_mul]
   have:=(l.getLast Hg).toNat_lt
   congr 2
   omega
 have:=key (l.length-1-i) l i h1 (by omega)
 exact this
theorem zGv(d:Nat):∀(ns:List Nat) (i:Nat) (h:i<ns.length),zBt (zBG d ns) d i=ns[i] % 2 ^ d
 | n::ns,0,_=>by simp[zBt,zBG]
 | n::ns,i+1,h=>by
  have ih:=zGv d ns i (by simpa using h)
  unfold zBt at ih ⊢
  rw[Nat.mul_succ,Nat.add_comm,Nat.pow_add,<-Nat.div_div_eq_div_mul,zBG]
  have h1:n % 2 ^ d<2 ^ d:=Nat.mod_lt _ (Nat.two_pow_pos d)
  rw[Nat.add_mul_div_left _ _ (Nat.two_pow_pos d),Nat.div_eq_of_lt h1,Nat.zero_add,ih]
  simp
theorem zHR(d:Nat):∀(m T:Nat),zBG d ((List.range m).map (zBt T d))=T % 2 ^ (d*m)
 | 0,T=>by simp[zBG,Nat.mod_one]
 | m+1,T=>by
  have ih:=zHR d m (T / 2 ^ d)
  have e:(List.range (m+1)).map (zBt T d)=zBt T d 0::(List.range m).map (zBt (T / 2 ^ d) d):=by
   rw[List.range_succ_eq_map,List.map_cons,List.map_map]
   congr 1
   apply List.map_congr_left
   intro j _
   simp only[Function.comp,zBt,Nat.succ_eq_add_one,Nat.mul_succ,Nat.add_comm (d*j) d,Nat.pow_add,Nat.div_div_eq_div_mul]
  rw[e,zBG,ih,Nat.mul_succ,Nat.add_comm (d*m) d,Nat.pow_add,Nat.mod_mul]
  simp[zBt]
def en(zs:List Int):List UInt8:=zs.map ofI
theorem zAZ(a b:List Int):en (a++b)=en a++en b:=List.map_append
theorem zEl(a:List Int):(en a).length=a.length:=List.length_map ..
theorem zD9(U:Int)(n k:Nat):(beL U n k).length=k:=by simp[beL]
theorem zN9(T m:Nat):(leB T m).length=m:=by simp[leB]
theorem zJE(a r:List UInt8)(n:Nat)(h:a.length=n):zCS n (a++r)=some (a,r):=by
 subst h;simp[zCS]
theorem zC6(U n:Nat)(r:List UInt8)(h:U<256 ^ n):zBB n (en (beL (U:Int) n n)++r)=some (U,r):=by
 have hl:(en (beL (U:Int) n n)).length=n:=by rw[zEl,zD9]
 unfold zBB
 rw[if_pos (by rw[zAX,hl];omega)]
 have e1:(en (beL (U:Int) n n)++r).take n=en (beL (U:Int) n n):=by rw[List.take_append_of_le_length (by omega),List.take_of_length_le (by omega)]
 have e2:(en (beL (U:Int) n n)++r).drop n=r:=by rw[List.drop_append_of_le_length (by omega),List.drop_of_length_le (by omega),List.nil_append]
 rw[e1,e2]
 show some (beV ((beL (U:Int) n n).map ofI),r)=_
 rw[zSF U n h]
theorem zQ0(s:ByteArray):en (txt s)=s.data.toList:=by
 unfold en txt
 rw[List.map_map]
 conv=>rhs;rw[<-List.map_id s.data.toList]
 apply List.map_congr_left
 intro b _
 simp[ofI]
def zHJ(kind:Int)(x:Val):Prop:=(kind=1/\∃n,-9223372036854775808<=n/\n<=9223372036854775807/\x=.num n)∨(kind=2/\∃s:ByteArray,s.size<=1000/\x=.str s)
theorem zGr{kind:Int}{x:Val}(h:zHJ kind x)(r:List UInt8):zBh kind (en (zB8 x)++r)=some (x,r):=by
 rcases h with ⟨rfl,n,h1,h2,rfl⟩|⟨rfl,s,h1,rfl⟩
 ·have e:zB8 (.num n)=beL (((n % 18446744073709551616).toNat:Nat):Int) 8 8:=by
   have:(((n % 18446744073709551616).toNat:Nat):Int)=n % 18446744073709551616:=by omega
   rw[this]
   simp[zB8,Val.num,IntKind.wrap_u64]
  rw[e]
  unfold zBh
  rw[if_pos (by decide),zC6 _ 8 r (by have:(256:Nat)^8=18446744073709551616:=(by decide);omega)]
  have e3:zBf (n % 18446744073709551616).toNat=n:=by unfold zBf wrap64;omega
  simp only[Option.map_some,e3]
 ·have e:zB8 (.str s)=beL (s.size:Int) 2 2++txt s:=by simp[zB8,Val.str]
  rw[e,zAZ,List.append_assoc]
  unfold zBh
  rw[if_neg (by decide),zC6 s.size 2 _ (by have:(256:Nat)^2=65536:=(by decide);omega),zQ0]
  simp only[Option.bind_some]
  rw[if_pos h1,zJE _ _ _ (by rw[Array.length_toList];rfl)]
  rfl
theorem zG5(kind:Int):∀(xs:List Val) (r:List UInt8),(∀x∈xs,zHJ kind x)->zAq kind xs.length (en (zBO xs)++r)=some (xs,r):=by
 intro xs
 suffices h:∀(n:Nat) (xs:List Val),xs.length=n->∀(r:List UInt8),(∀x∈xs,zHJ kind x)->zAq kind n (en (zBO xs)++r)=some (xs,r) from fun r hx=>h _ xs rfl r hx
 intro n
 induction n with
 | zero=>intro xs hl r _;have:xs=[]:=List.eq_nil_of_length_eq_zero hl;subst this;simp[zAq,zBO,en]
 | succ n ih=>
  intro xs hl r hx
  have Hg:xs≠[]:=by intro h;simp[h] at hl
  have e:=List.dropLast_concat_getLast Hg
  have e2:zBO xs=zBO xs.dropLast++zB8 (xs.getLast Hg):=by
   conv=>lhs;rw[<-e]
   simp[zBO]
  rw[e2,zAZ,List.append_assoc,zAq,ih xs.dropLast (by simp[hl]) _ (fun x h=>hx x (List.dropLast_subset xs h))]
  simp only[Option.bind_some]
  rw[zGr (hx _ (List.getLast_mem Hg))]
  simp only[Option.map_some,e]
theorem zNJ(k d:Nat):2 ^ (d*k)<=256 ^ zAO k d:=by
 rw[show (256:Nat)=2 ^ 8 by rfl,<-Nat.pow_mul]
 exact Nat.pow_le_pow_right (by decide) (by unfold zAO;rw[Nat.mul_comm d k];omega)
theorem zFs(d:Nat)(ns:List Nat)(hn:∀n∈ns,n<2 ^ d)(r:List UInt8) :
  ∃t,zCA ns.length d (en (leB (zBG d ns) (zAO ns.length d))++r)=some (t,r)/\zAm t d ns.length=ns:=by
 have hT:=zGJ d ns
 have hb:=zNJ ns.length d
 have e:leV (en (leB (zBG d ns) (zAO ns.length d)))=zBG d ns:=by
  show leV ((leB _ _).map ofI)=_
  rw[zLo,Nat.mod_eq_of_lt (by omega)]
 refine⟨en (leB (zBG d ns) (zAO ns.length d)),?_,?_⟩
 ·unfold zCA
  rw[zJE _ _ _ (by rw[zEl,zN9])]
  simp only[Option.bind_some]
  rw[if_pos (by rw[e];exact hT)]
 ·unfold zAm
  rw[e]
  apply List.ext_getElem
  ·simp
  ·intro i h1 h2
   simp only[List.getElem_map,List.getElem_range]
   rw[zGv d ns i h2,Nat.mod_eq_of_lt (hn _ (List.getElem_mem h2))]
theorem zRP(a b:Int):zAh (.num a) (.num b)=zEQ a b:=by
 unfold zAh
 show orI (zEQ 1 1) (zEQ a b) (zK3 ⟨#[]⟩ ⟨#[]⟩)=_
 rw[zEP,zIp,zIV]
theorem zJb(a b:Int):zAh (.num a) (.num b)<=0 ↔ a<=b:=by
 rw[zRP]
 unfold zEQ
 split
 ·omega
 ·split<;>omega
theorem zGy:∀(ys:List Val) (m:Val),zBH m ys∈m::ys/\∀y∈m::ys,zAh (zBH m ys) y<=0
 | [],m=>⟨by simp[zBH],fun y hy=>by simp at hy;subst hy;rw[zBH,List.foldl_nil,zC5];omega⟩
 | z::ys,m=>by
  have e:zBH m (z::ys)=zBH (if zAh z m<0 then z else m) ys:=rfl
  rw[e]
  obtain⟨h1,h2⟩:=zGy ys (if zAh z m<0 then z else m)
  have YT:=h2 _ (List.mem_cons_self ..)
  by_cases hz:zAh z m<0
  ·rw[if_pos hz] at h1 h2 YT ⊢
   refine⟨?_,fun y hy=>?_⟩
   ·rcases List.mem_cons.1 h1 with h|h
    ·rw[h];simp
    ·simp[h]
   ·rcases List.mem_cons.1 hy with rfl|hy
    ·exact zBz YT (by omega)
    ·rcases List.mem_cons.1 hy with rfl|hy
     ·exact YT
     ·exact h2 y (by simp[hy])
  ·rw[if_neg hz] at h1 h2 YT ⊢
   have hmz:zAh m z<=0:=by have:=zBA m z;omega
   refine⟨?_,fun y hy=>?_⟩
   ·rcases List.mem_cons.1 h1 with h|h
    ·rw[h];simp
    ·simp[h]
   ·rcases List.mem_cons.1 hy with rfl|hy
    ·exact YT
    ·rcases List.mem_cons.1 hy with rfl|hy
     ·exact zBz YT hmz
     ·exact h2 y (by simp[hy])
theorem zM8{a b:Nat}(h:a<=b):bl a<=bl b:=zFr (Nat.lt_of_le_of_lt h (zQM b))
theorem zFb{W:List Val}(h:zBM W=true):∀(i j:Nat) (x y:Val),i<j->W[i]?=some x->W[j]?=some y->zAh x y<0:=by
 have h1:∀(i:Nat) (x y:Val),W[i]?=some x->W[i+1]?=some y->zAh x y<0:=by
  intro i x y hx hy
  unfold zBM at h
  rw[List.all_eq_true] at h
  obtain⟨hl,_⟩:=zAL hy
  have:=h i (by rw[List.mem_range];omega)
  simp only[List.getD_eq_getElem?_getD,hx,hy,Option.getD_some,decide_eq_true_eq] at this
  exact this
 intro i j x y ZX hx
 obtain⟨d,rfl⟩:∃d,j=i+1+d:=⟨j-i-1,by omega⟩
 clear ZX
 induction d generalizing y with
 | zero=>intro hy;exact h1 i x y hx hy
 | succ d ih=>
  intro hy
  obtain⟨hl,_⟩:=zAL hy
  have hz:W[i+1+d]?=some (W[i+1+d]'(by omega)):=zAf (by omega)
  have a:=ih _ hz
  have b:=h1 (i+1+d) _ _ hz hy
  have c:=zBz (Int.le_of_lt a) (Int.le_of_lt b)
  rcases Int.lt_or_eq_of_le c with c|c
  ·exact c
  ·exfalso
   have e:=zBA x y
   have f:=zBz (x:=y) (y:=x) (z:=W[i+1+d]'(by omega)) (by omega) (Int.le_of_lt a)
   have g:=zBA y (W[i+1+d]'(by omega))
   omega
theorem zFa{W:List Val}(h:zBM W=true){k:Nat}{x:Val}(hx:W[k]?=some x):zF1 W x=k:=by
 obtain⟨hl,_⟩:=zAL hx
 refine zKm (Nat.le_of_lt hl) (fun a y ha hy=>zFb h a k y x ha hy hx) (fun a y ha hy=>?_)
 rcases Nat.lt_or_eq_of_le ha with ha|ha
 ·have:=zFb h k a x y ha hx hy
  have e:=zBA x y
  omega
 ·subst ha
  rw[hx] at hy;injection hy with hy;subst hy
  rw[zC5];omega
theorem zS7{W:List Val}{k:Nat}(h:k<W.length):k<2 ^ bl (W.length-1):=Nat.lt_of_le_of_lt (by omega) (zQM _)
theorem zKI{kind:Int}{xs W:List Val}(hs:zBM W=true)(Zz:∀x,x∈xs ↔ x∈W)(hf:∀x∈xs,zHJ kind x)(hl:W.length<=4096)(r:List UInt8) :
  zF7 kind xs.length (en (zDA W xs)++r)=some (xs,r):=by
 have Js:∀x∈xs,W.getD (zF1 W x) .null=x:=by
  intro x hx
  obtain⟨k,hk,e⟩:=List.getElem_of_mem ((Zz x).1 hx)
  have:=zFa hs (k:=k) (x:=x) (by rw[zAf hk,e])
  rw[this,List.getD_eq_getElem?_getD,zAf hk,e];rfl
 obtain⟨t,ht,hn⟩:=zFs (bl (W.length-1)) (xs.map (zF1 W)) (by
  intro n hn
  obtain⟨x,hx,rfl⟩:=List.mem_map.1 hn
  exact zS7 (zIO ((Zz x).1 hx))) r
 rw[List.length_map] at ht hn
 unfold zF7 zDA
 rw[zAZ,zAZ,List.append_assoc,List.append_assoc,zC6 W.length 2 _ (by have:(256:Nat)^2=65536:=(by decide);omega)]
 simp only[Option.bind_some]
 rw[zG5 kind W _ (fun x hx=>hf x ((Zz x).2 hx))]
 simp only[Option.bind_some]
 rw[if_pos hs,ht]
 simp only[Option.bind_some,hn]
 refine(if_pos ⟨?_,?_⟩).trans ?_
 ·congr 2
  rw[List.map_map]
  conv=>rhs;rw[<-List.map_id xs]
  exact List.map_congr_left fun x hx=>Js x hx
 ·intro k hk
  obtain⟨x,hx,rfl⟩:=List.mem_map.1 hk
  exact zIO ((Zz x).1 hx)
 ·intro j hj
  rw[List.mem_map]
  exact⟨W[j],(Zz _).2 (List.getElem_mem hj),zFa hs (zAf hj)⟩
theorem zJs(least:Int):∀(xs:List Val) (m M:Nat),m=bl M->xs.foldl (fun m x=>max m (bl (zCl least x))) m=bl ((xs.map (zCl least)).foldl max M)
 | [],m,M,h=>h
 | x::xs,m,M,h=>by
  rw[List.foldl_cons,List.map_cons,List.foldl_cons]
  refine zJs least xs _ _ ?_
  rcases Nat.le_total M (zCl least x) with g|g
  ·rw[Nat.max_eq_right g,h,Nat.max_eq_right (zM8 g)]
  ·rw[Nat.max_eq_left g,h,Nat.max_eq_left (zM8 g)]
theorem zJ6(least:Int)(xs:List Val):zHM least xs=bl ((xs.map (zCl least)).foldl max 0):=zJs least xs 0 0 rfl
theorem zLY{least n:Int}(h1:-9223372036854775808<=least)(h2:least<=n)(h3:n<=9223372036854775807):zBf ((least % 18446744073709551616).toNat+((n-least) % 18446744073709551616).toNat)=n:=by
 unfold zBf wrap64;omega
theorem zOR{least:Int}(h1:-9223372036854775808<=least)(h3:least<=9223372036854775807):zBf (least % 18446744073709551616).toNat=least:=by
 unfold zBf wrap64;omega
theorem zMz{xs:List Val}(hf:∀x∈xs,zHJ 1 x)(Hf:xs.length<=4096)(r:List UInt8):zBs xs.length (en (zFj (zCQ xs) xs)++r)=some (xs,r):=by
 have Ye:∀x∈xs,-9223372036854775808<=x.n/\x.n<=9223372036854775807/\x=.num x.n:=by
  intro x hx
  rcases hf x hx with ⟨_,n,h1,h2,rfl⟩|⟨h,_⟩
  ·exact⟨h1,h2,rfl⟩
  ·cases h
 have YT:-9223372036854775808<=zCQ xs/\zCQ xs<=9223372036854775807/\(∀x∈xs,zCQ xs<=x.n)/\(xs≠[]->∃x∈xs,x.n=zCQ xs):=by
  cases xs with
  | nil=>simp[zCQ]
  | cons x ys=>
   obtain⟨hm,YT⟩:=zGy ys x
   have h0:=Ye _ hm
   refine⟨h0.1,h0.2.1,fun y hy=>?_,fun _=>⟨_,hm,rfl⟩⟩
   have h3:=YT y hy
   rw[h0.2.2,(Ye y hy).2.2,zJb] at h3
   exact h3
 obtain⟨l1,l2,l3,l4⟩:=YT
 have l5:xs=[]->zCQ xs=0:=by intro h;subst h;rfl
 generalize zCQ xs=least at *
 obtain⟨t,ht,hn⟩:=zFs (zHM least xs) (xs.map (zCl least)) (by
  intro n hn
  obtain⟨x,hx,rfl⟩:=List.mem_map.1 hn
  exact zNx hx) r
 rw[List.length_map] at ht hn
 have hw:=zIA least xs
 have eU:IntKind.u64.wrap least=(((least % 18446744073709551616).toNat:Nat):Int):=by rw[IntKind.wrap_u64];omega
 unfold zBs zFj
 rw[zAZ,zAZ,List.append_assoc,List.append_assoc,eU,zC6 _ 8 _ (by have:(256:Nat)^8=18446744073709551616:=(by decide);omega)]
 simp only[Option.bind_some]
 rw[zC6 (zHM least xs) 1 _ (by omega)]
 simp only[Option.bind_some]
 rw[if_pos hw,ht]
 simp only[Option.bind_some,hn]
 refine(if_pos ⟨?_,zJ6 least xs,?_⟩).trans ?_
 ·congr 2
  rw[List.map_map]
  conv=>rhs;rw[<-List.map_id xs]
  refine List.map_congr_left fun x hx=>?_
  obtain⟨n1,n2,n3⟩:=Ye x hx
  show Val.num (zBf (_+zCl least x))=x
  unfold zCl
  rw[zLY l1 (l3 x hx) n2]
  exact n3.symm
 ·intro k hk
  obtain⟨x,hx,rfl⟩:=List.mem_map.1 hk
  obtain⟨n1,n2,n3⟩:=Ye x hx
  unfold zCl
  rw[zLY l1 (l3 x hx) n2,zOR l1 l2]
  exact l3 x hx
 ·by_cases h0:xs=[]
  ·subst h0
   simp only[List.length_nil,if_true]
   rw[l5 rfl];rfl
  ·rw[if_neg (by simpa using h0)]
   obtain⟨x,hx,e⟩:=l4 h0
   rw[List.mem_map]
   refine⟨x,hx,?_⟩
   unfold zCl
   rw[e];simp
theorem zKw(xs:List Val)(r:List UInt8):zBp xs.length (en (zBT xs)++r)=some (xs.map zAr,r):=by
 unfold zBT
 by_cases h:xs.any zAr=true
 ·rw[if_pos h]
  have hm:∀n∈zAS xs,n<2 ^ 1:=by
   intro n hn
   obtain⟨x,_,rfl⟩:=List.mem_map.1 hn
   show (if zAr x=true then 1 else 0)<2 ^ 1
   split<;>decide
  obtain⟨t,ht,hn⟩:=zFs 1 (zAS xs) hm r
  have hl:(zAS xs).length=xs.length:=List.length_map ..
  rw[hl] at ht hn
  unfold zBp
  have e1:(1:Int)=((1:Nat):Int):=rfl
  rw[zAZ,List.append_assoc,e1,zC6 1 1 _ (by decide)]
  simp only[Option.bind_some]
  rw[if_neg (by decide),if_pos trivial,ht]
  simp only[Option.bind_some,hn]
  have e2:(zAS xs).map (· == 1)=xs.map zAr:=by
   unfold zAS
   rw[List.map_map]
   refine List.map_congr_left fun x _=>?_
   show ((if zAr x=true then 1 else 0) == 1)=zAr x
   cases zAr x<;>rfl
  have e3:zDD t xs.length=xs.map zAr:=by unfold zDD;rw[hn,e2]
  rw[e3,if_pos (by simpa [List.any_map] using h)]
 ·rw[if_neg h]
  unfold zBp
  have e1:(0:Int)=((0:Nat):Int):=rfl
  rw[e1,zC6 0 1 _ (by decide)]
  simp only[Option.bind_some]
  rw[if_pos trivial]
  congr 2
  apply List.ext_getElem
  ·simp
  ·intro i h1 h2
   simp only[List.getElem_replicate,List.getElem_map]
   simp only[List.any_eq_true,not_exists,not_and,Bool.not_eq_true] at h
   exact(h _ (List.getElem_mem (by simpa using h2))).symm
theorem zKV(xs:List Val):(xs.map zAr).count false=(zAA xs).length:=by
 induction xs with
 | nil=>rfl
 | cons x xs ih=>
  unfold zAA at ih ⊢
  rw[List.map_cons,List.count_cons,ih,List.filter_cons]
  unfold zAr
  by_cases h:x.k=0<;>simp[h]
theorem zGh:∀(xs:List Val),(∀x∈xs,x.k=0->x=.null)->zAU (xs.map zAr) (zAA xs)=xs
 | [],_=>rfl
 | x::xs,h=>by
  have ih:=zGh xs (fun y hy=>h y (List.mem_cons_of_mem _ hy))
  unfold zAA at ih ⊢
  rw[List.map_cons,List.filter_cons]
  unfold zAr at ih ⊢
  by_cases hk:x.k=0
  ·have e:=h x (by simp) hk
   simp[hk,zAU,ih,<-e]
  ·have e:(x.k == 0)=false:=by simpa using hk
   simp[e,hk,zAU,ih]
def zFC(kind:Int)(count:Nat):Nat->List Val×List UInt8->Option (List Val×List UInt8)
 | 0,p=>some p
 | n+1,p=>(zOb kind count p.1 p.2).bind (zFC kind count n)
theorem zHa(kind:Int)(count:Nat):∀(n:Nat) (p:List Val×List UInt8),zFC kind count (n+1) p=(zFC kind count n p).bind fun q=>zOb kind count q.1 q.2
 | 0,p=>by
  cases h:zOb kind count p.1 p.2<;>simp[zFC,h]
 | n+1,p=>by
  rw[zFC]
  conv=>rhs;rw[zFC]
  rw[Option.bind_assoc]
  congr 1
  funext q
  exact zHa kind count n q
theorem zKd(kind:Int)(count:Nat):∀(n:Nat) (l:List UInt8),zCK kind count n l=zFC kind count n ([],l)
 | 0,_=>rfl
 | n+1,l=>by rw[zHa,zCK,zKd kind count n l]
theorem zNV(x:Val)(xs:List Val):(x::xs).take (zAz (x::xs))=List.replicate (zAz (x::xs)) x:=by
 unfold zAz
 rw[List.eq_replicate_iff]
 refine⟨by rw[List.length_take,Nat.min_eq_left (List.takeWhile_prefix _).length_le],?_⟩
 intro y hy
 have e:(x::xs).take ((x::xs).takeWhile fun y=>zB1 y ((x::xs).headD Val.null)).length=(x::xs).takeWhile fun y=>zB1 y ((x::xs).headD Val.null):=by
  obtain⟨r,hr⟩:=List.takeWhile_prefix (l:=x::xs) (fun y=>zB1 y ((x::xs).headD Val.null))
  conv=>lhs;arg 2;rw[<-hr]
  rw[List.take_left]
 rw[e] at hy
 have:=List.all_takeWhile (l:=x::xs) (p:=fun y=>zB1 y ((x::xs).headD Val.null))
 rw[List.all_eq_true] at this
 exact zC4.1 (this y hy)
theorem zNX(x:Val)(xs:List Val){z:Val}(h:((x::xs).drop (zAz (x::xs))).head?=some z):zB1 x z=false:=by
 unfold zAz at h
 have hh:=List.head?_dropWhile_not (fun y=>zB1 y ((x::xs).headD Val.null)) (x::xs)
 have e:(x::xs).drop ((x::xs).takeWhile fun y=>zB1 y ((x::xs).headD Val.null)).length=(x::xs).dropWhile fun y=>zB1 y ((x::xs).headD Val.null):=by
  have:=List.takeWhile_append_dropWhile (p:=fun y=>zB1 y ((x::xs).headD Val.null)) (l:=x::xs)
  conv=>lhs;arg 2;rw[<-this]
  rw[List.drop_left]
 rw[e] at h
 rw[h] at hh
 cases hs:zB1 x z
 ·rfl
 ·have e:=zC4.1 hs
  subst e
  have:zB1 x x=true:=zC4.2 rfl
  simp[this] at hh
theorem zHb{kind:Int}{count:Nat}(hc:count<=4096):∀(f:Nat) (vs xs:List Val) (r:List UInt8),xs.length<=f->vs.length+xs.length=count->(∀x∈xs,zHJ kind x)->(∀y z,vs.getLast?=some y->xs.head?=some z->zB1 y z=false)->zFC kind count (zCE f xs) (vs,en (zC2 f xs)++r)=some (vs++xs,r)
 | 0,vs,[],r,_,_,_,_=>by simp[zCE,zFC,zC2,en]
 | 0,vs,x::xs,r,h,_,_,_=>by simp at h
 | f+1,vs,[],r,_,_,_,_=>by simp[zCE,zFC,zC2,en]
 | f+1,vs,x::xs,r,hf,hl,hx,Gj=>by
  have hp:=zES (x:=x) (xs:=xs)
  have YT:=zIw (x::xs)
  have ht:=zNV x xs
  have hd:=fun z h=>zNX x xs (z:=z) h
  have Jq:=List.take_append_drop (zAz (x::xs)) (x::xs)
  rw[ht] at Jq
  have hdl:((x::xs).drop (zAz (x::xs))).length=(x::xs).length-zAz (x::xs):=List.length_drop
  unfold zCE zC2
  generalize hR:(x::xs).drop (zAz (x::xs))=R at *
  generalize hA:zAz (x::xs)=A at *
  rw[Nat.add_comm 1,zFC,zAZ,zAZ,List.append_assoc,List.append_assoc]
  have QL:zOb kind count vs (en (beL (A:Int) 4 4)++(en (zB8 x)++(en (zC2 f R)++r)))=some (vs++List.replicate A x,en (zC2 f R)++r):=by
   unfold zOb
   rw[zC6 A 4 _ (by have:(256:Nat)^4=4294967296:=(by decide);omega)]
   simp only[Option.bind_some]
   rw[zGr (hx x (by simp))]
   simp only[Option.bind_some]
   rw[if_pos ⟨hp,by omega,fun y hy=>Gj y x hy rfl⟩]
  rw[QL,Option.bind_some]
  have ih:=zHb hc f (vs++List.replicate A x) R r (by simp at hf hdl;omega) (by rw[zAX,List.length_replicate];omega)
   (fun y hy=>hx y (by rw[<-Jq];exact List.mem_append_right _ hy)) (fun y z hy hz=>by
    have:y=x:=by
     rw[List.getLast?_append,List.getLast?_replicate,if_neg (by omega)] at hy
     simpa using hy.symm
    rw[this];exact hd z hz)
  rw[ih,List.append_assoc,Jq]
theorem zLb:∀(f:Nat) (xs:List Val),zCE f xs<=f
 | 0,_=>by simp[zCE]
 | f+1,[]=>by simp[zCE]
 | f+1,x::xs=>by rw[zCE];have:=zLb f ((x::xs).drop (zAz (x::xs)));omega
theorem zJ8{sch:Nat}{kind:Int}{ys:List Val}{b:List Int}(hb:zEj sch ys b)(hf:∀x∈ys,zHJ kind x)(hl:ys.length<=4096)(h4:sch=4->kind=1)
  (qr:∀W,zBW ys W->zBM W=true):zBa sch kind ys.length (en b)=some (ys,[]):=by
 have e0:∀b:List Int,en b=en b++[]:=fun b=>(List.append_nil _).symm
 rcases hb with ⟨rfl,rfl⟩|⟨rfl,rfl⟩|⟨rfl,W,hW,rfl⟩|⟨rfl,rfl⟩
 ·unfold zBa
  rw[if_pos rfl,e0,zG5 kind ys _ hf]
 ·unfold zBa
  have:=zLb ys.length ys
  rw[if_neg (by decide),if_pos rfl,e0,zAZ,List.append_assoc,zC6 _ 4 _ (by have:(256:Nat)^4=4294967296:=(by decide);omega)]
  simp only[Option.bind_some]
  rw[zKd,zHb hl ys.length [] ys [] (Nat.le_refl _) (by simp) hf (by simp)]
  simp
 ·unfold zBa
  rw[if_neg (by decide),if_neg (by decide),if_pos rfl,e0,zKI (qr W hW) (fun x=>⟨fun h=>hW.mem h,fun h=>hW.sub h⟩) hf (by have:=hW.len;omega)]
 ·unfold zBa
  have:=h4 rfl
  subst this
  rw[if_neg (by decide),if_neg (by decide),if_neg (by decide),if_pos ⟨rfl,rfl⟩,e0,zMz hf hl]
theorem zK1{sch kd:Nat}{xs:List Val}{b:List Int}(ZV:sch<=4)(hk:kd=1∨kd=2)(hl:xs.length<=4096)(hb:zEj sch (zAA xs) b)(hf:∀x∈zAA xs,zHJ (kd:Int) x)(h0:∀x∈xs,x.k=0->x=.null)
  (h4:sch=4->kd=1) (qr:∀W,zBW (zAA xs) W->zBM W=true):zB7 (en (zB2 sch kd xs++b))=some (sch,(kd:Int),xs):=by
 have hs:(zAA xs).length<=xs.length:=List.length_filter_le _ _
 unfold zB7 zB2
 rw[zAZ,zAZ,zAZ,zAZ,List.append_assoc,List.append_assoc,List.append_assoc,zC6 sch 1 _ (by omega)]
 simp only[Option.bind_some]
 rw[zC6 kd 1 _ (by omega)]
 simp only[Option.bind_some]
 rw[if_pos hk,zC6 xs.length 4 _ (by have:(256:Nat)^4=4294967296:=(by decide);omega)]
 simp only[Option.bind_some]
 rw[if_pos hl,zKw]
 simp only[Option.bind_some]
 rw[zKV,zJ8 hb hf (by omega) (fun h=>by rw[h4 h];rfl) qr]
 simp only[Option.bind_some,if_true]
 rw[zGh xs h0]
def SA(L:List Val):Prop:=∀(i:Nat) (x y:Val),L[i]?=some x->L[i+1]?=some y->zAh x y<0
theorem SA.snoc{L:List Val}{x:Val}(h:SA L)(hl:∀y,L.getLast?=some y->zAh y x<0):SA (L++[x]):=by
 intro i a b ha hb
 by_cases h1:i+1<L.length
 ·rw[List.getElem?_append_left (by omega)] at ha
  rw[List.getElem?_append_left h1] at hb
  exact h i a b ha hb
 ·have h2:i+1=L.length:=by
   have:=(zAL hb).1
   simp at this;omega
  rw[List.getElem?_append_right (by omega)] at hb
  rw[List.getElem?_append_left (by omega)] at ha
  have e:b=x:=by rw[show i+1-L.length=0 by omega] at hb;simpa using hb.symm
  rw[e]
  refine hl a ?_
  rw[List.getLast?_eq_getElem?,show L.length-1=i by omega]
  exact ha
theorem zH8{xs:List Val}(hr:zBe xs)(hc:∀x∈xs,zA8 x=x):∀j y,xs[j]?=some y->SA (zCw xs j)/\(zCw xs j).getLast?=some y
 | 0,y,hy=>by
  cases xs with
  | nil=>cases hy
  | cons a xs=>
   injection hy with hy
   subst hy
   have e:zCw (a::xs) 0=[a]:=by simp[zCw]
   rw[e]
   exact⟨fun i x y h1 h2=>by simp at h2,rfl⟩
 | j+1,x,hx=>by
  have hl:=(zAL hx).1
  obtain⟨y,hy⟩:∃y,xs[j]?=some y:=⟨_,zAf (by omega)⟩
  obtain⟨h1,h2⟩:=zH8 hr hc j y hy
  rw[zDG hx hy]
  cases hs:zB1 x y
  ·rw[if_neg (by simp)]
   refine⟨h1.snoc fun z hz=>?_,by simp⟩
   rw[h2] at hz
   injection hz with hz
   subst hz
   have h3:=hr.at (a:=j) (b:=j+1) (by omega) hy hx
   rcases Int.lt_or_eq_of_le h3 with h4|h4
   ·exact h4
   ·have h5:=zJc h4
    rw[hc y (List.mem_of_getElem? hy),hc x (List.mem_of_getElem? hx)] at h5
    rw[zC4.2 h5.symm] at hs
    cases hs
  ·rw[if_pos rfl,List.append_nil]
   rw[zC4.1 hs]
   exact⟨h1,h2⟩
theorem zFw{ys W:List Val}(h:zBW ys W)(hc:∀y∈ys,zA8 y=y):zBM W=true:=by
 obtain⟨S,hp,hr,rfl⟩:=h
 have hcS:∀x∈S,zA8 x=x:=fun x hx=>hc x (hp.mem_iff.1 hx)
 have hSA:SA (zCH S):=by
  by_cases h0:S.length=0
  ·have:S=[]:=List.eq_nil_of_length_eq_zero h0
   subst this
   intro i x y h1 _
   simp[zCH,zCw] at h1
  ·exact(zH8 hr hcS (S.length-1) _ (zAf (by omega))).1
 unfold zBM
 rw[List.all_eq_true]
 intro i hi
 rw[List.mem_range] at hi
 have h1:(zCH S)[i]?=some ((zCH S)[i]'(by omega)):=zAf (by omega)
 have h2:(zCH S)[i+1]?=some ((zCH S)[i+1]'(by omega)):=zAf (by omega)
 simp only[List.getD_eq_getElem?_getD,h1,h2,Option.getD_some,decide_eq_true_eq]
 exact hSA i _ _ h1 h2
theorem zIE(zs:List Int):(toB zs).data.toList=en zs:=by rw[zFx];rfl
theorem zHh{X:Vc}(hr:∀n∈X.ns,-9223372036854775808<=n/\n<=9223372036854775807){n:Nat}(hn:n=1∨n=2∨n=3∨n=4){s:ByteArray}(h:PW X (n:Int) s 0):zB7 s.data.toList=some (n,X.k,zAD X):=by
 rcases h with ⟨_,_,h⟩|⟨_,_,_,h⟩|⟨hb,hl,_,b,Zl,rfl⟩
 ·cases h
 ·cases h
 have hg:zAg X=true:=by
  unfold zFU at hb
  cases hgg:zAg X
  ·rw[hgg] at hb;simp at hb
  ·rfl
 have h4:n=4->X.k=1:=by
  intro h4
  subst h4
  unfold zFU at hb
  rcases zCU hg with h|h
  ·exact h
  ·rw[h,hg] at hb;simp at hb
 have hk:=zCU hg
 have Zj:X.k.toNat=1∨X.k.toNat=2:=by omega
 have hke:((X.k.toNat:Nat):Int)=X.k:=by omega
 rw[Int.toNat_natCast] at Zl ⊢
 have Yu:(zAD X).length<=4096:=Nat.le_trans (zKN X) hl
 have YW:∀x∈zAA (zAD X),zHJ ((X.k.toNat:Nat):Int) x:=by
  intro x hx
  obtain⟨h1,h2⟩:=List.mem_filter.1 hx
  rw[hke]
  rcases zE4 hg h1 with rfl|⟨hk,m,hm,rfl⟩|⟨hk,t,ht,rfl⟩
  ·simp[Val.null] at h2
  ·refine .inl ⟨hk,m,?_,?_,rfl⟩
   ·rcases hm with hm|rfl
    ·exact(hr m hm).1
    ·decide
   ·rcases hm with hm|rfl
    ·exact(hr m hm).2
    ·decide
  ·exact .inr ⟨hk,t,ht,rfl⟩
 rw[zIE,zK1 (by omega) Zj Yu Zl YW ?_ ?_ ?_,hke]
 ·intro x hx h0
  rcases zE4 hg hx with rfl|⟨hk,m,hm,rfl⟩|⟨hk,t,ht,rfl⟩
  ·rfl
  ·simp[Val.num] at h0
  ·simp[Val.str] at h0
 ·intro h;have:=h4 h;omega
 ·intro W hW
  exact zFw hW fun y hy=>zD0 hg (List.mem_filter.1 hy).1
theorem zUM(l:List UInt8):en (l.map fun b=>(b.toNat:Int))=l:=by
 unfold en
 rw[List.map_map]
 conv=>rhs;rw[<-List.map_id l]
 apply List.map_congr_left
 intro b _
 simp[ofI]
theorem zBi{n m:Nat}{l r:List UInt8}(h:zBB n l=some (m,r)):l=en (beL (m:Int) n n)++r/\m<256 ^ n:=by
 obtain⟨h1,rfl,rfl⟩:=zBD h
 have hl:(l.take n).length=n:=by rw[List.length_take];omega
 have e:=zQQ (l.take n)
 have hb:=zBn (l.take n)
 rw[hl] at e hb
 exact⟨by rw[e,zUM,List.take_append_drop],hb⟩
theorem zJI{m:Nat}(h:m<18446744073709551616):IntKind.u64.wrap (zBf m)=(m:Int):=by
 rw[IntKind.wrap_u64];unfold zBf wrap64;omega
theorem zLw(m:Nat):zHJ 1 (.num (zBf m)):=.inl ⟨rfl,_,zF2 _,zF3 _,rfl⟩
theorem zG6{kind:Int}{l r:List UInt8}{x:Val}(hk:kind=1∨kind=2)(h:zBh kind l=some (x,r)):l=en (zB8 x)++r/\zHJ kind x:=by
 rcases hk with rfl|rfl
 ·unfold zBh at h
  rw[if_pos (by decide)] at h
  cases hn:zBB 8 l with
  | none=>rw[hn] at h;cases h
  | some p=>
   obtain⟨m,r'⟩:=p
   rw[hn] at h
   injection h with h
   injection h with h1 h2
   subst h1;subst h2
   obtain⟨e,hm⟩:=zBi hn
   have TM:m<18446744073709551616:=by
    have:(256:Nat) ^ 8=18446744073709551616:=by decide
    omega
   have e1:zB8 (.num (zBf m))=beL (m:Int) 8 8:=by
    simp[zB8,Val.num,zJI TM]
   rw[e1]
   exact⟨e,zLw m⟩
 ·unfold zBh at h
  rw[if_neg (by decide)] at h
  cases hn:zBB 2 l with
  | none=>rw[hn] at h;cases h
  | some p=>
   obtain⟨m,l1⟩:=p
   rw[hn,Option.bind_some] at h
   by_cases hm:m<=1000
   ·simp only[hm,if_true] at h
    cases ht:zCS m l1 with
    | none=>rw[ht] at h;cases h
    | some q=>
     obtain⟨t,r'⟩:=q
     rw[ht] at h
     injection h with h
     injection h with h1 h2
     subst h1;subst h2
     obtain⟨e,_⟩:=zBi hn
     obtain⟨g1,g2,g3⟩:=zCb ht
     have YR:t.length=m:=by rw[g2,List.length_take];omega
     have QK:(bs t).size=m:=by rw[zBV,YR]
     have e1:zB8 (.str (bs t))=beL (m:Int) 2 2++txt (bs t):=by simp[zB8,Val.str,QK]
     rw[e1,zAZ,zQ0,List.append_assoc]
     refine⟨?_,.inr ⟨rfl,_,by rw[QK];exact hm,rfl⟩⟩
     rw[e]
     congr 1
     show l1=t++r'
     rw[g2,g3,List.take_append_drop]
   ·simp only[hm,if_false] at h;cases h
theorem zKo(xs:List Val)(x:Val):zBO (xs++[x])=zBO xs++zB8 x:=by simp[zBO]
theorem zDr{kind:Int}(hk:kind=1∨kind=2):∀(n:Nat) {l r:List UInt8} {vs:List Val},zAq kind n l=some (vs,r)->l=en (zBO vs)++r/\∀x∈vs,zHJ kind x
 | 0,l,r,vs,h=>by
  unfold zAq at h
  injection h with h;injection h with h1 h2
  subst h1;subst h2
  exact⟨by simp[zBO,en],by simp⟩
 | n+1,l,r,vs,h=>by
  unfold zAq at h
  cases hp:zAq kind n l with
  | none=>rw[hp] at h;cases h
  | some p=>
   obtain⟨us,l1⟩:=p
   rw[hp,Option.bind_some] at h
   cases hq:zBh kind l1 with
   | none=>rw[hq] at h;cases h
   | some q=>
    obtain⟨x,r'⟩:=q
    rw[hq] at h
    injection h with h
    injection h with h1 h2
    subst h1;subst h2
    obtain⟨e1,f1⟩:=zDr hk n hp
    obtain⟨e2,f2⟩:=zG6 hk hq
    refine⟨by rw[zKo,zAZ,List.append_assoc,<-e2];exact e1,fun y hy=>?_⟩
    rcases List.mem_append.1 hy with hy|hy
    ·exact f1 y hy
    ·rw[List.mem_singleton] at hy;rw[hy];exact f2
theorem zEz{count d:Nat}{l t r:List UInt8}(h:zCA count d l=some (t,r)):l=en (leB (zBG d (zAm t d count)) (zAO count d))++r:=by
 obtain⟨h1,h2,_,e⟩:=zD8 h
 have e1:zBG d (zAm t d count)=leV t:=by
  unfold zAm
  rw[zHR,Nat.mod_eq_of_lt h2]
 rw[e1,<-h1,zJj,zUM]
 exact e
theorem zJg{n:Nat}{l r:List UInt8}{nl:List Bool}{xs:List Val}(h:zBp n l=some (nl,r))(hx:xs.map zAr=nl):l=en (zBT xs)++r:=by
 have Hf:xs.length=n:=by rw[<-(zDd h).1,<-hx,List.length_map]
 unfold zBp at h
 cases hn:zBB 1 l with
 | none=>rw[hn] at h;cases h
 | some p=>
  obtain⟨m,l1⟩:=p
  rw[hn,Option.bind_some] at h
  obtain⟨e,_⟩:=zBi hn
  by_cases h0:m=0
  ·simp only[h0,if_true] at h
   injection h with h;injection h with h1 h2
   subst h2;subst h0
   have ha:xs.any zAr=false:=by
    rw[List.any_eq_false]
    intro x yu hxn
    have:zAr x∈nl:=by rw[<-hx];exact List.mem_map_of_mem yu
    rw[<-h1,hxn] at this
    have:=List.eq_of_mem_replicate this
    cases this
   unfold zBT
   rw[ha]
   exact e
  ·by_cases h1:m=1
   ·simp only[h0,h1,if_true,if_false] at h
    cases hb:zCA n 1 l1 with
    | none=>rw[hb] at h;cases h
    | some q=>
     obtain⟨t,r'⟩:=q
     rw[hb,Option.bind_some] at h
     obtain⟨GZ,h2⟩:=zDv h
     injection h2 with h2 h3
     subst h3
     have ha:xs.any zAr=true:=by
      have:(xs.map zAr).any id=true:=by rw[hx,<-h2];exact GZ
      rw[List.any_map] at this
      exact this
     have hm:zAS xs=zAm t 1 n:=by
      have e1:zAS xs=(xs.map zAr).map fun b=>if b then 1 else 0:=by simp[zAS]
      rw[e1,hx,<-h2]
      unfold zDD
      rw[List.map_map]
      conv=>rhs;rw[<-List.map_id (zAm t 1 n)]
      apply List.map_congr_left
      intro k hk
      unfold zAm at hk
      obtain⟨i,_,rfl⟩:=List.mem_map.1 hk
      have:zBt (leV t) 1 i<2:=by unfold zBt;exact Nat.mod_lt _ (by decide)
      simp only[Function.comp,id]
      generalize zBt (leV t) 1 i=z at this
      have hz:z=0∨z=1:=by omega
      rcases hz with rfl|rfl<;>rfl
     unfold zBT
     rw[ha,if_pos rfl,hm,Hf,zAZ,List.append_assoc,<-zEz hb]
     subst h1
     exact e
   ·simp only[h0,h1,if_false] at h;cases h
theorem zJN:∀(f g:Nat) (xs:List Val),xs.length<=f->xs.length<=g->zC2 f xs=zC2 g xs/\zCE f xs=zCE g xs
 | 0,g,xs,h,_=>by
  have:xs=[]:=List.eq_nil_of_length_eq_zero (by omega)
  subst this
  cases g<;>exact⟨rfl,rfl⟩
 | f+1,0,xs,_,h=>by
  have:xs=[]:=List.eq_nil_of_length_eq_zero (by omega)
  subst this
  exact⟨rfl,rfl⟩
 | f+1,g+1,[],_,_=>⟨rfl,rfl⟩
 | f+1,g+1,x::xs,h1,h2=>by
  have hp:=zES (x:=x) (xs:=xs)
  have hd:((x::xs).drop (zAz (x::xs))).length=(x::xs).length-zAz (x::xs):=List.length_drop
  have:=zJN f g ((x::xs).drop (zAz (x::xs))) (by rw[hd];simp at h1 ⊢;omega) (by rw[hd];simp at h2 ⊢;omega)
  unfold zC2 zCE
  rw[this.1,this.2]
  exact⟨rfl,rfl⟩
theorem zOV{x y:Val}(h:zB1 x y=false):zB1 y x=false:=by
 cases hs:zB1 y x with
 | false=>rfl
 | true=>
  have e:=zC4.1 hs
  subst e
  rw[hs] at h;cases h
theorem zQS{m:Nat}{x:Val}{ys:List Val}(hm:0<m)(hd:∀z,ys.head?=some z->zB1 x z=false):zAz (List.replicate m x++ys)=m:=by
 obtain⟨k,rfl⟩:∃k,m=k+1:=⟨m-1,by omega⟩
 have hh:(List.replicate (k+1) x++ys).headD Val.null=x:=by simp[List.replicate_succ]
 unfold zAz
 rw[hh]
 refine zDW _ _ (k+1) (fun i y hi hy=>?_) (by simp) (fun y hy=>?_)
 ·rw[List.getElem?_append_left (by simp;omega),List.getElem?_replicate,if_pos hi] at hy
  injection hy with hy
  rw[<-hy];exact zC4.2 rfl
 ·rw[List.getElem?_append_right (by simp),List.length_replicate,Nat.sub_self,<-List.head?_eq_getElem?] at hy
  exact zOV (hd y hy)
theorem zMe{m:Nat}{x:Val}{ys:List Val}(hm:0<m)(hd:∀z,ys.head?=some z->zB1 x z=false) :
  zC2 (List.replicate m x++ys).length (List.replicate m x++ys)=(beL (m:Int) 4 4++zB8 x)++zC2 ys.length ys/\zCE (List.replicate m x++ys).length (List.replicate m x++ys)=1+zCE ys.length ys:=by
 have ha:=zQS hm hd
 obtain⟨k,rfl⟩:∃k,m=k+1:=⟨m-1,by omega⟩
 have e:List.replicate (k+1) x++ys=x::(List.replicate k x++ys):=by simp[List.replicate_succ]
 have el:(x::(List.replicate k x++ys)).length=(k+ys.length)+1:=by simp
 have ed:(x::(List.replicate k x++ys)).drop (k+1)=ys:=by simp
 rw[e] at ha ⊢
 rw[el]
 have hB:∀(f:Nat) (zs:List Val),zC2 (f+1) (x::zs)=(beL (zAz (x::zs):Int) 4 4++zB8 x)++zC2 f ((x::zs).drop (zAz (x::zs))):=fun _ _=>rfl
 have hN:∀(f:Nat) (zs:List Val),zCE (f+1) (x::zs)=1+zCE f ((x::zs).drop (zAz (x::zs))):=fun _ _=>rfl
 rw[hB,hN,ha,ed]
 have:=zJN (k+ys.length) ys.length ys (by omega) (Nat.le_refl _)
 rw[this.1,this.2]
 exact⟨rfl,rfl⟩
theorem zGo{kind:Int}{count:Nat}(hk:kind=1∨kind=2):∀(n:Nat) {vs us:List Val} {l r:List UInt8},zFC kind count n (vs,l)=some (us,r)->∃ys,us=vs++ys/\l=en (zC2 ys.length ys)++r/\zCE ys.length ys=n/\(∀x∈ys,zHJ kind x)/\(∀y z,vs.getLast?=some y->ys.head?=some z->zB1 y z=false)
 | 0,vs,us,l,r,h=>by
  unfold zFC at h
  injection h with h;injection h with h1 h2
  subst h1;subst h2
  exact⟨[],by simp,by simp[zC2,en],rfl,by simp,by simp⟩
 | n+1,vs,us,l,r,h=>by
  unfold zFC at h
  cases hr:zOb kind count vs l with
  | none=>rw[hr] at h;cases h
  | some q=>
   obtain⟨ws,l2⟩:=q
   rw[hr,Option.bind_some] at h
   obtain⟨m,l1,x,h1,h2,h3,h4,h5,rfl⟩:=zFD hr
   obtain⟨ys,e1,e2,e3,e4,e5⟩:=zGo hk n h
   obtain⟨g1,_⟩:=zBi h1
   obtain⟨g2,g3⟩:=zG6 hk h2
   have Gj:(vs++List.replicate m x).getLast?=some x:=by
    rw[List.getLast?_append,List.getLast?_replicate,if_neg (by omega)];rfl
   have hd:∀z,ys.head?=some z->zB1 x z=false:=fun z hz=>e5 x z Gj hz
   obtain⟨f1,f2⟩:=zMe h3 hd
   refine⟨List.replicate m x++ys,by rw[e1,List.append_assoc],?_,by rw[f2,e3,Nat.add_comm],fun y hy=>?_,fun y z hy hz=>?_⟩
   ·rw[f1,zAZ,zAZ,List.append_assoc,List.append_assoc,<-e2,<-g2]
    exact g1
   ·rcases List.mem_append.1 hy with hy|hy
    ·rw[List.eq_of_mem_replicate hy];exact g3
    ·exact e4 y hy
   ·have:z=x:=by
     obtain⟨k,rfl⟩:∃k,m=k+1:=⟨m-1,by omega⟩
     simp[List.replicate_succ] at hz
     exact hz.symm
    rw[this];exact h5 y hy
theorem zGe{W:List Val}(h:zBM W=true):W.Pairwise fun x y=>zAh x y<0:=by
 rw[List.pairwise_iff_getElem]
 intro i j hi hj ZX
 exact zFb h i j _ _ ZX (zAf hi) (zAf hj)
theorem zFz{W:List Val}(h:zBM W=true):zBe W:=(zGe h).imp fun h=>Int.le_of_lt h
theorem zG0{W:List Val}(h:zBM W=true):W.Nodup:=(zGe h).imp fun {a b} h e=>by
 subst e
 rw[zC5] at h
 omega
theorem zKT{V W:List Val}(hV:zBM V=true)(hW:zBM W=true)(hm:∀x,x∈V ↔ x∈W)(hc:∀x∈V,zA8 x=x):V=W:=
 zIM (zFz hV) (zFz hW) ((List.perm_ext_iff_of_nodup (zG0 hV) (zG0 hW)).2 hm) hc
theorem zHq{kind:Int}{x:Val}(h:zHJ kind x):zA8 x=x:=by
 rcases h with ⟨_,n,_,_,rfl⟩|⟨_,s,_,rfl⟩<;>rfl
theorem zQc{vs W:List Val}(hs:zBM W=true)(hm:∀x,x∈vs ↔ x∈W)(hc:∀x∈vs,zA8 x=x):zBW vs W:=by
 have hp:=List.mergeSort_perm vs (fun a b=>decide (zAh a b<=0))
 have hr:zBe (vs.mergeSort fun a b=>decide (zAh a b<=0)):=by
  have:=List.pairwise_mergeSort (le:=fun a b=>decide (zAh a b<=0)) (fun a b c h1 h2=>by
   simp only[decide_eq_true_eq] at h1 h2 ⊢
   exact zBz h1 h2) (fun a b=>by
   have:=zBA a b
   simp only[Bool.or_eq_true,decide_eq_true_eq]
   omega) vs
  exact this.imp fun h=>by simpa using h
 have hw:zBW vs (zCH (vs.mergeSort fun a b=>decide (zAh a b<=0))):=⟨_,hp,hr,rfl⟩
 refine⟨_,hp,hr,?_⟩
 symm
 refine zKT (zFw hw hc) hs (fun x=>?_) (fun x hx=>hc x (hp.mem_iff.1 ((zEN _).mem hx)))
 rw[<-hm x,<-hp.mem_iff]
 exact⟨fun h=>(zEN _).mem h,fun h=>zK0 h⟩
theorem zJ5{kind:Int}(hk:kind=1∨kind=2){count:Nat}{l r:List UInt8}{vs:List Val}(h:zF7 kind count l=some (vs,r)) :
  ∃W,zBW vs W/\l=en (zDA W vs)++r/\∀x∈vs,zHJ kind x:=by
 obtain⟨m,l1,W,l2,t,h1,h2,h3,h4,h5,h6,rfl⟩:=zDg h
 have Zu:=(zBr h2).1
 obtain⟨e1,_⟩:=zBi h1
 obtain⟨e2,f2⟩:=zDr hk m h2
 have e3:=zEz h4
 have Hm:∀k,k<m->W[k]?=some (W.getD k .null):=fun k hk=>by
  have:k<W.length:=by omega
  rw[List.getD_eq_getElem?_getD,zAf this];rfl
 have Zz:∀x,x∈((zAm t (bl (m-1)) count).map fun k=>W.getD k .null) ↔ x∈W:=fun x=>by
  constructor
  ·intro hx
   obtain⟨k,hk,rfl⟩:=List.mem_map.1 hx
   exact List.mem_of_getElem? (Hm k (h5 k hk))
  ·intro hx
   obtain⟨i,hi,rfl⟩:=List.getElem_of_mem hx
   refine List.mem_map.2 ⟨i,h6 i (by omega),?_⟩
   rw[List.getD_eq_getElem?_getD,zAf hi];rfl
 have YW:∀x∈((zAm t (bl (m-1)) count).map fun k=>W.getD k .null),zHJ kind x:=fun x hx=>f2 x ((Zz x).1 hx)
 refine⟨W,zQc h3 Zz (fun x hx=>zHq (YW x hx)),?_,YW⟩
 have Js:(((zAm t (bl (m-1)) count).map fun k=>W.getD k .null).map (zF1 W))=zAm t (bl (m-1)) count:=by
  rw[List.map_map]
  conv=>rhs;rw[<-List.map_id (zAm t (bl (m-1)) count)]
  apply List.map_congr_left
  intro k hk
  exact zFa h3 (Hm k (h5 k hk))
 unfold zDA
 rw[Js,Zu,List.length_map,zDt,zAZ,zAZ,List.append_assoc,List.append_assoc,<-e3,<-e2]
 exact e1
theorem zRZ{p k:Nat}(hk:k<18446744073709551616):zCl (zBf p) (.num (zBf (p+k)))=k:=by
 have e:(Val.num (zBf (p+k))).n=zBf (p+k):=rfl
 unfold zCl
 rw[e]
 unfold zBf wrap64
 omega
theorem zPc:zCQ []=zBf 0:=by
 have:zBf 0=0:=by unfold zBf wrap64;omega
 rw[this];rfl
theorem zN8(y:Val)(ys:List Val):zCQ (y::ys)=(zBH y ys).n:=rfl
theorem zUm(n:Int):(Val.num n).n=n:=rfl
theorem zTI{ks:List Nat}{p:Nat}{vs:List Val}(h2:ks.map (fun k=>Val.num (zBf (p+k)))=vs):∀x∈vs,zHJ 1 x:=by
 intro x hx
 rw[<-h2] at hx
 obtain⟨k,_,rfl⟩:=List.mem_map.1 hx
 exact zLw _
theorem zLk(p:Nat):∀(ks:List Nat),(∀k∈ks,k<18446744073709551616)->(ks.map (fun k=>Val.num (zBf (p+k)))).map (zCl (zBf p))=ks
 | [],_=>rfl
 | k::ks,h=>by rw[List.map_cons,List.map_cons,zRZ (h k (List.mem_cons_self ..)),zLk p ks (fun j hj=>h j (List.mem_cons_of_mem _ hj))]
theorem zTH{ks:List Nat}{p:Nat}{vs:List Val}(hk:∀k∈ks,k<18446744073709551616)(h2:ks.map (fun k=>Val.num (zBf (p+k)))=vs):vs.map (zCl (zBf p))=ks:=by
 rw[<-h2];exact zLk p ks hk
theorem zPG{ks:List Nat}{p:Nat}{vs:List Val}(c1:∀k∈ks,zBf p<=zBf (p+k))(c3:0∈ks)(h2:ks.map (fun k=>Val.num (zBf (p+k)))=vs):zCQ vs=zBf p:=by
 have Zz:Val.num (zBf p)∈vs:=by
  rw[<-h2]
  refine List.mem_map.2 ⟨0,c3,?_⟩
  rw[Nat.add_zero]
 have Tn:∀x∈vs,∃n,x=.num n/\zBf p<=n:=by
  intro x hx
  rw[<-h2] at hx
  obtain⟨k,hk,rfl⟩:=List.mem_map.1 hx
  exact⟨_,rfl,c1 k hk⟩
 clear h2 c1 c3
 cases vs with
 | nil=>cases Zz
 | cons y ys=>
  obtain⟨s1,s2⟩:=zGy ys y
  obtain⟨n,e,hn⟩:=Tn _ s1
  have h3:=s2 _ Zz
  rw[zN8]
  rw[e] at h3 ⊢
  have h4:=(zJb _ _).1 h3
  rw[zUm]
  exact Int.le_antisymm h4 hn
theorem zMx{count p d:Nat}{l l1 l2 t r:List UInt8}{vs:List Val}(hM:zBB 8 l=some (p,l1))(hd:zBB 1 l1=some (d,l2))(hb:zCA count d l2=some (t,r))
  (hw:zHM (zBf p) vs=d) (ho:vs.map (zCl (zBf p))=zAm t d count) (hl:vs.length=count):l=en (zFj (zBf p) vs)++r:=by
 obtain⟨e1,hp⟩:=zBi hM
 obtain⟨e2,_⟩:=zBi hd
 have e3:=zEz hb
 have qu:p<18446744073709551616:=Nat.lt_of_lt_of_le hp (by decide)
 unfold zFj
 rw[hw,ho,hl,zJI qu,zAZ,zAZ,List.append_assoc,List.append_assoc,<-e3,<-e2]
 exact e1
theorem zFJ{count:Nat}{l r:List UInt8}{vs:List Val}(h:zBs count l=some (vs,r)):∃p l1 d l2 t,zBB 8 l=some (p,l1)/\zBB 1 l1=some (d,l2)/\d<=64/\zCA count d l2=some (t,r)/\(∀k∈zAm t d count,zBf p<=zBf (p+k))/\d=bl ((zAm t d count).foldl max 0)/\(if count=0 then p=0 else 0∈zAm t d count)/\(zAm t d count).map (fun k=>Val.num (zBf (p+k)))=vs:=by
 unfold zBs at h
 cases hM:zBB 8 l with
 | none=>rw[hM] at h;cases h
 | some p=>
  rw[hM,Option.bind_some] at h
  cases hd:zBB 1 p.2 with
  | none=>rw[hd] at h;cases h
  | some q=>
   rw[hd,Option.bind_some] at h
   split at h
   ·rename_i Yc
    cases hb:zCA count q.1 q.2 with
    | none=>rw[hb] at h;cases h
    | some t=>
     rw[hb,Option.bind_some] at h
     obtain⟨⟨c1,c2,c3⟩,h2⟩:=zDv h
     injection h2 with h2 h3
     subst h3
     exact⟨p.1,p.2,q.1,q.2,t.1,rfl,hd,Yc,hb,c1,c2,c3,h2⟩
   ·cases h
theorem zKt{count:Nat}{l r:List UInt8}{vs:List Val}(h:zBs count l=some (vs,r)):l=en (zFj (zCQ vs) vs)++r/\∀x∈vs,zHJ 1 x:=by
 obtain⟨p,l1,d,l2,t,hM,hd,Yc,hb,c1,c2,c3,h2⟩:=zFJ h
 have hk64:∀k∈zAm t d count,k<18446744073709551616:=by
  intro k hk
  unfold zAm at hk
  obtain⟨i,_,rfl⟩:=List.mem_map.1 hk
  exact zLm _ _ _ Yc
 have Hf:vs.length=count:=by rw[<-h2,List.length_map,zDt]
 have FD:zCQ vs=zBf p:=by
  by_cases h0:count=0
  ·rw[if_pos h0] at c3
   have:vs=[]:=List.eq_nil_of_length_eq_zero (by omega)
   rw[this,c3];exact zPc
  ·rw[if_neg h0] at c3
   exact zPG c1 c3 h2
 have Ju:=zTH hk64 h2
 rw[FD]
 exact⟨zMx hM hd hb (by rw[zJ6,Ju];exact c2.symm) Ju Hf,zTI h2⟩
theorem zIC{sch:Nat}{kind:Int}(hk:kind=1∨kind=2){count:Nat}{l r:List UInt8}{vs:List Val}(h:zBa sch kind count l=some (vs,r)) :
  ∃b,zEj sch vs b/\l=en b++r/\(∀x∈vs,zHJ kind x)/\(sch=4->kind=1)/\1<=sch/\sch<=4:=by
 unfold zBa at h
 split at h
 ·rename_i hs
  obtain⟨e,f⟩:=zDr hk _ h
  exact⟨_,.inl ⟨hs,rfl⟩,e,f,by omega,by omega,by omega⟩
 ·split at h
  ·rename_i hs
   cases hn:zBB 4 l with
   | none=>rw[hn] at h;cases h
   | some p=>
    obtain⟨m,l1⟩:=p
    rw[hn,Option.bind_some] at h
    cases hr:zCK kind count m l1 with
    | none=>rw[hr] at h;cases h
    | some q=>
     rw[hr,Option.bind_some] at h
     obtain⟨Hf,h2⟩:=zDv h
     rw[h2,zKd] at hr
     obtain⟨ys,e1,e2,e3,e4,_⟩:=zGo hk m hr
     rw[List.nil_append] at e1
     subst e1
     obtain⟨g1,_⟩:=zBi hn
     refine⟨_,.inr (.inl ⟨hs,rfl⟩),?_,e4,by omega,by omega,by omega⟩
     rw[e3,zAZ,List.append_assoc,<-e2]
     exact g1
  ·split at h
   ·rename_i hs
    obtain⟨W,h1,h2,h3⟩:=zJ5 hk h
    exact⟨_,.inr (.inr (.inl ⟨hs,W,h1,rfl⟩)),h2,h3,by omega,by omega,by omega⟩
   ·split at h
    ·rename_i hs
     obtain⟨rfl,rfl⟩:=hs
     obtain⟨h1,h2⟩:=zKt h
     exact⟨_,.inr (.inr (.inr ⟨rfl,rfl⟩)),h1,h2,fun _=>rfl,by omega,by omega⟩
    ·cases h
theorem zE7:∀(nl:List Bool) (vs:List Val),nl.count false=vs.length->(∀v∈vs,zAr v=false)->(zAU nl vs).map zAr=nl/\zAA (zAU nl vs)=vs/\∀x∈zAU nl vs,x.k=0->x=.null
 | [],vs,h,_=>by
  have:vs=[]:=List.eq_nil_of_length_eq_zero (by simpa using h.symm)
  subst this
  exact⟨rfl,rfl,by simp[zAU]⟩
 | true::nl,vs,h,hv=>by
  obtain⟨h1,h2,h3⟩:=zE7 nl vs (by simpa using h) hv
  refine⟨by rw[zAU,List.map_cons,h1];rfl,?_,?_⟩
  ·rw[zAU]
   unfold zAA at h2 ⊢
   rw[List.filter_cons]
   simp[Val.null,h2]
  ·intro x hx
   rcases List.mem_cons.1 hx with rfl|hx
   ·exact fun _=>rfl
   ·exact h3 x hx
 | false::nl,vs,h,hv=>by
  cases vs with
  | nil=>simp at h
  | cons v vs=>
   obtain⟨h1,h2,h3⟩:=zE7 nl vs (by simpa using h) (fun y hy=>hv y (List.mem_cons_of_mem _ hy))
   have hn:=hv v (by simp)
   have hk:(v.k != 0)=true:=by
    unfold zAr at hn
    rw[bne,hn];rfl
   refine⟨?_,?_,?_⟩
   ·rw[zAU,List.map_cons]
    show zAr v::(zAU nl vs).map zAr=_
    rw[hn,h1]
   ·rw[zAU]
    unfold zAA at h2 ⊢
    rw[List.filter_cons]
    show (if (v.k != 0)=true then v::List.filter _ (zAU nl vs) else _)=_
    rw[if_pos hk,h2]
   ·intro x hx
    rcases List.mem_cons.1 hx with hx|hx
    ·intro h0
     exfalso
     have:x=v:=hx
     rw[this] at h0
     simp[h0] at hk
    ·exact h3 x hx
theorem zTY{kind:Int}{x:Val}(h:zHJ kind x):zAr x=false:=by
 rcases h with ⟨_,n,_,_,rfl⟩|⟨_,s,_,rfl⟩<;>rfl
theorem zCx{l:List UInt8}{sch:Nat}{kind:Int}{xs:List Val}(h:zB7 l=some (sch,kind,xs)) :
  ∃b,(kind=1∨kind=2)/\xs.length<=4096/\1<=sch/\sch<=4/\(sch=4->kind=1)/\zEj sch (zAA xs) b/\l=en (zB2 sch kind.toNat xs++b)/\(∀x∈zAA xs,zHJ kind x)/\(∀x∈xs,x.k=0->x=.null):=by
 obtain⟨l1,kd,l2,n,l3,nl,l4,vs,h1,h2,rfl,hk,h3,hn,h4,h5,rfl⟩:=zEO h
 have JT:((kd:Int))=1∨(kd:Int)=2:=by omega
 obtain⟨b,b1,b2,b3,b4,b5,b6⟩:=zIC JT h5
 have Yu:=zEn h5
 have Yf:=(zDd h4).1
 obtain⟨s1,s2,s3⟩:=zE7 nl vs Yu.symm (fun v hv=>zTY (b3 v hv))
 have Hf:(zAU nl vs).length=n:=by
  have:=congrArg List.length s1
  rw[List.length_map] at this
  omega
 refine⟨b,JT,by omega,b5,b6,b4,by rw[s2];exact b1,?_,by rw[s2];exact b3,s3⟩
 obtain⟨e1,_⟩:=zBi h1
 obtain⟨e2,_⟩:=zBi h2
 obtain⟨e3,_⟩:=zBi h3
 have e4:=zJg h4 s1
 rw[List.append_nil] at b2
 unfold zB2
 rw[Hf,Int.toNat_natCast,zAZ,zAZ,zAZ,zAZ,List.append_assoc,List.append_assoc,List.append_assoc,<-b2,<-e4,<-e3,<-e2]
 exact e1
theorem zGu{n m:Nat}{l r:List UInt8}(h:zBB n l=some (m,r)):zAE l false n=(l.take n,r,false)/\m=beV (l.take n):=by
 obtain⟨g1,rfl,rfl⟩:=zBD h
 exact⟨zFA (by simp[zCS,g1]),rfl⟩
theorem zLa{kind:Int}{count:Nat}:∀(n:Nat) {l r:List UInt8} {vs:List Val},zCK kind count n l=some (vs,r)->zDI kind count l false n=(vs,r,false)
 | 0,l,r,vs,h=>by
  unfold zCK at h
  injection h with h;injection h with h1 h2
  subst h1;subst h2;rfl
 | n+1,l,r,vs,h=>by
  unfold zCK at h
  cases hp:zCK kind count n l with
  | none=>rw[hp] at h;cases h
  | some p=>
   obtain⟨us,l1⟩:=p
   rw[hp,Option.bind_some] at h
   dsimp only at h
   obtain⟨m,l2,x,g1,g2,g3,g4,_,rfl⟩:=zFD h
   rw[zHY (zLa n hp)]
   obtain⟨e1,e2⟩:=zGu g1
   unfold zU3
   rw[e1]
   simp only
   rw[zJW g2,<-e2]
   have:zTj count m us.length=m:=by unfold zTj;omega
   rw[this]
theorem zIt{count d:Nat}{l t r:List UInt8}(h:zCA count d l=some (t,r)):zAE l false (zAO count d)=(t,r,false):=by
 unfold zCA at h
 cases ht:zCS (zAO count d) l with
 | none=>rw[ht] at h;cases h
 | some p=>
  rw[ht,Option.bind_some] at h
  have e:=(zDv h).2
  subst e
  exact zFA ht
theorem zRY{count:Nat}{l r:List UInt8}{vs:List Val}(h:zBs count l=some (vs,r)):zMy count l false=(vs,r,false):=by
 obtain⟨p,l1,d,l2,t,hM,hd,Yc,hb,c1,c2,c3,h2⟩:=zFJ h
 obtain⟨e1,e2⟩:=zGu hM
 obtain⟨e3,e4⟩:=zGu hd
 have e5:=zIt hb
 unfold zMy
 rw[e1]
 simp only
 rw[e3]
 simp only
 rw[<-e4,<-e2,if_neg (by omega),e5]
 simp only
 unfold zDz
 rw[if_neg (by decide),h2]
def zNs(kind:Int)(m:Nat)(l:List UInt8)(bad:Bool):List Val×List UInt8×Bool:=
 let W:=WR kind l bad
 let T:=zAE W.2.1 W.2.2 (zAO m (bl (W.1.length-1)))
 let ks:=zDz T.1 T.2.2 (bl (W.1.length-1)) m
 (zIT W.1 ks,T.2.1,T.2.2 || zLB W.1 ks)
theorem zNr{kind:Int}{count:Nat}{l r:List UInt8}{vs:List Val}(h:zF7 kind count l=some (vs,r)):zNs kind count l false=(vs,r,false):=by
 obtain⟨m,l1,W,l2,t,g1,g2,g3,g4,g5,g6,rfl⟩:=zDg h
 obtain⟨e1,e2⟩:=zGu g1
 have e3:WR kind l false=(W,l2,false):=by
  unfold WR
  rw[e1]
  simp only
  rw[<-e2]
  exact zFi m g2
 have hl:=(zBr g2).1
 have e4:=zIt g4
 unfold zNs
 rw[e3]
 simp only
 rw[hl,e4]
 simp only
 have e5:zDz t false (bl (m-1)) count=zAm t (bl (m-1)) count:=rfl
 rw[e5]
 obtain⟨e6,e7⟩:=zLf (ws:=W) (ks:=zAm t (bl (m-1)) count) (by rw[hl];exact g5)
 rw[e6,e7]
 rfl
def zG2(sch:Nat)(kind:Int)(m:Nat)(l:List UInt8)(bad:Bool):List Val×List UInt8×Bool:=
 if sch=1 then zBI kind l bad m
 else if sch=2 then zDI kind m (zAE l bad 4).2.1 (zAE l bad 4).2.2 (beV (zAE l bad 4).1)
 else if sch=3 then zNs kind m l bad
 else zMy m l bad
theorem zOH{sch:Nat}{kind:Int}{m:Nat}{l r:List UInt8}{vs:List Val}(h:zBa sch kind m l=some (vs,r)):zG2 sch kind m l false=(vs,r,false):=by
 unfold zBa at h
 unfold zG2
 split at h
 ·rename_i h1
  rw[if_pos h1]
  exact zFi m h
 ·rename_i h1
  rw[if_neg h1]
  split at h
  ·rename_i h2
   rw[if_pos h2]
   cases hn:zBB 4 l with
   | none=>rw[hn] at h;cases h
   | some p=>
    rw[hn,Option.bind_some] at h
    cases hr:zCK kind m p.1 p.2 with
    | none=>rw[hr] at h;cases h
    | some q=>
     rw[hr,Option.bind_some] at h
     have e:=(zDv h).2
     subst e
     obtain⟨e1,e2⟩:=zGu (m:=p.1) (r:=p.2) hn
     rw[e1]
     simp only
     rw[<-e2]
     exact zLa p.1 hr
  ·rename_i h2
   rw[if_neg h2]
   split at h
   ·rename_i h3
    rw[if_pos h3]
    exact zNr h
   ·rename_i h3
    rw[if_neg h3]
    split at h
    ·exact zRY h
    ·cases h
set_option maxHeartbeats 1000000
set_option maxRecDepth 100000
def Rng(x:Val):Prop:=-9223372036854775808<=x.n/\x.n<=9223372036854775807
theorem zOl(k:Nat):Rng (.num (zBf k)):=⟨zF2 _,zF3 _⟩
theorem zTA(s:ByteArray):Rng (.str s):=⟨by show -9223372036854775808<=(0:Int);decide,by show (0:Int)<=9223372036854775807;decide⟩
theorem zIL:Rng .null:=⟨by show -9223372036854775808<=(0:Int);decide,by show (0:Int)<=9223372036854775807;decide⟩
theorem zHf(kind:Int)(l:List UInt8)(bad:Bool):Rng (zCP kind l bad).1:=by
 unfold zCP
 split
 ·exact zOl _
 ·exact zTA _
theorem zDp(kind:Int)(l:List UInt8)(bad:Bool):∀(k:Nat),∀x∈(zBI kind l bad k).1,Rng x
 | 0=>fun x hx=>by cases hx
 | k+1=>fun x hx=>by
  rw[zBI] at hx
  split at hx
  ·exact zDp kind l bad k x hx
  ·rcases List.mem_append.1 hx with h|h
   ·exact zDp kind l bad k x h
   ·rw[List.mem_singleton.1 h];exact zHf _ _ _
theorem zGn(kind:Int)(m:Nat)(l:List UInt8)(bad:Bool):∀(k:Nat),∀x∈(zDI kind m l bad k).1,Rng x
 | 0=>fun x hx=>by cases hx
 | k+1=>fun x hx=>by
  rw[zDI] at hx
  split at hx
  ·exact zGn kind m l bad k x hx
  ·rcases List.mem_append.1 hx with h|h
   ·exact zGn kind m l bad k x h
   ·rw[List.eq_of_mem_replicate h];exact zHf _ _ _
theorem zOw{ws:List Val}{ks:List Nat}(h:∀x∈ws,Rng x):∀x∈zIT ws ks,Rng x:=by
 intro x hx
 unfold zIT at hx
 obtain⟨k,_,rfl⟩:=List.mem_map.1 hx
 rw[List.getD_eq_getElem?_getD]
 cases hk:ws[k]? with
 | none=>exact zIL
 | some y=>exact h y (List.mem_of_getElem? hk)
theorem zMP(sch:Nat)(kind:Int)(m:Nat)(l:List UInt8)(bad:Bool):∀x∈(zG2 sch kind m l bad).1,Rng x:=by
 unfold zG2
 split
 ·exact zDp _ _ _ _
 ·split
  ·exact zGn _ _ _ _ _
  ·split
   ·exact zOw (zDp _ _ _ _)
   ·unfold zMy
    split
    ·intro x hx;cases hx
    ·intro x hx
     obtain⟨k,_,rfl⟩:=List.mem_map.1 hx
     exact zOl _
theorem zFc:∀(nl:List Bool) (vs:List Val),(∀x∈vs,Rng x)->∀x∈zAU nl vs,Rng x
 | [],_,_=>fun x hx=>by cases hx
 | true::nl,vs,h=>fun x hx=>by
  rw[zAU] at hx
  rcases List.mem_cons.1 hx with rfl|hx
  ·exact zIL
  ·exact zFc nl vs h x hx
 | false::nl,vs,h=>fun x hx=>by
  rw[zAU] at hx
  rcases List.mem_cons.1 hx with rfl|hx
  ·cases vs with
   | nil=>exact zIL
   | cons y vs=>exact h y (List.mem_cons_self ..)
  ·exact zFc nl vs.tail (fun y hy=>h y (List.mem_of_mem_tail hy)) x hx
def zIz(z n:Nat)(tl:List UInt8):List Nat×List UInt8×Bool:=
 if z=1 then (zDz (zAE tl false (zAO n 1)).1 (zAE tl false (zAO n 1)).2.2 1 n,(zAE tl false (zAO n 1)).2) else (List.replicate n 0,tl,false)
theorem zFk{l l1:List UInt8}{m:Nat}(h:zBB 1 l=some (m,l1)):∃c,l=c::l1/\m=c.toNat:=by
 obtain⟨g1,rfl,rfl⟩:=zBD h
 cases l with
 | nil=>simp at g1
 | cons c t=>exact⟨c,rfl,by simp[beV]⟩
theorem zN0{l l1:List UInt8}{m:Nat}(h:zBB 4 l=some (m,l1)):∃a b c d,l=a::b::c::d::l1/\m=beV [a,b,c,d]:=by
 obtain⟨g1,rfl,rfl⟩:=zBD h
 match l,g1 with
 | a::b::c::d::t,_=>exact⟨a,b,c,d,rfl,rfl⟩
theorem zRe(n:Nat):(List.replicate n 0).map (fun k:Nat=>k == 1)=List.replicate n false:=by simp
theorem zTN{n:Nat}{l r:List UInt8}{nl:List Bool}(h:zBp n l=some (nl,r)):∃z tl,l=z::tl/\z.toNat<=1/\(zIz z.toNat n tl).2=(r,false)/\(zIz z.toNat n tl).1.map (· == 1)=nl:=by
 unfold zBp at h
 cases hn:zBB 1 l with
 | none=>rw[hn] at h;cases h
 | some p=>
  obtain⟨zz,tl⟩:=p
  rw[hn,Option.bind_some] at h
  obtain⟨z,rfl,e⟩:=zFk hn
  subst e
  simp only at h
  split at h
  ·rename_i h0
   injection h with h;injection h with h1 h2
   subst h1;subst h2
   refine⟨z,tl,rfl,by omega,?_,?_⟩
   ·unfold zIz;rw[if_neg (by omega)]
   ·unfold zIz;rw[if_neg (by omega)];exact zRe n
  ·split at h
   ·rename_i h1
    cases hb:zCA n 1 tl with
    | none=>rw[hb] at h;cases h
    | some q=>
     obtain⟨t,r'⟩:=q
     rw[hb,Option.bind_some] at h
     have e:=(zDv h).2
     injection e with e1 e2
     simp only at e1 e2
     subst e2
     have e3:=zIt hb
     refine⟨z,tl,rfl,by omega,?_,?_⟩
     ·unfold zIz;rw[if_pos h1,e3]
     ·unfold zIz;rw[if_pos h1,e3];exact e1
   ·cases h
theorem zEw{l:List UInt8}{sch:Nat}{kind:Int}{xs:List Val}(h:zB7 l=some (sch,kind,xs)) :
  ∃c0 c1 n0 n1 n2 n3 z tl,l=c0::c1::n0::n1::n2::n3::z::tl/\sch=c0.toNat/\kind=(c1.toNat:Int)/\(1<=c0.toNat/\c0.toNat<=4)/\(c1.toNat=1∨c1.toNat=2)/\beV [n0,n1,n2,n3]<=4096/\z.toNat<=1/\∃r vs,(zIz z.toNat (beV [n0,n1,n2,n3]) tl).2=(r,false)/\zG2 sch kind (((zIz z.toNat (beV [n0,n1,n2,n3]) tl).1.map (· == 1)).count false) r false=(vs,[],false)/\vs.length=((zIz z.toNat (beV [n0,n1,n2,n3]) tl).1.map (· == 1)).count false/\xs=zAU ((zIz z.toNat (beV [n0,n1,n2,n3]) tl).1.map (· == 1)) vs:=by
 obtain⟨b,_,_,GN,hs4,_⟩:=zCx h
 obtain⟨l1,kd,l2,n,l3,nl,l4,vs,h1,h2,rfl,hk,h3,hn,h4,h5,rfl⟩:=zEO h
 obtain⟨c0,rfl,rfl⟩:=zFk h1
 obtain⟨c1,rfl,rfl⟩:=zFk h2
 obtain⟨n0,n1,n2,n3,rfl,rfl⟩:=zN0 h3
 obtain⟨z,tl,rfl,hz,e1,e2⟩:=zTN h4
 exact⟨c0,c1,n0,n1,n2,n3,z,tl,rfl,rfl,rfl,⟨GN,hs4⟩,hk,hn,hz,l4,vs,e1,by rw[e2];exact zOH h5,by rw[e2];exact zEn h5,by rw[e2]⟩
def UnR(l:List UInt8)(X:Vc)(f:Int):Prop:=
 (f=0/\(∃sch,zB7 l=some (sch,X.k,zAD X))/\zBU X.k (zAD X)=(X,0)/\X.nl.length<=4096/\X.ns.length<=4096/\X.ss.length<=4096)∨(f=2/\X=.zero/\zB7 l=none)
theorem zFl{l:List UInt8}(h:∀sch kind xs,zB7 l=some (sch,kind,xs)->False):zB7 l=none:=by
 cases hc:zB7 l with
 | none=>rfl
 | some p=>exact absurd hc (fun e=>h p.1 p.2.1 p.2.2 e)
theorem zTm(l:List UInt8):(bs l).data.toList=l:=rfl
theorem zTl(s:ByteArray):bs s.data.toList=s:=by cases s;simp[bs]
theorem zAR.app{w3 wr w5:World}{a:Option Addr}{xs:List Val}{v:Value}{vs:List Val}{o:Obj}(h3:zAR w3 a xs)(h:zAR wr a xs)(ho:zAV wr w3.heap.size v vs)(hg:(wr.alloc o).grownBy w5 v.ownBlock):zAR w5 a xs:=by
 rcases h3 with h3|⟨b,off,ha,h3⟩
 ·exact .inl h3
 ·cases xs with
  | nil=>exact .inl rfl
  | cons x xs=>
   have hb:b<w3.heap.size:=World.block_lt_of_cell? _ _ (h3 0 x rfl).1
   refine zAR.grow (h.later (zA1 (Below.refl _ wr) o)) hg (fun ad e=>?_)
   rw[ha] at e
   injection e with e
   subst e
   intro e2
   have:=(World.ownsRow.lt ho b e2.symm).1
   omega
theorem zMT{b m:Nat}{kind:Int}{l a l1 l2 t r:List UInt8}{ws:List Val}{bad x1 x2 x3:Bool}{w:World}(hk:kind=1∨kind=2)(hm:m<=4096)(h:Br w b l bad)(hl:l.length<=140737488355328)
  (ha:zAE l bad 2=(a,l1,x1)) (hws:zBI kind l1 x1 (beV a)=(ws,l2,x2)) (ht:zAE l2 x2 (zAO m (bl (ws.length-1)))=(t,r,x3)) :
  Calls Tryz.prog 68 #[.pointer (some ⟨b,0,none⟩),.int .i64 3,.int .i64 kind,.int .i64 m] w fun e w'=>zCt w w' e b (zIT ws (zDz t x3 (bl (ws.length-1)) m),r,x3 || zLB ws (zDz t x3 (bl (ws.length-1)) m)):=by
 obtain⟨i4,Qd,z40,z41,z42⟩:=info_parts Tryz.info59
 have Zg:=h.ne
 have yg:a.length<=2:=by have:=(zB4 l bad 2).1;rw[ha] at this;exact this
 have YK:l1.length<=l.length:=by have:=(zB4 l bad 2).2;rw[ha] at this;exact this
 have HA:=zA3 (zCI h hl (by decide) ha)
 have KG:=zA3 (fun W=>zB6 a (by omega) W)
 have ZW:beV a<65536:=by
  have h1:=zBn a
  have h3:256 ^ a.length<=256 ^ 2:=Nat.pow_le_pow_right (by decide) yg
  have h4:(256:Nat) ^ 2=65536:=by decide
  omega
 have Zw:=zDq kind l1 x1 (beV a)
 rw[hws] at Zw
 obtain⟨GS,Yd⟩:=Zw
 replace GS:ws.length<=beV a:=GS
 replace Yd:l2.length<=l1.length:=Yd
 have hd16:bl (ws.length-1)<=16:=zFr (by have:(2:Nat)^16=65536:=(by decide);omega)
 have HBI:=zA3 (fun W (hW:Br W b l2 x2)=>zFp hm (by omega:bl (ws.length-1)<=64) hW (by omega) ht)
 have Dl:=zA3 (fun W=>zFf (ws.length-1) W (by omega))
 have YV:=zA3 (zK5 (t:=t) (x:=x3) (n:=m) (d:=bl (ws.length-1)))
 have KL:=zA3 (zHE t x3 (bl (ws.length-1)) m)
 have Dj:=zA3 hws
 generalize zDz t x3 (bl (ws.length-1)) m=ks at *
 generalize hdd:bl (ws.length-1)=d at *
 generalize beV a=n at *
 obtain⟨R,hR⟩:∃R,R=(zIT ws ks,r,x3 || zLB ws ks):=⟨_,rfl⟩
 rw[<-hR]
 have QR:=zA3 hR
 clear hR h ha yg ht hws hdd
 go_enter Tryz.func68,Tryz.ntmps68
 go_wp2_with (first
  | (go_at_call 39;refine(zA0 HA).mono ?_;rintro e w1 ⟨rfl,Hq,Hn⟩)
  | (go_at_call 40;refine(zA0 KG _).mono ?_;rintro e wn ⟨rfl,rfl⟩))
 go_loopw[15,16] (fun v i wr=>∃(k j:Nat) (vs:List Val) (r:List UInt8) (x:Bool),k+j=n/\i=.int .i64 (j:Int)/\Hid (zBI kind l1 x1 k=(vs,r,x))/\zAV wr w.heap.size v vs/\Br wr b r x/\Gr w wr b) (fun _ i _=>(intOf i).toNat)
 case atStart=>exact⟨0,n,[],l1,x1,by omega,rfl,rfl,⟨rfl,.inl ⟨rfl,rfl⟩⟩,Hq,Hn⟩
 case round=>
  obtain⟨k,j,vs,rr,x,Zj,rfl,HP,ho,hr,hg⟩:=hrel
  have yb:=zDq kind l1 x1 k
  rw[zA0 HP] at yb
  obtain⟨Yu,Yn⟩:=yb
  replace Yu:vs.length<=k:=Yu
  replace Yn:rr.length<=l1.length:=Yn
  obtain⟨c0,c1,f0,f1⟩:=hr.facts
  have Zk:(x=false/\0<j)∨(j=0∨(0<j/\x=true)):=by
   cases x
   ·by_cases hj:j=0
    ·exact .inr (.inl hj)
    ·exact .inl ⟨rfl,by omega⟩
   ·by_cases hj:j=0
    ·exact .inr (.inl hj)
    ·exact .inr (.inr ⟨by omega,rfl⟩)
  rcases Zk with ⟨rfl,hj⟩|hex
  ·have h9:(0:Int)<(j:Int):=by omega
   have HN:=zA3 (zEH (zA0 HP))
   have HC:=zA3 (zFg (bad:=false) hk hr (by omega))
   have HG:=zA3 hg
   have HO:=zA3 ho
   have QK:=hg.size
   have Qh:=zA3 Yu
   generalize hq:zCP kind rr false=q at *
   obtain⟨y,r2,x4⟩:=q
   have QS:Hid (zBI kind l1 x1 (k+1)=(vs++[y],r2,x4)):=by
    show _=_
    exact zA0 HN
   clear hg ho hr Yu Yn hq HN
   dsimp only at HC
   go_wp2_with (first
    | (go_at_call 91;refine(zA0 HC).mono ?_;rintro e w2 ⟨rfl,Hu,Hj⟩;rw[Val.open_];have Qi:=(zA0 HO).gr Hj Zg;have Jb:=(zA0 HG).trans Hj;have yA:=Hj.size)
    | (at_builtin;refine wpList_append_own_at _ rfl (.tmp 100) (.tmp 104) 37 rfl w.heap.size 59 i4 (.agg #[.int .i64 0,.int .i64 0,.string ⟨#[]⟩]) 3 32 Tryz.underlying37 Qd z40 z41 z42 rfl (by decide) _ _ _ rfl (World.ownsRow.alloc Qi _) ⟨w2.heap.size,0,none⟩ 1 1 (c3 y) rfl rfl (zAy w2 y) (zBY _) (by have:=zA0 Qh;unfold maxLen;omega) (by have:=zA0 Qh;omega) (by simp;omega) ?_;intro v1 w3 Hc Ha _ Hl;have Ya:=zB9 Hc))
   refine⟨⟨k+1,j-1,vs++[y],r2,x4,by omega,by go_num,QS,Ya,Hu.app Qi Zg Ha,Jb.app Qi Ha⟩,by simp[intOf];omega⟩
  ·have hE:vs=ws/\rr=l2/\x=x2:=by
    have e1:zBI kind l1 x1 n=(vs,rr,x):=by
     rcases hex with hj|⟨hj,hx⟩
     ·have:k=n:=by omega
      rw[<-this];exact zA0 HP
     ·subst hx
      exact zFI (zA0 HP) n (by omega)
    rw[zA0 Dj] at e1
    injection e1 with e1 e2
    injection e2 with e2 e3
    exact⟨e1.symm,e2.symm,e3.symm⟩
   obtain⟨e1,e2,e3⟩:=hE
   subst e1 e2 e3
   obtain⟨aw,cw,rfl,DY,hnw,Yp⟩:=zAC ho
   have hw16:vs.length<65536:=by omega
   have YY:=zA3 Yp
   have yl:=zA3 ho
   have HG:=zA3 hg
   have HR:=zA3 hr
   clear Yp hg hr ho Yu Yn HP DY hnw
   have HWM:Hid (∀W,Calls Tryz.prog 88 #[.int .u64 (max (vs.length:Int) 1-1)] W fun e w'=>e=.returned (.int .i64 (d:Int))/\w'=W):=fun W=>by
    rw[show max (vs.length:Int) 1-1=((vs.length-1:Nat):Int) by omega]
    exact zA0 Dl W
   have QY:w.heap.size<=wr.heap.size:=(zA0 HG).size
   have h10:((0:Nat):Int)=0:=rfl
   rcases hex with rfl|⟨hj,rfl⟩
   all_goals
    first | (have h9:(0:Int)<(j:Int):=by omega)|skip
    go_wp2_with (first
     | (go_at_call 88;refine(zA0 HWM _).mono ?_;rintro e wz ⟨rfl,rfl⟩)
     | (go_at_call 67;refine(zA0 HBI _ (zA0 HR)).mono ?_;rintro e w3 ⟨g,rfl,Ya,hgl3,Qt,Qw⟩))
    have qh:=zA3 ((zA0 HG).trans Qw)
    have hbg:b≠g:=by omega
    have hgw3:g<w3.heap.size:=Ya.lt
    have Jf:=zA3 Ya
    have qe:=zA3 Qt
    have HRW3:Hid (zAR w3 aw vs):=(zA0 YY).grow Qw (fun ad e=>by
     subst e
     intro e2
     injection e2 with e2
     have:=(World.ownsRow.lt (zA0 yl) ad.block rfl).1
     omega)
    have TC:w.heap.size<=w3.heap.size:=(zA0 qh).size
    clear Qt Qw Ya
    go_loopw[9,116] (fun v i wr=>∃k:Nat,k<=m/\i=.int .i64 (k:Int)/\(∀q∈ks.take k,q<vs.length)/\zAV wr w3.heap.size v ((ks.take k).map fun k=>vs.getD k .null)/\wr.rowIs g 73 m (zKC ks)/\Br wr b r x3/\Gr w wr b/\zAR wr aw vs/\w3.heap.size<=wr.heap.size) (fun _ i _=>m-(intOf i).toNat)
    case atStart=>exact⟨0,Nat.zero_le _,rfl,(fun q hq=>by cases hq),⟨rfl,.inl ⟨rfl,rfl⟩⟩,zA0 Jf,zA0 qe,zA0 qh,zA0 HRW3,Nat.le_refl _⟩
    case round=>
     obtain⟨k,TO,rfl,Qs,ho,Hk,hr,hg,Yp,yr⟩:=hrel
     by_cases He:k<m
     ·have h9:(k:Int)<(m:Int):=by omega
      obtain⟨y,hy⟩:∃y,ks[k]?=some y:=⟨_,zAf (by rw[zA0 KL];exact He)⟩
      have hyb:=zA0 YV y (List.mem_of_getElem? hy)
      have hyb2:y<65536:=by
       have h2:2 ^ d<=2 ^ 16:=Nat.pow_le_pow_right (by decide) hd16
       have h3:(2:Nat) ^ 16=65536:=by decide
       omega
      have cy:wr.cell? ⟨g,k,none⟩=some (.int .u64 (y:Int)):=by
       have:=World.rowIs.cell Hk He
       simpa [zKC,List.getD_eq_getElem?_getD,hy] using this
      obtain⟨c0,c1,f0,f1⟩:=hr.facts
      by_cases hyw:y<vs.length
      ·have hyi:¬(vs.length:Int)<=(y:Int):=by omega
       obtain⟨x,hx⟩:∃x,vs[y]?=some x:=⟨_,zAf hyw⟩
       obtain⟨vb,vo,rfl,d0,d1,d2⟩:=Yp.lo hx
       have HN:=zA3 (zNC hy hx)
       have Qh:Hid (((ks.take k).map fun k=>vs.getD k .null).length<=4096):=by
        show _<=_
        rw[List.length_map,List.length_take,zA0 KL];omega
       have KV:Hid (∀q∈ks.take (k+1),q<vs.length):=by
        obtain⟨g1,g2⟩:=zAL hy
        intro q hq
        rw[List.take_succ_eq_append_getElem g1,List.mem_append] at hq
        rcases hq with hq|hq
        ·exact Qs q hq
        ·rw[List.mem_singleton.1 hq,g2];exact hyw
       have HKP:=zA3 (⟨ho,Hk,hr,hg,Yp⟩:zAV wr w3.heap.size u9 ((ks.take k).map fun k=>vs.getD k .null)/\wr.rowIs g 73 m (zKC ks)/\Br wr b r x3/\Gr w wr b/\zAR wr (some ⟨vb,vo,none⟩) vs)
       have QK:=(World.rowIs.lt Hk)
       generalize hvs:((ks.take k).map fun k=>vs.getD k .null)=us at *
       clear ho Hk hr hg hy hvs Qs Yp hyb
       go_wp2_with (
        (at_builtin;refine wpList_append_own_at _ rfl (.tmp 128) (.tmp 133) 37 rfl w3.heap.size 59 i4 (.agg #[.int .i64 0,.int .i64 0,.string ⟨#[]⟩]) 3 32 Tryz.underlying37 Qd z40 z41 z42 rfl (by decide) _ _ _ rfl (World.ownsRow.alloc (zA0 HKP).1 _) ⟨wr.heap.size,0,none⟩ 1 1 (c3 x) rfl rfl (zAy wr x) (zBY _) (by have:=zA0 Qh;unfold maxLen;omega) (by have:=zA0 Qh;omega) (by simp;omega) ?_;intro v1 w5 Hc Ha _ Hl;have ZP:=zB9 Hc))
       obtain⟨ho,Hk,hr,hg,Yp⟩:=zA0 HKP
       have hz5:=Ha.size
       refine⟨⟨k+1,by omega,by go_num,zA0 KV,by rw[zA0 HN];exact ZP,?_,?_,?_,?_,?_⟩,by simp[intOf];omega⟩
       ·exact zAF (World.rowIs.alloc Hk _) Ha (zBL Hk ho (by decide))
       ·exact Br.app hr ho (by omega) Ha
       ·exact hg.app (zEb ho TC) Ha
       ·exact zAR.app (zA0 HRW3) Yp ho Ha
       ·simp at hz5;omega
      ·have hyi:(vs.length:Int)<=(y:Int):=by omega
       have HE:Hid (zCt w (wr.setCell ⟨b,1,none⟩ (.bool true)) (.returned u9) b R):=by
        obtain⟨e1,e2⟩:=zOv Qs hy hyw
        refine⟨u9,rfl,?_,?_,?_⟩
        ·rw[zA0 QR,e1];exact zAV.gr (zEb ho TC) (zAY _ _ _ _) Zg
        ·rw[zA0 QR,e2,Bool.or_true];exact hr.bad true
        ·exact hg.trans (zAY wr b 1 _)
       clear ho Hk hr hg hy Qs Yp hyb
       go_wp2
       go_ret
       exact zA0 HE
     ·have h9:¬(k:Int)<(m:Int):=by omega
      have ek:k=m:=by omega
      have etk:ks.take k=ks:=List.take_of_length_le (by rw[zA0 KL];omega)
      rw[etk] at ho Qs
      have HE:Hid (zCt w wr (.returned u9) b R):=by
       obtain⟨e1,e2⟩:=zLf Qs
       refine⟨u9,rfl,?_,?_,hg⟩
       ·rw[zA0 QR,e1];exact zEb ho TC
       ·rw[zA0 QR,e2,Bool.or_false];exact hr
      clear ho Hk hr hg etk Qs Yp ek
      go_wp2
      go_ret
      exact zA0 HE
theorem zMQ{b m:Nat}{sch:Nat}{kind:Int}{l:List UInt8}{bad:Bool}{w:World}(hs:1<=sch/\sch<=4)(hk:kind=1∨kind=2)(hm:m<=4096)(h:Br w b l bad)(hl:l.length<=140737488355328) :
  Calls Tryz.prog 68 #[.pointer (some ⟨b,0,none⟩),.int .i64 (sch:Int),.int .i64 kind,.int .i64 m] w fun e w'=>zCt w w' e b (zG2 sch kind m l bad):=by
 have h4:sch=1∨sch=2∨sch=3∨sch=4:=by omega
 rcases h4 with rfl|rfl|rfl|rfl
 ·exact zMV b m kind l bad w hk hm h hl
 ·exact zMU b m kind l bad w hk hm h hl
 ·exact zMT hk hm h hl rfl rfl rfl
 ·exact zMS b m kind l bad w hm h hl
theorem zN4(z n:Nat)(tl:List UInt8):(zIz z n tl).1.length=n/\(∀k∈(zIz z n tl).1,k<2)/\(zIz z n tl).2.1.length<=tl.length:=by
 unfold zIz
 split
 ·exact⟨zHE _ _ _ _,fun k hk=>zK5 k hk,(zB4 _ _ _).2⟩
 ·exact⟨by simp,fun k hk=>by rw[List.eq_of_mem_replicate hk];decide,Nat.le_refl _⟩
end Go.Proofs.YtekgpapophibcaaGreat
set_option linter.unusedSimpArgs false
set_option linter.unusedVariables false
set_option maxRecDepth 100000
namespace Go.Proofs.YtekgpapophibcaaGreat
open Go.ChangeShapes Go.WideShapes Go.ChangeAt Go.RowKit Go.Joins Go.Deep
def zUW(n:Int):Prop:=-9223372036854775808<=n/\n<=9223372036854775807
section
variable {H:Type}{enc:TypeId×Value->H}{w:World}{base:Nat}{zKX:Nat->Bool}{held:Bool}
end
end Go.Proofs.YtekgpapophibcaaGreat
set_option linter.unusedSimpArgs false
set_option linter.unusedVariables false
namespace Go.Proofs.YtekgpapophibcaaGreat
open Go.RowKit Go.Sort
theorem zIY(x:Val):lgV x=zH1 x:=by
 have e0:((⟨#[]⟩:ByteArray).size:Int)=0:=rfl
 unfold lgV zH1 zA8
 by_cases h1:x.k=1
 ·simp only[h1,beq_self_eq_true,if_true,Val.num,e0]
  rfl
 ·by_cases h2:x.k=2
  ·simp[h2,Val.str]
  ·have b1:(x.k == 1)=false:=by simpa using h1
   have b2:(x.k == 2)=false:=by simpa using h2
   simp only[b1,b2,Bool.false_eq_true,if_false,Val.null,e0,Bool.false_and]
   decide
theorem zTQ(rs:List (List Val)):loM rs=(decide (4096<(rs.length:Int)) || rs.any fun r=>r.any zH1):=by
 unfold loM
 have:(fun r:List Val=>r.any lgV)=fun r=>r.any zH1:=by
  funext r
  congr 1
  funext x
  exact zIY x
 rw[this]
structure zSO(zAB:List Int)(rs:List (List Val)):Prop where
 ok:zRT zAB=true
 le:rs.length<=4096
 len:∀r∈rs,r.length=zAB.length
 lg:∀r∈rs,∀x∈r,zH1 x=false
theorem zSO.kind{zAB:List Int}{rs:List (List Val)}(h:zSO zAB rs){i:Nat}(hi:i<zAB.length):zAB.getD i 0=1∨zAB.getD i 0=2:=by
 have hk:=h.ok
 unfold zRT at hk
 simp only[Bool.and_eq_true,Bool.not_eq_true',List.any_eq_false] at hk
 have:=hk.2 zAB[i] (List.getElem_mem hi)
 have e:zAB.getD i 0=zAB[i]:=by simp[hi]
 rw[e]
 unfold zKy at this
 by_cases h1:zAB[i]=1
 ·exact .inl h1
 ·by_cases h2:zAB[i]=2
  ·exact .inr h2
  ·simp[h1,h2] at this
theorem zSO.col{zAB:List Int}{rs:List (List Val)}(h:zSO zAB rs){i:Nat}(hi:i<zAB.length) :
  (colX zAB rs i).2=if ((zGR rs i).map zA8).any (zFu (zAB.getD i 0)) then 4 else 0:=by
 have hk:¬zFM (zAB.getD i 0)=false:=by
  rcases h.kind hi with e|e<;>rw[e]<;>decide
 have hl:¬((zGR rs i).map zA8).any (fun y=>zAv y.s)=true:=by
  rw[List.any_eq_true]
  rintro⟨y,hy,hy2⟩
  obtain⟨x,hx,rfl⟩:=List.mem_map.1 hy
  obtain⟨r,hr,rfl⟩:=List.mem_map.1 hx
  have DR:i<r.length:=by rw[h.len r hr];exact hi
  have hm:r.getD i .null∈r:=by
   have e:r.getD i Val.null=r[i]:=by simp[DR]
   rw[e];exact List.getElem_mem DR
  have:=h.lg r hr _ hm
  rw[<-zIY] at this
  unfold lgV at this
  unfold zAv at hy2
  simp at this hy2
  omega
 unfold colX zBU
 rw[if_neg hk]
 split
 ·rfl
 ·first|rfl|rw[if_neg hl]
theorem zSO.odd{zAB:List Int}{rs:List (List Val)}(h:zSO zAB rs):odM zAB rs=true ↔ ∃i,i<zAB.length/\(colX zAB rs i).2≠0:=by
 unfold odM
 rw[List.any_eq_true]
 constructor
 ·rintro⟨r,hr,ho⟩
  unfold odA at ho
  have hl:=h.len r hr
  rw[hl] at ho
  simp only[bne_self_eq_false,Bool.false_or] at ho
  unfold odR at ho
  rw[List.any_eq_true] at ho
  obtain⟨i,hi,ho⟩:=ho
  rw[List.mem_range] at hi
  unfold odV at ho
  simp only[Bool.and_eq_true] at ho
  refine⟨i,hi,?_⟩
  rw[h.col hi,if_pos]
  ·decide
  ·rw[List.any_eq_true]
   exact⟨zA8 (r.getD i .null),List.mem_map.2 ⟨_,List.mem_map.2 ⟨r,hr,rfl⟩,rfl⟩,by unfold zFu;simp only[Bool.and_eq_true];exact ho.2⟩
 ·rintro⟨i,hi,hc⟩
  rw[h.col hi] at hc
  split at hc
  ·rename_i hb
   rw[List.any_eq_true] at hb
   obtain⟨y,hy,hb⟩:=hb
   obtain⟨x,hx,rfl⟩:=List.mem_map.1 hy
   obtain⟨r,hr,rfl⟩:=List.mem_map.1 hx
   refine⟨r,hr,?_⟩
   unfold odA
   rw[Bool.or_eq_true]
   right
   unfold odR
   rw[List.any_eq_true]
   refine⟨i,List.mem_range.2 (by rw[h.len r hr];exact hi),?_⟩
   unfold odV
   unfold zFu at hb
   rw[decide_eq_true hi,Bool.true_and]
   exact hb
  ·exact absurd rfl hc
end Go.Proofs.YtekgpapophibcaaGreat
