import Derived.Shelf.GgSortMore.Stable
import Derived.Shelf.GgSortFunc.SmallK
import Derived.Test.YtbfibfmnemnbbaaGreatRdU
import Derived.Defers
import Derived.Recover
set_option linter.unusedSimpArgs false
set_option linter.unusedVariables false
set_option maxRecDepth 100000
namespace Go.Proofs.YtbfibfmnemnbbaaGreat
open Go.RowKit Go.Sort
def Two(y z n a:Nat)(L:List Val):Prop:=(∀c,y ∣ c->c<a->SAB c (c+y) L)/\∀c,z ∣ c->a<=c->c<n->SAB c (min (c+z) n) L
end Go.Proofs.YtbfibfmnemnbbaaGreat
set_option linter.unusedSimpArgs false
set_option linter.unusedVariables false
set_option maxRecDepth 100000
namespace Go.Proofs.YtbfibfmnemnbbaaGreat
open Go.RowKit Go.Sort
theorem en_id(l:List UInt8):en (l.map fun b=>(b.toNat:Int))=l:=by
 unfold en
 rw[List.map_map]
 conv=>rhs;rw[<-List.map_id l]
 apply List.map_congr_left
 intro b _
 simp[ofI]
theorem numD_forth{n m:Nat}{l r:List UInt8}(h:numD n l=some (m,r)):l=en (beL (m:Int) n n)++r/\m<256 ^ n:=by
 obtain⟨h1,rfl,rfl⟩:=numD_some h
 have hl:(l.take n).length=n:=by rw[List.length_take];omega
 have e:=beL_forth (l.take n)
 have hb:=beV_lt (l.take n)
 rw[hl] at e hb
 exact⟨by rw[e,en_id,List.take_append_drop],hb⟩
theorem sint_wrap{m:Nat}(h:m<18446744073709551616):IntKind.u64.wrap (sint m)=(m:Int):=by
 rw[IntKind.wrap_u64];unfold sint wrap64;omega
theorem fits_num(m:Nat):Fits 1 (.num (sint m)):=.inl ⟨rfl,_,wrap64_lo _,wrap64_hi _,rfl⟩
theorem plainD_forth{kind:Int}{l r:List UInt8}{x:Val}(hk:kind=1∨kind=2)(h:plainD kind l=some (x,r)):l=en (plainL x)++r/\Fits kind x:=by
 rcases hk with rfl|rfl
 ·unfold plainD at h
  rw[if_pos (by decide)] at h
  cases hn:numD 8 l with
  | none=>rw[hn] at h;cases h
  | some p=>
   obtain⟨m,r'⟩:=p
   rw[hn] at h
   injection h with h
   injection h with h1 h2
   subst h1;subst h2
   obtain⟨e,hm⟩:=numD_forth hn
   have hm2:m<18446744073709551616:=by
    have:(256:Nat) ^ 8=18446744073709551616:=by decide
    omega
   have e1:plainL (.num (sint m))=beL (m:Int) 8 8:=by
    simp[plainL,Val.num,sint_wrap hm2]
   rw[e1]
   exact⟨e,fits_num m⟩
 ·unfold plainD at h
  rw[if_neg (by decide)] at h
  cases hn:numD 2 l with
  | none=>rw[hn] at h;cases h
  | some p=>
   obtain⟨m,l1⟩:=p
   rw[hn,Option.bind_some] at h
   by_cases hm:m<=1000
   ·simp only[hm,if_true] at h
    cases ht:takeD m l1 with
    | none=>rw[ht] at h;cases h
    | some q=>
     obtain⟨t,r'⟩:=q
     rw[ht] at h
     injection h with h
     injection h with h1 h2
     subst h1;subst h2
     obtain⟨e,_⟩:=numD_forth hn
     obtain⟨g1,g2,g3⟩:=takeD_some ht
     have htl:t.length=m:=by rw[g2,List.length_take];omega
     have hsz:(bs t).size=m:=by rw[bs_size,htl]
     have e1:plainL (.str (bs t))=beL (m:Int) 2 2++txt (bs t):=by simp[plainL,Val.str,hsz]
     rw[e1,en_append,en_txt,List.append_assoc]
     refine⟨?_,.inr ⟨rfl,_,by rw[hsz];exact hm,rfl⟩⟩
     rw[e]
     congr 1
     show l1=t++r'
     rw[g2,g3,List.take_append_drop]
   ·simp only[hm,if_false] at h;cases h
theorem plains_snoc(xs:List Val)(x:Val):plains (xs++[x])=plains xs++plainL x:=by simp[plains]
theorem plainsD_forth{kind:Int}(hk:kind=1∨kind=2):∀(n:Nat) {l r:List UInt8} {vs:List Val},plainsD kind n l=some (vs,r)->l=en (plains vs)++r/\∀x∈vs,Fits kind x
 | 0,l,r,vs,h=>by
  unfold plainsD at h
  injection h with h;injection h with h1 h2
  subst h1;subst h2
  exact⟨by simp[plains,en],by simp⟩
 | n+1,l,r,vs,h=>by
  unfold plainsD at h
  cases hp:plainsD kind n l with
  | none=>rw[hp] at h;cases h
  | some p=>
   obtain⟨us,l1⟩:=p
   rw[hp,Option.bind_some] at h
   cases hq:plainD kind l1 with
   | none=>rw[hq] at h;cases h
   | some q=>
    obtain⟨x,r'⟩:=q
    rw[hq] at h
    injection h with h
    injection h with h1 h2
    subst h1;subst h2
    obtain⟨e1,f1⟩:=plainsD_forth hk n hp
    obtain⟨e2,f2⟩:=plainD_forth hk hq
    refine⟨by rw[plains_snoc,en_append,List.append_assoc,<-e2];exact e1,fun y hy=>?_⟩
    rcases List.mem_append.1 hy with hy|hy
    ·exact f1 y hy
    ·rw[List.mem_singleton] at hy;rw[hy];exact f2
theorem bitsD_forth{count d:Nat}{l t r:List UInt8}(h:bitsD count d l=some (t,r)):l=en (leB (total d (numsOf t d count)) (bytesN count d))++r:=by
 obtain⟨h1,h2,_,e⟩:=bitsD_some h
 have e1:total d (numsOf t d count)=leV t:=by
  unfold numsOf
  rw[total_nums,Nat.mod_eq_of_lt h2]
 rw[e1,<-h1,leB_forth,en_id]
 exact e
theorem nullsD_forth{n:Nat}{l r:List UInt8}{nl:List Bool}{xs:List Val}(h:nullsD n l=some (nl,r))(hx:xs.map nullB=nl):l=en (nullsL xs)++r:=by
 have hlen:xs.length=n:=by rw[<-(nullsD_len h).1,<-hx,List.length_map]
 unfold nullsD at h
 cases hn:numD 1 l with
 | none=>rw[hn] at h;cases h
 | some p=>
  obtain⟨m,l1⟩:=p
  rw[hn,Option.bind_some] at h
  obtain⟨e,_⟩:=numD_forth hn
  by_cases h0:m=0
  ·simp only[h0,if_true] at h
   injection h with h;injection h with h1 h2
   subst h2;subst h0
   have ha:xs.any nullB=false:=by
    rw[List.any_eq_false]
    intro x hxm hxn
    have:nullB x∈nl:=by rw[<-hx];exact List.mem_map_of_mem hxm
    rw[<-h1,hxn] at this
    have:=List.eq_of_mem_replicate this
    cases this
   unfold nullsL
   rw[ha]
   exact e
  ·by_cases h1:m=1
   ·simp only[h0,h1,if_true,if_false] at h
    cases hb:bitsD n 1 l1 with
    | none=>rw[hb] at h;cases h
    | some q=>
     obtain⟨t,r'⟩:=q
     rw[hb,Option.bind_some] at h
     obtain⟨hany,h2⟩:=ite_some h
     injection h2 with h2 h3
     subst h3
     have ha:xs.any nullB=true:=by
      have:(xs.map nullB).any id=true:=by rw[hx,<-h2];exact hany
      rw[List.any_map] at this
      exact this
     have hm:marksN xs=numsOf t 1 n:=by
      have e1:marksN xs=(xs.map nullB).map fun b=>if b then 1 else 0:=by simp[marksN]
      rw[e1,hx,<-h2]
      unfold nlOfT
      rw[List.map_map]
      conv=>rhs;rw[<-List.map_id (numsOf t 1 n)]
      apply List.map_congr_left
      intro k hk
      unfold numsOf at hk
      obtain⟨i,_,rfl⟩:=List.mem_map.1 hk
      have:numAt (leV t) 1 i<2:=by unfold numAt;exact Nat.mod_lt _ (by decide)
      simp only[Function.comp,id]
      generalize numAt (leV t) 1 i=z at this
      have hz:z=0∨z=1:=by omega
      rcases hz with rfl|rfl<;>rfl
     unfold nullsL
     rw[ha,if_pos rfl,hm,hlen,en_append,List.append_assoc,<-bitsD_forth hb]
     subst h1
     exact e
   ·simp only[h0,h1,if_false] at h;cases h
theorem runs_fuel:∀(f g:Nat) (xs:List Val),xs.length<=f->xs.length<=g->runsB f xs=runsB g xs/\runsN f xs=runsN g xs
 | 0,g,xs,h,_=>by
  have:xs=[]:=List.eq_nil_of_length_eq_zero (by omega)
  subst this
  cases g<;>exact⟨rfl,rfl⟩
 | f+1,0,xs,_,h=>by
  have:xs=[]:=List.eq_nil_of_length_eq_zero (by omega)
  subst this
  exact⟨rfl,rfl⟩
 | f+1,g+1,[],_,_=>⟨rfl,rfl⟩
 | f+1,g+1,x::xs,h1,h2=>by
  have hp:=ahead_pos (x:=x) (xs:=xs)
  have hd:((x::xs).drop (aheadN (x::xs))).length=(x::xs).length-aheadN (x::xs):=List.length_drop
  have:=runs_fuel f g ((x::xs).drop (aheadN (x::xs))) (by rw[hd];simp at h1 ⊢;omega) (by rw[hd];simp at h2 ⊢;omega)
  unfold runsB runsN
  rw[this.1,this.2]
  exact⟨rfl,rfl⟩
theorem same_symm{x y:Val}(h:sameB x y=false):sameB y x=false:=by
 cases hs:sameB y x with
 | false=>rfl
 | true=>
  have e:=sameB_eq.1 hs
  subst e
  rw[hs] at h;cases h
theorem ahead_rep{m:Nat}{x:Val}{ys:List Val}(hm:0<m)(hd:∀z,ys.head?=some z->sameB x z=false):aheadN (List.replicate m x++ys)=m:=by
 obtain⟨k,rfl⟩:∃k,m=k+1:=⟨m-1,by omega⟩
 have hh:(List.replicate (k+1) x++ys).headD Val.null=x:=by simp[List.replicate_succ]
 unfold aheadN
 rw[hh]
 refine while_len _ _ (k+1) (fun i y hi hy=>?_) (by simp) (fun y hy=>?_)
 ·rw[List.getElem?_append_left (by simp;omega),List.getElem?_replicate,if_pos hi] at hy
  injection hy with hy
  rw[<-hy];exact sameB_eq.2 rfl
 ·rw[List.getElem?_append_right (by simp),List.length_replicate,Nat.sub_self,<-List.head?_eq_getElem?] at hy
  exact same_symm (hd y hy)
theorem runs_front{m:Nat}{x:Val}{ys:List Val}(hm:0<m)(hd:∀z,ys.head?=some z->sameB x z=false) :
  runsB (List.replicate m x++ys).length (List.replicate m x++ys)=(beL (m:Int) 4 4++plainL x)++runsB ys.length ys/\runsN (List.replicate m x++ys).length (List.replicate m x++ys)=1+runsN ys.length ys:=by
 have ha:=ahead_rep hm hd
 obtain⟨k,rfl⟩:∃k,m=k+1:=⟨m-1,by omega⟩
 have e:List.replicate (k+1) x++ys=x::(List.replicate k x++ys):=by simp[List.replicate_succ]
 have el:(x::(List.replicate k x++ys)).length=(k+ys.length)+1:=by simp
 have ed:(x::(List.replicate k x++ys)).drop (k+1)=ys:=by simp
 rw[e] at ha ⊢
 rw[el]
 have hB:∀(f:Nat) (zs:List Val),runsB (f+1) (x::zs)=(beL (aheadN (x::zs):Int) 4 4++plainL x)++runsB f ((x::zs).drop (aheadN (x::zs))):=fun _ _=>rfl
 have hN:∀(f:Nat) (zs:List Val),runsN (f+1) (x::zs)=1+runsN f ((x::zs).drop (aheadN (x::zs))):=fun _ _=>rfl
 rw[hB,hN,ha,ed]
 have:=runs_fuel (k+ys.length) ys.length ys (by omega) (Nat.le_refl _)
 rw[this.1,this.2]
 exact⟨rfl,rfl⟩
theorem runsG_forth{kind:Int}{count:Nat}(hk:kind=1∨kind=2):∀(n:Nat) {vs us:List Val} {l r:List UInt8},runsG kind count n (vs,l)=some (us,r)->∃ys,us=vs++ys/\l=en (runsB ys.length ys)++r/\runsN ys.length ys=n/\(∀x∈ys,Fits kind x)/\(∀y z,vs.getLast?=some y->ys.head?=some z->sameB y z=false)
 | 0,vs,us,l,r,h=>by
  unfold runsG at h
  injection h with h;injection h with h1 h2
  subst h1;subst h2
  exact⟨[],by simp,by simp[runsB,en],rfl,by simp,by simp⟩
 | n+1,vs,us,l,r,h=>by
  unfold runsG at h
  cases hr:runD kind count vs l with
  | none=>rw[hr] at h;cases h
  | some q=>
   obtain⟨ws,l2⟩:=q
   rw[hr,Option.bind_some] at h
   obtain⟨m,l1,x,h1,h2,h3,h4,h5,rfl⟩:=runD_some hr
   obtain⟨ys,e1,e2,e3,e4,e5⟩:=runsG_forth hk n h
   obtain⟨g1,_⟩:=numD_forth h1
   obtain⟨g2,g3⟩:=plainD_forth hk h2
   have hlast:(vs++List.replicate m x).getLast?=some x:=by
    rw[List.getLast?_append,List.getLast?_replicate,if_neg (by omega)];rfl
   have hd:∀z,ys.head?=some z->sameB x z=false:=fun z hz=>e5 x z hlast hz
   obtain⟨f1,f2⟩:=runs_front h3 hd
   refine⟨List.replicate m x++ys,by rw[e1,List.append_assoc],?_,by rw[f2,e3,Nat.add_comm],fun y hy=>?_,fun y z hy hz=>?_⟩
   ·rw[f1,en_append,en_append,List.append_assoc,List.append_assoc,<-e2,<-g2]
    exact g1
   ·rcases List.mem_append.1 hy with hy|hy
    ·rw[List.eq_of_mem_replicate hy];exact g3
    ·exact e4 y hy
   ·have:z=x:=by
     obtain⟨k,rfl⟩:∃k,m=k+1:=⟨m-1,by omega⟩
     simp[List.replicate_succ] at hz
     exact hz.symm
    rw[this];exact h5 y hy
theorem strict_pair{W:List Val}(h:strictB W=true):W.Pairwise fun x y=>ordV x y<0:=by
 rw[List.pairwise_iff_getElem]
 intro i j hi hj hij
 exact strict_all h i j _ _ hij (List.getElem?_eq_getElem hi) (List.getElem?_eq_getElem hj)
theorem strict_rises{W:List Val}(h:strictB W=true):Rises W:=(strict_pair h).imp fun h=>Int.le_of_lt h
theorem strict_nodup{W:List Val}(h:strictB W=true):W.Nodup:=(strict_pair h).imp fun {a b} h e=>by
 subst e
 rw[ord_self] at h
 omega
theorem strict_uniq{V W:List Val}(hV:strictB V=true)(hW:strictB W=true)(hm:∀x,x∈V ↔ x∈W)(hc:∀x∈V,cleanV x=x):V=W:=
 rises_eq (strict_rises hV) (strict_rises hW) ((List.perm_ext_iff_of_nodup (strict_nodup hV) (strict_nodup hW)).2 hm) hc
theorem fits_clean{kind:Int}{x:Val}(h:Fits kind x):cleanV x=x:=by
 rcases h with ⟨_,n,_,_,rfl⟩|⟨_,s,_,rfl⟩<;>rfl
theorem words_of{vs W:List Val}(hs:strictB W=true)(hm:∀x,x∈vs ↔ x∈W)(hc:∀x∈vs,cleanV x=x):WordsOf vs W:=by
 have hp:=List.mergeSort_perm vs (fun a b=>decide (ordV a b<=0))
 have hr:Rises (vs.mergeSort fun a b=>decide (ordV a b<=0)):=by
  have:=List.pairwise_mergeSort (le:=fun a b=>decide (ordV a b<=0)) (fun a b c h1 h2=>by
   simp only[decide_eq_true_eq] at h1 h2 ⊢
   exact ord_le h1 h2) (fun a b=>by
   have:=ord_anti a b
   simp only[Bool.or_eq_true,decide_eq_true_eq]
   omega) vs
  exact this.imp fun h=>by simpa using h
 have hw:WordsOf vs (compL (vs.mergeSort fun a b=>decide (ordV a b<=0))):=⟨_,hp,hr,rfl⟩
 refine⟨_,hp,hr,?_⟩
 symm
 refine strict_uniq (words_strict hw hc) hs (fun x=>?_) (fun x hx=>hc x (hp.mem_iff.1 ((compL_sub _).mem hx)))
 rw[<-hm x,<-hp.mem_iff]
 exact⟨fun h=>(compL_sub _).mem h,fun h=>compL_mem h⟩
theorem wordsD_forth{kind:Int}(hk:kind=1∨kind=2){count:Nat}{l r:List UInt8}{vs:List Val}(h:wordsD kind count l=some (vs,r)) :
  ∃W,WordsOf vs W/\l=en (wordsB W vs)++r/\∀x∈vs,Fits kind x:=by
 obtain⟨m,l1,W,l2,t,h1,h2,h3,h4,h5,h6,rfl⟩:=wordsD_some h
 have hWl:=(plainsD_len h2).1
 obtain⟨e1,_⟩:=numD_forth h1
 obtain⟨e2,f2⟩:=plainsD_forth hk m h2
 have e3:=bitsD_forth h4
 have hat:∀k,k<m->W[k]?=some (W.getD k .null):=fun k hk=>by
  have:k<W.length:=by omega
  rw[List.getD_eq_getElem?_getD,List.getElem?_eq_getElem this];rfl
 have hmem:∀x,x∈((numsOf t (bl (m-1)) count).map fun k=>W.getD k .null) ↔ x∈W:=fun x=>by
  constructor
  ·intro hx
   obtain⟨k,hk,rfl⟩:=List.mem_map.1 hx
   exact List.mem_of_getElem? (hat k (h5 k hk))
  ·intro hx
   obtain⟨i,hi,rfl⟩:=List.getElem_of_mem hx
   refine List.mem_map.2 ⟨i,h6 i (by omega),?_⟩
   rw[List.getD_eq_getElem?_getD,List.getElem?_eq_getElem hi];rfl
 have hfit:∀x∈((numsOf t (bl (m-1)) count).map fun k=>W.getD k .null),Fits kind x:=fun x hx=>f2 x ((hmem x).1 hx)
 refine⟨W,words_of h3 hmem (fun x hx=>fits_clean (hfit x hx)),?_,hfit⟩
 have hpos:(((numsOf t (bl (m-1)) count).map fun k=>W.getD k .null).map (posN W))=numsOf t (bl (m-1)) count:=by
  rw[List.map_map]
  conv=>rhs;rw[<-List.map_id (numsOf t (bl (m-1)) count)]
  apply List.map_congr_left
  intro k hk
  exact strict_pos h3 (hat k (h5 k hk))
 unfold wordsB
 rw[hpos,hWl,List.length_map,nums_len,en_append,en_append,List.append_assoc,List.append_assoc,<-e3,<-e2]
 exact e1
theorem off_sint{p k:Nat}(hk:k<18446744073709551616):offN (sint p) (.num (sint (p+k)))=k:=by
 have e:(Val.num (sint (p+k))).n=sint (p+k):=rfl
 unfold offN
 rw[e]
 unfold sint wrap64
 omega
theorem least_nil:leastI []=sint 0:=by
 have:sint 0=0:=by unfold sint wrap64;omega
 rw[this];rfl
theorem least_cons(y:Val)(ys:List Val):leastI (y::ys)=(minFrom y ys).n:=rfl
theorem num_n(n:Int):(Val.num n).n=n:=rfl
theorem off_fit{ks:List Nat}{p:Nat}{vs:List Val}(h2:ks.map (fun k=>Val.num (sint (p+k)))=vs):∀x∈vs,Fits 1 x:=by
 intro x hx
 rw[<-h2] at hx
 obtain⟨k,_,rfl⟩:=List.mem_map.1 hx
 exact fits_num _
theorem off_map1(p:Nat):∀(ks:List Nat),(∀k∈ks,k<18446744073709551616)->(ks.map (fun k=>Val.num (sint (p+k)))).map (offN (sint p))=ks
 | [],_=>rfl
 | k::ks,h=>by rw[List.map_cons,List.map_cons,off_sint (h k (List.mem_cons_self ..)),off_map1 p ks (fun j hj=>h j (List.mem_cons_of_mem _ hj))]
theorem off_map{ks:List Nat}{p:Nat}{vs:List Val}(hk:∀k∈ks,k<18446744073709551616)(h2:ks.map (fun k=>Val.num (sint (p+k)))=vs):vs.map (offN (sint p))=ks:=by
 rw[<-h2];exact off_map1 p ks hk
theorem off_least{ks:List Nat}{p:Nat}{vs:List Val}(c1:∀k∈ks,sint p<=sint (p+k))(c3:0∈ks)(h2:ks.map (fun k=>Val.num (sint (p+k)))=vs):leastI vs=sint p:=by
 have hmem:Val.num (sint p)∈vs:=by
  rw[<-h2]
  refine List.mem_map.2 ⟨0,c3,?_⟩
  rw[Nat.add_zero]
 have hge:∀x∈vs,∃n,x=.num n/\sint p<=n:=by
  intro x hx
  rw[<-h2] at hx
  obtain⟨k,hk,rfl⟩:=List.mem_map.1 hx
  exact⟨_,rfl,c1 k hk⟩
 clear h2 c1 c3
 cases vs with
 | nil=>cases hmem
 | cons y ys=>
  obtain⟨s1,s2⟩:=min_spec2 ys y
  obtain⟨n,e,hn⟩:=hge _ s1
  have h3:=s2 _ hmem
  rw[least_cons]
  rw[e] at h3 ⊢
  have h4:=(ord_numle _ _).1 h3
  rw[num_n]
  exact Int.le_antisymm h4 hn
theorem offs_bytes{count p d:Nat}{l l1 l2 t r:List UInt8}{vs:List Val}(hM:numD 8 l=some (p,l1))(hd:numD 1 l1=some (d,l2))(hb:bitsD count d l2=some (t,r))
  (hw:widL (sint p) vs=d) (ho:vs.map (offN (sint p))=numsOf t d count) (hl:vs.length=count):l=en (offsB (sint p) vs)++r:=by
 obtain⟨e1,hp⟩:=numD_forth hM
 obtain⟨e2,_⟩:=numD_forth hd
 have e3:=bitsD_forth hb
 have hp2:p<18446744073709551616:=Nat.lt_of_lt_of_le hp (by decide)
 unfold offsB
 rw[hw,ho,hl,sint_wrap hp2,en_append,en_append,List.append_assoc,List.append_assoc,<-e3,<-e2]
 exact e1
theorem offsetsD_some{count:Nat}{l r:List UInt8}{vs:List Val}(h:offsetsD count l=some (vs,r)):∃p l1 d l2 t,numD 8 l=some (p,l1)/\numD 1 l1=some (d,l2)/\d<=64/\bitsD count d l2=some (t,r)/\(∀k∈numsOf t d count,sint p<=sint (p+k))/\d=bl ((numsOf t d count).foldl max 0)/\(if count=0 then p=0 else 0∈numsOf t d count)/\(numsOf t d count).map (fun k=>Val.num (sint (p+k)))=vs:=by
 unfold offsetsD at h
 cases hM:numD 8 l with
 | none=>rw[hM] at h;cases h
 | some p=>
  rw[hM,Option.bind_some] at h
  cases hd:numD 1 p.2 with
  | none=>rw[hd] at h;cases h
  | some q=>
   rw[hd,Option.bind_some] at h
   split at h
   ·rename_i hd64
    cases hb:bitsD count q.1 q.2 with
    | none=>rw[hb] at h;cases h
    | some t=>
     rw[hb,Option.bind_some] at h
     obtain⟨⟨c1,c2,c3⟩,h2⟩:=ite_some h
     injection h2 with h2 h3
     subst h3
     exact⟨p.1,p.2,q.1,q.2,t.1,rfl,hd,hd64,hb,c1,c2,c3,h2⟩
   ·cases h
theorem offsD_forth{count:Nat}{l r:List UInt8}{vs:List Val}(h:offsetsD count l=some (vs,r)):l=en (offsB (leastI vs) vs)++r/\∀x∈vs,Fits 1 x:=by
 obtain⟨p,l1,d,l2,t,hM,hd,hd64,hb,c1,c2,c3,h2⟩:=offsetsD_some h
 have hk64:∀k∈numsOf t d count,k<18446744073709551616:=by
  intro k hk
  unfold numsOf at hk
  obtain⟨i,_,rfl⟩:=List.mem_map.1 hk
  exact numAt_lt _ _ _ hd64
 have hlen:vs.length=count:=by rw[<-h2,List.length_map,nums_len]
 have hleast:leastI vs=sint p:=by
  by_cases h0:count=0
  ·rw[if_pos h0] at c3
   have:vs=[]:=List.eq_nil_of_length_eq_zero (by omega)
   rw[this,c3];exact least_nil
  ·rw[if_neg h0] at c3
   exact off_least c1 c3 h2
 have hoff:=off_map hk64 h2
 rw[hleast]
 exact⟨offs_bytes hM hd hb (by rw[widL_fold,hoff];exact c2.symm) hoff hlen,off_fit h2⟩
theorem valuesD_forth{sch:Nat}{kind:Int}(hk:kind=1∨kind=2){count:Nat}{l r:List UInt8}{vs:List Val}(h:valuesD sch kind count l=some (vs,r)) :
  ∃b,BodyB sch vs b/\l=en b++r/\(∀x∈vs,Fits kind x)/\(sch=4->kind=1)/\1<=sch/\sch<=4:=by
 unfold valuesD at h
 split at h
 ·rename_i hs
  obtain⟨e,f⟩:=plainsD_forth hk _ h
  exact⟨_,.inl ⟨hs,rfl⟩,e,f,by omega,by omega,by omega⟩
 ·split at h
  ·rename_i hs
   cases hn:numD 4 l with
   | none=>rw[hn] at h;cases h
   | some p=>
    obtain⟨m,l1⟩:=p
    rw[hn,Option.bind_some] at h
    cases hr:runsD kind count m l1 with
    | none=>rw[hr] at h;cases h
    | some q=>
     rw[hr,Option.bind_some] at h
     obtain⟨hlen,h2⟩:=ite_some h
     rw[h2,runsD_G] at hr
     obtain⟨ys,e1,e2,e3,e4,_⟩:=runsG_forth hk m hr
     rw[List.nil_append] at e1
     subst e1
     obtain⟨g1,_⟩:=numD_forth hn
     refine⟨_,.inr (.inl ⟨hs,rfl⟩),?_,e4,by omega,by omega,by omega⟩
     rw[e3,en_append,List.append_assoc,<-e2]
     exact g1
  ·split at h
   ·rename_i hs
    obtain⟨W,h1,h2,h3⟩:=wordsD_forth hk h
    exact⟨_,.inr (.inr (.inl ⟨hs,W,h1,rfl⟩)),h2,h3,by omega,by omega,by omega⟩
   ·split at h
    ·rename_i hs
     obtain⟨rfl,rfl⟩:=hs
     obtain⟨h1,h2⟩:=offsD_forth h
     exact⟨_,.inr (.inr (.inr ⟨rfl,rfl⟩)),h1,h2,fun _=>rfl,by omega,by omega⟩
    ·cases h
theorem spread_forth:∀(nl:List Bool) (vs:List Val),nl.count false=vs.length->(∀v∈vs,nullB v=false)->(spreadL nl vs).map nullB=nl/\standL (spreadL nl vs)=vs/\∀x∈spreadL nl vs,x.k=0->x=.null
 | [],vs,h,_=>by
  have:vs=[]:=List.eq_nil_of_length_eq_zero (by simpa using h.symm)
  subst this
  exact⟨rfl,rfl,by simp[spreadL]⟩
 | true::nl,vs,h,hv=>by
  obtain⟨h1,h2,h3⟩:=spread_forth nl vs (by simpa using h) hv
  refine⟨by rw[spreadL,List.map_cons,h1];rfl,?_,?_⟩
  ·rw[spreadL]
   unfold standL at h2 ⊢
   rw[List.filter_cons]
   simp[Val.null,h2]
  ·intro x hx
   rcases List.mem_cons.1 hx with rfl|hx
   ·exact fun _=>rfl
   ·exact h3 x hx
 | false::nl,vs,h,hv=>by
  cases vs with
  | nil=>simp at h
  | cons v vs=>
   obtain⟨h1,h2,h3⟩:=spread_forth nl vs (by simpa using h) (fun y hy=>hv y (List.mem_cons_of_mem _ hy))
   have hn:=hv v (by simp)
   have hk:(v.k != 0)=true:=by
    unfold nullB at hn
    rw[bne,hn];rfl
   refine⟨?_,?_,?_⟩
   ·rw[spreadL,List.map_cons]
    show nullB v::(spreadL nl vs).map nullB=_
    rw[hn,h1]
   ·rw[spreadL]
    unfold standL at h2 ⊢
    rw[List.filter_cons]
    show (if (v.k != 0)=true then v::List.filter _ (spreadL nl vs) else _)=_
    rw[if_pos hk,h2]
   ·intro x hx
    rcases List.mem_cons.1 hx with hx|hx
    ·intro h0
     exfalso
     have:x=v:=hx
     rw[this] at h0
     simp[h0] at hk
    ·exact h3 x hx
theorem fits_nn{kind:Int}{x:Val}(h:Fits kind x):nullB x=false:=by
 rcases h with ⟨_,n,_,_,rfl⟩|⟨_,s,_,rfl⟩<;>rfl
theorem columnD_forth{l:List UInt8}{sch:Nat}{kind:Int}{xs:List Val}(h:columnD l=some (sch,kind,xs)) :
  ∃b,(kind=1∨kind=2)/\xs.length<=4096/\1<=sch/\sch<=4/\(sch=4->kind=1)/\BodyB sch (standL xs) b/\l=en (headB sch kind.toNat xs++b)/\(∀x∈standL xs,Fits kind x)/\(∀x∈xs,x.k=0->x=.null):=by
 obtain⟨l1,kd,l2,n,l3,nl,l4,vs,h1,h2,rfl,hk,h3,hn,h4,h5,rfl⟩:=columnD_some h
 have hki:((kd:Int))=1∨(kd:Int)=2:=by omega
 obtain⟨b,b1,b2,b3,b4,b5,b6⟩:=valuesD_forth hki h5
 have hvl:=valuesD_len h5
 have hnl:=(nullsD_len h4).1
 obtain⟨s1,s2,s3⟩:=spread_forth nl vs hvl.symm (fun v hv=>fits_nn (b3 v hv))
 have hlen:(spreadL nl vs).length=n:=by
  have:=congrArg List.length s1
  rw[List.length_map] at this
  omega
 refine⟨b,hki,by omega,b5,b6,b4,by rw[s2];exact b1,?_,by rw[s2];exact b3,s3⟩
 obtain⟨e1,_⟩:=numD_forth h1
 obtain⟨e2,_⟩:=numD_forth h2
 obtain⟨e3,_⟩:=numD_forth h3
 have e4:=nullsD_forth h4 s1
 rw[List.append_nil] at b2
 unfold headB
 rw[hlen,Int.toNat_natCast,en_append,en_append,en_append,en_append,List.append_assoc,List.append_assoc,List.append_assoc,<-b2,<-e4,<-e3,<-e2]
 exact e1
end Go.Proofs.YtbfibfmnemnbbaaGreat
set_option linter.unusedSimpArgs false
set_option linter.unusedVariables false
set_option maxRecDepth 100000
namespace Go.Proofs.YtbfibfmnemnbbaaGreat
open Go.RowKit Go.Sort
theorem fits_c{kind:Int}{x:Val}(h:Fits kind x):badK kind x=false/\largeB x.s=false/\-9223372036854775808<=x.n/\x.n<=9223372036854775807:=by
 rcases h with ⟨rfl,n,h1,h2,rfl⟩|⟨rfl,s,h1,rfl⟩
 ·refine⟨rfl,large_le.2 ?_,h1,h2⟩
  show (0:Nat)<=1000
  omega
 ·exact⟨rfl,large_le.2 h1,by show -9223372036854775808<=(0:Int);decide,by show (0:Int)<=9223372036854775807;decide⟩
theorem read_col{l:List UInt8}{sch:Nat}{kind:Int}{xs:List Val}(h:columnD l=some (sch,kind,xs)):fromV kind xs=(laidV kind xs,0)/\∀x∈xs,cleanV x=x/\-9223372036854775808<=x.n/\x.n<=9223372036854775807:=by
 obtain⟨b,hk,hlen,h1,h4,h41,hb,hl,hf,h0⟩:=columnD_forth h
 have hall:∀x∈xs,cleanV x=x/\badK kind x=false/\largeB x.s=false/\-9223372036854775808<=x.n/\x.n<=9223372036854775807:=fun x hx=>by
  by_cases h0x:x.k=0
  ·rw[h0 x hx h0x]
   refine⟨rfl,?_,large_le.2 (by show (0:Nat)<=1000;omega),by show -9223372036854775808<=(0:Int);decide,by show (0:Int)<=9223372036854775807;decide⟩
   rcases hk with rfl|rfl<;>rfl
  ·have hx2:x∈standL xs:=List.mem_filter.2 ⟨hx,by simp[h0x]⟩
   have:=fits_c (hf x hx2)
   exact⟨fits_clean (hf x hx2),this.1,this.2.1,this.2.2⟩
 have ec:xs.map cleanV=xs:=by
  conv=>rhs;rw[<-List.map_id xs]
  exact List.map_congr_left fun y hy=>(hall y hy).1
 refine⟨?_,fun x hx=>⟨(hall x hx).1,(hall x hx).2.2.2⟩⟩
 unfold fromV
 rw[ec,if_neg,if_neg,if_neg]
 ·intro hh
  obtain⟨y,hy,hyy⟩:=List.any_eq_true.1 hh
  rw[(hall y hy).2.2.1] at hyy;cases hyy
 ·intro hh
  obtain⟨y,hy,hyy⟩:=List.any_eq_true.1 hh
  rw[(hall y hy).2.1] at hyy;cases hyy
 ·rcases hk with rfl|rfl<;>decide
end Go.Proofs.YtbfibfmnemnbbaaGreat
set_option linter.unusedSimpArgs false
set_option linter.unusedVariables false
set_option maxRecDepth 100000
namespace Go.Proofs.YtbfibfmnemnbbaaGreat
open Go.RowKit Go.Sort
def lowS(m x:Val):Val:=if m.k == 0 || decide (ordV x m<0) then x else m
def highS(m x:Val):Val:=if decide (0<ordV x m) then x else m
def spanT(xs:List Val)(k:Nat):Val×Val×Nat:=
 ((standL (xs.take k)).foldl lowS .null,(standL (xs.take k)).foldl highS .null,((xs.take k).filter (fun x=>x.k == 0)).length)
theorem stand_snoc(xs:List Val)(x:Val):standL (xs++[x])=standL xs++(if x.k == 0 then [] else [x]):=by
 unfold standL
 rw[List.filter_append]
 congr 1
 cases h:(x.k == 0)<;>simp[h,bne]<;>simp_all
theorem span_null{xs:List Val}{k:Nat}{x:Val}(h:xs[k]?=some x)(hx:(x.k == 0)=true):spanT xs (k+1)=((spanT xs k).1,(spanT xs k).2.1,(spanT xs k).2.2+1):=by
 obtain⟨h1,rfl⟩:=List.getElem?_eq_some_iff.1 h
 unfold spanT
 rw[List.take_succ_eq_append_getElem h1,stand_snoc,hx,if_pos rfl,List.append_nil,List.filter_append,List.length_append]
 simp[hx]
theorem span_val{xs:List Val}{k:Nat}{x:Val}(h:xs[k]?=some x)(hx:(x.k == 0)=false):spanT xs (k+1)=(lowS (spanT xs k).1 x,highS (spanT xs k).2.1 x,(spanT xs k).2.2):=by
 obtain⟨h1,rfl⟩:=List.getElem?_eq_some_iff.1 h
 unfold spanT
 rw[List.take_succ_eq_append_getElem h1,stand_snoc,hx,if_neg (by decide),List.foldl_append,List.foldl_append,List.filter_append,List.length_append]
 simp[hx]
end Go.Proofs.YtbfibfmnemnbbaaGreat
set_option linter.unusedSimpArgs false
set_option linter.unusedVariables false
set_option maxRecDepth 100000
namespace Go.Proofs.YtbfibfmnemnbbaaGreat
open Go.RowKit Go.Sort
def UnR(l:List UInt8)(X:Vc)(f:Int):Prop:=
 (f=0/\(∃sch,columnD l=some (sch,X.k,valsV X))/\fromV X.k (valsV X)=(X,0)/\X.nl.length<=4096/\X.ns.length<=4096/\X.ss.length<=4096)∨(f=2/\X=.zero/\columnD l=none)
theorem bs_of(s:ByteArray):bs s.data.toList=s:=by cases s;simp[bs]
end Go.Proofs.YtbfibfmnemnbbaaGreat
set_option linter.unusedSimpArgs false
set_option linter.unusedVariables false
set_option maxRecDepth 100000
namespace Go.Proofs.YtbfibfmnemnbbaaGreat
open Go.RowKit Go.Sort
def UnQ(w w':World)(l:List UInt8)(e:Ending):Prop:=
 ∃X p f,e=.returned (.tuple #[vecV X p,.int .i64 f])/\VecAt w' X p/\Own3 w' w.heap.size X p/\Hid (UnR l X f)/\Below w.heap.size w w'
theorem un_dmg{w w':World}{l:List UInt8}(hd:columnD l=none)(hb:Below w.heap.size w w'):UnQ w w' l (.returned (.tuple #[zeroVec,.int .i64 2])):=
 ⟨.zero,⟨none,0,none,0,none,0⟩,2,rfl,VecAt.zero _,Own3.zero _ _,.inr ⟨rfl,rfl,hd⟩,hb⟩
theorem put4{w W:World}(hb:Below w.heap.size w W)(u v x y:Value):Below w.heap.size w ((((W.setCell ⟨w.heap.size,0,none⟩ u).setCell ⟨w.heap.size,1,none⟩ v).setCell ⟨w.heap.size,2,none⟩ x).setCell ⟨w.heap.size,3,none⟩ y):=
 ((((hb.setCell (by simp) _).setCell (by simp) _).setCell (by simp) _).setCell (by simp) _)
abbrev zero26:Obj:=.cells #[.int .i64 0,.slice none 0 0,.slice none 0 0,.slice none 0 0] 56
theorem zero26_facts{w W:World}(h:Below (w.alloc zero26).heap.size (w.alloc zero26) W) :
  (W.cell? ⟨w.heap.size,0,none⟩=some (.int .i64 0)/\W.cell? ⟨w.heap.size,1,none⟩=some (.slice none 0 0)/\W.cell? ⟨w.heap.size,2,none⟩=some (.slice none 0 0)/\W.cell? ⟨w.heap.size,3,none⟩=some (.slice none 0 0))/\(W.frozen? ⟨w.heap.size,0,none⟩=false/\W.frozen? ⟨w.heap.size,1,none⟩=false/\W.frozen? ⟨w.heap.size,2,none⟩=false/\W.frozen? ⟨w.heap.size,3,none⟩=false):=by
 have hr:(w.alloc zero26).rowIs w.heap.size 56 4 (box4 (.int .i64 0) (.slice none 0 0) (.slice none 0 0) (.slice none 0 0)):=by
  refine World.rowIs_alloc w _ 56 _ ?_
  intro i hi
  match i,hi with
  | 0,_=>rfl
  | 1,_=>rfl
  | 2,_=>rfl
  | 3,_=>rfl
 obtain⟨h0,h1,h2,h3,f0,f1,f2,f3⟩:=box_facts (rowIs_later hr h)
 exact⟨⟨h0,h1,h2,h3⟩,f0,f1,f2,f3⟩
theorem alloc_sz(w:World)(o:Obj):(w.alloc o).heap.size=w.heap.size+1:=by simp
end Go.Proofs.YtbfibfmnemnbbaaGreat
set_option linter.unusedSimpArgs false
set_option linter.unusedVariables false
set_option maxHeartbeats 400000
set_option maxRecDepth 100000
namespace Go.Proofs.YtbfibfmnemnbbaaGreat
open Go.RowKit Go.Sort
def Shut(s:ByteArray):Prop:=∀W,Calls Tryz.prog 92 #[.string s] W fun e w'=>e=.returned (.tuple #[.agg #[.int .i64 0,.int .i64 0,.slice none 0 0],.int .i64 2])/\Below W.heap.size W w'
theorem shut_of{s:ByteArray}(hl:s.size<=140737488355328)(h:columnD s.data.toList=none):Shut s:=fun W=>by
 have:=opened_no (w:=W) (by rw[Array.length_toList];exact hl) h
 rw[bs_of] at this
 exact this
theorem pread_no{s:ByteArray}(h:Shut s)(w:World):Calls Tryz.prog 68 #[.string s] w fun e w'=>e=.returned (.tuple #[zeroVec,.int .i64 2])/\Below w.heap.size w w':=by
 have H:=hide h
 clear h
 go_enter Tryz.func68,Tryz.ntmps68
 go_wp2_with (go_at_call 92;refine(unhide H _).mono ?_;rintro e w1 ⟨rfl,hb1⟩;obtain⟨⟨b0,b1,b2,b3⟩,q0,q1,q2,q3⟩:=zero26_facts (below_alloc hb1 (.cells #[.int .i64 0,.int .i64 0,.slice none 0 0] 134)))
 refine bodyPost_ret (v:=.tuple #[zeroVec,.int .i64 2]) (by simp[results,Tryz.results68,go_sem,zeroVec, *]) rfl ⟨rfl,?_⟩
 exact put4 (below_alloc (below_one hb1) _) _ _ _ _
abbrev zero37:Obj:=.cells #[.int .i64 0,.int .i64 0,.string ⟨#[]⟩] 25
theorem zero37_facts{w W:World}{B:Nat}{o:Obj}(hB:B=w.heap.size)(ho:o=zero37)(h:Below (w.alloc o).heap.size (w.alloc o) W) :
  (W.cell? ⟨B,0,none⟩=some (.int .i64 0)/\W.cell? ⟨B,1,none⟩=some (.int .i64 0)/\W.cell? ⟨B,2,none⟩=some (.string ⟨#[]⟩))/\(W.frozen? ⟨B,0,none⟩=false/\W.frozen? ⟨B,1,none⟩=false/\W.frozen? ⟨B,2,none⟩=false):=by
 subst hB ho
 obtain⟨h0,h1,h2,f0,f1,f2⟩:=box3_facts (rowIs_later (box3_alloc w Val.null) h)
 exact⟨⟨h0,h1,h2⟩,f0,f1,f2⟩
theorem put3{w W:World}{B:Nat}(hb:Below w.heap.size w W)(hB:w.heap.size<=B)(u v x:Value):Below w.heap.size w (((W.setCell ⟨B,0,none⟩ u).setCell ⟨B,1,none⟩ v).setCell ⟨B,2,none⟩ x):=
 (((hb.setCell (by simpa using hB) _).setCell (by simpa using hB) _).setCell (by simpa using hB) _)
end Go.Proofs.YtbfibfmnemnbbaaGreat
set_option linter.unusedSimpArgs false
set_option linter.unusedVariables false
set_option maxHeartbeats 2000000
set_option maxRecDepth 100000
namespace Go.Proofs.YtbfibfmnemnbbaaGreat
open Go.RowKit Go.Sort
theorem order_q(x y:Val)(w:World):Calls Tryz.prog 80 #[.agg #[.int .i64 x.k,.int .i64 x.n,.string x.s],.agg #[.int .i64 y.k,.int .i64 y.n,.string y.s]] w fun e w'=>e=.returned (.int .i64 (ordV x y))/\Below w.heap.size w w':=order_any x y w
theorem pnull_q(x:Val)(w:World):Calls Tryz.prog 93 #[.agg #[.int .i64 x.k,.int .i64 x.n,.string x.s]] w fun e w'=>e=.returned (.bool (x.k == 0))/\Below w.heap.size w w':=pnull_any x w
theorem box3_put{w:World}{g:Nat}{x:Val}(h:w.rowIs g 25 3 (box3 x))(y:Val):(((w.setCell ⟨g,0,none⟩ (.int .i64 y.k)).setCell ⟨g,1,none⟩ (.int .i64 y.n)).setCell ⟨g,2,none⟩ (.string y.s)).rowIs g 25 3 (box3 y):=
 World.rowIs.congr (World.rowIs.set (World.rowIs.set (World.rowIs.set h 0 (.int .i64 y.k)) 1 (.int .i64 y.n)) 2 (.string y.s)) (fun i hi=>by
  match i,hi with
  | 0,_=>rfl
  | 1,_=>rfl
  | 2,_=>rfl)
theorem box3_other{w:World}{g B:Nat}{x:Val}(h:w.rowIs g 25 3 (box3 x))(hne:g≠B)(u v z:Value):(((w.setCell ⟨B,0,none⟩ u).setCell ⟨B,1,none⟩ v).setCell ⟨B,2,none⟩ z).rowIs g 25 3 (box3 x):=
 World.rowIs.setOther (World.rowIs.setOther (World.rowIs.setOther h hne _) hne _) hne _
def Tri(W:World)(a b c:Nat)(L G x:Val):Prop:=W.rowIs a 25 3 (box3 L)/\W.rowIs b 25 3 (box3 G)/\W.rowIs c 25 3 (box3 x)
theorem Tri.later{W W':World}{a b c:Nat}{L G x:Val}(h:Tri W a b c L G x)(hb:Below W.heap.size W W'):Tri W' a b c L G x:=⟨rowIs_later h.1 hb,rowIs_later h.2.1 hb,rowIs_later h.2.2 hb⟩
theorem span_any{s:ByteArray}{sch:Nat}{kind:Int}{xs:List Val}(h:Opens s sch kind xs)(hl:xs.length<=4096)(w:World) :
  Calls Tryz.prog 63 #[.string s] w fun e w'=>e=.returned (.tuple #[(spanT xs xs.length).1.v,(spanT xs xs.length).2.1.v,.int .i64 ((spanT xs xs.length).2.2:Nat),.int .i64 0])/\Below w.heap.size w w':=by
 have H:=hide h
 clear h
 obtain⟨R,hR⟩:∃R,R=spanT xs xs.length:=⟨_,rfl⟩
 rw[<-hR]
 have HR:=hide hR
 clear hR
 go_enter Tryz.func63,Tryz.ntmps63
 go_wp2_with (go_at_call 92;refine(unhide H _).mono ?_;rintro e w1 ⟨a,c,rfl,hr1,hb1⟩)
 have hB1:=below_alloc (below_one (below_one hb1)) (.cells #[.int .i64 (sch:Int),.int .i64 kind,.slice a xs.length c] 134)
 have hB2:=below_alloc (below_one hb1) (.cells #[.int .i64 (sch:Int),.int .i64 kind,.slice a xs.length c] 134)
 have hB3:=below_alloc hb1 (.cells #[.int .i64 (sch:Int),.int .i64 kind,.slice a xs.length c] 134)
 have hr2:=hr1.later (below_alloc (Below.refl _ _) (.cells #[.int .i64 (sch:Int),.int .i64 kind,.slice a xs.length c] 134))
 obtain⟨W,hW⟩:∃W,W=w1.alloc (.cells #[.int .i64 (sch:Int),.int .i64 kind,.slice a xs.length c] 134):=⟨_,rfl⟩
 have hcell:W.cell? ⟨w1.heap.size,2,none⟩=some (.slice a xs.length c):=by rw[hW];simp[go_sem]
 have hWs:W.heap.size=w1.heap.size+1:=by rw[hW];simp
 have hz1:w.heap.size+1+1<=w1.heap.size:=by have:=hb1.size;simp at this;omega
 rw[<-hW] at hB1 hB2 hB3 hr2 ⊢
 have HB1:=hide hB1
 have HB2:=hide hB2
 have HB3:=hide hB3
 have HRW:=hide hr2
 have HA8:Hid (((W.alloc zero37).alloc zero37).rowIs (w1.heap.size+1) 25 3 (box3 Val.null)):=by rw[<-hWs];exact World.rowIs.alloc (box3_alloc W Val.null) _
 have HA9:Hid (((W.alloc zero37).alloc zero37).rowIs (w1.heap.size+1+1) 25 3 (box3 Val.null)):=by
  have:=box3_alloc (W.alloc zero37) Val.null
  rw[alloc_sz,hWs] at this
  exact this
 have hzW:w.heap.size+1+1<=W.heap.size:=by omega
 have HWS:=hide hWs
 clear hB1 hB2 hB3 hr1 hr2 hW hb1 hWs hzW
 go_loopw[10,26] (fun v i wr=>∃(k:Nat) (L G:Val) (N:Nat),k<=xs.length/\i=.int .i64 (k:Int)/\v=.int .i64 (N:Int)/\N<=k/\Hid (spanT xs k=(L,G,N))/\wr.rowIs (w1.heap.size+1) 25 3 (box3 L)/\wr.rowIs (w1.heap.size+1+1) 25 3 (box3 G)/\Below W.heap.size W wr) (fun _ i _=>xs.length-(intOf i).toNat)
 case atStart=>exact⟨0,.null,.null,0,Nat.zero_le _,rfl,rfl,Nat.le_refl _,rfl,unhide HA8,unhide HA9,below_alloc (below_alloc (Below.refl _ _) _) _⟩
 case round=>
  obtain⟨k,L,G,N,hk,rfl,rfl,hNk,HS,h8,h9',hb⟩:=hrel
  have hwz:w1.heap.size+1+1<wr.heap.size:=World.rowIs.lt h9'
  by_cases hlt:k<xs.length
  ·have h9:(k:Int)<(xs.length:Int):=by omega
   obtain⟨x,hx⟩:∃x,xs[k]?=some x:=⟨_,List.getElem?_eq_getElem hlt⟩
   obtain⟨vb,vo,rfl,c0,c1,c2⟩:=((unhide HRW).later hb).lo hx
   have HNN:(x.k == 0)=true->Hid (spanT xs (k+1)=(L,G,N+1)):=fun h0=>by show _=_;rw[span_null hx h0,unhide HS]
   have HNV:(x.k == 0)=false->Hid (spanT xs (k+1)=(lowS L x,highS G x,N)):=fun h0=>by show _=_;rw[span_val hx h0,unhide HS]
   have HT:Hid (Tri (wr.alloc (.cells #[.int .i64 x.k,.int .i64 x.n,.string x.s] 25)) (w1.heap.size+1) (w1.heap.size+1+1) wr.heap.size L G x):=⟨World.rowIs.alloc h8 _,World.rowIs.alloc h9' _,box3_alloc wr x⟩
   have HB:=hide (below_alloc hb (.cells #[.int .i64 x.k,.int .i64 x.n,.string x.s] 25))
   clear h8 h9' hb hx
   cases hx0:(x.k == 0)
   ·have HN:=HNV hx0
    have HQ:=hide (pnull_q x)
    rw[hx0] at HQ
    clear HNN HNV hx0
    have HQL:=hide (pnull_q L)
    have HOL:=hide (order_q x L)
    have HOG:=hide (order_q x G)
    have hne1:wr.heap.size≠w1.heap.size+1:=by omega
    have hne2:wr.heap.size≠w1.heap.size+1+1:=by omega
    have hcase:((L.k == 0)=true)∨((L.k == 0)=false/\ordV x L<0)∨((L.k == 0)=false/\¬ordV x L<0):=by
     cases (L.k == 0)
     ·by_cases h:ordV x L<0
      ·exact .inr (.inl ⟨rfl,h⟩)
      ·exact .inr (.inr ⟨rfl,h⟩)
     ·exact .inl rfl
    have hcG:(0<ordV x G)∨¬(0<ordV x G):=by omega
    have hlow:lowS L x=if (L.k == 0) || decide (ordV x L<0) then x else L:=rfl
    have hhigh:highS G x=if decide (0<ordV x G) then x else G:=rfl
    rw[hlow,hhigh] at HN
    clear hlow hhigh
    generalize ordV x L=oL at *
    generalize ordV x G=oG at *
    generalize (L.k == 0)=bL at *
    rcases hcase with rfl|⟨rfl,hoL⟩|⟨rfl,hoL⟩<;>rcases hcG with hoG|hoG
    ·have HNF:Hid (spanT xs (k+1)=(x,x,N)):=by
      have h:=unhide HN
      show _=_
      simpa [hoG] using h
     clear HN
     go_wp2_with (first
      | (go_at_call_of 93 (Value.agg #[Value.int IntKind.i64 x.k,Value.int IntKind.i64 x.n,Value.string x.s]);refine(unhide HQ _).mono ?_;rintro e wa ⟨rfl,hba⟩;have Ta:=(unhide HT).later hba;obtain⟨l0,l1,l2,_,_,_⟩:=box3_facts Ta.1)
      | (go_at_call_of 93 (Value.agg #[Value.int IntKind.i64 L.k,Value.int IntKind.i64 L.n,Value.string L.s]);refine(unhide HQL _).mono ?_;rintro e wb ⟨rfl,hbb⟩;have Tb:=Ta.later hbb;obtain⟨l0,l1,l2,f0,f1,f2⟩:=box3_facts Tb.1;obtain⟨x0,x1,x2,_,_,_⟩:=box3_facts Tb.2.2;obtain⟨g0,g1,g2,_,_,_⟩:=box3_facts Tb.2.1)
      | (go_at_call_of 80 (Value.agg #[Value.int IntKind.i64 G.k,Value.int IntKind.i64 G.n,Value.string G.s]);refine(unhide HOG _).mono ?_;rintro e wd ⟨rfl,hbd⟩;have Td:=Tri.later (⟨box3_put Tb.1 x,box3_other Tb.2.1 (by omega) _ _ _,box3_other Tb.2.2 (by omega) _ _ _⟩:Tri _ (w1.heap.size+1) (w1.heap.size+1+1) wr.heap.size x G x) hbd;obtain⟨x0,x1,x2,_,_,_⟩:=box3_facts Td.2.2;obtain⟨g0,g1,g2,f3,f4,f5⟩:=box3_facts Td.2.1))
     go_roundw
     case rel=>exact⟨k+1,x,x,N,by omega,by go_num,rfl,by omega,HNF,box3_other Td.1 (by omega) _ _ _,box3_put Td.2.1 x,put3 (below_step (put3 (below_step (below_step (unhide HB) hba) hbb) (by rw[unhide HWS];omega) _ _ _) hbd) (by rw[unhide HWS];omega) _ _ _⟩
     case measure=>simp[intOf];omega
    ·have HNF:Hid (spanT xs (k+1)=(x,G,N)):=by
      have h:=unhide HN
      show _=_
      simpa [hoG] using h
     clear HN
     go_wp2_with (first
      | (go_at_call_of 93 (Value.agg #[Value.int IntKind.i64 x.k,Value.int IntKind.i64 x.n,Value.string x.s]);refine(unhide HQ _).mono ?_;rintro e wa ⟨rfl,hba⟩;have Ta:=(unhide HT).later hba;obtain⟨l0,l1,l2,_,_,_⟩:=box3_facts Ta.1)
      | (go_at_call_of 93 (Value.agg #[Value.int IntKind.i64 L.k,Value.int IntKind.i64 L.n,Value.string L.s]);refine(unhide HQL _).mono ?_;rintro e wb ⟨rfl,hbb⟩;have Tb:=Ta.later hbb;obtain⟨l0,l1,l2,f0,f1,f2⟩:=box3_facts Tb.1;obtain⟨x0,x1,x2,_,_,_⟩:=box3_facts Tb.2.2;obtain⟨g0,g1,g2,_,_,_⟩:=box3_facts Tb.2.1)
      | (go_at_call_of 80 (Value.agg #[Value.int IntKind.i64 G.k,Value.int IntKind.i64 G.n,Value.string G.s]);refine(unhide HOG _).mono ?_;rintro e wd ⟨rfl,hbd⟩;have Td:=Tri.later (⟨box3_put Tb.1 x,box3_other Tb.2.1 (by omega) _ _ _,box3_other Tb.2.2 (by omega) _ _ _⟩:Tri _ (w1.heap.size+1) (w1.heap.size+1+1) wr.heap.size x G x) hbd;obtain⟨x0,x1,x2,_,_,_⟩:=box3_facts Td.2.2;obtain⟨g0,g1,g2,f3,f4,f5⟩:=box3_facts Td.2.1))
     go_roundw
     case rel=>exact⟨k+1,x,G,N,by omega,by go_num,rfl,by omega,HNF,Td.1,Td.2.1,below_step (put3 (below_step (below_step (unhide HB) hba) hbb) (by rw[unhide HWS];omega) _ _ _) hbd⟩
     case measure=>simp[intOf];omega
    ·have HNF:Hid (spanT xs (k+1)=(x,x,N)):=by
      have h:=unhide HN
      show _=_
      simpa [hoG,hoL] using h
     clear HN
     go_wp2_with (first
      | (go_at_call_of 93 (Value.agg #[Value.int IntKind.i64 x.k,Value.int IntKind.i64 x.n,Value.string x.s]);refine(unhide HQ _).mono ?_;rintro e wa ⟨rfl,hba⟩;have Ta:=(unhide HT).later hba;obtain⟨l0,l1,l2,_,_,_⟩:=box3_facts Ta.1)
      | (go_at_call_of 93 (Value.agg #[Value.int IntKind.i64 L.k,Value.int IntKind.i64 L.n,Value.string L.s]);refine(unhide HQL _).mono ?_;rintro e wb ⟨rfl,hbb⟩;have Tb:=Ta.later hbb;obtain⟨l0,l1,l2,f0,f1,f2⟩:=box3_facts Tb.1;obtain⟨x0,x1,x2,_,_,_⟩:=box3_facts Tb.2.2;obtain⟨g0,g1,g2,_,_,_⟩:=box3_facts Tb.2.1)
      | (go_at_call_of 80 (Value.agg #[Value.int IntKind.i64 L.k,Value.int IntKind.i64 L.n,Value.string L.s]);refine(unhide HOL _).mono ?_;rintro e wc ⟨rfl,hbc⟩;have Tc:=Tb.later hbc;obtain⟨l0,l1,l2,f0,f1,f2⟩:=box3_facts Tc.1;obtain⟨x0,x1,x2,_,_,_⟩:=box3_facts Tc.2.2;obtain⟨g0,g1,g2,_,_,_⟩:=box3_facts Tc.2.1)
      | (go_at_call_of 80 (Value.agg #[Value.int IntKind.i64 G.k,Value.int IntKind.i64 G.n,Value.string G.s]);refine(unhide HOG _).mono ?_;rintro e wd ⟨rfl,hbd⟩;have Td:=Tri.later (⟨box3_put Tc.1 x,box3_other Tc.2.1 (by omega) _ _ _,box3_other Tc.2.2 (by omega) _ _ _⟩:Tri _ (w1.heap.size+1) (w1.heap.size+1+1) wr.heap.size x G x) hbd;obtain⟨x0,x1,x2,_,_,_⟩:=box3_facts Td.2.2;obtain⟨g0,g1,g2,f3,f4,f5⟩:=box3_facts Td.2.1))
     go_roundw
     case rel=>exact⟨k+1,x,x,N,by omega,by go_num,rfl,by omega,HNF,box3_other Td.1 (by omega) _ _ _,box3_put Td.2.1 x,put3 (below_step (put3 (below_step (below_step (below_step (unhide HB) hba) hbb) hbc) (by rw[unhide HWS];omega) _ _ _) hbd) (by rw[unhide HWS];omega) _ _ _⟩
     case measure=>simp[intOf];omega
    ·have HNF:Hid (spanT xs (k+1)=(x,G,N)):=by
      have h:=unhide HN
      show _=_
      simpa [hoG,hoL] using h
     clear HN
     go_wp2_with (first
      | (go_at_call_of 93 (Value.agg #[Value.int IntKind.i64 x.k,Value.int IntKind.i64 x.n,Value.string x.s]);refine(unhide HQ _).mono ?_;rintro e wa ⟨rfl,hba⟩;have Ta:=(unhide HT).later hba;obtain⟨l0,l1,l2,_,_,_⟩:=box3_facts Ta.1)
      | (go_at_call_of 93 (Value.agg #[Value.int IntKind.i64 L.k,Value.int IntKind.i64 L.n,Value.string L.s]);refine(unhide HQL _).mono ?_;rintro e wb ⟨rfl,hbb⟩;have Tb:=Ta.later hbb;obtain⟨l0,l1,l2,f0,f1,f2⟩:=box3_facts Tb.1;obtain⟨x0,x1,x2,_,_,_⟩:=box3_facts Tb.2.2;obtain⟨g0,g1,g2,_,_,_⟩:=box3_facts Tb.2.1)
      | (go_at_call_of 80 (Value.agg #[Value.int IntKind.i64 L.k,Value.int IntKind.i64 L.n,Value.string L.s]);refine(unhide HOL _).mono ?_;rintro e wc ⟨rfl,hbc⟩;have Tc:=Tb.later hbc;obtain⟨l0,l1,l2,f0,f1,f2⟩:=box3_facts Tc.1;obtain⟨x0,x1,x2,_,_,_⟩:=box3_facts Tc.2.2;obtain⟨g0,g1,g2,_,_,_⟩:=box3_facts Tc.2.1)
      | (go_at_call_of 80 (Value.agg #[Value.int IntKind.i64 G.k,Value.int IntKind.i64 G.n,Value.string G.s]);refine(unhide HOG _).mono ?_;rintro e wd ⟨rfl,hbd⟩;have Td:=Tri.later (⟨box3_put Tc.1 x,box3_other Tc.2.1 (by omega) _ _ _,box3_other Tc.2.2 (by omega) _ _ _⟩:Tri _ (w1.heap.size+1) (w1.heap.size+1+1) wr.heap.size x G x) hbd;obtain⟨x0,x1,x2,_,_,_⟩:=box3_facts Td.2.2;obtain⟨g0,g1,g2,f3,f4,f5⟩:=box3_facts Td.2.1))
     go_roundw
     case rel=>exact⟨k+1,x,G,N,by omega,by go_num,rfl,by omega,HNF,Td.1,Td.2.1,below_step (put3 (below_step (below_step (below_step (unhide HB) hba) hbb) hbc) (by rw[unhide HWS];omega) _ _ _) hbd⟩
     case measure=>simp[intOf];omega
    ·have HNF:Hid (spanT xs (k+1)=(L,x,N)):=by
      have h:=unhide HN
      show _=_
      simpa [hoG,hoL] using h
     clear HN
     go_wp2_with (first
      | (go_at_call_of 93 (Value.agg #[Value.int IntKind.i64 x.k,Value.int IntKind.i64 x.n,Value.string x.s]);refine(unhide HQ _).mono ?_;rintro e wa ⟨rfl,hba⟩;have Ta:=(unhide HT).later hba;obtain⟨l0,l1,l2,_,_,_⟩:=box3_facts Ta.1)
      | (go_at_call_of 93 (Value.agg #[Value.int IntKind.i64 L.k,Value.int IntKind.i64 L.n,Value.string L.s]);refine(unhide HQL _).mono ?_;rintro e wb ⟨rfl,hbb⟩;have Tb:=Ta.later hbb;obtain⟨l0,l1,l2,f0,f1,f2⟩:=box3_facts Tb.1;obtain⟨x0,x1,x2,_,_,_⟩:=box3_facts Tb.2.2;obtain⟨g0,g1,g2,_,_,_⟩:=box3_facts Tb.2.1)
      | (go_at_call_of 80 (Value.agg #[Value.int IntKind.i64 L.k,Value.int IntKind.i64 L.n,Value.string L.s]);refine(unhide HOL _).mono ?_;rintro e wc ⟨rfl,hbc⟩;have Tc:=Tb.later hbc;obtain⟨l0,l1,l2,f0,f1,f2⟩:=box3_facts Tc.1;obtain⟨x0,x1,x2,_,_,_⟩:=box3_facts Tc.2.2;obtain⟨g0,g1,g2,_,_,_⟩:=box3_facts Tc.2.1)
      | (go_at_call_of 80 (Value.agg #[Value.int IntKind.i64 G.k,Value.int IntKind.i64 G.n,Value.string G.s]);refine(unhide HOG _).mono ?_;rintro e wd ⟨rfl,hbd⟩;have Td:=Tri.later Tc hbd;obtain⟨x0,x1,x2,_,_,_⟩:=box3_facts Td.2.2;obtain⟨g0,g1,g2,f3,f4,f5⟩:=box3_facts Td.2.1))
     go_roundw
     case rel=>exact⟨k+1,L,x,N,by omega,by go_num,rfl,by omega,HNF,box3_other Td.1 (by omega) _ _ _,box3_put Td.2.1 x,put3 (below_step (below_step (below_step (below_step (unhide HB) hba) hbb) hbc) hbd) (by rw[unhide HWS];omega) _ _ _⟩
     case measure=>simp[intOf];omega
    ·have HNF:Hid (spanT xs (k+1)=(L,G,N)):=by
      have h:=unhide HN
      show _=_
      simpa [hoG,hoL] using h
     clear HN
     go_wp2_with (first
      | (go_at_call_of 93 (Value.agg #[Value.int IntKind.i64 x.k,Value.int IntKind.i64 x.n,Value.string x.s]);refine(unhide HQ _).mono ?_;rintro e wa ⟨rfl,hba⟩;have Ta:=(unhide HT).later hba;obtain⟨l0,l1,l2,_,_,_⟩:=box3_facts Ta.1)
      | (go_at_call_of 93 (Value.agg #[Value.int IntKind.i64 L.k,Value.int IntKind.i64 L.n,Value.string L.s]);refine(unhide HQL _).mono ?_;rintro e wb ⟨rfl,hbb⟩;have Tb:=Ta.later hbb;obtain⟨l0,l1,l2,f0,f1,f2⟩:=box3_facts Tb.1;obtain⟨x0,x1,x2,_,_,_⟩:=box3_facts Tb.2.2;obtain⟨g0,g1,g2,_,_,_⟩:=box3_facts Tb.2.1)
      | (go_at_call_of 80 (Value.agg #[Value.int IntKind.i64 L.k,Value.int IntKind.i64 L.n,Value.string L.s]);refine(unhide HOL _).mono ?_;rintro e wc ⟨rfl,hbc⟩;have Tc:=Tb.later hbc;obtain⟨l0,l1,l2,f0,f1,f2⟩:=box3_facts Tc.1;obtain⟨x0,x1,x2,_,_,_⟩:=box3_facts Tc.2.2;obtain⟨g0,g1,g2,_,_,_⟩:=box3_facts Tc.2.1)
      | (go_at_call_of 80 (Value.agg #[Value.int IntKind.i64 G.k,Value.int IntKind.i64 G.n,Value.string G.s]);refine(unhide HOG _).mono ?_;rintro e wd ⟨rfl,hbd⟩;have Td:=Tri.later Tc hbd;obtain⟨x0,x1,x2,_,_,_⟩:=box3_facts Td.2.2;obtain⟨g0,g1,g2,f3,f4,f5⟩:=box3_facts Td.2.1))
     go_roundw
     case rel=>exact⟨k+1,L,G,N,by omega,by go_num,rfl,by omega,HNF,Td.1,Td.2.1,below_step (below_step (below_step (below_step (unhide HB) hba) hbb) hbc) hbd⟩
     case measure=>simp[intOf];omega
   ·have HN:=HNN hx0
    have HQ:=hide (pnull_q x)
    rw[hx0] at HQ
    clear HNN HNV hx0
    go_wp2_with (go_at_call 93;refine(unhide HQ _).mono ?_;rintro e wa ⟨rfl,hba⟩;have Ta:=(unhide HT).later hba)
    go_roundw
    case rel=>exact⟨k+1,L,G,N+1,by omega,by go_num,by go_num,by omega,HN,Ta.1,Ta.2.1,below_step (unhide HB) hba⟩
    case measure=>simp[intOf];omega
  ·have h9:¬(k:Int)<(xs.length:Int):=by omega
   have ek:k=xs.length:=by omega
   rw[ek,<-unhide HR] at HS
   have hRe:=unhide HS
   clear HR HS
   subst hRe
   obtain⟨l0,l1,l2,l3,l4,l5⟩:=box3_facts h8
   obtain⟨g0,g1,g2,g3,g4,g5⟩:=box3_facts h9'
   obtain⟨⟨b0,b1,b2⟩,q0,q1,q2⟩:=zero37_facts (B:=w.heap.size+1) (w:=w.alloc zero37) (by simp) rfl (below_step (unhide HB3) hb)
   obtain⟨⟨d0,d1,d2⟩,r0,r1,r2⟩:=zero37_facts (B:=w.heap.size) (w:=w) rfl rfl (below_step (unhide HB2) hb)
   have HE:=hide (below_step (unhide HB1) hb)
   have hn1:w.heap.size≠w1.heap.size+1:=by omega
   have hn2:w.heap.size≠w1.heap.size+1+1:=by omega
   have hn3:w.heap.size+1≠w1.heap.size+1:=by omega
   have hn4:w.heap.size+1≠w1.heap.size+1+1:=by omega
   clear ek h8 h9' hb
   go_wp2_with fail
   go_region
   go_wp2
   refine bodyPost_ret (v:=.tuple #[L.v,G.v,.int .i64 (N:Int),.int .i64 0]) (by simp[results,Tryz.results63,go_sem,Val.v, *]) rfl ⟨rfl,?_⟩
   have hz:w.heap.size<=w.heap.size+1:=by omega
   exact Below.drew (put3 (put3 (unhide HE) (Nat.le_refl _) _ _ _) hz _ _ _)
end Go.Proofs.YtbfibfmnemnbbaaGreat
set_option linter.unusedSimpArgs false
set_option linter.unusedVariables false
set_option maxRecDepth 100000
namespace Go.Proofs.YtbfibfmnemnbbaaGreat
open Go.RowKit Go.Sort
def stp(c:Nat):Nat:=(c / 2) ^^^ (if c % 2=1 then 3988292384 else 0)
def stpN:Nat->Nat->Nat
 | 0,c=>c
 | n+1,c=>stpN n (stp c)
theorem stpN_last:∀(n c:Nat),stpN (n+1) c=stp (stpN n c)
 | 0,c=>rfl
 | n+1,c=>by
  show stpN (n+1) (stp c)=stp (stpN n (stp c))
  exact stpN_last n (stp c)
theorem xor_half(a b:Nat):(a ^^^ b) / 2=a / 2 ^^^ b / 2:=by
 apply Nat.eq_of_testBit_eq
 intro i
 simp[Nat.testBit_div_two,Nat.testBit_xor]
theorem xor_odd(a b:Nat):(a ^^^ b) % 2=(a % 2+b % 2) % 2:=by
 have h:∀n:Nat,n % 2=(n.testBit 0).toNat:=fun n=>by rw[Nat.testBit_zero];rcases Nat.mod_two_eq_zero_or_one n with h|h<;>simp[h]
 rw[h (a ^^^ b),h a,h b,Nat.testBit_xor]
 cases a.testBit 0<;>cases b.testBit 0<;>rfl
theorem stp_xor(a b:Nat):stp (a ^^^ b)=stp a ^^^ stp b:=by
 unfold stp
 rw[xor_half,xor_odd]
 rcases Nat.mod_two_eq_zero_or_one a with h|h<;>rcases Nat.mod_two_eq_zero_or_one b with g|g<;>simp[h,g]
 ·rw[Nat.xor_assoc]
 ·rw[Nat.xor_assoc,Nat.xor_assoc,Nat.xor_comm (b / 2)]
 ·apply Nat.eq_of_testBit_eq
  intro i
  simp only[Nat.testBit_xor]
  cases (a / 2).testBit i<;>cases (b / 2).testBit i<;>cases (3988292384).testBit i<;>rfl
theorem stpN_xor:∀(n a b:Nat),stpN n (a ^^^ b)=stpN n a ^^^ stpN n b
 | 0,_,_=>rfl
 | n+1,a,b=>by
  show stpN n (stp (a ^^^ b))=stpN n (stp a) ^^^ stpN n (stp b)
  rw[stp_xor,stpN_xor n]
theorem stp_even(q:Nat):stp (2*q)=q:=by
 unfold stp
 rw[if_neg (by omega),Nat.xor_zero]
 omega
theorem stpN_high(q:Nat):stpN 8 (256*q)=q:=by
 show stp (stp (stp (stp (stp (stp (stp (stp (256*q))))))))=q
 rw[show 256*q=2*(2*(2*(2*(2*(2*(2*(2*q))))))) by omega]
 simp only[stp_even]
theorem split_byte(c:Nat):c=(256*(c / 256)) ^^^ (c % 256):=by
 apply Nat.eq_of_testBit_eq
 intro i
 have h:=Nat.testBit_two_pow_mul_add (c / 256) (i:=8) (b:=c % 256) (Nat.mod_lt _ (by decide)) i
 have h2:(2 ^ 8*(c / 256)).testBit i=(decide (i≥8) && Nat.testBit (c / 256) (i-8)):=Nat.testBit_two_pow_mul
 have e:2 ^ 8*(c / 256)+c % 256=c:=Nat.div_add_mod c 256
 rw[e] at h
 rw[Nat.testBit_xor,show (256:Nat)*(c / 256)=2 ^ 8*(c / 256) from rfl,h2,h]
 by_cases hi:i<8
 ·have h8:¬8<=i:=by omega
  simp[hi,h8]
 ·have h8:i≥8:=by omega
  have hz:(c % 256).testBit i=false:=Nat.testBit_lt_two_pow (Nat.lt_of_lt_of_le (Nat.mod_lt _ (by decide)) (Nat.pow_le_pow_right (by decide) h8:2 ^ 8<=2 ^ i))
  simp[hi,h8,hz]
theorem byte_step(c b:Nat):stpN 8 (c ^^^ b)=(c / 256) ^^^ stpN 8 ((c % 256) ^^^ b):=by
 conv=>lhs;rw[split_byte c,Nat.xor_assoc,stpN_xor,stpN_high]
theorem stp_small{c:Nat}(h:c<4294967296):stp c<4294967296:=by
 unfold stp
 exact Nat.xor_lt_two_pow (n:=32) (by omega) (by split<;>decide)
theorem stpN_small:∀(n:Nat) {c:Nat},c<4294967296->stpN n c<4294967296
 | 0,_,h=>h
 | n+1,_,h=>stpN_small n (stp_small h)
def crcL:Nat->List UInt8->Nat
 | c,[]=>c
 | c,b::l=>crcL (stpN 8 (c ^^^ b.toNat)) l
theorem crcL_small:∀(l:List UInt8) {c:Nat},c<4294967296->crcL c l<4294967296
 | [],_,h=>h
 | b::l,_,h=>crcL_small l (stpN_small 8 (Nat.xor_lt_two_pow (n:=32) h (Nat.lt_of_lt_of_le b.toNat_lt (by decide))))
theorem crcL_app:∀(l m:List UInt8) (c:Nat),crcL c (l++m)=crcL (crcL c l) m
 | [],_,_=>rfl
 | b::l,m,c=>crcL_app l m _
theorem crcL_next(s:ByteArray)(k:Nat)(h:k<s.size)(c:Nat):crcL c (s.data.toList.take (k+1))=stpN 8 (crcL c (s.data.toList.take k) ^^^ s[k].toNat):=by
 have hk:k<s.data.toList.length:=by simpa using h
 rw[List.take_succ_eq_append_getElem hk,crcL_app]
 rfl
end Go.Proofs.YtbfibfmnemnbbaaGreat
