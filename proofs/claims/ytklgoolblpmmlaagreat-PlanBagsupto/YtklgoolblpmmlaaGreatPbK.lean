import Derived.Test.YtklgoolblpmmlaaGreatJsA
import Derived.Test.YtklgoolblpmmlaaGreatJnN
import Derived.Test.YtklgoolblpmmlaaGreatPcS
import Derived.Test.YtklgoolblpmmlaaGreatJnE
import Derived.Test.YtklgoolblpmmlaaGreatAwB
import Derived.Test.YtklgoolblpmmlaaGreatWpA
import Derived.Test.YtklgoolblpmmlaaGreatBgB
import Derived.Test.YtklgoolblpmmlaaGreatStA
import Derived.Test.YtklgoolblpmmlaaGreatAnyG
import Derived.Test.YtklgoolblpmmlaaGreatPlN
set_option linter.all false
set_option maxHeartbeats 8000000
set_option maxRecDepth 100000
namespace Go.Proofs.YtklgoolblpmmlaaGreat
open Go.RowKit Go.Sort Go.Lib Go.Proofs.Tryz
mutual
theorem oX(row:List aH):∀(b:Ex),dE b->co row (dV b)=co row b
 | .mk f j k a,e=>by
  have g:=m6 row a (dJ e).2
  have i:=jQ e
  rw[dV,co,co,g]
  cases a with
  | nil=>
   rw[VM]
   simp only[fW]
   rcases i rfl with ⟨c,_⟩|d
   .have c:f=1:=c
    subst c;rfl
   .have d:f=2:=d
    subst d
    simp only[beq_self_eq_true,if_true]
    rw[ly]
  | cons l a=>
   rw[VM]
   cases a with
   | nil=>rw[VM];rfl
   | cons m a=>
    rw[VM]
    cases a with
    | nil=>rw[VM];rfl
    | cons n a=>rw[VM];rfl
theorem m6(row:List aH):∀(a:List Ex),Vn a->VM row (f5 a)=VM row a
 | [],_=>by rw[f5]
 | c::a,b=>by rw[Vn] at b;rw[f5,VM,VM,oX row c b.1,m6 row a b.2]
end
theorem tS(row:List aH)(a:Ex):bZ row (dV a)=bZ row a:=by
 unfold bZ;rw[nt];by_cases h:bJ a=true;.rw[ba h,ba h,oX row a (da h)]
 .rw[VU h,VU h]
theorem rV(row:List aH)(a:Ex):bZ row (dn a)=bZ row a:=by
 unfold dn;split;.exact tS row a
 .rfl
theorem vk(x a:aH):VK (dW 19 x a)=(VK x && VK a):=by unfold dW;rw[ba rfl];obtain⟨f,i,k⟩:=x;obtain⟨g,j,l⟩:=a;unfold VK jq dD;simp only[aH.num,aH.null];by_cases b:f=1<;>by_cases c:g=1<;>by_cases d:i=0<;>by_cases e:j=0<;>simp[b,c,d,e]
mutual
theorem mm(row:List aH):∀(c:Ex),(cH c).all (λp=>VK (bZ row p))=VK (bZ row c)
 | .mk f i j a=>by rw[cH];by_cases h:(f == 19 && bJ (.mk f i j a))=true;(.rw[ba h];simp only[cc,beq_iff_eq] at h;obtain⟨l,d⟩:=h;have o:=lh row a;(have g:∀b∈a,bJ b=true:=λb n=>by obtain⟨q,m⟩:=f9 n;exact hE (e:=.mk f i j a) d m);subst l;obtain⟨b,k,e⟩:=Vv (da d) (by show Vk 19=2;decide);have e:a=[b,k]:=e;subst e;rw[o];show _=VK (if bJ _ then _ else _);rw[ba d,co,VM,VM,VM];show _=VK (dW 19 _ _);rw[vk];simp only[List.all_cons,List.all_nil,Bool.and_true];unfold bZ;rw[ba (g b (by simp)),ba (g k (by simp))]);.rw[VU h];simp only[List.all_cons,List.all_nil,Bool.and_true];rw[rV]
theorem lh(row:List aH):∀(a:List Ex),(d0 a).all (λb=>VK (bZ row b))=a.all (λb=>VK (bZ row b))
 | []=>by rw[d0]
 | c::a=>by rw[d0,List.all_append,mm row c,lh row a,List.all_cons]
end
variable{k m n:Nat}{e:Ex}{x y:List aH}{A B r:List (List aH)}{o:Bool}{I:Int}{W X w:World}{p q:Pl}{T:List Tb}{u v:Value}{a b:Option Addr}
theorem Dk{row:List aH}(h:VK (bZ row e)=true):∃o,gu (eq0 n e) row=some o/\gu (eq1 n e) row=some o:=by
 have k:=h;rw[<-mm,List.all_eq_true] at k
 have g:∀b∈wD n e,bZ row b.1=bZ row b.2/\¬(bZ row b.1).k=0:=by
  intro b g;obtain⟨p,C,s,f,q,r⟩:=lX g;have a:=k p C;have v:=(rb q).1;have w:=(um r).1;have x:bJ p=true:=by unfold bZ at a;split at a;(.assumption);.cases a
  unfold bZ at a ⊢;rw[ba x,fZ,s] at a;rw[ba v,ba w]
  have key:∀c d:Ex,VK (Vz 12 (co row c) (co row d))=true->co row c=co row d/\¬(co row c).k=0:=by
   intro c d a;simp only[Vz,show decide ((12:Int)<=11)=false by decide,show decide ((12:Int)<=17)=true by decide,if_true,Bool.false_eq_true,if_false] at a;unfold gh at a;split at a;.cases a
   .rename_i A;(have B:ja (co row c)=false/\ja (co row d)=false:=by simpa using A);rw[er (t:=dk (co row c) (co row d) == 0) (by simp[g5])] at a
    have F:dk (co row c) (co row d)=0:=by
     cases l:(dk (co row c) (co row d) == 0) with
     | true=>simpa using l
     | false=>rw[l] at a;simp[VK,dD,aH.num] at a
    have m:=yk F;rw[(gK row c).1,(gK row d).1] at m;refine⟨m,λy=>?_⟩;have:=B.1;unfold ja at this;rw[(gK row c).1,y] at this;cases this
  rcases f with f|f;.rw[f,VM,VM,VM] at a;exact key b.1 b.2 a
  .rw[f,VM,VM,VM] at a;obtain⟨j,u⟩:=key b.2 b.1 a;exact⟨j.symm,by rw[<-j];exact u⟩
 have z:(eq0 n e).map (bZ row)=(eq1 n e).map (bZ row):=by unfold eq0 eq1;rw[List.map_map,List.map_map];exact List.map_congr_left λb h=>(g b h).1
 have i:gu (eq0 n e) row=some ((eq0 n e).map (bZ row)):=oU λG D=>by obtain⟨c,E,rfl⟩:=b6 D;obtain⟨b,h,rfl⟩:=b6 E;exact(g b h).2
 refine⟨_,i,?_⟩;unfold gu at i ⊢;rw[<-z];exact i
theorem Ef(b:List Bool)(d:List Nat)(a:Nat):(e9 b d)[a]?=if a∈d/\a<b.length then some true else b[a]?:=by
 unfold e9;induction d generalizing b with
 | nil=>simp
 | cons j d k=>rw[List.foldl_cons,k,List.length_set,List.getElem?_set];by_cases c:a∈d/\a<b.length;(.rw[ba c,ba ⟨List.mem_cons_of_mem _ c.1,c.2⟩]);.rw[VU c];by_cases g:j=a;(.subst g;by_cases e:j<b.length;(.rw[ba rfl,ba e,ba ⟨by simp,e⟩]);.rw[ba rfl,VU e,VU (λf=>e f.2),List.getElem?_eq_none (by omega)]);.rw[VU g,VU (λf=>c ⟨by rcases dr f.1 with i|i;(.exact absurd i.symm g);.exact i,f.2⟩)]
theorem SY(b:ia)(d:List aH×Option (List aH)->Bool)(e:List aH->Bool)(h:List aH->List aH):((((b.zipIdx.filter λc=>d c.1).map (·.2)).filter λf=>e ((b.map (·.1)).getD f [])).map λf=>h ((b.map (·.1)).getD f []))=(b.filter λc=>d c && e c.1).map λc=>h c.1:=by
 have i:∀c∈b.zipIdx,(b.map (·.1)).getD c.2 []=c.1.1:=λc o=>by have m:=List.mem_zipIdx o;(have n:b[c.2]?=some c.1:=by rw[VR (by omega)];have:=m.2.2;simp only[Nat.sub_zero] at this;rw[this]);rw[cQ,bL,n];rfl
 rw[List.filter_map,List.map_map,List.filter_filter];have j:(b.zipIdx.filter λa=>((λf=>e ((b.map (·.1)).getD f [])) ∘ (·.2)) a && d a.1)=b.zipIdx.filter λa=>d a.1 && e a.1.1:=List.filter_congr λa g=>by show (e ((b.map (·.1)).getD a.2 []) && d a.1)=_;rw[i a g,Bool.and_comm]
 rw[j];have k:(b.zipIdx.filter λa=>d a.1 && e a.1.1).map ((λf=>h ((b.map (·.1)).getD f [])) ∘ (·.2))=(b.zipIdx.filter λa=>d a.1 && e a.1.1).map λa=>h a.1.1:=List.map_congr_left λa g=>by show h ((b.map (·.1)).getD a.2 [])=_;rw[i a (List.mem_filter.1 g).1]
 rw[k];have l:b=b.zipIdx.map (·.1):=(List.zipIdx_map_fst 0 b).symm;conv=>rhs;rw[l]
 rw[List.filter_map,List.map_map];rfl
def TH(c:Nat)(a:Ex)(h b:List aH):Bool:=VK (bZ (jz c h b) a)
theorem TB{n2 s:Nat}{h:List aH}(f:0<n)(g:s<2)(c:h.length=eQ n n2 s)(d:x.length=eQ n n2 (1-s))(m:TH s e h x=true):∃b,nP n n2 e s h=some b/\nP n n2 e (1-s) x=some b:=by
 have a:(List.replicate (n+n2) aH.null).length=n+n2:=by simp
 have l:(dB (List.replicate (n+n2) aH.null) (gG n (1-s)) x).length=n+n2:=by rw[jV];(.exact a);.rw[a,d];unfold gG eQ;split<;>omega
 have k:(dB (List.replicate (n+n2) aH.null) (gG n s) h).length=n+n2:=by rw[jV];(.exact a);.rw[a,c];unfold gG eQ;split<;>omega
 have i:=yF g a c d;have j:dB (dB (List.replicate (n+n2) aH.null) (gG n s) h) (gG n (1-s)) x=jz s h x:=by have:=yF (show 1-s<2 by omega) a d (show h.length=eQ n n2 (1-(1-s)) by rw[show 1-(1-s)=s by omega];exact c);rw[show 1-(1-s)=s by omega] at this;rw[this];unfold jz;rcases(by omega:s=0∨s=1) with rfl|rfl<;>rfl
 obtain⟨b,q,r⟩:∃b,gu (eq0 n e) (jz s h x)=some b/\gu (eq1 n e) (jz s h x)=some b:=Dk m;have o:nP n n2 e s h=gu (ip (eq0 n e) (eq1 n e) s) (jz s h x):=by unfold nP;rw[yM f g a l c,i]
 have p:nP n n2 e (1-s) x=gu (ip (eq0 n e) (eq1 n e) (1-s)) (jz s h x):=by unfold nP;rw[yM f (by omega) a k d,j]
 refine⟨b,?_,?_⟩;.rw[o];unfold ip;split<;>assumption
 .rw[p];unfold ip;split<;>assumption
theorem TJ{e:Ex}{al:Bool}(s:0<n)(o:k<2)(g:∀h∈r,h.length=eQ n m k)(t:x.length=eQ n m (1-k))(f:List aH->List aH):((fa k e (dQ k n m e al r) (nP n m e (1-k) x) x).map λz=>f (((dQ k n m e al r).map (·.1)).getD z []))=(r.filter λh=>TH k e h x).map f:=by
 unfold fa;cases q:nP n m e (1-k) x with
 | none=>(have:(r.filter λh=>TH k e h x)=[]:=List.filter_eq_nil_iff.2 λh b j=>by obtain⟨l,_,a⟩:=TB s o (g h b) t j;rw[q] at a;cases a);rw[this];rfl
 | some l=>
  show (((sC _ l).filter _).map _)=_
  unfold sC
  rw[SY (dQ k n m e al r) (λA=>decide (A.2=some l)) (λh=>VK (bZ (jz k h x) e)) f]
  unfold dQ kp
  have p:=g
  clear g
  induction r with
  | nil=>rfl
  | cons h r c=>
   have c:=c λB j=>p B (List.mem_cons_of_mem _ j)
   have y:=p h (List.mem_cons_self ..)
   by_cases b:TH k e h x=true
   .obtain⟨C,u,a⟩:=TB s o y t b
    rw[q] at a
    injection a with a
    subst a
    have d:VK (bZ (jz k h x) e)=true:=b
    simp only[List.filterMap_cons,u,List.filter_cons,b,d,decide_true,Bool.and_self,if_true,dX]
    rw[c]
   .have i:TH k e h x=false:=by simpa using b
    have d:VK (bZ (jz k h x) e)=false:=i
    cases v:nP n m e k h with
    | none=>
     simp only[List.filterMap_cons,v,List.filter_cons,i]
     cases w:(al && decide (k=0))<;>simp only[w] at c<;>simpa [d] using c
    | some u=>
     simp only[List.filterMap_cons,v,List.filter_cons,i,d,Bool.and_false]
     simpa using c
def TC(b:Ex)(c d:List (List aH)):List (List aH):=c.flatMap λa=>(d.filter λe=>VK (bZ (a++e) b)).map (a++·)
def TK(a:Ex)(c:Nat)(b e:List (List aH)):List (List aH):=(b.filter λd=>e.all λf=>!VK (bZ (d++f) a)).map (·++List.replicate c aH.null)
theorem Tv{α f j:Type}(d:α->f->List j)(c:List α):∀e:List f,(c.flatMap λa=>e.flatMap λb=>d a b).Perm (e.flatMap λb=>c.flatMap λa=>d a b)
 | []=>by simp
 | b::e=>by
  have g:(c.flatMap λa=>(b::e).flatMap λb=>d a b).Perm ((c.flatMap λa=>d a b)++c.flatMap λa=>e.flatMap λb=>d a b):=by
   induction c with
   | nil=>simp
   | cons a c i=>
    simp only[eA]
    refine(List.Perm.append_left _ (i.trans (List.Perm.refl _))).trans ?_
    simp only[eA,cI]
    refine List.Perm.append_left _ ?_
    rw[<-cI,<-cI]
    exact List.Perm.append_right _ List.perm_append_comm
  refine g.trans ?_;simp only[eA];exact List.Perm.append_left _ (Tv d c e)
theorem Td{α e:Type}(c d:α->List e):∀a:List α,(a.flatMap λb=>c b++d b).Perm (a.flatMap c++a.flatMap d)
 | []=>by simp
 | b::a=>by simp only[eA];refine(List.Perm.append_left _ (Td c d a)).trans ?_;simp only[cI];refine List.Perm.append_left _ ?_;rw[<-cI,<-cI];exact List.Perm.append_right _ List.perm_append_comm
theorem TM{α g:Type}{c d:α->List g}:∀{b:List α},(∀a∈b,c a=d a)->b.flatMap c=b.flatMap d
 | [],_=>rfl
 | a::b,h=>by rw[eA,eA,h a (List.mem_cons_self ..),TM λf e=>h f (List.mem_cons_of_mem _ e)]
theorem TI{α g:Type}(b:α->Bool)(c:α->g)(a:List α):(a.filter b).map c=a.flatMap λd=>if b d then [c d] else []:=by
 induction a with
 | nil=>rfl
 | cons e a f=>cases h:b e<;>simp[List.filter_cons,h,f]
theorem S3(d:0<n)(b:k<2)(c:∀h∈r,h.length=eQ n m k)(f:x.length=eQ n m (1-k)):(fa k e (dQ k n m e o r) (nP n m e (1-k) x) x).isEmpty=r.all λh=>!TH k e h x:=by have a:=congrArg List.length (TJ (e:=e) (al:=o) d b c f id);rw[bQ,bQ] at a;rw[Bool.eq_iff_iff,List.isEmpty_iff_length_eq_zero,a,List.length_eq_zero_iff,List.filter_eq_nil_iff,List.all_eq_true];simp
theorem Tf(g:0<n)(f:∀b∈r,b.length=n)(i:∀b∈A,b.length=m):(el 1 n m e o A r).Perm (TC e r A++if o then TK e m r A else []):=by
 have k:el 1 n m e o A r=r.flatMap λa=>((A.filter λc=>VK (bZ (a++c) e)).map (a++·))++if o && (A.all λc=>!VK (bZ (a++c) e)) then [a++List.replicate m aH.null] else []:=by unfold el;(have p:VG (o && decide ((1:Nat)=0)) m ((dQ 1 n m e o A).map (·.1)) (e9 (List.replicate (dQ 1 n m e o A).length false) (r.flatMap λj=>fa 1 e (dQ 1 n m e o A) (nP n m e (1-1) j) j))=[]:=by unfold VG;simp);rw[p,VI];unfold fw;(have l:(o && decide (1-1=0))=o:=by simp);rw[l];refine TM λa d=>?_;unfold gj;rw[S3 g (by omega) i (f a d),TJ g (by omega) i (f a d) (λh=>jz 1 h a)];rfl
 rw[k];refine(Td _ _ r).trans (List.Perm.append_left _ ?_);unfold TK;cases o;.simp
 .rw[TI];simp
theorem ST(c:List aH->Option (List aH))(a:List (List aH)):kp true c a=a.map λb=>(b,c b):=by
 unfold kp;induction a with
 | nil=>rfl
 | cons b a d=>rw[List.filterMap_cons,d];cases h:c b<;>simp[h]
theorem SL(y:0<n)(w:∀q∈r,q.length=n)(v:x.length=m)(b:Nat):b∈fa 0 e (dQ 0 n m e true r) (nP n m e (1-0) x) x ↔ ∃a,r[b]?=some a/\VK (bZ (a++x) e)=true:=by
 have l:dQ 0 n m e true r=r.map λt=>(t,nP n m e 0 t):=by unfold dQ;exact ST _ r
 have k:∀b a,r[b]?=some a->((dQ 0 n m e true r).map (·.1)).getD b []=a:=λb a h=>by rw[l,List.map_map,cQ,bL,h];rfl
 have o:∀d,b∈sC (dQ 0 n m e true r) d ↔ ∃a,r[b]?=some a/\nP n m e 0 a=some d:=λd=>by unfold sC;rw[l,List.mem_map];constructor;(.rintro⟨q,z,rfl⟩;obtain⟨i,f⟩:=List.mem_filter.1 z;have j:=List.mem_zipIdx_iff_getElem?.1 i;rw[bL] at j;obtain⟨a,c,u⟩:=Option.map_eq_some_iff.1 j;refine⟨a,c,?_⟩;have:=of_decide_eq_true f;rw[<-u] at this;exact this);.rintro⟨a,c,g⟩;refine⟨((a,nP n m e 0 a),b),List.mem_filter.2 ⟨List.mem_zipIdx_iff_getElem?.2 ?_,decide_eq_true g⟩,rfl⟩;rw[bL,c];rfl
 unfold fa;constructor
 .intro h
  cases g:nP n m e (1-0) x with
  | none=>rw[g] at h;cases h
  | some d=>
   rw[g] at h
   obtain⟨i,f⟩:=List.mem_filter.1 h
   obtain⟨a,c,_⟩:=(o d).1 i
   rw[k b a c] at f
   exact⟨a,c,f⟩
 .rintro⟨a,c,p⟩;obtain⟨d,A,B⟩:=TB (s:=0) (n2:=m) y (by omega) (w a (VQ c)) (show x.length=eQ n m (1-0) from v) (show TH 0 e a x=true from p);rw[B];refine List.mem_filter.2 ⟨(o d).2 ⟨a,c,A⟩,?_⟩;rw[k b a c];exact p
theorem Tw(l:0<n)(s:∀t∈r,t.length=n)(x:∀t∈A,t.length=m):(el 0 n m e o r A).Perm (TC e r A++if o then TK e m r A else []):=by
 unfold el;have c:fw 0 m (o && decide (1-0=0)) e (nP n m e (1-0)) (dQ 0 n m e o r) A=A.flatMap λa=>r.flatMap λb=>if VK (bZ (b++a) e) then [b++a] else []:=by unfold fw;refine TM λa q=>?_;unfold gj;rw[TJ l (by omega) s (x a q) (λh=>jz 0 h a),TI];simp[jz,TH]
 have g:(TC e r A)=r.flatMap λb=>A.flatMap λa=>if VK (bZ (b++a) e) then [b++a] else []:=by unfold TC;exact TM λb _=>TI _ _ A
 refine List.Perm.append ?_ ?_;.rw[c,g];exact(Tv _ r A).symm
 .cases o;.unfold VG;simp
  .have j:dQ 0 n m e true r=r.map λA=>(A,nP n m e 0 A):=by unfold dQ;exact ST _ r
   have w:e9 (List.replicate (dQ 0 n m e true r).length false) (A.flatMap λf=>fa 0 e (dQ 0 n m e true r) (nP n m e (1-0) f) f)=r.map λb=>A.any λa=>VK (bZ (b++a) e):=by
    apply List.ext_getElem?
    intro d
    rw[Ef,List.length_replicate,bL,j,bQ]
    cases i:r[d]? with
    | none=>
     have k:r.length<=d:=List.getElem?_eq_none_iff.1 i
     rw[VU (by omega)]
     simp[k]
    | some b=>
     have k:d<r.length:=(bD i).1
     have v:(d∈A.flatMap λf=>fa 0 e (r.map λA=>(A,nP n m e 0 A)) (nP n m e (1-0) f) f) ↔ (A.any λa=>VK (bZ (b++a) e))=true:=by
      rw[List.mem_flatMap,List.any_eq_true]
      refine exists_congr λa=>and_congr_right λq=>?_
      rw[<-j,SL l s (x a q) d]
      constructor
      .rintro⟨C,c,g⟩
       rw[i] at c
       injection c with c
       rw[c];exact g
      .exact λh=>⟨b,i,h⟩
     cases p:A.any λa=>VK (bZ (b++a) e)
     .rw[VU (λh=>by have:=v.1 h.1;rw[p] at this;cases this)]
      simp[k,p]
     .rw[ba ⟨v.2 p,k⟩]
      simp[p]
   rw[w,j,List.map_map]
   unfold VG TK
   have y:(List.map ((λu=>u.1) ∘ λA=>(A,nP n m e 0 A)) r)=r:=by
    rw[show ((λu:List aH×Option (List aH)=>u.1) ∘ λA=>(A,nP n m e 0 A))=id from rfl,List.map_id]
   rw[y]
   clear w j y c g s
   induction r with
   | nil=>simp
   | cons b r z=>
    simp only[dX,List.zip_cons_cons,List.filterMap_cons,List.filter_cons]
    have l:(A.all λB=>!VK (bZ (b++B) e))=!(A.any λa=>VK (bZ (b++a) e)):=by rw[List.all_eq_not_any_not];simp
    rw[l]
    cases A.any λa=>VK (bZ (b++a) e)
    .simpa using z
    .simpa using z
def S8(a:Pl)(b:List Tb):Int×List Int:=if iK a=0 then (if eI b then ((bK b a).1,if (bK b a).1=0 then (bK b a).2 else []) else (1,[])) else (iK a,[])
def u0(a:Int×List Int)(c:World)(f:Ending)(d:World):Prop:=∃b e,f=.returned (.tuple #[.slice b a.2.length e,.int .i64 a.1])/\bP d b a.2/\Bw c d
theorem u0.err(a:Bw w W):u0 (I,[]) w (.returned (.tuple #[.slice none 0 0,.int .i64 I])) W:=⟨none,0,rfl,.inl rfl,a⟩
theorem SI(c:List Tb)(R:∀V0∈c,V0.fin)(Y:c.length<=1048576)(A:Option Addr)(K:Nat)(a:Pl)(Q:a.fin)(i:Pm)(d:World)(M:hI d a i)(L:lZ d A c):Calls prog 12 #[a.val i,.slice A c.length K] d (u0 (S8 a c) d):=by
 obtain⟨t,D⟩:=bn (S8 a c);rw[<-D];unfold S8 at D;have N:=am (VT _ d) (a.box i);have q:=H (dL.new d a i);have e:=H N;have l:=H (t6 a Q i (d.alloc (a.box i)) (M.aa N));have o:=H (λ(u:World) (E:Bw d u)=>pp c R Y A K u (L.aa E));have p:=H (λ(g:eI c=true) (VY:eR a=true) (u:World) (E:Bw d u)=>tk c g R Y A K a Q VY i u (M.aa E) (L.aa E));have x:=H (λh=>nu (p:=a) h);have n:=H D;rw[Pl.ad] at l p ⊢;unfold Pl.box at q e l;clear D N M Q R L;obtain⟨V1,S⟩:=bn (d.alloc (a.box i));rw[<-S] at q e l;have z:=H S;have r:=H (U q).load;rw[Pl.ad] at r;clear S;generalize iK a=B at *;by_cases F:B=0
 case neg=>
  have m:Hid (t=(B,[])):=by show _=_;rw[U n,VU F]
  have VW:(B != 0)=true:=by simpa using F
  clear n p o x F;go_enter func12,ntmps12;go_upto_region 1 with fail;rw[<-U z]
  go_wp2_with (first
   | (refine a1 ?_ 28 (.tmp 2) rfl _ (by simp[Act.eval]) _ (U r) ?_;. simp[Region.wanted,yielded])
   | (go_at_call 23;refine(U l).mono ?_;rintro j T ⟨rfl,b⟩))
  refine bs (v:=.tuple #[.slice none 0 0,.int .i64 B]) (by simp[results,results12,go_sem]) rfl ?_;rw[U m];exact u0.err (ac (U e) b)
 subst F;have P:=U x rfl;cases g:eI c
 case false=>
  have m:Hid (t=(1,[])):=by show _=_;rw[U n,ba rfl,g];rfl
  rw[g] at o;clear n p x g P;go_enter func12,ntmps12;go_upto_region 1 with fail;rw[<-U z]
  go_wp2_with (first
   | (refine a1 ?_ 28 (.tmp 2) rfl _ (by simp[Act.eval]) _ (U r) ?_;. simp[Region.wanted,yielded])
   | (go_at_call 23;refine(U l).mono ?_;rintro j T ⟨rfl,b⟩)
   | (go_at_call 28;refine(U o _ (ac (U e) b)).mono ?_;rintro j Z ⟨rfl,f⟩))
  refine bs (v:=.tuple #[.slice none 0 0,.int .i64 1]) (by simp[results,results12,go_sem]) rfl ?_;rw[U m];exact u0.err (ac (U e) (ac b f))
 have W:=H (U p g P);have y:Hid (t=((bK c a).1,if (bK c a).1=0 then (bK c a).2 else [])):=by show _=_;rw[U n,ba rfl,g];rfl
 rw[g] at o;clear n p x g P;generalize bK c a=VX at *;obtain⟨C,VZ⟩:=VX;by_cases I:C=0
 .subst I;have m:Hid (t=(0,VZ)):=U y;clear y;go_enter func12,ntmps12;go_upto_region 1 with fail;rw[<-U z]
  go_wp2_with (first
   | (refine a1 ?_ 28 (.tmp 2) rfl _ (by simp[Act.eval]) _ (U s) ?_;. simp[Region.wanted,yielded])
   | (refine a1 ?_ 28 (.tmp 2) rfl _ (by simp[Act.eval]) _ (U r) ?_;. simp[Region.wanted,yielded])
   | (go_at_call 23;refine(U l).mono ?_;rintro j T ⟨rfl,b⟩)
   | (go_at_call 28;refine(U o _ (ac (U e) b)).mono ?_;rintro j Z ⟨rfl,f⟩;have s:=H ((U q).aa (ac b f)).load;rw[Pl.ad] at s)
   | (go_at_call 24;refine(U W _ (ac (U e) (ac b f))).mono ?_;rintro j V ⟨k,rfl,G,O⟩;have J:=H (G rfl);have w:=H (am (VT _ V) k.box);clear G;rw[Nv.open_]))
  refine bs (v:=.tuple #[.slice k.k.1 k.k.2.2.length k.k.2.1,.int .i64 0]) (by simp[results,results12,go_sem]) rfl ?_;rw[U m];refine⟨k.k.1,k.k.2.1,by rw[(U J).1],?_,ac (U e) (ac b (ac f (ac O (U w))))⟩;have X:=(U J).2.1.ints;rw[(U J).1] at X;exact X.aa (U w)
 .have m:Hid (t=(C,[])):=by show _=_;rw[U y,VU I]
  have VW:(C != 0)=true:=by simpa using I
  clear y I;go_enter func12,ntmps12;go_upto_region 1 with fail;rw[<-U z]
  go_wp2_with (first
   | (refine a1 ?_ 28 (.tmp 2) rfl _ (by simp[Act.eval]) _ (U s) ?_;. simp[Region.wanted,yielded])
   | (refine a1 ?_ 28 (.tmp 2) rfl _ (by simp[Act.eval]) _ (U r) ?_;. simp[Region.wanted,yielded])
   | (go_at_call 23;refine(U l).mono ?_;rintro j T ⟨rfl,b⟩)
   | (go_at_call 28;refine(U o _ (ac (U e) b)).mono ?_;rintro j Z ⟨rfl,f⟩;have s:=H ((U q).aa (ac b f)).load;rw[Pl.ad] at s)
   | (go_at_call 24;refine(U W _ (ac (U e) (ac b f))).mono ?_;rintro j V ⟨k,rfl,G,O⟩;have w:=H (am (VT _ V) k.box);clear G;rw[Nv.open_]))
  refine bs (v:=.tuple #[.slice none 0 0,.int .i64 C]) (by simp[results,results12,go_sem]) rfl ?_;rw[U m];exact u0.err (ac (U e) (ac b (ac f (ac O (U w)))))
theorem Tu{α e:Type}{c d:α->List e}(h:∀a,(c a).Perm (d a)):∀b:List α,(b.flatMap c).Perm (b.flatMap d)
 | []=>List.Perm.refl _
 | a::b=>by rw[eA,eA];exact(h a).append (Tu h b)
theorem TD(a:Ex){b:List (List aH)}(c:r.Perm A)(d:B.Perm b):(TC a r B).Perm (TC a A b):=by unfold TC;refine(c.flatMap_right _).trans ?_;exact Tu (λe=>(d.filter _).map _) A
theorem Th(a:Ex)(i:Nat){d:List (List aH)}(j:r.Perm A)(g:B.Perm d):(TK a i r B).Perm (TK a i A d):=by
 unfold TK;have:(λb:List aH=>B.all λe=>!VK (bZ (b++e) a))=λb=>d.all λe=>!VK (bZ (b++e) a):=by funext b;rw[Bool.eq_iff_iff,List.all_eq_true,List.all_eq_true];exact⟨λh f c=>h f (g.mem_iff.2 c),λh f c=>h f (g.mem_iff.1 c)⟩
 rw[this];exact(j.filter _).map _
theorem mN(b a:List (List aH))(x:List aH):(dP b a).count x=a.count x-b.count x:=by
 refine gL (P:=λa=>(dP b a).count x=a.count x-b.count x) (by simp[dP,kV]) (λa f c=>?_) a;unfold dP at c ⊢;rw[hd];by_cases d:x=f;.subst d;rw[List.count_append,List.count_singleton_self];split;(.rename_i h;(have h:b.count x<=a.count x:=by simpa using h);rw[List.count_append,List.count_singleton_self,c];omega);.rename_i h;(have h:¬b.count x<=a.count x:=by simpa using h);rw[c];omega
 ·(have e:List.count x [f]=0:=by rw[List.count_eq_zero];simpa using d);rw[List.count_append,e];split;(.rw[List.count_append,e,c];rfl);.rw[c];rfl
theorem Dj{d:List (List aH)}(h:r.Perm A)(a:B.Perm d):(dP r B).Perm (dP A d):=i8 λb=>by rw[mN,mN,h.count_eq,a.count_eq]
theorem Cf{b:List (List aH×List (List aH))}(e:∀c∈b,c.2=[])(cols:List Int)(a:List (List aH)):df b cols a=((df b cols a).map (·.1)).map λd=>(d,a.filter λg=>decide (eC g cols=d)):=by
 rw[List.map_map];conv=>lhs;rw[<-List.map_id (df b cols a)]
 exact List.map_congr_left λc f=>by simp only[Function.comp,id];rw[<-fh e cols a c f]
theorem Dw{p:Type}{d:List (List aH×List (List aH))}(j:(d.map (·.1)).Nodup)(n:∀b∈d,b.2=[])(cols:List Int)(h:r.Perm A)(c:List aH->List (List aH)->List p)(l:∀a g i,(∀e∈g,e∈r)->g.Perm i->c a g=c a i):((df d cols r).flatMap λb=>c b.1 b.2).Perm ((df d cols A).flatMap λb=>c b.1 b.2):=by
 have m:((df d cols r).map (·.1)).Perm ((df d cols A).map (·.1)):=(List.perm_ext_iff_of_nodup (gy j _ _) (gy j _ _)).2 λa=>by rw[gq,gq];simp[h.mem_iff]
 have key:∀f,((df d cols f).flatMap λb=>c b.1 b.2)=((df d cols f).map (·.1)).flatMap λa=>c a (f.filter λe=>decide (eC e cols=a)):=λf=>by(conv=>lhs;rw[Cf n cols f]);rw[List.flatMap_map]
 rw[key,key];have k:(λa=>c a (r.filter λe=>decide (eC e cols=a)))=λa=>c a (A.filter λe=>decide (eC e cols=a)):=by funext a;exact l a _ _ (λe o=>(List.mem_filter.1 o).1) (h.filter _)
 rw[k];exact m.flatMap_right _
theorem TE(a:List (Int×Bool)){wd:Nat}(b:∀c∈A,dH wd c)(h:r.Perm A):cj a r=cj a A:=l9 b ((cB a r).trans h) (io a r)
theorem SV(a:List (Int×Bool))(c b:Nat)(d:∀e∈A,dH n e)(h:r.Perm A):nG a c b r=nG a c b A:=by unfold nG;rw[TE a d h]
theorem Tp(a:Pl)(j:∀b∈r,dH n b)(h:r.Perm A):(eE a r).Perm (eE a A):=by unfold eE;refine Dw (by simp) (λl g=>by cases g) a.cols h (λ_ c=>fv a c) λk c e f d=>?_;show fv a c=fv a e;unfold fv;rw[TE a.keys (wd:=n) (λb i=>j b (f b (d.mem_iff.2 i))) d]
theorem SU(a:Nat)(x b:aH):Vl (Vl a x 1) b 1=Vl (Vl a b 1) x 1:=by unfold Vl;split<;>split<;>first|rfl|omega
theorem SR(a:Int)(x b:aH):hO (hO a x 1) b 1=hO (hO a b 1) x 1:=by unfold hO;split<;>split<;>first|rfl|omega
theorem TL{α j:Type}{P:j->Prop}{Q:α->Prop}(d:j->α->j)(m:∀a b,P a->Q b->P (d a b))(n:∀a x f,P a->Q x->Q f->d (d a x) f=d (d a f) x){g k:List α}(h:g.Perm k):(∀b∈g,Q b)->∀a,P a->g.foldl d a=k.foldl d a:=by
 induction h with
 | nil=>intro _ _ _;rfl
 | cons x _ q=>intro c a e;rw[List.foldl_cons,List.foldl_cons];exact q (λb i=>c b (List.mem_cons_of_mem _ i)) _ (m _ _ e (c x (List.mem_cons_self ..)))
 | swap x f g=>intro c a e;simp only[List.foldl_cons];rw[n a f x e (c f (List.mem_cons_self ..)) (c x (List.mem_cons_of_mem _ (List.mem_cons_self ..)))]
 | trans l _ o p=>intro c a e;rw[o c a e,p (λb i=>c b (l.mem_iff.2 i)) a e]
theorem SK(d:Int)(a c:aH)(b:eO a)(e:eO c):eO (f7 d a c):=by
 unfold f7;split;.exact b
 .split;(.split<;>assumption);.split;(.split<;>assumption);.exact b
theorem S0(d:Int)(a x b:aH)(m:eO a)(n:eO x)(o:eO b):f7 d (f7 d a x) b=f7 d (f7 d a b) x:=by
 have c:dk x b=0->x=b:=λh=>by have:=yk h;rw[n.2.2,o.2.2] at this;exact this
 have e:dk x a=0->x=a:=λh=>by have:=yk h;rw[n.2.2,m.2.2] at this;exact this
 have f:dk b a=0->b=a:=λh=>by have:=yk h;rw[o.2.2,m.2.2] at this;exact this
 have p:=fV x b;have q:=fV x a;have r:=fV b a;have s:dk x b<=0->dk b a<=0->dk x a<=0:=mu;have t:dk b x<=0->dk x a<=0->dk b a<=0:=mu;have u:dk x a<=0->dk a b<=0->dk x b<=0:=mu;have v:dk b a<=0->dk a x<=0->dk b x<=0:=mu;have w:dk a x<=0->dk x b<=0->dk a b<=0:=mu;have y:dk a b<=0->dk b x<=0->dk a x<=0:=mu;unfold f7;by_cases g:x.k=0;.simp only[g,if_true]
 by_cases i:b.k=0;.simp only[i,if_true]
 simp only[g,i,if_false];by_cases k:d=4;.simp only[k,if_true];by_cases j:a.k=0;(.simp only[j,true_or,if_true,g,i,false_or];split<;>split<;>first|rfl | (exfalso;omega)|exact c (by omega)|exact(c (by omega)).symm);.simp only[j,false_or];split<;>split<;>(try simp only[g,i,j,false_or])<;>(repeat' split)<;>first|rfl | (exfalso;omega)|exact c (by omega)|exact(c (by omega)).symm|exact e (by omega)|exact(e (by omega)).symm|exact f (by omega)|exact(f (by omega)).symm
 .simp only[k,if_false];by_cases l:d=5;(.simp only[l,if_true];split<;>split<;>(repeat' split)<;>first|rfl | (exfalso;omega)|exact c (by omega)|exact(c (by omega)).symm|exact e (by omega)|exact(e (by omega)).symm|exact f (by omega)|exact(f (by omega)).symm);.simp only[l,if_false]
theorem SQ(a:Int)(j:∀k∈x,eO k)(h:x.Perm y):gV a x=gV a y:=by have e:gS x=gS y:=TL (P:=λ_=>True) (Q:=λ_=>True) _ (λ_ _ _ _=>trivial) (λb c d _ _ _=>SU b c d) h (λ_ _=>trivial) 0 trivial;have f:gC x=gC y:=TL (P:=λ_=>True) (Q:=λ_=>True) _ (λ_ _ _ _=>trivial) (λb c d _ _ _=>SR b c d) h (λ_ _=>trivial) 0 trivial;have g:gX a x=gX a y:=TL (P:=eO) (Q:=eO) _ (SK a) (S0 a) h j .null jC;have i:(ih (gZ x)).length=(ih (gZ y)).length:=(Ad ((h.filter _).map _)).length_eq;unfold gV;rw[e,f,g,i,h.length_eq]
theorem dH.getD(h:dH n x)(a:Nat):eO (x.getD a .null):=by
 rw[cQ];cases b:x[a]? with
 | none=>exact jC
 | some c=>exact h.val c (VQ b)
theorem S9(b:Pl)(k:∀c∈r,dH n c)(h:r.Perm A):(fk b r).Perm (fk b A):=by unfold fk;rw[List.map_eq_flatMap,List.map_eq_flatMap];refine Dw (rQ _) (tL _) b.cols h (λe d=>[e++b.aggs.map λa=>gV a.1 (g2 a.2 d)]) λe d l f g=>?_;congr 2;refine List.map_congr_left λa _=>SQ a.1 (λm j=>?_) (g.map _);obtain⟨c,i,rfl⟩:=b6 j;exact(k c (f c i)).getD _
theorem TA{α g:Type}{c d:α->List g}:∀{b:List α},(∀a∈b,(c a).Perm (d a))->(b.flatMap c).Perm (b.flatMap d)
 | [],_=>List.Perm.refl _
 | a::b,h=>by rw[eA,eA];exact(h a (List.mem_cons_self ..)).append (TA λf e=>h f (List.mem_cons_of_mem _ e))
theorem S5{d e:Pl->List (List aH)}{b:List Pl}(h:∀a∈b,(d a).Perm (e a))(c:Nat):(((b.map d)[c]?).getD []).Perm (((b.map e)[c]?).getD []):=by
 rw[bL,bL];cases f:b[c]? with
 | none=>exact List.Perm.refl _
 | some a=>exact h a (VQ f)
theorem Te{ts:List Tb}{x:Pl}(a:p.args=[x,q])(g:p.ex=[e])(c:0<(bK ts x).2.length)(d:∀b∈cg ts x,b.length=(bK ts x).2.length)(f:∀b∈cg ts q,b.length=(bK ts q).2.length):(oR ts p (p.args.map (cg ts))).Perm (TC e (cg ts x) (cg ts q)++if p.op == 5 then TK e (bK ts q).2.length (cg ts x) (cg ts q) else []):=by
 have i:kq ts p 0=(bK ts x).2.length:=by unfold kq;rw[a];rfl
 have j:kq ts p 1=(bK ts q).2.length:=by unfold kq;rw[a];rfl
 unfold oR;rw[g,a];show List.Perm (if zV ts p 0<zV ts p 1 then el 0 (kq ts p 0) (kq ts p 1) e (p.op == 5) (cg ts x) (cg ts q) else el 1 (kq ts p 0) (kq ts p 1) e (p.op == 5) (cg ts q) (cg ts x)) _;rw[i,j];split;.exact Tw c d f
 .exact Tf c d f
structure SH(ts ts':List Tb):Prop where
 f:∀s:ByteArray,(ts.find? (λt=>decide (t.name=s))=none/\ts'.find? (λt=>decide (t.name=s))=none)∨∃t t',ts.find? (λt=>decide (t.name=s))=some t/\ts'.find? (λt=>decide (t.name=s))=some t'/\t'.rows.Perm t.rows
 c:∀p,bK ts' p=bK ts p
 n:∀p,bC ts' p=bC ts p
theorem Tj{d g:List Tb}(n:SH d g)(q:e5 d=true)(VZ:e5 g=true)(S:Sk d)(V0:Sk g):∀(w:Nat) (a:Pl),a.size<=w->a.fin->eR a=true->(bK d a).1=0->bC d a<=2147483647->(cg g a).Perm (cg d a)
 | 0,a,M,_,_,_,_=>by rw[Pl.ak] at M;omega
 | w+1,a,M,VY,VX,V4,V1=>by
  have V3:eI d=true:=by unfold e5 at q;simp only[cc] at q;exact q.1
  have k:=iq VX V4;have L:=k.a2;have V2:∀b∈a.args,b.size<=w:=λb c=>by have:=Pl.az c;rw[Pl.ak] at M;omega
  have V:∀b∈a.args,bC d b<=2147483647:=λb c=>by have:=hv L c V1;omega
  have R:∀b∈a.args,b.fin:=λb c=>Pl.av (Pl.an VY).2.2 c;have j:∀b∈a.args,(cg g b).Perm (cg d b):=λb c=>Tj n q VZ S V0 w b (V2 b c) (R b c) (k.c b c).1 (k.c b c).2 (V b c);have u:∀b∈a.args,∀f∈cg d b,dH (bK d b).2.length f:=λb c=>hP q S b.size b bi (R b c) (k.c b c).1 (k.c b c).2 (V b c);have I:∀b∈a.args,∀f∈cg g b,dH (bK d b).2.length f:=λb c f r=>u b c f ((j b c).mem_iff.1 r);have l:(n9 (a.args.map (cg g))).Perm (n9 (a.args.map (cg d))):=S5 j 0;have Z:(Ed (a.args.map (cg g))).Perm (Ed (a.args.map (cg d))):=S5 j 1
  have O:∃P,(∀f∈n9 (a.args.map (cg d)),dH P f)/\∀f∈n9 (a.args.map (cg g)),dH P f:=by
   cases c:a.args[0]? with
   | none=>
    have e:∀o:Pl->List (List aH),n9 (a.args.map o)=[]:=λo=>by unfold n9;rw[bL,c];rfl
    rw[e,e]
    exact⟨0,(λf r=>by cases r),λf r=>by cases r⟩
   | some b=>
    have e:∀o:Pl->List (List aH),n9 (a.args.map o)=o b:=λo=>by unfold n9;rw[bL,c];rfl
    rw[e,e]
    exact⟨_,u b (VQ c),I b (VQ c)⟩
  obtain⟨P,O,Y⟩:=O;rw[iS g a,iS d a];unfold ef;by_cases A:a.op=1;.rw[ba A,ba A];(rcases n.f a.au with ⟨J,K⟩|⟨V6,V7,J,K,VW⟩);(.rw[J,K]);.rw[J,K];exact VW.map _
  rw[VU A,VU A];by_cases B:a.op=2
  .rw[ba B,ba B]
   cases a.ex[0]? with
   | none=>exact List.Perm.refl _
   | some e=>exact l.filter _
  rw[VU B,VU B];by_cases C:a.op=3;.rw[ba C,ba C];exact l.map _
  rw[VU C,VU C];by_cases s:a.op=4∨a.op=5;.rw[ba s,ba s];(have T:a.args.length=2/\a.ex.length=1:=by rcases s with N|N;exact h3 N L;exact Vp N L);obtain⟨i,t,v⟩:=hN T.1;obtain⟨e,Q⟩:∃e,a.ex=[e]:=List.length_eq_one_iff.1 T.2;(have p:i∈a.args:=by rw[v];simp);(have x:t∈a.args:=by rw[v];simp);have X:=(hW V3 i.size i bi (k.c i p).1 (k.c i p).2).lo;have V5:=Te (ts:=d) v Q X (λm h=>(u i p m h).len) (λm h=>(u t x m h).len);have W:=Te (ts:=g) v Q (by rw[n.c];exact X) (λm h=>by rw[n.c];exact(I i p m h).len) (λm h=>by rw[n.c];exact(I t x m h).len);rw[n.c] at W;refine W.trans (List.Perm.trans ?_ V5.symm);refine(TD e (j i p) (j t x)).append ?_;split;(.exact Th e _ (j i p) (j t x));.exact List.Perm.refl _
  rw[VU s,VU s];by_cases D:a.op=6;.rw[ba D,ba D];exact S9 a Y l
  rw[VU D,VU D];by_cases E:a.op=7;.rw[ba E,ba E];exact Ad l
  rw[VU E,VU E];by_cases F:a.op=8;.rw[ba F,ba F,<-List.flatMap_def,<-List.flatMap_def];exact TA j
  rw[VU F,VU F];by_cases G:a.op=9;.rw[ba G,ba G,SV a.keys _ _ O l]
  rw[VU G,VU G];by_cases y:a.op=10;.rw[ba y,ba y];exact Tp a Y l
  rw[VU y,VU y];by_cases z:a.op=11;.rw[ba z,ba z];exact Dj Z l
  rw[VU z,VU z]
theorem TX{wd:Nat}(b:∀c∈r,dH wd c)(a:A.Perm r):qV A=qV r:=B0 b ((gE A).trans a) (vo A)
def Tl(a:Tb):Tb:=⟨a.name,a.cols,a.rows.reverse⟩
def TG(a:List Tb):List Tb:=(a.map Tl).reverse
theorem Tt{a:Tb}:a∈TG T ↔ ∃b∈T,Tl b=a:=by unfold TG;rw[List.mem_reverse,List.mem_map]
theorem SS{α n:Type}(c:α->n):∀{e:List α},(e.map c).Nodup->∀{a b:α},a∈e->b∈e->c a=c b->a=b
 | [],_,_,_,h,_,_=>by cases h
 | o::e,d,a,b,m,l,g=>by rw[dX,List.nodup_cons] at d;rcases dr m with j|k;(.rcases dr l with f|i;(.rw[j,f]);.exact absurd (List.mem_map.2 ⟨b,i,by rw[<-g,j]⟩) d.1);.rcases dr l with f|i;(.exact absurd (List.mem_map.2 ⟨a,k,by rw[g,f]⟩) d.1);.exact SS c d.2 k i g
theorem S1(f:(T.map Tb.name).Nodup){t:Tb}(c:t∈T):T.find? (λb=>decide (b.name=t.name))=some t:=by
 cases a:T.find? (λb=>decide (b.name=t.name)) with
 | none=>exact absurd (decide_eq_true rfl) (List.find?_eq_none.1 a t c)
 | some g=>have e:=List.mem_of_find?_eq_some a;(have d:g.name=t.name:=by have:=List.find?_some a;simpa using this);rw[SS Tb.name f e c d]
theorem Tz(i:(T.map Tb.name).Nodup)(c:ByteArray):(TG T).find? (λa=>decide (a.name=c))=(T.find? (λa=>decide (a.name=c))).map Tl:=by
 have g:((TG T).map Tb.name).Nodup:=by unfold TG;rw[List.map_reverse,List.map_map];exact(List.reverse_perm _).nodup_iff.2 i
 cases b:T.find? (λa=>decide (a.name=c)) with
 | none=>rw[List.find?_eq_none] at b;show _=none;rw[List.find?_eq_none];intro a d;obtain⟨j,f,rfl⟩:=Tt.1 d;exact b j f
 | some a=>have d:=List.mem_of_find?_eq_some b;(have e:a.name=c:=by have:=List.find?_some b;simpa using this);subst e;exact S1 g (t:=Tl a) (Tt.2 ⟨a,d,rfl⟩)
theorem Ta{a b:List ByteArray}(h:a.Perm b):hh a=hh b:=by unfold hh;rw[h.any_eq,decide_eq_decide.2 h.nodup_iff]
theorem Tx(a:List Tb):((TG a).map Tb.name).Perm (a.map Tb.name):=by unfold TG;rw[List.map_reverse,List.map_map];exact List.reverse_perm _
theorem S7(c:List Tb)(a:Tb->Bool)(d:∀b,a (Tl b)=a b):(TG c).any a=c.any a:=by unfold TG;rw[(List.reverse_perm _).any_eq,List.any_map];congr 1;funext b;exact d b
theorem SX(a:List Tb):eI (TG a)=eI a:=by unfold eI;rw[Ta (Tx a),S7 a _ λb=>rfl]
theorem TF(a:List Tb):e5 (TG a)=e5 a:=by unfold e5;rw[SX,S7 a Vr λb=>by unfold Vr;exact(List.reverse_perm _).any_eq]
theorem SW(h:Sk T):Sk (TG T):=λf c d a=>by
 obtain⟨e,b,rfl⟩:=Tt.1 c
 exact h e b d (List.mem_reverse.1 a)
theorem Tc(h:eI T=true):(T.map Tb.name).Nodup:=by unfold eI hh at h;simp only[cc] at h;exact of_decide_eq_true h.2.2
mutual
theorem Ts{a:List Tb}(g:(a.map Tb.name).Nodup):∀m:Pl,bK (TG a) m=bK a m
 | .mk l n e cols i c f d j k b=>by rw[bK,bK,Tn g b];split;(.unfold bA;(have h:nI (TG a) (Pl.mk l n e cols i c f d j k b).au=nI a (Pl.mk l n e cols i c f d j k b).au:=by unfold nI;rw[Tz g];cases a.find? _<;>rfl);rw[h]);.rfl
theorem Tn{b:List Tb}(c:(b.map Tb.name).Nodup):∀a:List Pl,hX (TG b) a=hX b a
 | []=>by rw[hX,hX]
 | d::a=>by rw[hX,hX,Ts c d,Tn c a]
end
theorem S6(c:ByteArray):∀(b:List Tb) (a:Int),¬c∈b.map Tb.name->b.foldl (λa d=>if d.name=c then max (d.rows.length:Int) 1 else a) a=a
 | [],_,_=>rfl
 | d::b,a,h=>by rw[dX,List.mem_cons] at h;rw[List.foldl_cons,VU λe=>h (.inl e.symm)];exact S6 c b a λf=>h (.inr f)
theorem Tq(e:ByteArray):∀(c:List Tb) (b:Int),(c.map Tb.name).Nodup->c.foldl (λb a=>if a.name=e then max (a.rows.length:Int) 1 else b) b=match c.find? (λa=>decide (a.name=e)) with
  | some a=>max (a.rows.length:Int) 1
  | none=>b
 | [],_,_=>rfl
 | a::c,b,f=>by
  rw[dX,List.nodup_cons] at f
  rw[List.foldl_cons,List.find?_cons]
  by_cases d:a.name=e
  .rw[ba d,S6 e c _ (by rw[<-d];exact f.1),decide_eq_true d]
  .rw[VU d,decide_eq_false d]
   exact Tq e c b f.2
theorem SP(b:(T.map Tb.name).Nodup)(a:ByteArray):Ee (TG T) a=Ee T a:=by
 unfold Ee;rw[Tq a T 1 b,Tq a (TG T) 1 ((Tx T).nodup_iff.2 b),Tz b];cases T.find? (λc=>decide (c.name=a)) with
 | none=>rfl
 | some c=>show max (((Tl c).rows.length:Nat):Int) 1=_;unfold Tl;rw[List.length_reverse]
mutual
theorem To{a:List Tb}(b:(a.map Tb.name).Nodup):∀c:Pl,bC (TG a) c=bC a c
 | .mk m n g cols j e i f k l d=>by rw[bC,bC,Ty b d];unfold eP gi;rw[SP b]
theorem Ty{b:List Tb}(c:(b.map Tb.name).Nodup):∀a:List Pl,qY (TG b) a=qY b a
 | []=>by rw[qY,qY]
 | d::a=>by rw[qY,qY,To c d,Ty c a]
end
theorem S4(b:(T.map Tb.name).Nodup):SH T (TG T):=⟨λc=>by
  rw[Tz b]
  cases T.find? (λa=>decide (a.name=c)) with
  | none=>exact .inl ⟨rfl,rfl⟩
  | some a=>exact .inr ⟨a,Tl a,rfl,rfl,List.reverse_perm _⟩,Ts b,To b⟩
theorem SE(d:Sk T)(g:p.fin)(i:bC T p<=2147483647):gO (TG T) p=gO T p/\VC (TG T) p=VC T p:=by
 cases a:e5 T with
 | false=>(have b:gO T p=1:=by unfold gO;rw[a];rfl);(have e:gO (TG T) p=1:=by unfold gO;rw[TF,a];rfl);refine⟨e.trans b.symm,?_⟩;unfold VC;rw[b,e,VU (by decide),VU (by decide)]
 | true=>(have l:eI T=true:=by unfold e5 at a;simp only[cc] at a;exact a.1);have j:=Tc l;(have b:gO (TG T) p=gO T p:=by unfold gO;rw[TF,Ts j]);refine⟨b,?_⟩;by_cases c:gO T p=0;(.obtain⟨_,f,k,m⟩:=k4 c;rw[m,(k4 (b.trans c)).2.2.2];exact TX (hP a d p.size p bi g f k i) (Tj (S4 j) a ((TF T).trans a) d (SW d) p.size p bi g f k i));.unfold VC;rw[VU c,VU (by rw[b];exact c)]
theorem SF(b:List Tb)(m:∀s∈b,s.fin)(r:b.length<=1048576)(g:Option Addr)(k:Nat)(e:Pl)(d:Pm)(a:World)(l:lZ a g b)(q:e5 b=false):Calls prog 8 #[e.val d,.slice g b.length k] a λn t=>n=.returned (.tuple #[.slice none 0 0,.int .i64 1])/\Bw a t:=by have i:=am (VT _ a) (e.box d);have f:=H i;have c:=H (yU b m r g k (a.alloc (e.box d)) (l.aa i));rw[q] at c;simp only[Bool.false_eq_true,if_false] at c;rw[Pl.ad];unfold Pl.box at f c;obtain⟨w,j⟩:=bn (a.alloc (e.box d));rw[<-j] at f c;have o:=H j;clear j i m l;go_enter func8,ntmps8;go_upto_region 1 with fail;rw[<-U o];go_wp2_with (go_at_call 22;refine(U c).mono ?_;rintro n u ⟨rfl,p⟩);refine bs (v:=.tuple #[.slice none 0 0,.int .i64 1]) (by simp[results,results8,go_sem]) rfl ⟨rfl,ac (U f) p⟩
theorem SM:(Tryz.prog.info? 63).map (λa=>(a.zero,a.size,a.bytes))=some (some (.agg #[.string ⟨#[]⟩,.slice none 0 0,.slice none 0 0]),3,64):=by kernel_rfl
def SO(a:Tb×Tm):List Value:=[.string a.1.name,.slice a.2.aC a.1.cols.length a.2.cC,.slice a.2.aR a.1.rows.length a.2.cR]
theorem Tr:∀a:List (Tb×Tm),(a.flatMap SO).length=a.length*3
 | []=>rfl
 | b::a=>by rw[eA,bG,Tr a,dY];show 3+_=_;omega
def SD(base:Nat)(c:World)(b:Value)(a:List (Tb×Tm)):Prop:=c.ownsRow base 63 3 b a.length (a.flatMap SO)
theorem SZ{p:Array Oper}{rest:List Oper}{l:Oper}{k:Act}{n:Exit->Act->World->Prop}(b:World)(u:l.guard=none)(m x:Operand)(y:l.op=.call { callee:=.builtin .append,args:=#[m,x],argTypes:=#[29,29] }) (base:Nat) (i:Value) (d:List (Tb×Tm)) (f:Tb×Tm) (e:Nat) (A:k.eval m=i) (z:SD base b i d) (B:k.eval x=.slice (some ⟨e,0,none⟩) 1 1) (t:∀(a:Nat) g,(SO f)[a]?=some g->b.cell? ⟨e,a,none⟩=some g) (K:d.length<=2000000) (s:base<=b.heap.size) (h:∀c j,SD base j c (d++[f])->b.grownBy j i.ownBlock->(c.ownBlock=i.ownBlock∨c.ownBlock=some b.heap.size)->wpList prog p n rest (k.put l.dst c) j):wpList prog p n (l::rest) k b:=by
 obtain⟨C,v,G,I,J⟩:=info_parts SM;refine wpList_append_own_at b u m x 29 y base 63 C (.agg #[.string ⟨#[]⟩,.slice none 0 0,.slice none 0 0]) 3 64 underlying29 v G I J rfl (by decide) i d.length (d.flatMap SO) A z ⟨e,0,none⟩ 1 1 (SO f) B rfl (λa g w=>by(have r:(⟨e,0,none⟩:Addr).add a=⟨e,a,none⟩:=by by_cases h:a=0<;>simp[Addr.add,h]);rw[r];exact t a g w) (λg o=>by simp only[SO,List.mem_cons,List.not_mem_nil,or_false] at o;rcases o with rfl|rfl|rfl<;>rfl) (by unfold maxLen;omega) (by omega) s ?_;intro c j D E L F;refine h c j ?_ E F;unfold SD;rw[bG,List.flatMap_append];have q:List.flatMap SO [f]=SO f:=by simp
 rw[q];exact D
theorem SD.tbs{base:Nat}{b:List (Tb×Tm)}(h:SD base w v b)(A:∀d∈b,zW w d.1 d.2):∃k n,v=.slice k b.length n/\lZ w k (b.map (·.1)):=by
 have f:=h;unfold SD at f;rcases f.2 with ⟨rfl,s⟩|⟨l,r,B,rfl,_⟩
 .have:=dF s;subst this;exact⟨none,0,rfl,.inl rfl⟩
 .refine⟨_,r,rfl,.inr ⟨l,0,rfl,λc D m=>?_⟩⟩;rw[bL] at m;obtain⟨d,i,rfl⟩:=Option.map_eq_some_iff.1 m;have C:=(bD i).1;(have g:∀a,a<3->w.cell? ⟨l,c*3+a,none⟩=(SO d)[a]?:=λa z=>by rw[World.ownsRow.cellAt f (c*3+a) (by omega)];(obtain⟨e,j,y,x⟩:∃e j,b=e++d::j/\e.length=c:=by refine⟨b.take c,b.drop (c+1),?_,by rw[List.length_take];omega⟩;obtain⟨t,u⟩:=bD i;rw[<-u,<-gP t,List.take_append_drop]);rw[y,List.flatMap_append,eA,ez (by rw[Tr];omega),Tr,x,show c*3+a-c*3=a by omega,eK (by show a<3;exact z)]);have o:=g 0 (by omega);have p:=g 1 (by omega);have q:=g 2 (by omega);refine⟨d.2,⟨?_,?_,?_⟩,A d (VQ i)⟩;(.rw[bI];exact o);(.rw[bI];exact p);.rw[bI];exact q
theorem Sz{C:Array Oper}{rest:List Oper}{n:Oper}{m:Act}{u:Exit->Act->World->Prop}(p f:World)(J:n.guard=none)(s x:Operand)(L:n.op=.call { callee:=.builtin .append,args:=#[s,x],argTypes:=#[31,31] }) (k:Value) (c:List (List aH)) (i:List aH) (g:Nat) (j:Option Addr) (o:Nat) (P:m.eval s=k) (M:Ec p f k c) (Q:m.eval x=.slice (some ⟨g,0,none⟩) 1 1) (I:f.cell? ⟨g,0,none⟩=some (.slice j i.length o)) (N:bX p j i) (Y:c.length<=4294967296) (h:∀e l,Ec p l e (c++[i])->f.grownBy l k.ownBlock->(e.ownBlock=k.ownBlock∨e.ownBlock=some f.heap.size)->wpList prog C u rest (m.put n.dst e) l):wpList prog C u (n::rest) m f:=by
 obtain⟨S,K,V,W,X⟩:=info_parts iB;obtain⟨w,D,A,z,O⟩:=M;have y:=w.size
 refine wpList_append_own_at f J s x 31 L p.heap.size 40 S (.slice none 0 0) 1 24 underlying31 K V W X rfl (by decide) k c.length D P z ⟨g,0,none⟩ 1 1 [.slice j i.length o] Q rfl (λB t d=>by
  match B,d with
  | 0,d=>simp at d;subst d;simpa [Addr.add] using I
  | B+1,d=>simp at d) (λt a=>by simp at a;subst a;rfl) (by unfold maxLen;omega) (by omega) y ?_
 intro e l F v _ G;refine h e l ⟨w.trans (bB v y λg E=>(World.ownsRow.lt z g E).1),D++[.slice j i.length o],by rw[bG,bG,A];rfl,by rw[bG];exact F,λr t T a b=>?_⟩ v G;rcases Nat.lt_or_ge r c.length with q|q;.rw[eK (by omega)] at a;rw[eK q] at b;exact O r t T a b
 .rw[ez (by omega)] at a;rw[ez q] at b;rw[A] at a;(have R:r-c.length=0:=by have:=(bD b).1;simpa using this);rw[R] at a b;injection a with a;injection b with b;subst a b;exact⟨j,o,rfl,N⟩
theorem RN(base:Nat)(a:World):SD base a (.slice none 0 0) []:=⟨rfl,.inl ⟨rfl,rfl⟩⟩
structure RT(w0 W:World)(v:Value)(q:Tb×Tm):Prop where
 c:Vs w0 q.2.aC q.1.cols
 r:q.1.rows=[]∨∃b,q.2.aR=some ⟨b,0,none⟩/\b<W.heap.size/\v.ownBlock≠some b/\∀i r,q.1.rows[i]?=some r->∃ra9 rc9,W.cell? ⟨b,i,none⟩=some (.slice ra9 r.length rc9)/\bX w0 ra9 r
theorem RT.tbm{a:Tb×Tm}(h:RT w W v a)(b:Bw w W):zW W a.1 a.2:=by
 refine⟨h.c.aa b,?_⟩;rcases h.r with h|⟨c,d,_,_,i⟩;.exact .inl h
 .exact .inr ⟨c,0,d,λj k g=>by obtain⟨l,m,e,f⟩:=i j k g;exact⟨l,m,by rw[bI];exact e,f.aa b⟩⟩
theorem RT.aa{b:Tb×Tm}(h:RT w W v b)(a:Bw W X):RT w X v b:=by
 refine⟨h.c,?_⟩;rcases h.r with h|⟨c,d,k,l,i⟩;.exact .inl h
 .exact .inr ⟨c,d,cN k a.size,l,λj m g=>by obtain⟨n,o,e,f⟩:=i j m g;exact⟨n,o,ae e a,f⟩⟩
theorem RT.push{e:Tb×Tm}(h:RT w W v e)(j:W.grownBy X v.ownBlock)(a:u.ownBlock=v.ownBlock∨u.ownBlock=some W.heap.size):RT w X u e:=by
 have c:Ky (λn=>v.ownBlock=some n) W X:=Ky.ao j λs b=>b;refine⟨h.c,?_⟩;rcases h.r with h|⟨f,b,o,d,l⟩;.exact .inl h
 .refine .inr ⟨f,b,cN o c.size,?_,λm p k=>?_⟩;(.rcases a with a|a;(.rw[a];exact d);.rw[a];intro h;injection h with h;omega);.obtain⟨q,r,g,i⟩:=l m p k;exact⟨q,r,c.cell g d,i⟩
theorem Ec.aa(h:Ec w W v r)(a:Bw W X):Ec w X v r:=by obtain⟨b,f,c,d,e⟩:=h;exact⟨ac b a,f,c,hz d a,e⟩
theorem Ec.own(h:Ec w W v r):∃d e,v=.slice d r.length e/\(r=[]∨∃a,d=some ⟨a,0,none⟩/\a<W.heap.size/\∀b c,r[b]?=some c->∃l p,W.cell? ⟨a,b,none⟩=some (.slice l c.length p)/\bX w l c):=by
 obtain⟨t,q,y,f,n⟩:=h;rcases f.2 with ⟨rfl,i⟩|⟨a,m,s,rfl,u⟩
 .exact⟨none,0,by rw[i],.inl (dF i)⟩
 .refine⟨_,m,rfl,.inr ⟨a,rfl,(f.lt a rfl).2,λb c j=>?_⟩⟩;have x:=(bD j).1;obtain⟨g,k⟩:∃g,q[b]?=some g:=⟨_,VR (by omega)⟩;obtain⟨d,e,rfl,o⟩:=n b g c k j;exact⟨d,e,by rw[World.ownsRow.cellAt f b (by omega),k],o⟩
theorem RG(a:Bw w W):Ec w W (.slice none 0 0) []:=⟨a,[],rfl,⟨rfl,.inl ⟨rfl,rfl⟩⟩,λc e d b=>by simp at b⟩
theorem Ss{α:Type}{l:List α}{j:Nat}{x:α}(h:l[j]?=some x):l.reverse.take (l.length-j)=l.reverse.take (l.length-(j+1))++[x]:=by
 have b:=(bD h).1;have a:l.length-j=l.length-(j+1)+1:=by omega
 rw[a,List.take_add_one,List.getElem?_reverse (by omega),show l.length-1-(l.length-(j+1))=j by omega,h];rfl
theorem RO{a:Tb}(h:T[n]?=some a):(TG T).take (T.length-n)=(TG T).take (T.length-(n+1))++[Tl a]:=by have:=Ss (l:=T.map Tl) (j:=n) (x:=Tl a) (by rw[bL,h];rfl);rw[bQ] at this;exact this
theorem Sw(a:List Tb):(TG a).length=a.length:=by unfold TG;rw[List.length_reverse,bQ]
theorem R7{w7:World}{v79:Value}{a:List (Tb×Tm)}{e:Tb×Tm}(c:Bw w W)(j:SD w.heap.size W v a)(i:∀x∈a,RT w W v x)(k:RT w W v e)(b:W.grownBy w7 v.ownBlock)(d:v79.ownBlock=v.ownBlock∨v79.ownBlock=some W.heap.size):(∀x∈a++[e],RT w w7 v79 x)/\Bw w w7:=by
 refine⟨λx l=>?_,c.trans (bB b c.size λg f=>(World.ownsRow.lt j g f).1)⟩;rcases cM l with h|h;.exact(i x h).push b d
 .rw[List.mem_singleton] at h;rw[h];exact k.push b d
theorem RQ{W':World}{v':Value}(c:Bw w W)(d:∀a,v.ownBlock=some a->w.heap.size<=a)(e:W.grownBy W' v.ownBlock)(f:v'.ownBlock=v.ownBlock∨v'.ownBlock=some W.heap.size):(∀a,v'.ownBlock=some a->w.heap.size<=a)/\Bw w W':=by
 refine⟨λa h=>?_,c.trans (bB e c.size d)⟩;rcases f with b|b;.exact d a (b ▸ h)
 .rw[b] at h;injection h with h;have:=c.size;omega
theorem uf.put{t:Tb}{m:Tm}(h:uf w n 0 t m)(g:w.heap.size=w.heap.size)(a:Option Addr)(c:Nat)(f:List (List aH)):uf (w.setCell ⟨n,2,none⟩ (.slice a f.length c)) n 0 ⟨t.name,t.cols,f⟩ ⟨m.aC,m.cC,a,c⟩:=by
 obtain⟨b,d,e⟩:=h;simp only[bI] at b d e;refine⟨?_,?_,?_⟩;.rw[bo _ _ _ _ _ _ (by simp)];exact b
 .rw[bI,bo _ _ _ _ _ _ (by simp)];exact d
 .rw[bI];exact b5 e
def Rv(b:List Tb)(c:World)(f:Ending)(d:World):Prop:=∃a e,f=.returned (.slice a (TG b).length e)/\lZ d a (TG b)/\Bw c d
theorem RP(i:List Tb)(W9:i.length<=1048576)(WA:∀a∈i,a.rows.length<=1048576)(Wj:Option Addr)(W0:Nat)(j:World)(Wt:lZ j Wj i):Calls prog 9 #[.slice Wj i.length W0] j (Rv i j):=by
 have WW:=H Wt;have WR:=H WA;have Xh:=H W9;clear Wt WA;go_enter func9,ntmps9;go_wp2_with fail;go_loopw[3,4] (λWE e D=>∃(m:Nat) (l:List (Tb×Tm)),m<=i.length/\e=.int .i64 ((m:Int)-1)/\Hid (l.map Prod.fst=(TG i).take (i.length-m))/\Hid (SD j.heap.size D WE l)/\Hid (∀w∈l,RT j D WE w)/\Hid (Bw j D)) (λ_ e _=>(intOf e+1).toNat);case atStart=>exact⟨i.length,[],bi,by go_num,(by show _=_;simp),RN _ _,(λw y=>by cases y),VS⟩
 case round=>
  obtain⟨m,l,Xl,rfl,V,W,Wa,k⟩:=hrel;rcases Nat.eq_zero_or_pos m with rfl|Xj;·(have Xc:¬(0:Int)<=((0:Nat):Int)-1:=by omega);obtain⟨WY,WZ,rfl,V0⟩:=(U W).tbs (λw y=>(U Wa w y).tbm (U k));(have V4:l.map Prod.fst=TG i:=by rw[U V,Nat.sub_zero,fz (by rw[Sw];exact bi)]);(have Wy:l.length=(TG i).length:=by rw[<-V4,bQ]);rw[V4] at V0;rw[Wy];have WG:=H V0;clear V0 V4 Wy;go_wp2;go_ret;exact⟨WY,WZ,rfl,U WG,U k⟩
  .obtain⟨g,rfl⟩:∃g,m=g+1:=⟨m-1,by omega⟩;(have Wk:((g+1:Nat):Int)-1=(g:Int):=by omega);rw[Wk];(have Xc:(0:Int)<=(g:Int):=by omega);(have Xn:(g:Int)<(i.length:Int):=by omega);obtain⟨a,O⟩:∃a,i[g]?=some a:=⟨_,VR (by omega)⟩;obtain⟨Xi,Xp,b,Wm,Wp,Wx⟩:=(U WW).get O;have V9:=H (Wp.aa (U k)).load;rw[Tb.ad] at V9;have WX:=H (RO O);have Xm:=U WR a (VQ O);have We:=H Wx;obtain⟨r,Xa⟩:=bn wr;subst Xa;obtain⟨x,z⟩:=bn (r.alloc (a.box b));obtain⟨n,I⟩:=bn r.heap.size;(have Wf:Hid (uf x n 0 a b):=by rw[z,I];exact uf.new r a b);(have E:Hid (Bw r x):=by rw[z];exact am (VT _ r) _);(have WL:Hid (x.frozen? ⟨n,2,none⟩=false):=by show _=_;rw[z,I];simp[go_sem]);(have Wd:Hid (x.heap.size=n+1):=by show _=_;rw[z,I];simp);have T:=H I;have Wh:=H z;unfold Tb.box at Wh;rw[Wm];clear z I O Wp Wx Wk Wm;go_upto_region 6 with (refine a1 ?_ 63 (.tmp 17) rfl _ (by simp[Act.eval,Act.put]) _ (U V9) ?_;. simp[Region.wanted,yielded]);rw[<-U Wh,<-U T];obtain⟨X,Z,VX⟩:=U Wf;simp only[bI] at X Z VX;go_wp2_with fail;go_loopw[6,7] (λWF V6 D=>∃(v:Nat),v<=a.rows.length/\V6=.int .i64 ((v:Int)-1)/\Hid (Ec j D WF (a.rows.reverse.take (a.rows.length-v)))/\Hid (∀s,WF.ownBlock=some s->x.heap.size<=s)/\Hid (Bw x D)) (λ_ V6 _=>(intOf V6+1).toNat);case atStart=>exact⟨a.rows.length,bi,by go_num,(by rw[Nat.sub_self];exact RG ((U k).trans ((U E).mono (U k).size))),(λs h=>by cases h),VS⟩
   case round=>
    obtain⟨v,W7,rfl,L,V8,o⟩:=hrel;have Y:=ae X (U o);have VW:=ae Z (U o);have VY:=ae VX (U o);have WH:=H ((U k).trans (((U E).trans ((U o).mono (U E).size)).mono (U k).size));rcases Nat.eq_zero_or_pos v with rfl|Xk
    ·(have Xd:¬(0:Int)<=((0:Nat):Int)-1:=by omega);rw[Nat.sub_zero,fz (by rw[List.length_reverse];exact bi)] at L;obtain⟨A,J⟩:=bn ((Tl a).rows.length);obtain⟨c,d,VZ,Wz⟩:=(U L).own;change _=Value.slice c (Tl a).rows.length d at VZ;rw[<-J] at VZ;subst VZ;(have Wu:(Tl a).box ⟨b.aC,b.cC,c,d⟩=.cells #[.string a.name,.slice b.aC a.cols.length b.cC,.slice c A d] 63:=by rw[J];rfl);have W4:wr.frozen? ⟨n,2,none⟩=false:=((U o).frozen (p:=⟨n,2,none⟩) (by rw[U Wd];exact Nat.lt_succ_self _)).trans (U WL);obtain⟨f,N⟩:=bn (wr.setCell ⟨n,2,none⟩ (.slice c A d));(have P:Ky (λm=>m=n) wr f:=by rw[N];exact cS _ _ _ _ rfl);(have Wq:uf f n 0 (Tl a) ⟨b.aC,b.cC,c,d⟩:=by rw[N,J];exact uf.put (m:=b) (t:=a) ⟨Y,by rw[bI];exact VW,by rw[bI];exact VY⟩ rfl c d a.rows.reverse);have G:Bw r f:=(ac (U E) (U o)).trans (P.below (λm M=>by rw[M,<-U T];exact bi) (cw (U E).size (U o).size));have t:=am (VT _ f) ((Tl a).box ⟨b.aC,b.cC,c,d⟩);have F:=uf.new f (Tl a) ⟨b.aC,b.cC,c,d⟩;rw[Wu] at t F;(have y:RT j f u3 (Tl a,⟨b.aC,b.cC,c,d⟩):=by refine⟨(U We).c,?_⟩;rcases Wz with h|⟨s,M,Xe,K⟩;(.exact .inl h);.have W5:=U V8 s (by rw[M];rfl);rw[U Wd] at W5;refine .inr ⟨s,M,cN Xe P.size,λh=>?_,λe q W6=>?_⟩;(.have:=(World.ownsRow.lt (U W) s h).2;rw[<-U T] at this;omega);.obtain⟨B,C,W1,W2⟩:=K e q W6;exact⟨B,C,P.cell W1 (by omega),W2⟩);have V1:SD j.heap.size (f.alloc (.cells #[.string a.name,.slice b.aC a.cols.length b.cC,.slice c A d] 63)) u3 l:=hz (U W) (ac G t);have WV:=H (λ(R:Value) (S:World) V3 V5=>R7 (w7:=S) (v79:=R) (ac ((U k).trans (G.mono (U k).size)) t) V1 (λXg Xb=>(U Wa Xg Xb).aa (ac G t)) (y.aa t) V3 V5);(have WM:Hid ((Instr.loadAt 63 (.pointer (some ⟨n,0,none⟩))).run prog f=.ok (.agg #[.string a.name,.slice b.aC a.cols.length b.cC,.slice c A d]) f):=by have:=Wq.load;rw[Tb.ad,<-J] at this;exact this);have WO:=H V1
     have WJ:Hid (∀(g:Nat) V7,(SO (Tl a,⟨b.aC,b.cC,c,d⟩))[g]?=some V7->(f.alloc (.cells #[.string a.name,.slice b.aC a.cols.length b.cC,.slice c A d] 63)).cell? ⟨f.heap.size,g,none⟩=some V7):=λg V7 u=>by
      match g,u with
      | 0,u=>exact F.c0.trans u
      | 1,u=>exact F.c1.trans u
      | 2,u=>exact F.c2.trans u
     have WI:Hid (j.heap.size<=(f.alloc (.cells #[.string a.name,.slice b.aC a.cols.length b.cC,.slice c A d] 63)).heap.size):=(ac ((U k).trans (G.mono (U k).size)) t).size;(have W3:l.length<=2000000:=by have:=congrArg List.length (U V);rw[bQ,List.length_take,Sw] at this;omega);have Wg:=H N;clear Y VW X Z VX P Wq G t y V1 Wz W7 N Wf L J Wu F;go_upto_region 12 with fail;rw[<-U Wg];clear VY W4 Wg
     go_wp2_with (first
      | (refine a1 ?_ 63 (.tmp 5) rfl _ (by simp[Act.eval,Act.put]) _ (U WM) ?_;. simp[Region.wanted,yielded])
      | (refine SZ _ rfl (.tmp 37) (.tmp 39) rfl j.heap.size u3 l (Tl a,⟨b.aC,b.cC,c,d⟩) f.heap.size (by simp[Act.eval,Act.put]) (U WO) (by simp[Act.eval,Act.put]) (U WJ) W3 (U WI) ?_;intro R S Ws Ww WD;have WP:=H Ws;have Wc:=H (U WV R S Ww WD);clear Ws Ww WD))
     go_roundw;(case rel=>exact⟨g,l++[(Tl a,⟨b.aC,b.cC,c,d⟩)],by omega,by go_num,(by show _=_;rw[ep,U V,U WX];rfl),WP,H (U Wc).1,H (U Wc).2⟩);case measure=>simp[intOf]<;>omega
    .obtain⟨e,rfl⟩:∃e,v=e+1:=⟨v-1,by omega⟩;(have Wl:((e+1:Nat):Int)-1=(e:Int):=by omega);rw[Wl];(have Xd:(0:Int)<=(e:Int):=by omega);(have Xo:(e:Int)<(a.rows.length:Int):=by omega);obtain⟨q,K⟩:∃q,a.rows[e]?=some q:=⟨_,VR (by omega)⟩;obtain⟨Xr,Xs,B,C,Wn,w,WB⟩:=(U We).r.get K;have Xq:=ae w (U WH);rw[Wn] at VY;have WS:=H (Ss K);have V2:=am (VT _ wr) (.cells #[.slice B q.length C] 40);have WQ:=H ((U L).aa V2);have WT:=H WB;(have WK:Hid ((wr.alloc (.cells #[.slice B q.length C] 40)).cell? ⟨wr.heap.size,0,none⟩=some (.slice B q.length C)):=by show _=_;simp[go_sem]);have WU:=H (λ(Q:Value) (Wi:World) V3 V5=>RQ (v':=Q) (W':=Wi) (ac (U o) V2) (U V8) V3 V5);(have W8:(a.rows.reverse.take (a.rows.length-(e+1))).length<=4294967296:=by rw[List.length_take,List.length_reverse];omega);clear Y VW w WB Wn V2 Wl K;go_wp2_with (refine Sz j _ rfl (.tmp 27) (.tmp 33) rfl _ _ q wr.heap.size B C (by simp[Act.eval,Act.put]) (U WQ) (by simp[Act.eval,Act.put]) (U WK) (U WT) W8 ?_;intro Q Xf Wr Wv WC;have WN:=H Wr;have Wb:=H (U WU Q Xf Wv WC);clear Wr Wv WC);go_roundw;(case rel=>exact⟨e,by omega,by go_num,(by rw[U WS];exact WN),H (U Wb).1,H (U Wb).2⟩);case measure=>simp[intOf]<;>omega
theorem Ub{ca cb:Nat}(P:x.length<=1000000)(A:bX w a x)(B:bX w b x):Calls prog 27 #[.slice a x.length ca,.slice b x.length cb] w λk q=>k=.returned (.bool true)/\Bw w q:=by
 go_enter func27,ntmps27;go_wp2_with fail;go_loopw[13] (λp E=>∃c:Nat,c<=x.length/\p=.int .i64 c/\Bw w E) (λp E=>x.length-(intOf p).toNat);case atStart=>exact⟨0,bt,rfl,VS⟩
 case round=>obtain⟨c,O,rfl,l⟩:=hrel;have I:=A.aa l;have J:=B.aa l;by_cases m:c<x.length;(.obtain⟨d,o⟩:∃d,x[c]?=some d:=⟨_,VR m⟩;rcases I with k|⟨f,i,rfl,C⟩;(.subst k;simp at m);obtain⟨r,s,t⟩:=C c d o;(have K:(c:Int)<(x.length:Int):=by omega);rcases J with k|⟨g,ob,rfl,D⟩;(.subst k;simp at m);obtain⟨u,v,y⟩:=D c d o;clear C D o;go_upto_region 6 with fail;have e:Hid ((wr.drew.cell? ⟨f,i+c*3,none⟩=some (.int .i64 d.k)/\wr.drew.cell? ⟨f,i+c*3+1,none⟩=some (.int .i64 d.n)/\wr.drew.cell? ⟨f,i+c*3+2,none⟩=some (.string d.s))/\wr.drew.cell? ⟨g,ob+c*3,none⟩=some (.int .i64 d.k)/\wr.drew.cell? ⟨g,ob+c*3+1,none⟩=some (.int .i64 d.n)/\wr.drew.cell? ⟨g,ob+c*3+2,none⟩=some (.string d.s)):=⟨⟨r,s,t⟩,u,v,y⟩;have F:=H l;clear r s t u v y l A B;refine bH (λj:World=>(j.cell? ⟨f,i+c*3,none⟩=some (.int .i64 d.k)/\j.cell? ⟨f,i+c*3+1,none⟩=some (.int .i64 d.n)/\j.cell? ⟨f,i+c*3+2,none⟩=some (.string d.s))/\j.cell? ⟨g,ob+c*3,none⟩=some (.int .i64 d.k)/\j.cell? ⟨g,ob+c*3+1,none⟩=some (.int .i64 d.n)/\j.cell? ⟨g,ob+c*3+2,none⟩=some (.string d.s)) 8 ?_;refine ap 0 (.slice (some ⟨f,i,none⟩) x.length ca) rfl (U e) ?_;refine ap 1 (.int .i64 (c:Int)) rfl (U e) ?_;refine ap 2 (.pointer (some ⟨f,i+c*3,none⟩)) rfl (U e) ?_;(refine ap 3 (.agg #[.int .i64 d.k,.int .i64 d.n,.string d.s]) rfl (U e) ?_ λq n=>by obtain⟨⟨L,M,N⟩,_⟩:=n;go_simp);refine ap 4 (.slice (some ⟨g,ob,none⟩) x.length cb) rfl (U e) ?_;refine ap 5 (.int .i64 (c:Int)) rfl (U e) ?_;refine ap 6 (.pointer (some ⟨g,ob+c*3,none⟩)) rfl (U e) ?_;(refine ap 7 (.agg #[.int .i64 d.k,.int .i64 d.n,.string d.s]) rfl (U e) ?_ λq n=>by obtain⟨_,L,M,N⟩:=n;go_simp);refine bh 8 rfl λG z=>?_;go_simp;refine bE z ?_;clear z G;refine cf ?_;go_wp2;exact⟨⟨c+1,by omega,by go_num,(U F).drew⟩,by simp[intOf];omega⟩);·(have K:¬(c:Int)<(x.length:Int):=by omega);go_wp2;go_ret;exact⟨rfl,l⟩
theorem Uk{c1 c2:Nat}(G:∀d∈r,d.length<=1000000)(k:ga w a r)(E:ga w b r)(T:r.length<=2147483648):Calls prog 10 #[.slice a r.length c1,.slice b r.length c2] w λD z=>D=.returned (.bool true)/\Bw w z:=by
 have M:=H G;have N:=H k;have O:=H E;clear G k E;go_enter func10,ntmps10;go_wp2_with fail;go_loopw[13] (λv J=>∃c:Nat,c<=r.length/\v=.int .i64 c/\Bw w J) (λv J=>r.length-(intOf v).toNat);case atStart=>exact⟨0,bt,rfl,VS⟩
 case round=>obtain⟨c,S,rfl,g⟩:=hrel;by_cases k:c<r.length;(.obtain⟨d,l⟩:∃R,r[c]?=some R:=⟨_,VR k⟩;obtain⟨i,m,x,q,rfl,o,A⟩:=((U N).aa g).get l;obtain⟨j,n,y,s,rfl,p,B⟩:=((U O).aa g).get l;have I:=U M d (VQ l);have P:=H (Ub (ca:=q) (cb:=s) I (A.aa VS.drew) (B.aa VS.drew));(have Q:(c:Int)<(r.length:Int):=by omega);have K:=H g;have e:Hid (wr.drew.cell? ⟨i,m+c,none⟩=some (.slice x d.length q)/\wr.drew.cell? ⟨j,n+c,none⟩=some (.slice y d.length s)):=⟨o,p⟩;clear l A B I g o p;go_upto_region 6 with fail;refine bH (λC:World=>C.cell? ⟨i,m+c,none⟩=some (.slice x d.length q)/\C.cell? ⟨j,n+c,none⟩=some (.slice y d.length s)) 8 ?_;refine ap 0 (.slice (some ⟨i,m,none⟩) r.length c1) rfl (U e) ?_;refine ap 1 (.int .i64 (c:Int)) rfl (U e) ?_;refine ap 2 (.pointer (some ⟨i,m+c,none⟩)) rfl (U e) ?_;(refine ap 3 (.slice x d.length q) rfl (U e) ?_ λz u=>by obtain⟨o,p⟩:=u;go_simp);refine ap 4 (.slice (some ⟨j,n,none⟩) r.length c2) rfl (U e) ?_;refine ap 5 (.int .i64 (c:Int)) rfl (U e) ?_;refine ap 6 (.pointer (some ⟨j,n+c,none⟩)) rfl (U e) ?_;(refine ap 7 (.slice y d.length s) rfl (U e) ?_ λz u=>by obtain⟨o,p⟩:=u;go_simp);refine bh 8 rfl λt f=>?_;go_simp;refine(U P).mono ?_;rintro D V ⟨rfl,F⟩;go_simp;have L:=H (ac (U K).drew F);clear F;refine bE f ?_;clear f t;refine bh 9 rfl λt f=>?_;go_simp;refine bE f ?_;clear f t;refine cf ?_;go_wp2;exact⟨⟨c+1,by omega,by go_num,U L⟩,by simp[intOf];omega⟩);·(have Q:¬(c:Int)<(r.length:Int):=by omega);go_wp2;go_ret;exact⟨rfl,g⟩
def RC(e:Int)(a:List (List aH))(b:World)(g:Ending)(d:World):Prop:=∃c f,g=.returned (.tuple #[.slice c a.length f,.int .i64 e])/\ga d c a/\Bw b d
theorem Sx(a:List Tb)(p:∀v∈a,v.fin)(q:Sk a)(u:a.length<=1048576)(d:Option Addr)(f:Nat)(b:Pl)(o:b.fin)(r:b.aQ)(t:bC a b<=2147483647)(e:Pm)(c:World)(l:hI c b e)(k:lZ c d a):Calls prog 8 #[b.val e,.slice d a.length f] c (RC (gO a b) (VC a b) c):=by refine(ud a p q u d f b o r t e c l k).mono ?_;intro x z h;obtain⟨y,w,n,j,_,m⟩:=h;obtain⟨g,i,rfl,s⟩:=j.a4;exact⟨g,i,n,s,m⟩
theorem R9(h:∀b∈T,b.fin):∀b∈TG T,b.fin:=λb f=>by
 obtain⟨c,e,rfl⟩:=Tt.1 f
 have a:=h c e
 exact⟨a.n,a.c,a.cn,by show c.rows.reverse.length<=_;rw[List.length_reverse];exact a.r,λg d=>a.rr g (List.mem_reverse.1 d)⟩
theorem So(a:List Tb)(l:∀w∈a,w.fin)(m:Sk a)(o:a.length<=1048576)(b:Pl)(k:b.fin)(t:b.aQ)(n:bC a b<=2147483647)(f:Pm)(e:Option Addr)(g:Nat)(c:World)(r:hI c b f)(i:lZ c e (TG a)):Calls prog 8 #[b.val f,.slice e (TG a).length g] c (RC (gO a b) (VC a b) c):=by
 cases d:e5 a with
 | true=>(have v:eI a=true:=by unfold e5 at d;simp only[cc] at d;exact d.1);obtain⟨p,q⟩:=SE m k n;have h:=Sx (TG a) (R9 l) (SW m) (by rw[Sw];exact o) e g b k t (by rw[To (Tc v)];exact n) f c r i;rw[p,q] at h;exact h
 | false=>(have j:gO a b=1:=by unfold gO;rw[d];rfl);(have u:VC a b=[]:=by unfold VC;rw[j,VU (by decide)]);refine(SF (TG a) (R9 l) (by rw[Sw];exact o) e g b f c i ((TF a).trans d)).mono ?_;rintro x y ⟨rfl,s⟩;rw[j,u];exact⟨none,0,rfl,.inl rfl,s⟩
theorem RU(r:Sk T)(q:p.fin)(l:bC T p<=2147483647):(∀a∈VC T p,a.length<=1000000/\a.length=(S8 p T).2.length/\nD (S8 p T).2 a)/\(VC T p).length<=2147483647/\∀(d:Nat) (g i:List aH),(VC T p)[d]?=some g->(VC T p)[d+1]?=some i->¬0<cd g i:=by
 by_cases b:gO T p=0;.obtain⟨c,f,e,B⟩:=k4 b;(have m:eI T=true:=by unfold e5 at c;simp only[cc] at c;exact c.1);(have x:iK p=0:=by unfold gO at b;rw[ba c] at b;split at b;(.assumption);.exact b);(have w:(S8 p T).2=(bK T p).2:=by unfold S8;rw[ba x,ba m,ba e]);have o:=hP c r p.size p bi q f e l;have C:=iR m p.size p bi f e l;have v:=q9 c r p.size p bi q f e l;have D:=(hW m p.size p bi f e).hi;rw[B,w];refine⟨λa k=>?_,by rw[(gE _).length_eq];omega,λd g i n y=>?_⟩;(.have j:=(gE _).mem_iff.1 k;exact⟨by rw[(o a j).len];omega,(o a j).len,v a j⟩);.have s:=vo (cg T p);unfold k6 at s;obtain⟨z,t⟩:=bD n;obtain⟨A,u⟩:=bD y;have:=List.pairwise_iff_getElem.1 s d (d+1) z A (by omega);rw[t,u] at this;omega
 ·(have k:VC T p=[]:=by unfold VC;rw[VU b]);rw[k];exact⟨λa h=>(by cases h),by decide,λd g i n=>by simp at n⟩
theorem RE(b:List Tb)(I:∀WL∈b,WL.fin)(V6:Sk b)(J:b.length<=1048576)(x:Option Addr)(F:Nat)(c:Pl)(G:c.fin)(o:c.aQ)(r:Pm)(s:World)(R:hI s c r)(Q:lZ s x b):Calls prog 3 #[c.val r,.slice x b.length F] s λa L=>a=.returned (.bool true)/\Bw s L:=by
 obtain⟨g,Wa⟩:=bn (s.alloc (c.box r));have n:Bw s g:=by rw[Wa];exact am (VT _ s) _
 have Wu:dL g s.heap.size 0 c r:=by rw[Wa];exact dL.new _ c r
 have WW:=H (λ(f:World) (m:Bw g f)=>Wu.aa m);have D:=H (λ(f:World) (m:Bw g f)=>(Wu.aa m).load);have E:=H (xr b I J x F c G r g (R.aa n) (Q.aa n));have A:=H (λ(p:bC b c<=2147483647) (f:World) (m:Bw g f)=>Sx b I V6 J x F c G o p r f (R.aa (ac n m)) (Q.aa (ac n m)));have B:=H (λ(p:bC b c<=2147483647) (f:World) (m:Bw g f) (W8:Option Addr) (i:Nat) (X3:lZ f W8 (TG b))=>So b I V6 J c G o p r W8 i f (R.aa (ac n m)) X3);have N:=H (λ(f:World) (m:Bw g f)=>RP b J (λWL V9=>(I WL V9).r) x F f (Q.aa (ac n m)));have C:=H (λ(f:World) (m:Bw g f)=>SI b I J x F c G r f (R.aa (ac n m)) (Q.aa (ac n m)));have Wh:=H (λ(p:bC b c<=2147483647)=>RU V6 G p);have Wg:=H n;unfold RC at A B;unfold u0 at C;unfold Rv at N;obtain⟨XQ,P⟩:=bn (c.val r);rw[<-P] at D E A B C;obtain⟨Ya,WF⟩:=bn (decide (2147483647<bC b c));rw[<-WF] at E;have WX:=H WF;obtain⟨X9,Xq⟩:=bn b.length;obtain⟨Yy,Xr⟩:=bn ((TG b).length);obtain⟨WP,Xk⟩:=bn (gO b c);obtain⟨l,Ww⟩:=bn (VC b c);obtain⟨Yi,Xj⟩:=bn ((S8 c b).1);obtain⟨V1,Wv⟩:=bn ((S8 c b).2);simp only[<-Xq] at E A N C ⊢;simp only[<-Xr] at B N;simp only[<-Xk,<-Ww] at A B;simp only[<-Xj,<-Wv] at C;simp only[<-Ww,<-Wv] at Wh;rw[Pl.ad] at P ⊢;rw[<-P];have Wk:=H P;have Wp:=H Wa;unfold Pl.box at Wp;clear Wa n Wu P WF Xq Xr Xk Ww Xj Wv I V6 G o R Q J;rw[U Wk];go_enter func3,ntmps3;go_upto_region 1 with fail;rw[<-U Wp];cases Ya
 case true=>
  go_wp2_with (first
   | (refine a1 ?_ 28 (.tmp 2) rfl _ (by simp[Act.eval,Act.put]) _ (U D _ VS) ?_;. simp[Region.wanted,yielded])
   | (go_at_call 7;refine(U E).mono ?_;rintro a XC ⟨rfl,V4⟩))
  go_ret;exact⟨rfl,ac (U Wg) V4⟩
 case false=>
  have p:bC b c<=2147483647:=by have:=of_decide_eq_false (U WX).symm;omega
  have WQ:=H (U A p);have WR:=H (U B p);obtain⟨Xu,Yq,Xv⟩:=U Wh p;have Wn:=H Xu;have XN:=H Xv;clear A B Wh WX p Xu Xv
  go_upto_region 3 with (first
   | (refine a1 ?_ 28 (.tmp 2) rfl _ (by simp[Act.eval,Act.put]) _ (U D _ VS) ?_;. simp[Region.wanted,yielded])
   | (go_at_call 7;refine(U E).mono ?_;rintro a XC ⟨rfl,V4⟩;have X:=H V4;clear V4))
  go_upto_region 4 with (first
   | (refine a1 ?_ 28 (.tmp 2) rfl _ (by simp[Act.eval,Act.put]) _ (U D _ (U X)) ?_;. simp[Region.wanted,yielded])
   | (go_at_call 8;refine(U WQ XC (U X)).mono ?_;rintro a Ye ⟨W9,Xa,rfl,Xs,Xl⟩;have WS:=H (ac (U X) Xl);have WY:=H Xs;clear Xl Xs))
  clear X WQ E;obtain⟨Wq,V3⟩:=bn Ye.drew;have M:Hid (Bw g Wq):=by rw[V3];exact(U WS).drew
  have W3:Hid (ga Wq W9 l):=by rw[V3];exact(U WY).aa VS.drew
  clear WS WY;refine bH (λXR:World=>Bw g XR) 8 ?_;rw[<-V3];clear V3;refine ap 0 XQ rfl (U M) ?_ λL y=>by obtain⟨XV,XW,XY,XZ,X0,Xb,X1,Wt,Xc,X2,XX⟩:=U WW L y;simp only[bI] at XV XW XY XZ X0 Xb X1 Wt Xc X2 XX;rw[U Wk];go_simp
  refine ap 1 (.slice x X9 F) rfl (U M) ?_;refine bh 2 rfl λt k=>?_;go_simp;refine(U N Wq (U M)).mono ?_;rintro a Yf ⟨XS,XT,rfl,V9,Wx⟩;go_simp;have Y:=H (ac (U M) Wx);have W0:=H ((U W3).aa Wx);have W6:=H V9;clear Wx V9;refine VP k (U Y) ?_;clear k t M W3;refine bh 3 rfl λt k=>?_;go_simp;refine(U WR Yf (U Y) XS XT (U W6)).mono ?_;rintro a YB ⟨Wr,O,rfl,Xt,Wy⟩;go_simp;have w:=H (ac (U Y) Wy);have Wm:=H ((U W0).aa Wy);have WZ:=H Xt;clear Wy Xt;refine VP k (U w) ?_;clear k t Y W0 W6 WR N;refine ap 4 (.tuple #[.slice Wr l.length O,.int .i64 WP]) rfl (U w) ?_;refine ap 5 (.slice Wr l.length O) rfl (U w) ?_;refine ap 6 (.int .i64 WP) rfl (U w) ?_;refine ap 7 (.slice Wr l.length O) rfl (U w) ?_;refine bh 8 rfl λt k=>?_;go_simp;refine bE k ?_;clear k t;refine cf ?_;have W5:=H (Uk (c1:=Xa) (c2:=O) (λa u=>(U Wn a u).1) (U Wm) (U WZ) (by omega))
  go_upto_region 7 with (first
   | (go_at_call 10;refine(U W5).mono ?_;rintro a YC ⟨rfl,Wz⟩;have WT:=H (ac (U w) Wz);have W1:=H ((U Wm).aa Wz);clear Wz)
   | (go_at_call 11;refine(oM _).mono ?_;rintro a Yg ⟨rfl,WA⟩;have Z:=H (ac (U WT) WA);have W2:=H ((U W1).aa WA);clear WA))
  clear W5 w Wm WZ WT W1
  go_upto_region 8 with (first
   | (refine a1 ?_ 28 (.tmp 2) rfl _ (by simp[Act.eval,Act.put]) _ (U D _ (U Z)) ?_;. simp[Region.wanted,yielded])
   | (go_at_call 12;refine(U C Yg (U Z)).mono ?_;rintro a XD ⟨Yj,XU,rfl,Xo,WB⟩;have WU:=H (ac (U Z) WB);have XM:=H ((U W2).aa WB);have XJ:=H Xo;clear WB Xo))
  have XF:=H (ac (U Wg) (U WU));clear Z W2 C D WW Wk Wp Wg WU;go_wp2_with fail;go_loopw[52] (λq W=>∃j:Nat,j<=l.length/\q=.int .i64 j/\Hid (Bw XD W)) (λq W=>l.length-(intOf q).toNat);case atStart=>exact⟨0,bt,rfl,VS⟩
  case round=>obtain⟨j,Yp,rfl,VX⟩:=hrel;by_cases Xh:j<l.length;(·(have X6:(j:Int)<(l.length:Int):=by omega);obtain⟨a,u⟩:∃WM,l[j]?=some WM:=⟨_,VR Xh⟩;have W7:=(U XM).aa (U VX);(obtain⟨Ws,WJ,Xd,WC⟩:∃Ws WJ,W9=some ⟨Ws,WJ,none⟩/\∀q a,l[q]?=some a->∃Wd WK,wr.cell? ⟨Ws,WJ+q,none⟩=some (.slice Wd a.length WK)/\bX wr Wd a:=by rcases W7 with h|h;(.rw[h] at u;simp at u);.exact h);obtain⟨Wd,WK,V,WO⟩:=WC j a u;obtain⟨X8,XA,o⟩:=U Wn a (VQ u);have W4:=H WO;have XL:=H o;have VY:=H XA;rw[Xd];obtain⟨z,V7⟩:=bn a.length;rw[<-V7] at V;rw[<-V7] at VY;have Wj:=H V7;(have Yr:z<=1000000:=by omega);(have Xb:((z:Int) != (V1.length:Int))=false:=by rw[U VY];simp);obtain⟨Wf,X5⟩:=bn wr;subst X5;have Wi:=H WC;have Wl:=H u;clear WC WO W7 o X8 XA V7 u Xd;go_upto_region 11 with fail;clear V;by_cases Xn:j=0;(focus(have X7:¬(0:Int)<(j:Int):=by omega);clear Wi Wl Xn;go_upto_region 13 with fail;obtain⟨We,WI⟩:=bn Wf;(have V0:Hid (Bw Wf We):=by rw[WI];exact VS);rw[<-WI];clear WI);rotate_left;(focus obtain⟨v,Xm⟩:∃v,j=v+1:=⟨j-1,by omega⟩;obtain⟨K,V8⟩:∃WM,l[v]?=some WM:=⟨_,VR (by omega)⟩;obtain⟨Yc,Yd,Yb,WN⟩:=U Wi v K V8;have VZ:=H (up Yc Wd Yd WK K a Wf (by have:=(U Wn K (VQ V8)).1;unfold maxLen;omega) (by rw[<-U Wj];unfold maxLen;omega) WN (U W4));obtain⟨Yh,Xy⟩:=bn (cd K a);have Xx:=U XN v K a V8 (by rw[<-Xm];exact U Wl);rw[<-Xy] at VZ Xx;rw[<-U Wj] at VZ;(have Yv:¬(0:Int)<Yh:=by omega);obtain⟨Yx,Xp⟩:=bn K.length;rw[<-Xp] at VZ Yb;(have Ys:(j:Int)-1=(v:Int):=by omega);(have X7:(0:Int)<(j:Int):=by omega);(have Yt:(v:Int)<(l.length:Int):=by omega);(have Yu:(0:Int)<=(v:Int):=by omega);clear Wi Wl WN V8 Xp Xy Xx Xm Xn;go_upto_region 13 with (go_at_call 13;refine(U VZ).mono ?_;rintro Yk We ⟨rfl,Xw⟩;have V0:=H Xw.1;clear Xw));all_goals have XO:=H ((U W4).aa (U V0));have XK:=H ((U XJ).aa (ac (U VX) (U V0)));have XG:=H (ac (U VX) (U V0));go_wp2_with fail;go_loopw[78] (λq W=>∃i:Nat,i<=z/\q=.int .i64 i/\Hid (Bw We W)) (λq W=>z-(intOf q).toNat);(case atStart=>exact⟨0,bt,rfl,VS⟩);case round=>obtain⟨i,Yo,rfl,VW⟩:=hrel;by_cases Xi:i<z;(·(have Xz:(i:Int)<(z:Int):=by omega);obtain⟨d,WH⟩:∃d,a[i]?=some d:=⟨_,VR (by rw[<-U Wj];exact Xi)⟩;obtain⟨T,WE⟩:∃d,V1[i]?=some d:=⟨_,VR (by rw[<-U VY];exact Xi)⟩;obtain⟨Yz,YA,Xf,Yl,Ym,Yn⟩:=((U XO).aa (U VW)).lo WH;obtain⟨Wb,Wc,Xe,Xg⟩:=((U XK).aa (U VW)).get WE;have o:=U XL i d WH;rw[cQ,WE] at o;have X4:d.k=0∨d.k=T:=o;(have Yw:(i:Int)<(V1.length:Int):=by rw[<-U VY];exact Xz);have V5:=am (VT _ wr) (.cells #[.int .i64 d.k,.int .i64 d.n,.string d.s] 43);obtain⟨XE,S⟩:=bn (wr.alloc (.cells #[.int .i64 d.k,.int .i64 d.n,.string d.s] 43));obtain⟨V2,WD⟩:=bn wr.heap.size;have e:Hid (XE.drew.cell? ⟨V2,0,none⟩=some (.int .i64 d.k)/\XE.drew.cell? ⟨Wb,Wc+i,none⟩=some (.int .i64 T)):=⟨by rw[S,WD];simp[go_sem],by rw[S];exact ae Xg (V5.drew)⟩;rw[<-S] at V5;have WV:=H (ac (U VW) V5.drew);have XP:=H S;have XI:=H WD;rw[Xf,Xe];clear o S WD WH WE Xf Xe Xg V5;go_upto_region 16 with fail;rw[<-U XP,<-U XI];refine bH (λf:World=>f.cell? ⟨V2,0,none⟩=some (.int .i64 d.k)/\f.cell? ⟨Wb,Wc+i,none⟩=some (.int .i64 T)) 11 ?_;refine ap 0 (.pointer (some ⟨V2,0,none⟩)) rfl (U e) ?_;(refine ap 1 (.int .i64 d.k) rfl (U e) ?_ λL y=>by obtain⟨V,XB⟩:=y;go_simp);by_cases WG:d.k=0;(·(have Wt:(d.k != 0)=false:=by rw[WG];rfl);refine ap 2 (.bool false) rfl (U e) ?_;refine ap 3 (.bool false) rfl (U e) ?_;refine eh 4 rfl (by kernel_rfl) (U e) (by rfl) ?_;refine eh 5 rfl (by kernel_rfl) (U e) (by rfl) ?_;refine eh 6 rfl (by kernel_rfl) (U e) (by rfl) ?_;refine eh 7 rfl (by kernel_rfl) (U e) (by rfl) ?_;refine eh 8 rfl (by kernel_rfl) (U e) (by rfl) ?_;refine eh 9 rfl (by kernel_rfl) (U e) (by rfl) ?_;refine eh 10 rfl (by kernel_rfl) (U e) (by rfl) ?_;refine bh 11 rfl λt k=>?_;go_simp;refine bE k ?_;clear k t;refine cf ?_;go_wp2;go_roundw;(case rel=>exact⟨i+1,by omega,by go_num,WV⟩);case measure=>simp[intOf]<;>omega);·(have Wt:(d.k != 0)=true:=by simpa using WG);(have Xc:(d.k != T)=false:=by rw[X4.resolve_left WG];simp);refine ap 2 (.bool true) rfl (U e) ?_;refine ap 3 (.bool true) rfl (U e) ?_;refine ap 4 (.pointer (some ⟨V2,0,none⟩)) rfl (U e) ?_;(refine ap 5 (.int .i64 d.k) rfl (U e) ?_ λL y=>by obtain⟨V,XB⟩:=y;go_simp);refine ap 6 (.slice (some ⟨Wb,Wc,none⟩) V1.length XU) rfl (U e) ?_;refine ap 7 (.int .i64 (i:Int)) rfl (U e) ?_;refine ap 8 (.pointer (some ⟨Wb,Wc+i,none⟩)) rfl (U e) ?_;(refine ap 9 (.int .i64 T) rfl (U e) ?_ λL y=>by obtain⟨V,XB⟩:=y;go_simp);refine ap 10 (.bool false) rfl (U e) ?_;refine bh 11 rfl λt k=>?_;go_simp;refine bE k ?_;clear k t;refine cf ?_;go_wp2;go_roundw;(case rel=>exact⟨i+1,by omega,by go_num,WV⟩);case measure=>simp[intOf]<;>omega);·(have Xz:¬(i:Int)<(z:Int):=by omega);have XH:=H (ac (U XG) (U VW));go_wp2;go_roundw;(case rel=>exact⟨j+1,Xh,by go_num,XH⟩);case measure=>simp[intOf]<;>omega);·(have X6:¬(j:Int)<(l.length:Int):=by omega);go_wp2;go_ret;exact⟨rfl,ac (U XF) (U VX)⟩
end Go.Proofs.YtklgoolblpmmlaaGreat
