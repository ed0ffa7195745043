import Derived.Test.YtklgoolblpmmlaaGreatJsA
import Derived.Test.YtklgoolblpmmlaaGreatJnN
import Derived.Test.YtklgoolblpmmlaaGreatPcS
import Derived.Test.YtklgoolblpmmlaaGreatJnE
import Derived.Test.YtklgoolblpmmlaaGreatAwB
import Derived.Test.YtklgoolblpmmlaaGreatCellA
import Derived.Maps.AppendAt
import Derived.Test.YtklgoolblpmmlaaGreatStS
import Derived.Test.YtklgoolblpmmlaaGreatExS
set_option linter.all false
set_option maxHeartbeats 8000000
set_option maxRecDepth 100000
namespace Go.Proofs.YtklgoolblpmmlaaGreat
open Go.RowKit Go.Sort Go.Lib Go.Proofs.Tryz
mutual
theorem oX(row:List aH):∀(b:Ex),dE b->co row (dV b)=co row b
 | .mk f j k a,e=>by
  have g:=m6 row a (dJ e).2
  have i:=jQ e
  rw[dV,co,co,g]
  cases a with
  | nil=>
   rw[VM]
   simp only[fW]
   rcases i rfl with ⟨c,_⟩|d
   .have c:f=1:=c
    subst c;rfl
   .have d:f=2:=d
    subst d
    simp only[beq_self_eq_true,if_true]
    rw[ly]
  | cons l a=>
   rw[VM]
   cases a with
   | nil=>rw[VM];rfl
   | cons m a=>
    rw[VM]
    cases a with
    | nil=>rw[VM];rfl
    | cons n a=>rw[VM];rfl
theorem m6(row:List aH):∀(a:List Ex),Vn a->VM row (f5 a)=VM row a
 | [],_=>by rw[f5]
 | c::a,b=>by rw[Vn] at b;rw[f5,VM,VM,oX row c b.1,m6 row a b.2]
end
theorem tS(row:List aH)(a:Ex):bZ row (dV a)=bZ row a:=by
 unfold bZ;rw[nt];by_cases h:bJ a=true;.rw[ba h,ba h,oX row a (da h)]
 .rw[VU h,VU h]
theorem rV(row:List aH)(a:Ex):bZ row (dn a)=bZ row a:=by
 unfold dn;split;.exact tS row a
 .rfl
theorem vk(x a:aH):VK (dW 19 x a)=(VK x && VK a):=by unfold dW;rw[ba rfl];obtain⟨f,i,k⟩:=x;obtain⟨g,j,l⟩:=a;unfold VK jq dD;simp only[aH.num,aH.null];by_cases b:f=1<;>by_cases c:g=1<;>by_cases d:i=0<;>by_cases e:j=0<;>simp[b,c,d,e]
mutual
theorem mm(row:List aH):∀(c:Ex),(cH c).all (λp=>VK (bZ row p))=VK (bZ row c)
 | .mk f i j a=>by rw[cH];by_cases h:(f == 19 && bJ (.mk f i j a))=true;(.rw[ba h];simp only[cc,beq_iff_eq] at h;obtain⟨l,d⟩:=h;have o:=lh row a;(have g:∀b∈a,bJ b=true:=λb n=>by obtain⟨q,m⟩:=f9 n;exact hE (e:=.mk f i j a) d m);subst l;obtain⟨b,k,e⟩:=Vv (da d) (by show Vk 19=2;decide);have e:a=[b,k]:=e;subst e;rw[o];show _=VK (if bJ _ then _ else _);rw[ba d,co,VM,VM,VM];show _=VK (dW 19 _ _);rw[vk];simp only[List.all_cons,List.all_nil,Bool.and_true];unfold bZ;rw[ba (g b (by simp)),ba (g k (by simp))]);.rw[VU h];simp only[List.all_cons,List.all_nil,Bool.and_true];rw[rV]
theorem lh(row:List aH):∀(a:List Ex),(d0 a).all (λb=>VK (bZ row b))=a.all (λb=>VK (bZ row b))
 | []=>by rw[d0]
 | c::a=>by rw[d0,List.all_append,mm row c,lh row a,List.all_cons]
end
variable{k m n:Nat}{e:Ex}{x y z:List aH}{A B r:List (List aH)}{o:Bool}{I:Int}{W w:World}{T:List Tb}{p q:Pl}{O g:Pm}{V u v:Value}{a:Option Addr}
theorem Dk{row:List aH}(h:VK (bZ row e)=true):∃o,gu (eq0 n e) row=some o/\gu (eq1 n e) row=some o:=by
 have k:=h;rw[<-mm,List.all_eq_true] at k
 have g:∀b∈wD n e,bZ row b.1=bZ row b.2/\¬(bZ row b.1).k=0:=by
  intro b g;obtain⟨p,C,s,f,q,r⟩:=lX g;have a:=k p C;have v:=(rb q).1;have w:=(um r).1;have x:bJ p=true:=by unfold bZ at a;split at a;(.assumption);.cases a
  unfold bZ at a ⊢;rw[ba x,fZ,s] at a;rw[ba v,ba w]
  have key:∀c d:Ex,VK (Vz 12 (co row c) (co row d))=true->co row c=co row d/\¬(co row c).k=0:=by
   intro c d a;simp only[Vz,show decide ((12:Int)<=11)=false by decide,show decide ((12:Int)<=17)=true by decide,if_true,Bool.false_eq_true,if_false] at a;unfold gh at a;split at a;.cases a
   .rename_i A;(have B:ja (co row c)=false/\ja (co row d)=false:=by simpa using A);rw[er (t:=dk (co row c) (co row d) == 0) (by simp[g5])] at a
    have F:dk (co row c) (co row d)=0:=by
     cases l:(dk (co row c) (co row d) == 0) with
     | true=>simpa using l
     | false=>rw[l] at a;simp[VK,dD,aH.num] at a
    have m:=yk F;rw[(gK row c).1,(gK row d).1] at m;refine⟨m,λy=>?_⟩;have:=B.1;unfold ja at this;rw[(gK row c).1,y] at this;cases this
  rcases f with f|f;.rw[f,VM,VM,VM] at a;exact key b.1 b.2 a
  .rw[f,VM,VM,VM] at a;obtain⟨j,u⟩:=key b.2 b.1 a;exact⟨j.symm,by rw[<-j];exact u⟩
 have z:(eq0 n e).map (bZ row)=(eq1 n e).map (bZ row):=by unfold eq0 eq1;rw[List.map_map,List.map_map];exact List.map_congr_left λb h=>(g b h).1
 have i:gu (eq0 n e) row=some ((eq0 n e).map (bZ row)):=oU λG D=>by obtain⟨c,E,rfl⟩:=b6 D;obtain⟨b,h,rfl⟩:=b6 E;exact(g b h).2
 refine⟨_,i,?_⟩;unfold gu at i ⊢;rw[<-z];exact i
theorem Ef(b:List Bool)(d:List Nat)(a:Nat):(e9 b d)[a]?=if a∈d/\a<b.length then some true else b[a]?:=by
 unfold e9;induction d generalizing b with
 | nil=>simp
 | cons j d k=>rw[List.foldl_cons,k,List.length_set,List.getElem?_set];by_cases c:a∈d/\a<b.length;(.rw[ba c,ba ⟨List.mem_cons_of_mem _ c.1,c.2⟩]);.rw[VU c];by_cases g:j=a;(.subst g;by_cases e:j<b.length;(.rw[ba rfl,ba e,ba ⟨by simp,e⟩]);.rw[ba rfl,VU e,VU (λf=>e f.2),List.getElem?_eq_none (by omega)]);.rw[VU g,VU (λf=>c ⟨by rcases dr f.1 with i|i;(.exact absurd i.symm g);.exact i,f.2⟩)]
theorem SY(b:ia)(d:List aH×Option (List aH)->Bool)(e:List aH->Bool)(h:List aH->List aH):((((b.zipIdx.filter λc=>d c.1).map (·.2)).filter λf=>e ((b.map (·.1)).getD f [])).map λf=>h ((b.map (·.1)).getD f []))=(b.filter λc=>d c && e c.1).map λc=>h c.1:=by
 have i:∀c∈b.zipIdx,(b.map (·.1)).getD c.2 []=c.1.1:=λc o=>by have m:=List.mem_zipIdx o;(have n:b[c.2]?=some c.1:=by rw[VR (by omega)];have:=m.2.2;simp only[Nat.sub_zero] at this;rw[this]);rw[cQ,bL,n];rfl
 rw[List.filter_map,List.map_map,List.filter_filter];have j:(b.zipIdx.filter λa=>((λf=>e ((b.map (·.1)).getD f [])) ∘ (·.2)) a && d a.1)=b.zipIdx.filter λa=>d a.1 && e a.1.1:=List.filter_congr λa g=>by show (e ((b.map (·.1)).getD a.2 []) && d a.1)=_;rw[i a g,Bool.and_comm]
 rw[j];have k:(b.zipIdx.filter λa=>d a.1 && e a.1.1).map ((λf=>h ((b.map (·.1)).getD f [])) ∘ (·.2))=(b.zipIdx.filter λa=>d a.1 && e a.1.1).map λa=>h a.1.1:=List.map_congr_left λa g=>by show h ((b.map (·.1)).getD a.2 [])=_;rw[i a (List.mem_filter.1 g).1]
 rw[k];have l:b=b.zipIdx.map (·.1):=(List.zipIdx_map_fst 0 b).symm;conv=>rhs;rw[l]
 rw[List.filter_map,List.map_map];rfl
def TH(c:Nat)(a:Ex)(h b:List aH):Bool:=VK (bZ (jz c h b) a)
theorem TB{n2 s:Nat}{h:List aH}(f:0<n)(g:s<2)(c:h.length=eQ n n2 s)(d:x.length=eQ n n2 (1-s))(m:TH s e h x=true):∃b,nP n n2 e s h=some b/\nP n n2 e (1-s) x=some b:=by
 have a:(List.replicate (n+n2) aH.null).length=n+n2:=by simp
 have l:(dB (List.replicate (n+n2) aH.null) (gG n (1-s)) x).length=n+n2:=by rw[jV];(.exact a);.rw[a,d];unfold gG eQ;split<;>omega
 have k:(dB (List.replicate (n+n2) aH.null) (gG n s) h).length=n+n2:=by rw[jV];(.exact a);.rw[a,c];unfold gG eQ;split<;>omega
 have i:=yF g a c d;have j:dB (dB (List.replicate (n+n2) aH.null) (gG n s) h) (gG n (1-s)) x=jz s h x:=by have:=yF (show 1-s<2 by omega) a d (show h.length=eQ n n2 (1-(1-s)) by rw[show 1-(1-s)=s by omega];exact c);rw[show 1-(1-s)=s by omega] at this;rw[this];unfold jz;rcases(by omega:s=0∨s=1) with rfl|rfl<;>rfl
 obtain⟨b,q,r⟩:∃b,gu (eq0 n e) (jz s h x)=some b/\gu (eq1 n e) (jz s h x)=some b:=Dk m;have o:nP n n2 e s h=gu (ip (eq0 n e) (eq1 n e) s) (jz s h x):=by unfold nP;rw[yM f g a l c,i]
 have p:nP n n2 e (1-s) x=gu (ip (eq0 n e) (eq1 n e) (1-s)) (jz s h x):=by unfold nP;rw[yM f (by omega) a k d,j]
 refine⟨b,?_,?_⟩;.rw[o];unfold ip;split<;>assumption
 .rw[p];unfold ip;split<;>assumption
theorem TJ{e:Ex}{al:Bool}(s:0<n)(o:k<2)(g:∀h∈r,h.length=eQ n m k)(t:x.length=eQ n m (1-k))(f:List aH->List aH):((fa k e (dQ k n m e al r) (nP n m e (1-k) x) x).map λz=>f (((dQ k n m e al r).map (·.1)).getD z []))=(r.filter λh=>TH k e h x).map f:=by
 unfold fa;cases q:nP n m e (1-k) x with
 | none=>(have:(r.filter λh=>TH k e h x)=[]:=List.filter_eq_nil_iff.2 λh b j=>by obtain⟨l,_,a⟩:=TB s o (g h b) t j;rw[q] at a;cases a);rw[this];rfl
 | some l=>
  show (((sC _ l).filter _).map _)=_
  unfold sC
  rw[SY (dQ k n m e al r) (λA=>decide (A.2=some l)) (λh=>VK (bZ (jz k h x) e)) f]
  unfold dQ kp
  have p:=g
  clear g
  induction r with
  | nil=>rfl
  | cons h r c=>
   have c:=c λB j=>p B (List.mem_cons_of_mem _ j)
   have y:=p h (List.mem_cons_self ..)
   by_cases b:TH k e h x=true
   .obtain⟨C,u,a⟩:=TB s o y t b
    rw[q] at a
    injection a with a
    subst a
    have d:VK (bZ (jz k h x) e)=true:=b
    simp only[List.filterMap_cons,u,List.filter_cons,b,d,decide_true,Bool.and_self,if_true,dX]
    rw[c]
   .have i:TH k e h x=false:=by simpa using b
    have d:VK (bZ (jz k h x) e)=false:=i
    cases v:nP n m e k h with
    | none=>
     simp only[List.filterMap_cons,v,List.filter_cons,i]
     cases w:(al && decide (k=0))<;>simp only[w] at c<;>simpa [d] using c
    | some u=>
     simp only[List.filterMap_cons,v,List.filter_cons,i,d,Bool.and_false]
     simpa using c
def TC(b:Ex)(c d:List (List aH)):List (List aH):=c.flatMap λa=>(d.filter λe=>VK (bZ (a++e) b)).map (a++·)
def TK(a:Ex)(c:Nat)(b e:List (List aH)):List (List aH):=(b.filter λd=>e.all λf=>!VK (bZ (d++f) a)).map (·++List.replicate c aH.null)
theorem Tv{α f j:Type}(d:α->f->List j)(c:List α):∀e:List f,(c.flatMap λa=>e.flatMap λb=>d a b).Perm (e.flatMap λb=>c.flatMap λa=>d a b)
 | []=>by simp
 | b::e=>by
  have g:(c.flatMap λa=>(b::e).flatMap λb=>d a b).Perm ((c.flatMap λa=>d a b)++c.flatMap λa=>e.flatMap λb=>d a b):=by
   induction c with
   | nil=>simp
   | cons a c i=>
    simp only[eA]
    refine(List.Perm.append_left _ (i.trans (List.Perm.refl _))).trans ?_
    simp only[eA,cI]
    refine List.Perm.append_left _ ?_
    rw[<-cI,<-cI]
    exact List.Perm.append_right _ List.perm_append_comm
  refine g.trans ?_;simp only[eA];exact List.Perm.append_left _ (Tv d c e)
theorem Td{α e:Type}(c d:α->List e):∀a:List α,(a.flatMap λb=>c b++d b).Perm (a.flatMap c++a.flatMap d)
 | []=>by simp
 | b::a=>by simp only[eA];refine(List.Perm.append_left _ (Td c d a)).trans ?_;simp only[cI];refine List.Perm.append_left _ ?_;rw[<-cI,<-cI];exact List.Perm.append_right _ List.perm_append_comm
theorem TM{α g:Type}{c d:α->List g}:∀{b:List α},(∀a∈b,c a=d a)->b.flatMap c=b.flatMap d
 | [],_=>rfl
 | a::b,h=>by rw[eA,eA,h a (List.mem_cons_self ..),TM λf e=>h f (List.mem_cons_of_mem _ e)]
theorem TI{α g:Type}(b:α->Bool)(c:α->g)(a:List α):(a.filter b).map c=a.flatMap λd=>if b d then [c d] else []:=by
 induction a with
 | nil=>rfl
 | cons e a f=>cases h:b e<;>simp[List.filter_cons,h,f]
theorem S3(d:0<n)(b:k<2)(c:∀h∈r,h.length=eQ n m k)(f:x.length=eQ n m (1-k)):(fa k e (dQ k n m e o r) (nP n m e (1-k) x) x).isEmpty=r.all λh=>!TH k e h x:=by have a:=congrArg List.length (TJ (e:=e) (al:=o) d b c f id);rw[bQ,bQ] at a;rw[Bool.eq_iff_iff,List.isEmpty_iff_length_eq_zero,a,List.length_eq_zero_iff,List.filter_eq_nil_iff,List.all_eq_true];simp
theorem Tf(g:0<n)(f:∀b∈r,b.length=n)(i:∀b∈A,b.length=m):(el 1 n m e o A r).Perm (TC e r A++if o then TK e m r A else []):=by
 have k:el 1 n m e o A r=r.flatMap λa=>((A.filter λc=>VK (bZ (a++c) e)).map (a++·))++if o && (A.all λc=>!VK (bZ (a++c) e)) then [a++List.replicate m aH.null] else []:=by unfold el;(have p:VG (o && decide ((1:Nat)=0)) m ((dQ 1 n m e o A).map (·.1)) (e9 (List.replicate (dQ 1 n m e o A).length false) (r.flatMap λj=>fa 1 e (dQ 1 n m e o A) (nP n m e (1-1) j) j))=[]:=by unfold VG;simp);rw[p,VI];unfold fw;(have l:(o && decide (1-1=0))=o:=by simp);rw[l];refine TM λa d=>?_;unfold gj;rw[S3 g (by omega) i (f a d),TJ g (by omega) i (f a d) (λh=>jz 1 h a)];rfl
 rw[k];refine(Td _ _ r).trans (List.Perm.append_left _ ?_);unfold TK;cases o;.simp
 .rw[TI];simp
theorem ST(c:List aH->Option (List aH))(a:List (List aH)):kp true c a=a.map λb=>(b,c b):=by
 unfold kp;induction a with
 | nil=>rfl
 | cons b a d=>rw[List.filterMap_cons,d];cases h:c b<;>simp[h]
theorem SL(y:0<n)(w:∀q∈r,q.length=n)(v:x.length=m)(b:Nat):b∈fa 0 e (dQ 0 n m e true r) (nP n m e (1-0) x) x ↔ ∃a,r[b]?=some a/\VK (bZ (a++x) e)=true:=by
 have l:dQ 0 n m e true r=r.map λt=>(t,nP n m e 0 t):=by unfold dQ;exact ST _ r
 have k:∀b a,r[b]?=some a->((dQ 0 n m e true r).map (·.1)).getD b []=a:=λb a h=>by rw[l,List.map_map,cQ,bL,h];rfl
 have o:∀d,b∈sC (dQ 0 n m e true r) d ↔ ∃a,r[b]?=some a/\nP n m e 0 a=some d:=λd=>by unfold sC;rw[l,List.mem_map];constructor;(.rintro⟨q,z,rfl⟩;obtain⟨i,f⟩:=List.mem_filter.1 z;have j:=List.mem_zipIdx_iff_getElem?.1 i;rw[bL] at j;obtain⟨a,c,u⟩:=Option.map_eq_some_iff.1 j;refine⟨a,c,?_⟩;have:=of_decide_eq_true f;rw[<-u] at this;exact this);.rintro⟨a,c,g⟩;refine⟨((a,nP n m e 0 a),b),List.mem_filter.2 ⟨List.mem_zipIdx_iff_getElem?.2 ?_,decide_eq_true g⟩,rfl⟩;rw[bL,c];rfl
 unfold fa;constructor
 .intro h
  cases g:nP n m e (1-0) x with
  | none=>rw[g] at h;cases h
  | some d=>
   rw[g] at h
   obtain⟨i,f⟩:=List.mem_filter.1 h
   obtain⟨a,c,_⟩:=(o d).1 i
   rw[k b a c] at f
   exact⟨a,c,f⟩
 .rintro⟨a,c,p⟩;obtain⟨d,A,B⟩:=TB (s:=0) (n2:=m) y (by omega) (w a (VQ c)) (show x.length=eQ n m (1-0) from v) (show TH 0 e a x=true from p);rw[B];refine List.mem_filter.2 ⟨(o d).2 ⟨a,c,A⟩,?_⟩;rw[k b a c];exact p
theorem Tw(l:0<n)(s:∀t∈r,t.length=n)(x:∀t∈A,t.length=m):(el 0 n m e o r A).Perm (TC e r A++if o then TK e m r A else []):=by
 unfold el;have c:fw 0 m (o && decide (1-0=0)) e (nP n m e (1-0)) (dQ 0 n m e o r) A=A.flatMap λa=>r.flatMap λb=>if VK (bZ (b++a) e) then [b++a] else []:=by unfold fw;refine TM λa q=>?_;unfold gj;rw[TJ l (by omega) s (x a q) (λh=>jz 0 h a),TI];simp[jz,TH]
 have g:(TC e r A)=r.flatMap λb=>A.flatMap λa=>if VK (bZ (b++a) e) then [b++a] else []:=by unfold TC;exact TM λb _=>TI _ _ A
 refine List.Perm.append ?_ ?_;.rw[c,g];exact(Tv _ r A).symm
 .cases o;.unfold VG;simp
  .have j:dQ 0 n m e true r=r.map λA=>(A,nP n m e 0 A):=by unfold dQ;exact ST _ r
   have w:e9 (List.replicate (dQ 0 n m e true r).length false) (A.flatMap λf=>fa 0 e (dQ 0 n m e true r) (nP n m e (1-0) f) f)=r.map λb=>A.any λa=>VK (bZ (b++a) e):=by
    apply List.ext_getElem?
    intro d
    rw[Ef,List.length_replicate,bL,j,bQ]
    cases i:r[d]? with
    | none=>
     have k:r.length<=d:=List.getElem?_eq_none_iff.1 i
     rw[VU (by omega)]
     simp[k]
    | some b=>
     have k:d<r.length:=(bD i).1
     have v:(d∈A.flatMap λf=>fa 0 e (r.map λA=>(A,nP n m e 0 A)) (nP n m e (1-0) f) f) ↔ (A.any λa=>VK (bZ (b++a) e))=true:=by
      rw[List.mem_flatMap,List.any_eq_true]
      refine exists_congr λa=>and_congr_right λq=>?_
      rw[<-j,SL l s (x a q) d]
      constructor
      .rintro⟨C,c,g⟩
       rw[i] at c
       injection c with c
       rw[c];exact g
      .exact λh=>⟨b,i,h⟩
     cases p:A.any λa=>VK (bZ (b++a) e)
     .rw[VU (λh=>by have:=v.1 h.1;rw[p] at this;cases this)]
      simp[k,p]
     .rw[ba ⟨v.2 p,k⟩]
      simp[p]
   rw[w,j,List.map_map]
   unfold VG TK
   have y:(List.map ((λu=>u.1) ∘ λA=>(A,nP n m e 0 A)) r)=r:=by
    rw[show ((λu:List aH×Option (List aH)=>u.1) ∘ λA=>(A,nP n m e 0 A))=id from rfl,List.map_id]
   rw[y]
   clear w j y c g s
   induction r with
   | nil=>simp
   | cons b r z=>
    simp only[dX,List.zip_cons_cons,List.filterMap_cons,List.filter_cons]
    have l:(A.all λB=>!VK (bZ (b++B) e))=!(A.any λa=>VK (bZ (b++a) e)):=by rw[List.all_eq_not_any_not];simp
    rw[l]
    cases A.any λa=>VK (bZ (b++a) e)
    .simpa using z
    .simpa using z
def S8(a:Pl)(b:List Tb):Int×List Int:=if iK a=0 then (if eI b then ((bK b a).1,if (bK b a).1=0 then (bK b a).2 else []) else (1,[])) else (iK a,[])
def u0(a:Int×List Int)(c:World)(f:Ending)(d:World):Prop:=∃b e,f=.returned (.tuple #[.slice b a.2.length e,.int .i64 a.1])/\bP d b a.2/\Bw c d
theorem u0.err(a:Bw w W):u0 (I,[]) w (.returned (.tuple #[.slice none 0 0,.int .i64 I])) W:=⟨none,0,rfl,.inl rfl,a⟩
theorem SI(c:List Tb)(R:∀V0∈c,V0.fin)(Y:c.length<=1048576)(A:Option Addr)(K:Nat)(a:Pl)(Q:a.fin)(i:Pm)(d:World)(M:hI d a i)(L:lZ d A c):Calls prog 12 #[a.val i,.slice A c.length K] d (u0 (S8 a c) d):=by
 obtain⟨t,D⟩:=bn (S8 a c);rw[<-D];unfold S8 at D;have N:=am (VT _ d) (a.box i);have q:=H (dL.new d a i);have e:=H N;have l:=H (t6 a Q i (d.alloc (a.box i)) (M.aa N));have o:=H (λ(u:World) (E:Bw d u)=>pp c R Y A K u (L.aa E));have p:=H (λ(g:eI c=true) (VY:eR a=true) (u:World) (E:Bw d u)=>tk c g R Y A K a Q VY i u (M.aa E) (L.aa E));have x:=H (λh=>nu (p:=a) h);have n:=H D;rw[Pl.ad] at l p ⊢;unfold Pl.box at q e l;clear D N M Q R L;obtain⟨V1,S⟩:=bn (d.alloc (a.box i));rw[<-S] at q e l;have z:=H S;have r:=H (U q).load;rw[Pl.ad] at r;clear S;generalize iK a=B at *;by_cases F:B=0
 case neg=>
  have m:Hid (t=(B,[])):=by show _=_;rw[U n,VU F]
  have VW:(B != 0)=true:=by simpa using F
  clear n p o x F;go_enter func12,ntmps12;go_upto_region 1 with fail;rw[<-U z]
  go_wp2_with (first
   | (refine a1 ?_ 28 (.tmp 2) rfl _ (by simp[Act.eval]) _ (U r) ?_;. simp[Region.wanted,yielded])
   | (go_at_call 23;refine(U l).mono ?_;rintro j T ⟨rfl,b⟩))
  refine bs (v:=.tuple #[.slice none 0 0,.int .i64 B]) (by simp[results,results12,go_sem]) rfl ?_;rw[U m];exact u0.err (ac (U e) b)
 subst F;have P:=U x rfl;cases g:eI c
 case false=>
  have m:Hid (t=(1,[])):=by show _=_;rw[U n,ba rfl,g];rfl
  rw[g] at o;clear n p x g P;go_enter func12,ntmps12;go_upto_region 1 with fail;rw[<-U z]
  go_wp2_with (first
   | (refine a1 ?_ 28 (.tmp 2) rfl _ (by simp[Act.eval]) _ (U r) ?_;. simp[Region.wanted,yielded])
   | (go_at_call 23;refine(U l).mono ?_;rintro j T ⟨rfl,b⟩)
   | (go_at_call 28;refine(U o _ (ac (U e) b)).mono ?_;rintro j Z ⟨rfl,f⟩))
  refine bs (v:=.tuple #[.slice none 0 0,.int .i64 1]) (by simp[results,results12,go_sem]) rfl ?_;rw[U m];exact u0.err (ac (U e) (ac b f))
 have W:=H (U p g P);have y:Hid (t=((bK c a).1,if (bK c a).1=0 then (bK c a).2 else [])):=by show _=_;rw[U n,ba rfl,g];rfl
 rw[g] at o;clear n p x g P;generalize bK c a=VX at *;obtain⟨C,VZ⟩:=VX;by_cases I:C=0
 .subst I;have m:Hid (t=(0,VZ)):=U y;clear y;go_enter func12,ntmps12;go_upto_region 1 with fail;rw[<-U z]
  go_wp2_with (first
   | (refine a1 ?_ 28 (.tmp 2) rfl _ (by simp[Act.eval]) _ (U s) ?_;. simp[Region.wanted,yielded])
   | (refine a1 ?_ 28 (.tmp 2) rfl _ (by simp[Act.eval]) _ (U r) ?_;. simp[Region.wanted,yielded])
   | (go_at_call 23;refine(U l).mono ?_;rintro j T ⟨rfl,b⟩)
   | (go_at_call 28;refine(U o _ (ac (U e) b)).mono ?_;rintro j Z ⟨rfl,f⟩;have s:=H ((U q).aa (ac b f)).load;rw[Pl.ad] at s)
   | (go_at_call 24;refine(U W _ (ac (U e) (ac b f))).mono ?_;rintro j V ⟨k,rfl,G,O⟩;have J:=H (G rfl);have w:=H (am (VT _ V) k.box);clear G;rw[Nv.open_]))
  refine bs (v:=.tuple #[.slice k.k.1 k.k.2.2.length k.k.2.1,.int .i64 0]) (by simp[results,results12,go_sem]) rfl ?_;rw[U m];refine⟨k.k.1,k.k.2.1,by rw[(U J).1],?_,ac (U e) (ac b (ac f (ac O (U w))))⟩;have X:=(U J).2.1.ints;rw[(U J).1] at X;exact X.aa (U w)
 .have m:Hid (t=(C,[])):=by show _=_;rw[U y,VU I]
  have VW:(C != 0)=true:=by simpa using I
  clear y I;go_enter func12,ntmps12;go_upto_region 1 with fail;rw[<-U z]
  go_wp2_with (first
   | (refine a1 ?_ 28 (.tmp 2) rfl _ (by simp[Act.eval]) _ (U s) ?_;. simp[Region.wanted,yielded])
   | (refine a1 ?_ 28 (.tmp 2) rfl _ (by simp[Act.eval]) _ (U r) ?_;. simp[Region.wanted,yielded])
   | (go_at_call 23;refine(U l).mono ?_;rintro j T ⟨rfl,b⟩)
   | (go_at_call 28;refine(U o _ (ac (U e) b)).mono ?_;rintro j Z ⟨rfl,f⟩;have s:=H ((U q).aa (ac b f)).load;rw[Pl.ad] at s)
   | (go_at_call 24;refine(U W _ (ac (U e) (ac b f))).mono ?_;rintro j V ⟨k,rfl,G,O⟩;have w:=H (am (VT _ V) k.box);clear G;rw[Nv.open_]))
  refine bs (v:=.tuple #[.slice none 0 0,.int .i64 C]) (by simp[results,results12,go_sem]) rfl ?_;rw[U m];exact u0.err (ac (U e) (ac b (ac f (ac O (U w)))))
def SN(b:Int)(a:Ex)(x c:Pl):Pl:=.mk b ⟨#[]⟩ [a] [] [] [] 0 0 0 0 [x,c]
theorem Tu{α e:Type}{c d:α->List e}(h:∀a,(c a).Perm (d a)):∀b:List α,(b.flatMap c).Perm (b.flatMap d)
 | []=>List.Perm.refl _
 | a::b=>by rw[eA,eA];exact(h a).append (Tu h b)
theorem TD(a:Ex){b:List (List aH)}(c:r.Perm A)(d:B.Perm b):(TC a r B).Perm (TC a A b):=by unfold TC;refine(c.flatMap_right _).trans ?_;exact Tu (λe=>(d.filter _).map _) A
theorem Th(a:Ex)(i:Nat){d:List (List aH)}(j:r.Perm A)(g:B.Perm d):(TK a i r B).Perm (TK a i A d):=by
 unfold TK;have:(λb:List aH=>B.all λe=>!VK (bZ (b++e) a))=λb=>d.all λe=>!VK (bZ (b++e) a):=by funext b;rw[Bool.eq_iff_iff,List.all_eq_true,List.all_eq_true];exact⟨λh f c=>h f (g.mem_iff.2 c),λh f c=>h f (g.mem_iff.1 c)⟩
 rw[this];exact(j.filter _).map _
theorem Ti(b:e5 T=true)(f:Sk T)(m:I=4∨I=5){e:Ex}{x:Pl}(q:x.fin)(r:p.fin)(s:bC T x<=2147483647)(t:bC T p<=2147483647)(c:eR x=true)(k:eR p=true)(d:(bK T x).1=0)(l:(bK T p).1=0):(cg T (SN I e x p)).Perm (TC e (cg T x) (cg T p)++if I == 5 then TK e (bK T p).2.length (cg T x) (cg T p) else []):=by
 have o:eI T=true:=by unfold e5 at b;simp only[cc] at b;exact b.1
 have i:=hP b f x.size x bi q c d s;have j:=hP b f p.size p bi r k l t;have g:=(hW o x.size x bi c d).lo;have n:cg T (SN I e x p)=oR T (SN I e x p) [cg T x,cg T p]:=by rw[iS];rcases m with rfl|rfl<;>rfl
 rw[n];show List.Perm (if zV T (SN I e x p) 0<zV T (SN I e x p) 1 then el 0 (bK T x).2.length (bK T p).2.length e (I == 5) (cg T x) (cg T p) else el 1 (bK T x).2.length (bK T p).2.length e (I == 5) (cg T p) (cg T x)) _;split;.exact Tw g (λa h=>(i a h).len) (λa h=>(j a h).len)
 .exact Tf g (λa h=>(i a h).len) (λa h=>(j a h).len)
theorem SG(g:Sk T){e:Ex}{x:Pl}(i:x.fin)(j:p.fin)(m:bC T x<=2147483647)(n:bC T p<=2147483647)(t:gO T (SN 4 e x p)=0)(u:gO T (SN 5 e x p)=0)(r:gO T x=0)(s:gO T p=0):(TC e (VC T x) (VC T p)).Perm (VC T (SN 4 e x p))/\(TC e (VC T x) (VC T p)++TK e (bK T p).2.length (VC T x) (VC T p)).Perm (VC T (SN 5 e x p)):=by obtain⟨f,b,c,y⟩:=k4 r;obtain⟨_,a,d,z⟩:=k4 s;obtain⟨_,_,_,v⟩:=k4 t;obtain⟨_,_,_,w⟩:=k4 u;rw[y,z,v,w];have k:=Ti f g (.inl rfl) (e:=e) i j m n b a c d;have l:=Ti f g (.inr rfl) (e:=e) i j m n b a c d;have o:(if ((4:Int) == 5)=true then TK e (bK T p).2.length (cg T x) (cg T p) else [])=[]:=rfl;have q:(if ((5:Int) == 5)=true then TK e (bK T p).2.length (cg T x) (cg T p) else [])=TK e (bK T p).2.length (cg T x) (cg T p):=rfl;rw[o,VI] at k;rw[q] at l;exact⟨(TD e (gE _) (gE _)).trans (k.symm.trans (gE _).symm),((TD e (gE _) (gE _)).append (Th e _ (gE _) (gE _))).trans (l.symm.trans (gE _).symm)⟩
theorem Sy{P:Program}(c:World)(base:Nat)(r s x g:TypeId)(V7 k:IntKind)(d:TypeInfo)(j:Value)(size o:Nat)(N:P.underlying r=some (.slice g))(O:P.underlying s=some (.int V7))(E:P.info? g=some d)(R:d.zero=some j) (V5:d.size=size) (VX:d.bytes=o) (S:j.cells.size=size) (Wf:0<size) (f e b:Nat) (l:List Value) (p:c.ownsRow base g size (.slice (some ⟨f,0,none⟩) b e) b l) (a:Nat) (Wc:0<a) (z:∀t∈(Builtin.zeroCells j.cells a).toList,t.oneCell'=true) (Wd:a<=1000000000) (A:b+a<=maxLen) (VY:(b+a)*o<=140737488355328) (Wb:a*o<=140737488355328) (Z:base<=c.heap.size):∃V y,(Builtin.append_ #[r,s] x #[.slice (some ⟨f,0,none⟩) b e,.int k (a:Int)]).run P c=.ok V y/\y.ownsRow base g size V (b+a) (l++(Builtin.zeroCells j.cells a).toList)/\c.grownBy y (some f):=by
 subst V5;subst VX;obtain⟨news,v⟩:=bn ((Builtin.zeroCells j.cells a).toList);have F:news.length=a*d.size:=by rw[v,Array.length_toList,size_zeroCells,S]
 have I:news.toArray=Builtin.zeroCells j.cells a:=by rw[v]
 rw[<-v] at z ⊢;have n:(l++news).length=(b+a)*d.size:=by rw[bG,p.1,F,Nat.add_mul]
 have Q:IntKind.i64.wrap (a:Int)=a:=by rw[IntKind.wrap_i64];omega
 have J:¬((a:Int)<0):=by omega
 have B:¬(281474976710656<(a:Int)*(d.bytes:Int)):=by rw[<-Int.natCast_mul];omega
 have K:¬(a*d.size=0):=Nat.mul_ne_zero (by omega) (by omega);have G:a≠0:=by omega
 have L:d.size≠0:=by omega
 rcases p.2 with ⟨i,_⟩|⟨Wa,V8,m,i,VW,D,We,VZ,V1,V6⟩
 .cases i
 injection i with i V9 W;injection i with i;injection i with i;subst i W;by_cases q:b+a<=e;·(have C:b*d.size+news.length<=m.size:=by rw[F,V1,<-Nat.add_mul];exact Nat.mul_le_mul_right _ q);have M:=run_storeCells_at P f (b*d.size) g news 0 m c D (by simpa using C) z;simp only[Nat.add_zero] at M;(have w:(Builtin.append_ #[r,s] x #[.slice (some ⟨f,0,none⟩) b e,.int k (a:Int)]).run P c=.ok (.slice (some ⟨f,0,none⟩) (b+a) e) (c.setRow f (m.toList.take (b*d.size)++news++m.toList.drop (b*d.size+news.length)).toArray):=by simp[Builtin.append_,run_underlying N,run_underlying O,sizeOf,typeInfo,zeroValue,E,R,asInt,asIntOf,Q,J,B,K,G,L,q,Addr.add_lit,<-I,M]);refine⟨_,_,w,⟨n,.inr ⟨f,e,_,rfl,VW,setRow_heap c f m _ g _ D,q,VZ,?_,?_⟩⟩,⟨rfl,rfl,rfl,by simp,λk _ u=>setRow_other c f k _ (λg=>u (by simp[g]))⟩⟩;(.simp only[List.size_toArray,bG,List.length_take,List.length_drop,Array.length_toList];omega);.rw[V6,<-n];exact List.take_left
 .have V3:=grownCap_ge c (b+a) e g;have V0:grownCap c (b+a) e g<=maxLen:=grownCap_le_maxLen c (b+a) e g A;have V4:∀T t,l[T]?=some t->c.cell? ((⟨f,0,none⟩:Addr).add T)=some t:=p.cells (g:=f) rfl;have V2:=run_firstCells_some (P:=P) c.drew d.size b ⟨f,0,none⟩ b e l p.1 (by simpa using V4);(have Y:¬(9223372036854775807<((b:Int)+(a:Int))):=by unfold maxLen at A;omega);have C:=growslice_fits (need:=b+a) (old:=e) (bytes:=d.bytes) (by omega) VY;(have X:¬(281474976710656<Builtin.nextslicecap (b+a) e*d.bytes):=by omega);(have w:(Builtin.append_ #[r,s] x #[.slice (some ⟨f,0,none⟩) b e,.int k (a:Int)]).run P c=.ok (.slice (some ⟨c.heap.size,0,none⟩) (b+a) (grownCap c (b+a) e g)) (c.drew.alloc (.cells ((l++news).toArray++Builtin.zeroCells j.cells (grownCap c (b+a) e g-(b+a))) g)):=by simp[Builtin.append_,run_underlying N,run_underlying O,sizeOf,typeInfo,zeroValue,E,R,asInt,asIntOf,Q,J,B,K,G,L,q,Y,X,Question.forced,V2,newRow,grownCap,<-I];congr 2;apply Array.ext';simp);refine⟨_,_,w,⟨n,.inr ⟨c.heap.size,_,_,rfl,Z,heap_alloc_new c.drew _,V3,V0,?_,?_⟩⟩,⟨rfl,rfl,rfl,by simp,λk u _=>heap_alloc_old c.drew _ u⟩⟩;(.simp only[Array.size_append,List.size_toArray,size_zeroCells,S,n,<-Nat.add_mul];congr 1;omega);.simp only[Array.toList_append];rw[<-n];exact List.take_left
theorem Su(b:Nat):(Builtin.zeroCells (Value.agg #[.int .i64 0,.int .i64 0,.string ⟨#[]⟩]).cells b).toList=(List.replicate b aH.null).flatMap c3:=by
 refine List.ext_getElem? λa=>?_;by_cases f:a<b*3;·(have d:(List.replicate b aH.null)[a / 3]?=some aH.null:=by rw[List.getElem?_replicate,ba (by omega)]);have c:=d2 (List.replicate b aH.null) (a / 3) (a % 3) aH.null d (by omega);rw[show a / 3*3+a % 3=a by omega] at c;rw[c];have g:(Value.agg #[.int .i64 0,.int .i64 0,.string ⟨#[]⟩]).cells.size=3:=rfl;unfold Builtin.zeroCells;rw[g,Array.getElem?_toList,Array.getElem?_map,Array.getElem?_range,ba f];(have e:a % 3=0∨a % 3=1∨a % 3=2:=by omega);rcases e with h|h|h<;>rw[Option.map_some,h]<;>rfl
 .rw[List.getElem?_eq_none (by rw[Array.length_toList,size_zeroCells];show b*3<=a;omega),List.getElem?_eq_none (by rw[fY,List.length_replicate];omega)]
theorem SA{m:Array Oper}{rest:List Oper}{c:Oper}{f:Act}{j:Exit->Act->World->Prop}(d:World)(w:c.guard=none)(n x:Operand)(C:c.op=.call { callee:=.builtin .append,args:=#[n,x],argTypes:=#[40,3] }) (base:Nat) (o:Value) (a:List aH) (b:Nat) (B:a≠[]) (A:0<b) (E:f.eval n=o) (l:dx d base o a) (F:f.eval x=.int .i64 (b:Int)) (Q:a.length+b<=4000000) (k:base<=d.heap.size) (h:∀g e,dx e base g (a++List.replicate b aH.null)->Below base d e->wpList prog m j rest (f.put c.dst g) e):wpList prog m j (c::rest) f d:=by
 obtain⟨G,z,J,K,L⟩:=info_parts CB;have y:=AI l;have i:=l;unfold dx at i;rcases i.2 with ⟨_,s⟩|⟨r,p,N,rfl,O⟩
 .exact absurd (dF s) B
 obtain⟨g,e,D,t,u⟩:=Sy (P:=prog) d base 40 3 c.type 43 .i64 .i64 G (.agg #[.int .i64 0,.int .i64 0,.string ⟨#[]⟩]) 3 32 underlying40 underlying3 z J K L rfl (by decide) r p a.length (a.flatMap c3) i b A (by rw[Su];exact zF _) (by omega) (by unfold maxLen;omega) (by omega) (by omega) k;refine wpList_plain w λM v=>?_;unfold Oper.wp execOp;simp only[C,resolve,invoke,builtin,Sem.run_bind,Sem.run_pure,Result.andThen_ok,List.map_toArray,dX,List.map_nil,E,F,D];refine v _ _ (h g e ?_ (bB u k λI q=>y I q));unfold dx;rw[bG,List.length_replicate,List.flatMap_append,<-Su];exact t
abbrev T3 (a:Pl) (c:Pm) (b:Pl) (d:Pm):Obj:=.cells #[.int .i64 a.op,.string a.au,.slice c.aE a.ex.length c.cE,.slice c.aC a.cols.length c.cC,.slice c.aK a.keys.length c.cK,.slice c.aA a.aggs.length c.cA,.int .i64 a.fn,.int .i64 a.aj,.int .i64 a.n,.int .i64 a.off,.slice c.aP a.args.length c.cP,.int .i64 b.op,.string b.au,.slice d.aE b.ex.length d.cE,.slice d.aC b.cols.length d.cC,.slice d.aK b.keys.length d.cK,.slice d.aA b.aggs.length d.cA,.int .i64 b.fn,.int .i64 b.aj,.int .i64 b.n,.int .i64 b.off,.slice d.aP b.args.length d.cP] 28
theorem T7(a:World)(d:Pl)(b:Pm)(e:Pl)(c:Pm):dL (a.alloc (T3 d b e c)) a.heap.size 0 d b/\dL (a.alloc (T3 d b e c)) a.heap.size 11 e c:=
 ⟨⟨by simp[go_sem],by simp[go_sem],by simp[go_sem],by simp[go_sem],by simp[go_sem],by simp[go_sem],by simp[go_sem],by simp[go_sem],by simp[go_sem],by simp[go_sem],by simp[go_sem]⟩,⟨by simp[go_sem],by simp[go_sem],by simp[go_sem],by simp[go_sem],by simp[go_sem],by simp[go_sem],by simp[go_sem],by simp[go_sem],by simp[go_sem],by simp[go_sem],by simp[go_sem]⟩⟩
theorem TP(i:dL w n 0 p g)(j:dL w n 11 q O)(a:hI w p g)(b:hI w q O):Pl.all w (some ⟨n,0,none⟩) [p,q]:=by
 rw[Pl.all];refine⟨n,0,rfl,?_,?_⟩
 .cases p with
  | mk o r e cols k c f d O m l=>
   rw[Pl.at]
   exact⟨g,i,a.o,a.p⟩
 .rw[Pl.all]
  refine⟨n,11,rfl,?_,by rw[Pl.all];trivial⟩
  cases q with
  | mk o r e cols k c f d s m l=>
   rw[Pl.at]
   exact⟨O,j,b.o,b.p⟩
theorem Ue(b:hI w p g)(c:hI w q O):Pl.all (w.alloc (T3 p g q O)) (some ⟨w.heap.size,0,none⟩) [p,q]:=
 have a:=am (VT _ w) (T3 p g q O)
 TP (T7 w p g q O).1 (T7 w p g q O).2 (b.aa a) (c.aa a)
abbrev RS:Nat->Prop:=λ_=>True
theorem fQ.laterT(h:fQ RS w v r)(a:Bw w W):fQ RS W v r:=h.ky (G:=λ_=>False) (Ky.ab a) λ_ _=>id
theorem fQ.other(h:fQ RS w v r)(c:Ky (λb=>u.ownBlock=some b) w W)(k:∀a,u.ownBlock=some a->Tg 40 w a)(i:∀a,v.ownBlock=some a->¬u.ownBlock=some a):fQ RS W v r:=by obtain⟨q,e,f,g⟩:=h.o;exact⟨⟨q,e,bM f c i,λm p n l j=>(g m p n l j).ky c λb _ o d=>(k b d).ne o (by decide) rfl⟩,λ_ _=>trivial⟩
theorem fQ.lt(h:fQ RS w v r)(a:Nat)(b:v.ownBlock=some a):a<w.heap.size/\Tg 40 w a:=by obtain⟨f,d,c,e⟩:=h.o;exact⟨(World.ownsRow.lt c a b).2,br c b⟩
theorem SB{B:Array Oper}{rest:List Oper}{l:Oper}{k:Act}{s:Exit->Act->World->Prop}(b:World)(F:l.guard=none)(p x:Operand)(J:l.op=.call { callee:=.builtin .append,args:=#[p,x],argTypes:=#[31,31] }) (c:Value) (j:List (List aH)) (C:List aH) (L:k.eval p=c) (K:fQ RS b c j) (q:Nat) (m:Value) (N:k.eval x=.slice (some ⟨q,0,none⟩) 1 1) (a:b.cell? ⟨q,0,none⟩=some m) (w:qu RS b m C) (X:j.length+1<=4398046511104) (h:∀f g,fQ RS g f (j++[C])->b.grownBy g c.ownBlock->(f.ownBlock=c.ownBlock∨f.ownBlock=some b.heap.size)->wpList prog B s rest (k.put l.dst f) g):wpList prog B s (l::rest) k b:=by
 obtain⟨O,I,S,T,V⟩:=info_parts iB;obtain⟨n,D,t,E⟩:=K.o
 refine wpList_append_own_at b F p x 31 J 0 40 O (.slice none 0 0) 1 24 underlying31 I S T V rfl (by decide) c j.length n L t ⟨q,0,none⟩ 1 1 [m] N rfl (λz r d=>by
  match z,d with
  | 0,d=>simp at d;subst d;simpa [Addr.add] using a
  | z+1,d=>simp at d) (λr a=>by simp at a;subst a;exact w.one) (by unfold maxLen;omega) (by omega) bt ?_
 intro f g P A _ Q;have u:Ky (λe=>c.ownBlock=some e) b g:=Ky.ao A (λW o=>o);have v:∀e,RS e->Tg 43 b e->¬c.ownBlock=some e:=λe _ M o=>(br t o).ne M (by decide) rfl;refine h f g ⟨⟨n++[m],by simp[D],?_,λy r R a i=>?_⟩,λ_ _=>trivial⟩ A Q;.rw[bG];exact P
 .rcases de (vs:=n) a with a|⟨G,rfl⟩;(.have G:y<n.length:=(bD a).1;rw[eK (by omega)] at i;exact(E y r R a i).ky u v);.rcases de (vs:=j) i with i|⟨_,rfl⟩;(.have:=(bD i).1;omega);.exact w.ky u v
structure R8(lo:Nat)(w:World)(v19:Value)(A:List (List aH))(v29:Value)(B:List (List aH)):Prop where
 a:fQ RS w v19 A
 b:fQ RS w v29 B
 l:(∀g,v19.ownBlock=some g->lo<=g)/\∀g,v29.ownBlock=some g->lo<=g
 d:∀g,v19.ownBlock=some g->¬v29.ownBlock=some g
theorem R8.nil(c:Nat)(d:World):R8 c d (.slice none 0 0) [] (.slice none 0 0) []:=⟨fQ.nil _ _,fQ.nil _ _,⟨λb a=>(by cases a),λb a=>(by cases a)⟩,λb a=>(by cases a)⟩
theorem R8.aa(h:R8 n w v r u A)(a:Bw w W):R8 n W v r u A:=⟨h.a.laterT a,h.b.laterT a,h.l,h.d⟩
theorem R8.swap(h:R8 n w v r u A):R8 n w u A v r:=⟨h.b,h.a,⟨h.l.2,h.l.1⟩,λc a b=>h.d c b a⟩
theorem R8.push(h:R8 n w v r u A)(g:fQ RS W V B)(f:w.grownBy W v.ownBlock)(a:V.ownBlock=v.ownBlock∨V.ownBlock=some w.heap.size)(j:n<=w.heap.size):R8 n W V B u A/\Below n w W:=by
 have i:Ky (λk=>v.ownBlock=some k) w W:=Ky.ao f (λb c=>c);refine⟨⟨g,h.b.other i (λb c=>(h.a.lt b c).2) λb d e=>h.d b e d,⟨λb c=>?_,h.l.2⟩,λb d e=>?_⟩,bB f j h.l.1⟩;.rcases a with a|a;(.exact h.l.1 b (a ▸ c));.rw[a] at c;injection c with c;omega
 .rcases a with a|a;(.exact h.d b (a ▸ d) e);.rw[a] at d;injection d with d;have:=(h.b.lt b e).1;omega
theorem dx.rwp{base:Nat}(h:dx w base v x):∃g n,v=.slice g x.length n/\bX w g x/\qu RS w v x:=by
 have c:=h;unfold dx at c;rcases c.2 with ⟨rfl,r⟩|⟨d,i,y,rfl,z⟩
 .have a:=dF r;subst a;exact⟨none,0,rfl,.inl rfl,none,0,rfl,.inl rfl,(λm t a=>by cases a),λu a=>by cases a⟩
 .have j:bX w (some ⟨d,0,none⟩) x:=.inr ⟨d,0,rfl,λf l k=>by
   have A:=(bD k).1
   have e:∀b,b<3->w.cell? ⟨d,f*3+b,none⟩=(c3 l)[b]?:=λb s=>by
    rw[World.ownsRow.cellAt c (f*3+b) (by omega),d2 x f b l k s]
   have o:=e 0 (by omega)
   have p:=e 1 (by omega)
   have q:=e 2 (by omega)
   rw[bI]
   exact⟨o,p,q⟩⟩
  refine⟨_,i,rfl,j,_,i,rfl,j,λm t a _=>?_,jv _ _⟩
  injection a with a
  injection a with a
  subst a
  exact⟨trivial,br c rfl⟩
theorem bX.adr(h:bX w a x)(c:x≠[]):sE a:=by
 rcases h with h|⟨d,e,b,_⟩;.exact absurd h c
 .rw[b];exact jv _ _
theorem Sv{α:Type}{a:List α}{x:α}(h:a[n]?=some x):a.take (n+1)=a.take n++[x]:=by rw[List.take_add_one,h];rfl
theorem Sr(a:Ex)(b:List (List aH))(h:r[n]?=some x):TC a (r.take (n+1)) b=TC a (r.take n) b++(b.filter λc=>VK (bZ (x++c) a)).map (x++·):=by unfold TC;rw[Sv h,List.flatMap_append];simp
theorem RM(b:Ex)(d:Nat)(c:List (List aH))(h:r[n]?=some x):TK b d (r.take (n+1)) c=TK b d (r.take n) c++if (c.any λa=>VK (bZ (x++a) b))=true then [] else [x++List.replicate d aH.null]:=by
 unfold TK;rw[Sv h,List.filter_append,ep];congr 1;have:(c.all λa=>!VK (bZ (x++a) b))=!(c.any λa=>VK (bZ (x++a) b)):=by rw[List.not_any_eq_all_not]
 rw[List.filter_cons,this];cases (c.any λa=>VK (bZ (x++a) b))<;>rfl
theorem RZ(b:Ex)(a:List (List aH)){j:Nat}(h:r[n]?=some x):(TC b (r.take n) a++((a.take j).filter λc=>VK (bZ (x++c) b)).map (x++·)).length<=(TC b r a).length:=by
 have d:(TC b (r.take (n+1)) a).length<=(TC b r a).length:=by(have:TC b r a=TC b (r.take (n+1)) a++TC b (r.drop (n+1)) a:=by unfold TC;rw[<-List.flatMap_append,List.take_append_drop]);rw[this,bG];omega
 rw[Sr b a h] at d;have e:((a.take j).filter λc=>VK (bZ (x++c) b)).length<=(a.filter λc=>VK (bZ (x++c) b)).length:=((List.take_sublist j a).filter _).length_le;rw[bG,bQ] at d ⊢;omega
theorem RW(b:Ex)(c:Nat)(d a:List (List aH)):(TK b c a d).length<=a.length:=by unfold TK;rw[bQ];exact List.length_filter_le _ _
def RI(a b:Nat):Pm:=⟨some ⟨a,0,none⟩,1,none,0,none,0,none,0,some ⟨b,0,none⟩,2⟩
theorem RD{x:Pl}(i:Ex.all w a e.args)(k:hI w x g)(l:hI w p O)(m:Int):hI ((w.alloc (e.box a n)).alloc (T3 x g p O)) (SN m e x p) (RI w.heap.size (w.heap.size+1))/\Bw w ((w.alloc (e.box a n)).alloc (T3 x g p O)):=by
 have b:=am (VT _ w) (e.box a n);have j:(w.alloc (e.box a n)).heap.size=w.heap.size+1:=by simp
 have d:=am (VT _ (w.alloc (e.box a n))) (T3 x g p O);have f:=s9 (ee.new w e a n) (Ex.af _ i b);have c:=Ue (k.aa b) (l.aa b);rw[j] at c;exact⟨⟨⟨Ex.af _ f d,.inl rfl,.inl rfl,.inl rfl,bt⟩,c⟩,ac b d⟩
theorem RJ(d:bY I){x:Pl}(b:e.fin)(a:x.fin)(c:p.fin):(SN I e x p).fin:=by
 unfold SN;rw[Pl.fin];refine⟨⟨by decide,by simp,by simp,by simp,by simp,by simp,⟨by decide,by decide⟩,(λx a=>by cases a),(λx a=>by cases a),(λx a=>by cases a)⟩,?_,?_⟩;.rw[Ex.ay,Ex.ay];exact⟨b,trivial⟩
 .rw[Pl.ay,Pl.ay,Pl.ay];exact⟨a,c,trivial⟩
theorem RK{x:Pl}(a:x.aQ)(b:p.aQ):(SN I e x p).aQ:=by unfold SN;rw[Pl.aQ,Pl.aO,Pl.aO,Pl.aO];exact⟨by decide,a,b,trivial⟩
theorem SC(a:List Tb)(d:Ex)(x b:Pl)(c:bC a (SN 4 d x b)<=2147483647):bC a (SN 5 d x b)<=2147483647/\bC a x<=2147483647/\bC a b<=2147483647:=by
 have i:=dl a x;have j:=dl a b;have e:bC a (SN 4 d x b)=min (max (min (min (1*bC a x) 2147483648*bC a b) 2147483648) 1) 2147483648:=by rw[ff];rfl
 have g:bC a (SN 5 d x b)=min (max (min (min (1*bC a x) 2147483648*bC a b) 2147483648) 1) 2147483648:=by rw[ff];rfl
 refine⟨by rw[g,<-e];exact c,?_,?_⟩;.rw[e] at c;(have f:min (1*bC a x) 2147483648=bC a x:=by omega);rw[f] at c;have:bC a x*1<=bC a x*bC a b:=Int.mul_le_mul_of_nonneg_left j.1 (by omega);omega
 .rw[e] at c;(have f:min (1*bC a x) 2147483648=bC a x:=by omega);rw[f] at c;have:1*bC a b<=bC a x*bC a b:=Int.mul_le_mul_of_nonneg_right i.1 (by omega);omega
theorem Sn(r:Sk T)(q:p.fin)(l:bC T p<=2147483647)(b:gO T p=0):(∀a∈VC T p,a.length<=64/\a≠[]/\∀u∈a,eO u)/\(VC T p).length<=2147483647/\(S8 p T).2=(bK T p).2/\0<(bK T p).2.length/\(bK T p).2.length<=64:=by
 obtain⟨c,e,d,t⟩:=k4 b;have f:eI T=true:=by unfold e5 at c;simp only[cc] at c;exact c.1
 have o:iK p=0:=by unfold gO at b;rw[ba c] at b;split at b;(.assumption);.exact absurd b ‹_›
 have n:(S8 p T).2=(bK T p).2:=by unfold S8;rw[ba o,ba f,ba d]
 have g:=hP c r p.size p bi q e d l;have v:=iR f p.size p bi e d l;have i:=(hW f p.size p bi e d);have x:=i.lo;have w:=i.hi;rw[t];refine⟨λa s=>?_,by rw[(gE _).length_eq];omega,n,by omega,by omega⟩;have k:=(gE _).mem_iff.1 s;have j:=(g a k).len;refine⟨by omega,λm=>?_,(g a k).val⟩;rw[m] at j;simp at j;omega
theorem SJ(c:Ex)(K:c.fin)(row:List aH)(y:∀x∈row,gW x)(L:row.length<=140737488355328)(e j:Option Addr)(k n:Nat)(a:World)(s:Ex.all a e c.args)(w:bX a j row):Calls prog 20 #[c.val e k,.slice j row.length n] a λi o=>i=.returned (bZ row c).v/\Bw a o:=by
 have q:=H (λ(b:World) (f:Bw a b)=>fF c K e k b (Ex.af _ s f));have A:=H (λ(b:World) (f:Bw a b)=>w.aa f);have B:=H y;clear s w y;rw[Ex.ad] at q ⊢;have m:Hid (Bw a ((a.alloc (c.box e k)).alloc (.cells #[.int .i64 0,.int .i64 0,.string ⟨#[]⟩] 43))):=am (am (VT _ a) _) _;have D:Hid (hZ ((a.alloc (c.box e k)).alloc (.cells #[.int .i64 0,.int .i64 0,.string ⟨#[]⟩] 43)) (a.heap.size+1)):=by refine⟨?_,?_,?_,?_,?_,?_⟩<;>simp[go_sem]
 have C:Hid (∀b d,iM a.heap.size [] b d c->Bw a b->∃g l,d=.func (.func g) #[] l/\cr g/\Calls prog g (#[.slice j row.length n]++l) b λi o=>i=.returned (bZ row c).v/\Bw b o):=λb d hF f=>by obtain⟨g,l,F,G,I⟩:=hF;exact⟨g,l,F,G,I b j n row (ce.refl _ _ _) (U A _ f) (U B) L⟩
 generalize bZ row c=M at *;go_enter func20,ntmps20
 go_wp2_with (first
  | (go_at_call 32;refine(U q _ (U m)).mono ?_;rintro i N ⟨d,rfl,hF,t⟩;have r:=ac (U m) t;obtain⟨P,O,rfl,E,p⟩:=U C N d (iM.more hF (U m).size) r;unfold cr at E;have z:=H p;clear p hF)
  | (refine(U z).mono ?_;rintro i Q ⟨rfl,u⟩;have J:=ac r u;rw[aH.open_];obtain⟨R,S,T,V,W,X⟩:=(U D).aa (ac t u)))
 refine bs (v:=M.v) (by simp[results,results20,go_sem,aH.v, *]) rfl ⟨rfl,?_⟩;exact kD J (by omega) _ _ _
def Rw(c:Int)(a b:Nat):Value:=.agg #[.int .i64 c,.string ⟨#[]⟩,.slice (some ⟨a,0,none⟩) 1 1,.slice none 0 0,.slice none 0 0,.slice none 0 0,.int .i64 0,.int .i64 0,.int .i64 0,.int .i64 0,.slice (some ⟨b,0,none⟩) 2 2]
theorem RL(c:Int)(d:Ex)(x e:Pl)(a b:Nat):(SN c d x e).val (RI a b)=Rw c a b:=by rw[Pl.ad];rfl
abbrev Rz (c:Int) (a b:Nat):Obj:=.cells #[.int .i64 c,.string ⟨#[]⟩,.slice (some ⟨a,0,none⟩) 1 1,.slice none 0 0,.slice none 0 0,.slice none 0 0,.int .i64 0,.int .i64 0,.int .i64 0,.int .i64 0,.slice (some ⟨b,0,none⟩) 2 2] 28
theorem RH(a:∀x∈y,eO x)(b:∀x∈z,eO x):∀x∈y++z,gW x:=λx c=>by
 rcases cM c with h|h
 .exact(a x h).vok
 .exact(b x h).vok
theorem RF(f:List Tb)(F:∀e∈f,e.fin)(B:Sk f)(S:f.length<=1048576)(P:Option Addr)(Z:Nat)(a:Ex)(XO:a.fin)(z:Option Addr)(A:Nat)(x c:Pl)(Wf:x.fin)(W5:x.aQ)(VY:c.fin)(W6:c.aQ)(I V:Pm)(l:World)(W2:Ex.all l z a.args)(XI:hI l x I)(WY:hI l c V)(D:lZ l P f):Calls prog 6 #[a.val z A,x.val I,c.val V,.slice P f.length Z] l λd J=>d=.returned (.bool true)/\Bw l J:=by
 obtain⟨g,Wh⟩:=bn (((l.alloc (a.box z A)).alloc (x.box I)).alloc (c.box V));have Wb:Bw l g:=by rw[Wh];exact am (am (am (VT _ l) _) _) _
 have Zo:(l.alloc (a.box z A)).heap.size=l.heap.size+1:=by simp
 have Zp:((l.alloc (a.box z A)).alloc (x.box I)).heap.size=l.heap.size+1+1:=by simp
 have YW:ee g l.heap.size a z A:=by rw[Wh];exact((ee.new l a z A).aa (am VS _)).aa (am VS _)
 have Y2:dL g (l.heap.size+1) 0 x I:=by have:=dL.new (l.alloc (a.box z A)) x I;rw[Zo] at this;rw[Wh];exact this.aa (am VS _)
 have Y3:dL g (l.heap.size+1+1) 0 c V:=by have:=dL.new ((l.alloc (a.box z A)).alloc (x.box I)) c V;rw[Zp] at this;rw[Wh];exact this
 obtain⟨K,W9⟩:=bn ((g.alloc (a.box z A)).alloc (T3 x I c V));have Zq:K.heap.size=g.heap.size+1+1:=by rw[W9];simp
 have Ww:∀XV:Int,hI K (SN XV a x c) (RI g.heap.size (g.heap.size+1))/\Bw g K:=λXV=>by rw[W9];exact RD (Ex.af _ W2 Wb) (XI.aa Wb) (WY.aa Wb) XV
 have XA:=(Ww 4).2;have YY:Bw l K:=ac Wb XA;have WW:(SN 4 a x c).fin:=RJ ⟨by decide,by decide⟩ XO Wf VY;have Xx:(SN 5 a x c).fin:=RJ ⟨by decide,by decide⟩ XO Wf VY;obtain⟨p,Xa⟩:=bn (K.alloc (Rz 4 g.heap.size (g.heap.size+1)));have Wc:Bw K p:=by rw[Xa];exact am VS _
 have Y1:dL p K.heap.size 0 (SN 4 a x c) (RI g.heap.size (g.heap.size+1)):=by rw[Xa];exact dL.new K (SN 4 a x c) (RI g.heap.size (g.heap.size+1))
 have v:Bw l p:=ac YY Wc;have YZ:Bw g p:=ac XA Wc;have WO:=H (λ(b:World) (i:Bw g b)=>(YW.aa i).load);have WP:=H (λ(b:World) (i:Bw g b)=>(Y2.aa i).load);have Wq:=H (λ(b:World) (i:Bw g b)=>(Y3.aa i).load);have C:=H (λ(b:World) (i:Bw p b)=>(Y1.aa i).load);have O:=H (xr f F S P Z (SN 4 a x c) WW (RI g.heap.size (g.heap.size+1)) p ((Ww 4).1.aa Wc) (D.aa v));have L:=H (λ(m:bC f (SN 4 a x c)<=2147483647) (b:World) (i:Bw p b)=>(hY f F B S P Z (SN 4 a x c) WW (RK W5 W6) m (RI g.heap.size (g.heap.size+1)) b ((Ww 4).1.aa (ac Wc i)) (D.aa (ac v i))).mono λa J h=>h.got);have M:=H (λ(m:bC f (SN 4 a x c)<=2147483647) (b:World) (i:Bw p b)=>(hY f F B S P Z (SN 5 a x c) Xx (RK W5 W6) (SC f a x c m).1 (RI g.heap.size (g.heap.size+1)) b ((Ww 5).1.aa (ac Wc i)) (D.aa (ac v i))).mono λa J h=>h.got);have V0:=H (λ(m:bC f (SN 4 a x c)<=2147483647) (b:World) (i:Bw p b)=>(hY f F B S P Z x Wf W5 (SC f a x c m).2.1 I b (XI.aa (ac v i)) (D.aa (ac v i))).mono λa J h=>h.got);have V1:=H (λ(m:bC f (SN 4 a x c)<=2147483647) (b:World) (i:Bw p b)=>(hY f F B S P Z c VY W6 (SC f a x c m).2.2 V b (WY.aa (ac v i)) (D.aa (ac v i))).mono λa J h=>h.got);have V2:=H (λ(b:World) (i:Bw p b)=>SI f F S P Z c VY V b (WY.aa (ac v i)) (D.aa (ac v i)));have Yh:=H (λ(b:World) (i:Bw p b) (row:List aH) (hv9:∀x∈row,gW x) (hl:row.length<=140737488355328) (YE:Option Addr) (Z5:Nat) (r:bX b YE row)=>SJ a XO row hv9 hl z YE A Z5 b (Ex.af _ W2 (ac v i)) r);have Yn:=H (λ(m:bC f (SN 4 a x c)<=2147483647) YU YV Q WX=>And.intro (SG (e:=a) B Wf VY (SC f a x c m).2.1 (SC f a x c m).2.2 YU YV Q WX) (And.intro (Sn B Wf (SC f a x c m).2.1 Q) (And.intro (Sn B VY (SC f a x c m).2.2 WX) (And.intro (BD F B WW m YU) (BD F B Xx (SC f a x c m).1 YV)))));have HB0:=H Wb;have Wl:=H YZ;have Xj:=H v;unfold Df at L M V0 V1;unfold u0 at V2;obtain⟨pp9,XR⟩:=bn (decide (2147483647<bC f (SN 4 a x c)));rw[<-XR] at O;have Ym:=H XR;obtain⟨nt9,Zj⟩:=bn f.length;obtain⟨s,XB⟩:=bn ((S8 c f).2);obtain⟨CE9,Y0⟩:=bn ((S8 c f).1);obtain⟨YG,VX⟩:=bn (gO f (SN 4 a x c) == 0);obtain⟨YH,R⟩:=bn (gO f (SN 5 a x c) == 0);obtain⟨YJ,XN⟩:=bn (gO f x == 0);obtain⟨YI,XM⟩:=bn (gO f c == 0);obtain⟨WT,XG⟩:=bn (VC f (SN 4 a x c));obtain⟨WU,XH⟩:=bn (VC f (SN 5 a x c));obtain⟨n,XC⟩:=bn (VC f x);obtain⟨j,XD⟩:=bn (VC f c);have Yo:Hid (bC f (SN 4 a x c)<=2147483647->YG=true->YH=true->YJ=true->YI=true->((TC a n j).Perm WT/\(TC a n j++TK a s.length n j).Perm WU)/\((∀d∈n,d.length<=64/\d≠[]/\∀x∈d,eO x)/\n.length<=2147483647)/\((∀d∈j,d.length<=64/\d≠[]/\∀x∈d,eO x)/\j.length<=2147483647)/\(0<s.length/\s.length<=64)/\(Dh WT/\WT.length<=2147483647)/\(Dh WU/\WU.length<=2147483647)):=λm k49 k59 kx9 ky=>by obtain⟨YQ,⟨Z7,Z8,_⟩,⟨Z9,g59,g69,YR,YS⟩,g99,Z6⟩:=U Yn m (of_decide_eq_true (VX.symm.trans k49)) (of_decide_eq_true (R.symm.trans k59)) (of_decide_eq_true (XN.symm.trans kx9)) (of_decide_eq_true (XM.symm.trans ky));rw[<-g69] at YQ YR YS;rw[XG,XH,XC,XD,XB];exact⟨YQ,⟨Z7,Z8⟩,⟨Z9,g59⟩,⟨YR,YS⟩,g99,Z6⟩
 simp only[<-Zj] at O L M V0 V1 V2 ⊢;simp only[<-VX,<-XG] at L;simp only[<-R,<-XH] at M;simp only[<-XN,<-XC] at V0;simp only[<-XM,<-XD] at V1;simp only[<-Y0,<-XB] at V2;simp only[RL] at C O L M;rw[Zq] at C;have V3:=H (λ(Xw b:World) (i:Below (Xw.alloc (Rz 5 g.heap.size (g.heap.size+1))).heap.size (Xw.alloc (Rz 5 g.heap.size (g.heap.size+1))) b)=>((dL.new Xw (SN 5 a x c) (RI g.heap.size (g.heap.size+1))).aa i).load);simp only[RL] at V3;unfold Rw at C O L M V3;unfold Rz at V3;simp only[Pl.ad,Ex.ad] at WO WP Wq V0 V1 V2 Yh ⊢;have Xt:=H Wh;have Xu:=H W9;have WS:=H Xa;unfold Ex.box Pl.box at Xt;unfold Ex.box T3 at Xu;unfold Rz at WS;have HEA:=H W2;obtain⟨YT,XP⟩:=bn g.heap.size;rw[<-XP] at C O L M V3 WS;have ZM:=H XP;clear Wh W9 Xa Wb XA YY Wc YZ v Ww YW Y2 Y3 Y1 Zo Zp Zq WW Xx W2 XI WY D F B S Wf W5 VY W6 Zj XB Y0 VX R XN XM XG XH XC XD XR Yn XP;go_enter func6,ntmps6;go_upto_region 1 with fail;rw[<-U Xt]
 go_upto_region 2 with (first
  | (refine a1 ?_ 45 (.tmp 4) rfl _ (by simp[Act.eval,Act.put]) _ (U WO _ VS) ?_;. simp[Region.wanted,yielded])
  | (refine a1 ?_ 28 (.tmp 5) rfl _ (by simp[Act.eval,Act.put]) _ (U WP _ (am VS _)) ?_;. simp[Region.wanted,yielded])
  | (refine a1 ?_ 28 (.tmp 6) rfl _ (by simp[Act.eval,Act.put]) _ (U Wq _ (am VS _)) ?_;. simp[Region.wanted,yielded]))
 rw[<-U Xu,<-U ZM,<-U WS];clear Xu WS Xt;cases pp9
 case true=>
  go_wp2_with (first
   | (refine a1 ?_ 28 (.tmp 9) rfl _ (by simp[Act.eval,Act.put]) _ (U C _ VS) ?_;. simp[Region.wanted,yielded])
   | (go_at_call 7;refine(U O).mono ?_;rintro d XZ ⟨rfl,WZ⟩))
  go_ret;exact⟨rfl,ac (U Xj) WZ⟩
 case false=>
  have m:bC f (SN 4 a x c)<=2147483647:=by have:=of_decide_eq_false (U Ym).symm;omega
  have X2:=H (U L m);have X3:=H (U M m);have YB:=H (U V0 m);have YC:=H (U V1 m);have V4:=H (U Yo m);clear L M V0 V1 Yo Ym m
  go_upto_region 4 with (first
   | (refine a1 ?_ 28 (.tmp 9) rfl _ (by simp[Act.eval,Act.put]) _ (U C _ VS) ?_;. simp[Region.wanted,yielded])
   | (go_at_call 7;refine(U O).mono ?_;rintro d XZ ⟨rfl,WZ⟩;have X8:=H WZ;clear WZ))
  go_upto_region 6 with (refine a1 ?_ 28 (.tmp 9) rfl _ (by simp[Act.eval,Act.put]) _ (U C _ (U X8)) ?_;. simp[Region.wanted,yielded]);have Xn:=H (U V3 XZ);obtain⟨ZA,XT⟩:=bn (XZ.alloc (.cells #[.int .i64 5,.string ⟨#[]⟩,.slice (some ⟨YT,0,none⟩) 1 1,.slice none 0 0,.slice none 0 0,.slice none 0 0,.int .i64 0,.int .i64 0,.int .i64 0,.int .i64 0,.slice (some ⟨YT+1,0,none⟩) 2 2] 28));have Xg:Hid (Bw p ZA):=by rw[XT];exact am (U X8) _
  rw[<-XT] at Xn ⊢;clear XT V3 O
  go_upto_region 7 with (first
   | (refine a1 ?_ 28 (.tmp 9) rfl _ (by simp[Act.eval,Act.put]) _ (U C _ (U Xg)) ?_;. simp[Region.wanted,yielded])
   | (go_at_call 14;refine(U X2 ZA (U Xg)).mono ?_;rintro d w3 ⟨a4,Z2,rfl,Zk,XJ⟩;have Yg:=H XJ;have Xh:=H (ac (U Xg) XJ);have Yp:=H Zk;clear XJ Zk))
  go_upto_region 8 with (first
   | (refine a1 ?_ 28 (.tmp 10) rfl _ (by simp[Act.eval,Act.put]) _ (U Xn _ (U Yg)) ?_;. simp[Region.wanted,yielded])
   | (go_at_call 14;refine(U X3 w3 (U Xh)).mono ?_;rintro d w4 ⟨a5,Z3,rfl,Zl,VX⟩;have WJ:=H (ac (U Xh) VX);have Yq:=H ((U Yp).aa VX);have Yt:=H Zl;clear VX Zl))
  clear Yp Xh Yg X2 X3 Xn C
  go_upto_region 9 with (first
   | (refine a1 ?_ 28 (.tmp 5) rfl _ (by simp[Act.eval,Act.put]) _ (U WP _ (ac (U Wl) (U WJ))) ?_;. simp[Region.wanted,yielded])
   | (go_at_call 14;refine(U YB w4 (U WJ)).mono ?_;rintro d w5 ⟨a6,c6,rfl,Zm,R⟩;have WK:=H (ac (U WJ) R);have Yr:=H ((U Yq).aa R);have Yu:=H ((U Yt).aa R);have Yx:=H Zm;clear R Zm))
  clear Yq Yt WJ YB
  go_upto_region 10 with (first
   | (refine a1 ?_ 28 (.tmp 6) rfl _ (by simp[Act.eval,Act.put]) _ (U Wq _ (ac (U Wl) (U WK))) ?_;. simp[Region.wanted,yielded])
   | (go_at_call 14;refine(U YC w5 (U WK)).mono ?_;rintro d ZB ⟨a7,c7,rfl,Zn,WB⟩;have Wj:=H (ac (U WK) WB);have V5:=H ((U Yr).aa WB);have V6:=H ((U Yu).aa WB);have V7:=H ((U Yx).aa WB);have V8:=H Zn;clear WB Zn))
  clear Yr Yu Yx WK YC;have Wp:=H (oM ZB);have WN:=H (ac (U Xj) (U Wj));cases YG;case false=>clear V5 V6 V7 V8 V4;go_wp2_with (go_at_call 11;refine(U Wp).mono ?_;rintro d X0 ⟨rfl,VW⟩);go_ret;exact⟨rfl,ac (U WN) VW⟩
  cases YH;case false=>clear V5 V6 V7 V8 V4;go_wp2_with (go_at_call 11;refine(U Wp).mono ?_;rintro d X0 ⟨rfl,VW⟩);go_ret;exact⟨rfl,ac (U WN) VW⟩
  cases YJ;case false=>clear V5 V6 V7 V8 V4;go_wp2_with (go_at_call 11;refine(U Wp).mono ?_;rintro d X0 ⟨rfl,VW⟩);go_ret;exact⟨rfl,ac (U WN) VW⟩
  cases YI;case false=>clear V5 V6 V7 V8 V4;go_wp2_with (go_at_call 11;refine(U Wp).mono ?_;rintro d X0 ⟨rfl,VW⟩);go_ret;exact⟨rfl,ac (U WN) VW⟩
  obtain⟨⟨p4,p5⟩,⟨Zr,hx2⟩,⟨Zs,hy2⟩,⟨k0,k19⟩,⟨YL,la9⟩,⟨YM,lb⟩⟩:=U V4 rfl rfl rfl rfl;have Xp:=H p4;have Xq:=H p5;have Z0:=H Zr;have Z1:=H Zs;have Ye:=H YL;have Xk:=H YM;have Y6:(TC a n j).length<=2147483647:=by rw[p4.length_eq];exact la9
  clear V4 p4 p5 Zr Zs YL YM Wp
  go_upto_region 13 with (first
   | (refine a1 ?_ 28 (.tmp 6) rfl _ (by simp[Act.eval,Act.put]) _ (U Wq _ (ac (U Wl) (U Wj))) ?_;. simp[Region.wanted,yielded])
   | (go_at_call 12;refine(U V2 ZB (U Wj)).mono ?_;rintro d W ⟨aK,cK,rfl,_,We⟩;have WL:=H (ac (U Wj) We);have Ys:=H ((U V5).aa We);have Yv:=H ((U V6).aa We);have Yy:=H ((U V7).aa We);have Yz:=H ((U V8).aa We);clear We))
  clear V5 V6 V7 V8 Wj V2 WP Wq;go_wp2_with fail;go_loopw[21,22,87] (λXW lv XU WI=>∃q:Nat,q<=n.length/\XU=.int .i64 q/\Hid (R8 W.heap.size WI XW (TC a (n.take q) j) lv (TK a s.length (n.take q) j))/\Hid (Bw W WI)) (λ_ _ XU _=>n.length-(intOf XU).toNat);case atStart=>exact⟨0,bt,rfl,(by rw[List.take_zero];exact R8.nil _ _),VS⟩
  case round=>
   obtain⟨q,hk9,rfl,V9,Wm⟩:=hrel;by_cases Q:q<n.length
   ·(have i19:(q:Int)<(n.length:Int):=by omega);obtain⟨k,Wg⟩:∃x,n[q]?=some x:=⟨_,VR Q⟩;obtain⟨bX9,oX9,YF,YN,YO,Zv,Xd⟩:=(U Yy).get Wg;have qx9:=ae Zv (U Wm);obtain⟨q1,XX,Zu⟩:=U Z0 k (VQ Wg);have X5:=H (Xd.adr XX);have Yw:=H Xd;have ZV:=H Zu;have ZW:=H XX;have ZU:=H (Sr a j Wg);have Wn:=H (RM a s.length j Wg);have ZT:=H (λo=>RZ a j (j:=o) Wg);rw[YO];clear Wg YO Xd Zu XX Zv;go_wp2_with fail;go_loopw[21,25,93] (λXW mt o WI=>∃Xb:Nat,Xb<=j.length/\o=.int .i64 Xb/\mt=.bool ((j.take Xb).any λe=>VK (bZ (k++e) a))/\Hid (R8 W.heap.size WI XW (TC a (n.take q) j++((j.take Xb).filter λe=>VK (bZ (k++e) a)).map (k++·)) u22 (TK a s.length (n.take q) j))/\Hid (Bw W WI)) (λ_ _ o _=>j.length-(intOf o).toNat);case atStart=>exact⟨0,bt,rfl,rfl,(by rw[List.take_zero,List.filter_nil,List.map_nil,VI];exact V9),Wm⟩
    case round=>
     obtain⟨o,hj9,rfl,rfl,N,y⟩:=hrel;by_cases WX:o<j.length
     ·(have i29:(o:Int)<(j.length:Int):=by omega);obtain⟨WH,WF⟩:∃x,j[o]?=some x:=⟨_,VR WX⟩;obtain⟨bZ9,oZ9,sa,sc9,YP,Zw,Xe⟩:=(U Yz).get WF;have qy9:=ae Zw (U y);obtain⟨s19,Zx,Zy⟩:=U Z1 WH (VQ WF);obtain⟨e,w⟩:=bn (k++WH);obtain⟨Zz,W8⟩:=bn (bZ e a);obtain⟨WV,W0⟩:=bn (VK Zz);(have S:e.length<=128:=by rw[w,bG];omega);have Xr:=H (λ(b:World)=>il Zz b);rw[<-W0] at Xr;have Xm:=H (λ(b:World) (i:Bw W b)=>U Yh b (ac (U WL) i) e (by rw[w];exact RH (U ZV) Zy) (by omega));rw[<-W8] at Xm;(have Y7:((j.take (o+1)).any λe=>VK (bZ (k++e) a))=(((j.take o).any λe=>VK (bZ (k++e) a)) || WV):=by rw[Sv WF,List.any_append,W0,W8,w];simp);(have Zd:((j.take (o+1)).filter λe=>VK (bZ (k++e) a)).map (k++·)=((j.take o).filter λe=>VK (bZ (k++e) a)).map (k++·)++if WV=true then [e] else []:=by rw[Sv WF,List.filter_append,ep,List.filter_cons,<-w,<-W8,<-W0];cases WV;(.rfl);.simp[w]);have Xf:=H Y7;have Yi:=H Zd;have XQ:=U ZT o;have Ws:=(U Yw).aa (U y);have E:=am (VT _ wr) (.cells #[] 43);have WR:=H (Ws.aa E);have WM:=H E;have X7:=H Xe;have X6:=H (Xe.adr Zx);have W7:wr.heap.size<=(wr.alloc (.cells #[] 43)).heap.size:=E.size;(have W3:([]:List aH).length+k.length<=4000000:=by simp;omega);(have W4:(([]:List aH)++k).length+WH.length<=4000000:=by simp;omega);have YA:=H w;obtain⟨ZC,Xz⟩:=bn (TC a (n.take q) j++((j.take o).filter λe=>VK (bZ (k++e) a)).map (k++·));obtain⟨Zt,WD⟩:=bn ((j.take o).any λe=>VK (bZ (k++e) a));rw[<-Xz] at N XQ;rw[<-WD] at Xf ⊢;have X4:=H Xz;rw[YP];clear Y7 Zd WF YP Zw Xe W8 W0 Ws E w Xz WD Zx Zy;go_upto_region 22 with fail
      go_upto_region 23 with (first
       | (refine hp X1 rfl (.tmp 99) (.tmp 100) rfl wr.heap.size XY ([]++k) WH sa sc9 (U X6) (by simp[Act.eval,Act.put]) (U WQ) (by simp[Act.eval,Act.put]) ((U X7).aa (ac (U y) (U Y))) W4 (U Y).size ?_;intro v9 Wi Wd Wv;have Xo:=H Wd;have Wk:=H ((U Y).trans Wv);clear Wd Wv)
       | (refine hp _ rfl (.tmp 97) (.tmp 98) rfl wr.heap.size (.slice (some ⟨wr.heap.size,0,none⟩) 0 0) [] k YF YN (U X5) (by simp[Act.eval,Act.put]) (s1 wr _ bi) (by simp[Act.eval,Act.put]) (U WR) W3 W7 ?_;intro XY X1 Wy Wu;have WQ:=H Wy;have Y:=H ((U WM).trans Wu);clear Wy Wu))
      (have Wa:([]++k)++WH=e:=by rw[dK,U YA]);rw[Wa] at Xo;obtain⟨t,u,rfl,XS,WG⟩:=(U Xo).rwp;have HR9:=H XS;have ZZ:=H WG;have Xi:=H (ac (U y) (U Wk));have Yd:=H (U Xm Wi (U Xi) t u XS);clear Xo WQ Y XS WG Xm WR WM X7 X6 W3 W4 W7 Wa;cases WV
      case false=>
       go_wp2_with (first
        | (refine a1 ?_ 45 (.tmp 4) rfl _ (by simp[Act.eval,Act.put]) _ (U WO _ (ac (U Wl) (ac (U WL) (U Xi)))) ?_;. simp[Region.wanted,yielded])
        | (go_at_call 20;refine(U Yd).mono ?_;rintro d w10 ⟨rfl,Wz⟩;have ZE:=H (ac (U Wk) Wz);clear Wz)
        | (go_at_call 19;refine(U Xr _).mono ?_;rintro d Xc ⟨rfl,WA⟩;have X9:=H (ac (U ZE) WA);clear WA))
       go_roundw;(case rel=>exact⟨o+1,by omega,by go_num,by rw[U Xf,Bool.or_false],(by rw[U Yi,VU (by decide),VI,<-U X4];exact H ((U N).aa (U X9))),H (ac (U y) (U X9))⟩);case measure=>simp[intOf]<;>omega
      case true=>
       go_wp2_with (first
        | (refine a1 ?_ 45 (.tmp 4) rfl _ (by simp[Act.eval,Act.put]) _ (U WO _ (ac (U Wl) (ac (U WL) (U Xi)))) ?_;. simp[Region.wanted,yielded])
        | (go_at_call 20;refine(U Yd).mono ?_;rintro d w10 ⟨rfl,Wz⟩;have ZK:=H Wz;clear Wz)
        | (go_at_call 19;refine(U Xr _).mono ?_;rintro d Xc ⟨rfl,WA⟩;have Yf:=H (ac (U ZK) WA);have X:=H (am (ac (U Wk) (U Yf)) (.cells #[.slice t e.length u] 40));have Wt:=H ((U N).aa (U X));have Xs:=H ((U ZZ).ky (G:=λ_=>False) (Ky.ab (am (U Yf) (.cells #[.slice t e.length u] 40))) λ_ _ _=>id);have Xl:Hid ((Xc.alloc (.cells #[.slice t e.length u] 40)).cell? ⟨Xc.heap.size,0,none⟩=some (.slice t e.length u)):=(by show _=_;simp[go_sem]);clear WA)
        | (refine SB _ rfl (.tmp 106) (.tmp 108) rfl u21 ZC e (by simp[Act.eval,Act.put]) (U Wt).a Xc.heap.size (.slice t e.length u) (by simp[Act.eval,Act.put]) (U Xl) (U Xs) (by omega) ?_;intro v13 w13 Wx WC WE;have Wr:=H ((U Wt).push Wx WC WE (cw (U y).size (U X).size));clear Wx WC WE))
       go_roundw;(case rel=>exact⟨o+1,by omega,by go_num,by rw[U Xf,Bool.or_true],(by rw[U Yi,if_true,<-cI,<-U X4];exact H (U Wr).1),H ((ac (U y) (U X)).trans (U Wr).2)⟩);case measure=>simp[intOf]<;>omega
     ·(have i29:¬(o:Int)<(j.length:Int):=by omega);(have Wa:o=j.length:=by omega);subst Wa;rw[dy] at N;rw[dy];obtain⟨Zt,WD⟩:=bn (j.any λe=>VK (bZ (k++e) a));rw[<-WD] at Wn ⊢;rw[<-U ZU] at N;clear WD;cases Zt;case true=>go_wp2;go_roundw;(case rel=>exact⟨q+1,by omega,by go_num,(by rw[U Wn,ba rfl,VI];exact N),y⟩);case measure=>simp[intOf]<;>omega
      case false=>
       have Ws:=(U Yw).aa (U y);have E:=am (VT _ wr) (.cells #[] 43);have WR:=H (Ws.aa E);have WM:=H E;have W7:wr.heap.size<=(wr.alloc (.cells #[] 43)).heap.size:=E.size;(have W3:([]:List aH).length+k.length<=4000000:=by simp;omega);(have W4:(([]:List aH)++k).length+s.length<=4000000:=by simp;omega);(have hqn:([]:List aH)++k≠[]:=by rw[dK];exact U ZW);obtain⟨e,w⟩:=bn (k++List.replicate s.length aH.null);rw[<-w] at Wn;(have D:([]++k)++List.replicate s.length aH.null=e:=by rw[dK,w]);have YA:=H w;have XQ:=cw (RW a s.length j (n.take q)) (by rw[List.length_take];exact Nat.min_le_left _ _);obtain⟨ZD,YX⟩:=bn (TK a s.length (n.take q) j);rw[<-YX] at N Wn XQ;clear Ws E w YX;go_upto_region 28 with fail
       go_upto_region 29 with (first
        | (refine hp _ rfl (.tmp 114) (.tmp 115) rfl wr.heap.size (.slice (some ⟨wr.heap.size,0,none⟩) 0 0) [] k YF YN (U X5) (by simp[Act.eval,Act.put]) (s1 wr _ bi) (by simp[Act.eval,Act.put]) (U WR) W3 W7 ?_;intro XY X1 Wy Wu;have WQ:=H Wy;have Y:=H ((U WM).trans Wu);clear Wy Wu)
        | (refine SA X1 rfl (.tmp 116) (.tmp 118) rfl wr.heap.size XY ([]++k) s.length hqn k0 (by simp[Act.eval,Act.put]) (U WQ) (by simp[Act.eval,Act.put]) W4 (U Y).size ?_;intro v9 Wi Wd Wv;rw[D] at Wd;obtain⟨t,u,rfl,_,WG⟩:=Wd.rwp;have Wk:=H ((U Y).trans Wv);have X:=H (am (U Wk) (.cells #[.slice t e.length u] 40));have Wt:=H ((U N).aa (U X));have Xs:=H (WG.ky (G:=λ_=>False) (Ky.ab (am (VT _ Wi) (.cells #[.slice t e.length u] 40))) λ_ _ _=>id);have Xl:Hid ((Wi.alloc (.cells #[.slice t e.length u] 40)).cell? ⟨Wi.heap.size,0,none⟩=some (.slice t e.length u)):=(by show _=_;simp[go_sem]);clear Wd Wv WG)
        | (refine SB _ rfl (.tmp 113) (.tmp 120) rfl u22 ZD e (by simp[Act.eval,Act.put]) (U Wt).b Wi.heap.size (.slice t e.length u) (by simp[Act.eval,Act.put]) (U Xl) (U Xs) (by omega) ?_;intro v13 w13 Wx WC WE;have Wr:=H ((U Wt).swap.push Wx WC WE (cw (U y).size (U X).size));clear Wx WC WE))
       go_wp2;go_roundw;(case rel=>exact⟨q+1,by omega,by go_num,(by rw[U Wn,VU (by decide)];exact H (U Wr).1.swap),H ((ac (U y) (U X)).trans (U Wr).2)⟩);case measure=>simp[intOf]<;>omega
   ·(have i19:¬(q:Int)<(n.length:Int):=by omega);(have Wa:q=n.length:=by omega);subst Wa;rw[dy] at V9;obtain⟨Xv,XF⟩:=bn (TC a n j);obtain⟨YD,Y5⟩:=bn (TK a s.length n j);rw[<-XF] at Xp Y6;rw[<-XF,<-Y5] at Xq V9;obtain⟨aP,YK,rfl,XE⟩:=(U V9).a.a4;obtain⟨aL,Z4,rfl,Y4⟩:=(U V9).b.a4;have p4:=U Xp;have p5:=U Xq;have Ze:=p5.length_eq;rw[bG] at Ze;have W1:Dh Xv:=λd r=>U Ye d (p4.mem_iff.1 r);have Zc:Dh YD:=λd r=>U Xk d (p5.mem_iff.1 (List.mem_append_right _ r));have Yj:=H (jE (c1:=YK) (a2:=none) (c2:=0) (rs2:=[]) XE (.inl rfl) W1 (λd r=>by cases r) (by simp;omega));have Yk:=H (λ(b:World) (i:Bw wr b)=>jE (c1:=Z2) (a2:=none) (c2:=0) (rs2:=[]) (((U Ys).aa (U Wm)).aa i) (.inl rfl) (U Ye) (λd r=>by cases r) (by simp;omega));have ZL:=H (λ(b:World) (i:Bw wr b)=>jE (c1:=YK) (c2:=Z4) (XE.aa i) (Y4.aa i) W1 Zc (by omega));have Yl:=H (λ(b:World) (i:Bw wr b)=>jE (c1:=Z3) (a2:=none) (c2:=0) (rs2:=[]) (((U Yv).aa (U Wm)).aa i) (.inl rfl) (U Xk) (λd r=>by cases r) (by simp;omega));have ZX:Hid (∀(T VZ:Nat) (b:World),h9 b T (Xv++[])->h9 b VZ (WT++[])->Calls prog 16 #[.map (some T),.map (some VZ)] b λa J=>a=.returned (.bool true)/\Bw b J):=λT VZ b Q Xy=>rc Q Xy (λx=>by rw[VI,VI];exact wg p4 x) (by rw[VI,VI];exact(Ad p4).length_eq) (λd r=>by rw[VI] at r;exact W1 d r);have ZY:Hid (∀(T VZ:Nat) (b:World),h9 b T (Xv++YD)->h9 b VZ (WU++[])->Calls prog 16 #[.map (some T),.map (some VZ)] b λa J=>a=.returned (.bool true)/\Bw b J):=λT VZ b Q Xy=>rc Q Xy (λx=>by rw[VI];exact wg p5 x) (by rw[VI];exact(Ad p5).length_eq) (λd r=>U Xk d (p5.mem_iff.1 r));simp only[List.length_nil] at Yj Yk Yl;have ZJ:=H (ac (U Xj) (ac (U WL) (U Wm)));clear Xp Xq V9 XE Y4 p4 p5 Ze W1 Zc Ys Yv Yy Yz XF Y5 Y6
    go_wp2_with (first
     | (go_at_call 17;refine(U Yl w34 (U Yc)).mono ?_;rintro d w35 ⟨m49,rfl,Zi,_,XL⟩;have ZR:=H ((U ZQ).ky (G:=λ_=>False) (Ky.ab XL) (λh=>h));have ZS:=H Zi;have ZH:=H (ac (U Yc) XL);clear Zi XL)
     | (go_at_call 17;refine(U ZL w33 (U Yb)).mono ?_;rintro d w34 ⟨m39,rfl,Zh,_,Za⟩;have ZQ:=H Zh;have Yc:=H (ac (U Yb) Za);clear Zh Za)
     | (go_at_call 17;refine(U Yk EJ (U Ya)).mono ?_;rintro d EI ⟨m29,rfl,Zg,_,XK⟩;have ZO:=H ((U ZN).ky (G:=λ_=>False) (Ky.ab XK) (λh=>h));have ZP:=H Zg;have ZF:=H (ac (U Ya) XK);clear Zg XK)
     | (go_at_call 17;refine(U Yj).mono ?_;rintro d EJ ⟨T,rfl,Zf,_,Y8⟩;have ZN:=H Zf;have Ya:=H Y8;clear Zf Y8)
     | (go_at_call 16;refine(U ZY _ _ w35 (U ZR) (U ZS)).mono ?_;rintro d w36 ⟨rfl,Zb⟩;have ZI:=H (ac (U ZH) Zb);clear Zb)
     | (go_at_call 16;refine(U ZX _ _ EI (U ZO) (U ZP)).mono ?_;rintro d w33 ⟨rfl,Y9⟩;have Yb:=H (ac (U ZF) Y9);clear Y9)
     | (go_at_call 11;refine(oM _).mono ?_;rintro d w37 ⟨rfl,hb37⟩))
    go_ret;exact⟨rfl,ac (U ZJ) (ac (U ZI) hb37)⟩
end Go.Proofs.YtklgoolblpmmlaaGreat
