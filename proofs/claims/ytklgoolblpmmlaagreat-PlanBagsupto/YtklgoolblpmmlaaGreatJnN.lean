import Derived.Test.YtklgoolblpmmlaaGreatJnI
import Derived.Test.YtklgoolblpmmlaaGreatLkG
set_option linter.all false
set_option maxHeartbeats 4000000
set_option maxRecDepth 100000
namespace Go.Proofs.YtklgoolblpmmlaaGreat
open Go.RowKit Go.Sort Go.Lib Go.Proofs.Tryz
def B9(a:List Int)(b:Int):Int:=if a.length=0 then -1 else if a.getD (a.length-1) 0<b then 0 else if b<=a.getD 0 0 then 1 else -1
def kY(a:Ex):List Int:=if bJ a then i7 (dj a) else []
def mg(a:Ex)(b:Int):Int:=B9 (kY a) b
theorem xv(a:List Int):(i7 a).length<=a.length:=by unfold i7 Lib.compact;refine cw (nb _ _) ?_;simp[List.length_mergeSort]
theorem zo(a:Ex):(kY a).length<=400:=by
 unfold kY;split;.next h=>have b:=gB a;have c:=(fs h).1;have d:=xv (dj a);omega
 .simp
theorem mc(b:Ex)(W:b.fin)(f:Int)(m:Option Addr)(p:Nat)(k:World)(N:Ex.all k m b.args):Calls prog 199 #[b.val m p,.int .i64 f] k λj D=>j=.returned (.int .i64 (mg b f))/\Bw k D:=by
 have o:=H (am (VT _ k) (b.box m p));have l:=H (r7 b W m p (k.alloc (b.box m p)) (Ex.af _ N (U o)));have O:=zo b;have X:=H (ee.new k b m p);unfold mg;change Hid (Calls prog 119 _ _ λj D=>∃n,j=.returned n/\cm D _ n (kY b)/\_) at l;generalize kY b=i at *;rw[Ex.ad] at l ⊢;clear N;by_cases u:i.length=0;.have V:i=[]:=dF u;subst V;clear u O;(have T:Hid (B9 [] f=-1):=by show _=_;simp[B9]);go_enter func199,ntmps199;go_wp2_with (go_at_call 119;refine(U l).mono ?_;rintro j E ⟨n,rfl,a,d⟩;obtain⟨y,z,rfl⟩:=a.slice;simp only[List.length_nil];have g:=H (ac (U o) d);clear a d;skip);go_ret;exact⟨by rw[U T];try rfl,U g⟩
 .obtain⟨t,A⟩:∃t,i.length=t+1:=⟨i.length-1,by omega⟩;obtain⟨R,B⟩:∃F,i[0]?=some F:=⟨_,VR (by omega)⟩;obtain⟨S,C⟩:∃F,i[t]?=some F:=⟨_,VR (by omega)⟩;(have M:B9 i f=if S<f then 0 else if f<=R then 1 else -1:=by unfold B9;rw[VU u,A,Nat.add_sub_cancel,cQ,cQ,B,C];rfl);(have Y:t+1<=400:=by omega);have w:=H B;have x:=H C;have v:=H A;rw[M];clear u O B C A M;by_cases K:S<f;(.rw[ba K];go_enter func199,ntmps199;go_wp2_with (go_at_call 119;refine(U l).mono ?_;rintro j E ⟨n,rfl,a,d⟩;obtain⟨y,z,rfl⟩:=a.slice;have e:=a.ints;have g:=H (ac (U o) d);obtain⟨G,P,rfl,q⟩:=e.get (U w);rw[Nat.add_zero] at q;obtain⟨I,Q,c,J⟩:=e.get (U x);injection c with c;injection c with r s _;subst r;subst s;rw[U v];clear a d e;skip);go_ret;exact⟨rfl,U g⟩);.rw[VU K];by_cases L:f<=R;(.rw[ba L];go_enter func199,ntmps199;go_wp2_with (go_at_call 119;refine(U l).mono ?_;rintro j E ⟨n,rfl,a,d⟩;obtain⟨y,z,rfl⟩:=a.slice;have e:=a.ints;have g:=H (ac (U o) d);obtain⟨G,P,rfl,q⟩:=e.get (U w);rw[Nat.add_zero] at q;obtain⟨I,Q,c,J⟩:=e.get (U x);injection c with c;injection c with r s _;subst r;subst s;rw[U v];clear a d e;skip);go_ret;exact⟨rfl,U g⟩);.rw[VU L];go_enter func199,ntmps199;go_wp2_with (go_at_call 119;refine(U l).mono ?_;rintro j E ⟨n,rfl,a,d⟩;obtain⟨y,z,rfl⟩:=a.slice;have e:=a.ints;have g:=H (ac (U o) d);obtain⟨G,P,rfl,q⟩:=e.get (U w);rw[Nat.add_zero] at q;obtain⟨I,Q,c,J⟩:=e.get (U x);injection c with c;injection c with r s _;subst r;subst s;rw[U v];clear a d e;skip);go_ret;exact⟨rfl,U g⟩
def iP(b:Int)(a x:Int):Int:=if b=4∨b=5 then min (a*min x 2147483648) 2147483648 else if b=8 then min (a+min x 2147483648) 2147483648 else max a (min x 2147483648)
def zU(b:Int)(a:List Int):Int:=a.foldl (iP b) 1
theorem hw{op n x:Int}(a:0<=n/\n<=2147483648)(b:0<=x):0<=iP op n x/\iP op n x<=2147483648:=by
 unfold iP;split;.have:0<=n*min x 2147483648:=Int.mul_nonneg (by omega) (by omega);omega
 .split<;>omega
theorem Ds(a:Int)(g:¬(a=4∨a=5))(o:¬a=8)(b:List Int)(G:b.length<=1048576)(f:∀x∈b,0<=x/\x<=4611686018427387904)(m:Option Addr)(v:Nat)(i:World)(p:bP i m b):Calls prog 178 #[.int .i64 a,.slice m b.length v] i λC E=>C=.returned (.int .i64 (zU a b))/\E=i:=by
 have r:=H p;have u:=H f;clear p f;go_enter func178,ntmps178;go_wp2_with fail;go_loopw[5,11] (λD k wr=>∃(c:Nat) (d:Int),c<=b.length/\k=.int .i64 (c:Int)/\D=.int .i64 d/\0<=d/\d<=2147483648/\Hid (d=(b.take c).foldl (iP a) 1)/\wr=i) (λ_ k _=>b.length-(intOf k).toNat);case atStart=>exact⟨0,1,bt,rfl,rfl,by decide,by decide,(by show _=_;rfl),rfl⟩
 case round=>obtain⟨c,d,A,rfl,rfl,y,z,e,j⟩:=hrel;replace j:=j.symm;subst j;by_cases q:c<b.length;(·(have w:(c:Int)<(b.length:Int):=by omega);obtain⟨x,f⟩:∃x,b[c]?=some x:=⟨_,VR q⟩;obtain⟨B,I⟩:=U u x (VQ f);obtain⟨L,M,rfl,F⟩:=(U r).get f;(have s:Hid ((b.take (c+1)).foldl (iP a) 1=iP a d x):=by show _=_;rw[d1 (iP a) 1 f,<-U e]);have l:=H (hw (op:=a) (n:=d) (x:=x) ⟨y,z⟩ B);(have t:Hid (iP a d x=max d (min x 2147483648)):=by show _=_;unfold iP;rw[VU g,VU o]);clear f e;have J:¬a=4:=λh=>g (.inl h);have K:¬a=5:=λh=>g (.inr h);go_wp2;exact⟨⟨c+1,iP a d x,by omega,by go_num,by rw[U t],(U l).1,(U l).2,(by show _=_;rw[U s]),by first|trivial|rfl⟩,by simp[intOf];omega⟩);·(have w:¬(c:Int)<(b.length:Int):=by omega);(obtain rfl:c=b.length:=by omega);rw[dy] at e;clear A q;go_wp2;go_ret;exact⟨by first | (rw[U e];rfl) | (subst o;rw[U e];rfl) | (subst g;rw[U e];rfl) | (subst h5;rw[U e];rfl),rfl⟩
theorem Dr(b:Int)(m:b=8)(a:List Int)(F:a.length<=1048576)(f:∀x∈a,0<=x/\x<=4611686018427387904)(l:Option Addr)(u:Nat)(g:World)(o:bP g l a):Calls prog 178 #[.int .i64 b,.slice l a.length u] g λB D=>B=.returned (.int .i64 (zU b a))/\D=g:=by
 have q:=H o;have t:=H f;clear o f;go_enter func178,ntmps178;go_wp2_with fail;go_loopw[5,11] (λC j wr=>∃(c:Nat) (d:Int),c<=a.length/\j=.int .i64 (c:Int)/\C=.int .i64 d/\0<=d/\d<=2147483648/\Hid (d=(a.take c).foldl (iP b) 1)/\wr=g) (λ_ j _=>a.length-(intOf j).toNat);case atStart=>exact⟨0,1,bt,rfl,rfl,by decide,by decide,(by show _=_;rfl),rfl⟩
 case round=>obtain⟨c,d,z,rfl,rfl,w,y,e,i⟩:=hrel;replace i:=i.symm;subst i;by_cases p:c<a.length;(·(have v:(c:Int)<(a.length:Int):=by omega);obtain⟨x,f⟩:∃x,a[c]?=some x:=⟨_,VR p⟩;obtain⟨A,G⟩:=U t x (VQ f);obtain⟨K,L,rfl,E⟩:=(U q).get f;(have r:Hid ((a.take (c+1)).foldl (iP b) 1=iP b d x):=by show _=_;rw[d1 (iP b) 1 f,<-U e]);have k:=H (hw (op:=b) (n:=d) (x:=x) ⟨w,y⟩ A);(have s:Hid (iP b d x=min (d+min x 2147483648) 2147483648):=by show _=_;unfold iP;rw[VU (by omega),ba m]);clear f e;(have I:¬b=4:=by omega);(have J:¬b=5:=by omega);go_wp2;exact⟨⟨c+1,iP b d x,by omega,by go_num,by rw[U s],(U k).1,(U k).2,(by show _=_;rw[U r]),by first|trivial|rfl⟩,by simp[intOf];omega⟩);·(have v:¬(c:Int)<(a.length:Int):=by omega);(obtain rfl:c=a.length:=by omega);rw[dy] at e;clear z p;go_wp2;go_ret;exact⟨by first | (rw[U e];rfl) | (subst m;rw[U e];rfl) | (subst h4;rw[U e];rfl) | (subst h5;rw[U e];rfl),rfl⟩
theorem Uq(d:Int)(m:d=4)(b:List Int)(F:b.length<=1048576)(f:∀x∈b,0<=x/\x<=4611686018427387904)(l:Option Addr)(w:Nat)(g:World)(q:bP g l b):Calls prog 178 #[.int .i64 d,.slice l b.length w] g λB D=>B=.returned (.int .i64 (zU d b))/\D=g:=by
 have s:=H q;have v:=H f;clear q f;go_enter func178,ntmps178;go_wp2_with fail;go_loopw[5,11] (λC j wr=>∃(c:Nat) (a:Int),c<=b.length/\j=.int .i64 (c:Int)/\C=.int .i64 a/\0<=a/\a<=2147483648/\Hid (a=(b.take c).foldl (iP d) 1)/\wr=g) (λ_ j _=>b.length-(intOf j).toNat);case atStart=>exact⟨0,1,bt,rfl,rfl,by decide,by decide,(by show _=_;rfl),rfl⟩
 case round=>obtain⟨c,a,z,rfl,rfl,o,p,e,i⟩:=hrel;replace i:=i.symm;subst i;by_cases r:c<b.length;(·(have y:(c:Int)<(b.length:Int):=by omega);obtain⟨x,f⟩:∃x,b[c]?=some x:=⟨_,VR r⟩;obtain⟨A,K⟩:=U v x (VQ f);obtain⟨L,M,rfl,E⟩:=(U s).get f;(have t:Hid ((b.take (c+1)).foldl (iP d) 1=iP d a x):=by show _=_;rw[d1 (iP d) 1 f,<-U e]);have k:=H (hw (op:=d) (n:=a) (x:=x) ⟨o,p⟩ A);(have u:Hid (iP d a x=min (a*min x 2147483648) 2147483648):=by show _=_;unfold iP;rw[ba (.inl m)]);clear f e;have I:0<=a*min x 2147483648:=Int.mul_nonneg o (by omega);have J:a*min x 2147483648<=2147483648*2147483648:=Int.mul_le_mul p (by omega) (by omega) (by decide);(have G:wrap64 (a*min x 2147483648)=a*min x 2147483648:=by unfold wrap64;omega);go_wp2;exact⟨⟨c+1,iP d a x,by omega,by go_num,by rw[U u],(U k).1,(U k).2,(by show _=_;rw[U t]),by first|trivial|rfl⟩,by simp[intOf];omega⟩);·(have y:¬(c:Int)<(b.length:Int):=by omega);(obtain rfl:c=b.length:=by omega);rw[dy] at e;clear z r;go_wp2;go_ret;exact⟨by first | (rw[U e];rfl) | (subst h8;rw[U e];rfl) | (subst m;rw[U e];rfl) | (subst h5;rw[U e];rfl),rfl⟩
theorem B1(c:Int)(m:c=5)(b:List Int)(F:b.length<=1048576)(f:∀x∈b,0<=x/\x<=4611686018427387904)(l:Option Addr)(w:Nat)(g:World)(q:bP g l b):Calls prog 178 #[.int .i64 c,.slice l b.length w] g λB D=>B=.returned (.int .i64 (zU c b))/\D=g:=by
 have s:=H q;have v:=H f;clear q f;go_enter func178,ntmps178;go_wp2_with fail;go_loopw[5,11] (λC j wr=>∃(d:Nat) (a:Int),d<=b.length/\j=.int .i64 (d:Int)/\C=.int .i64 a/\0<=a/\a<=2147483648/\Hid (a=(b.take d).foldl (iP c) 1)/\wr=g) (λ_ j _=>b.length-(intOf j).toNat);case atStart=>exact⟨0,1,bt,rfl,rfl,by decide,by decide,(by show _=_;rfl),rfl⟩
 case round=>obtain⟨d,a,z,rfl,rfl,o,p,e,i⟩:=hrel;replace i:=i.symm;subst i;by_cases r:d<b.length;(·(have y:(d:Int)<(b.length:Int):=by omega);obtain⟨x,f⟩:∃x,b[d]?=some x:=⟨_,VR r⟩;obtain⟨A,K⟩:=U v x (VQ f);obtain⟨M,N,rfl,E⟩:=(U s).get f;(have t:Hid ((b.take (d+1)).foldl (iP c) 1=iP c a x):=by show _=_;rw[d1 (iP c) 1 f,<-U e]);have k:=H (hw (op:=c) (n:=a) (x:=x) ⟨o,p⟩ A);(have u:Hid (iP c a x=min (a*min x 2147483648) 2147483648):=by show _=_;unfold iP;rw[ba (.inr m)]);clear f e;(have L:¬c=4:=by omega);have I:0<=a*min x 2147483648:=Int.mul_nonneg o (by omega);have J:a*min x 2147483648<=2147483648*2147483648:=Int.mul_le_mul p (by omega) (by omega) (by decide);(have G:wrap64 (a*min x 2147483648)=a*min x 2147483648:=by unfold wrap64;omega);go_wp2;exact⟨⟨d+1,iP c a x,by omega,by go_num,by rw[U u],(U k).1,(U k).2,(by show _=_;rw[U t]),by first|trivial|rfl⟩,by simp[intOf];omega⟩);·(have y:¬(d:Int)<(b.length:Int):=by omega);(obtain rfl:d=b.length:=by omega);rw[dy] at e;clear z r;go_wp2;go_ret;exact⟨by first | (rw[U e];rfl) | (subst h8;rw[U e];rfl) | (subst h4;rw[U e];rfl) | (subst m;rw[U e];rfl),rfl⟩
theorem vq(b:Int)(a:List Int)(g:a.length<=1048576)(i:∀x∈a,0<=x/\x<=4611686018427387904)(d:Option Addr)(e:Nat)(c:World)(f:bP c d a):Calls prog 178 #[.int .i64 b,.slice d a.length e] c λm n=>m=.returned (.int .i64 (zU b a))/\n=c:=by
 by_cases k:b=4;.exact Uq b k a g i d e c f
 .by_cases l:b=5;(.exact B1 b l a g i d e c f);.by_cases j:b=8;(.exact Dr b j a g i d e c f);.exact Ds b (by omega) j a g i d e c f
def p9(a:Int)(d:Ex):Option (Ex×Ex):=
 if d.op=12 then match d.args with
  | [b,c]=>if mg b a=1 then (if mg c a=0 then some (c,b) else none) else if mg b a=0/\mg c a=1 then some (b,c) else none
  | _=>none
 else none
def wD(b:Int)(a:Ex):List (Ex×Ex):=(cH a).filterMap (p9 b)
variable{I:Int}{E e:Ex}{x y z:List aH}{i j k l m n s t:Nat}{A B r:List (List aH)}{W X w:World}{L M:List Ex}{o:Bool}{P Q:Nat->Prop}{u v:Value}{a:Option Addr}{p:Pl}{g:Pm}{D:List Value}
theorem y5{x:Ex}(h:p9 I e=some (x,E)):e.op=12/\(e.args=[x,E]∨e.args=[E,x])/\mg x I=0/\mg E I=1:=by
 unfold p9 at h;split at h;.rename_i a;refine⟨a,?_⟩;split at h;(.rename_i d f c;rw[c];split at h;(.split at h;(.simp only[Option.some.injEq,Prod.mk.injEq] at h;obtain⟨rfl,rfl⟩:=h;exact⟨.inr rfl,by assumption,by assumption⟩);.cases h);.split at h;(.rename_i b;simp only[Option.some.injEq,Prod.mk.injEq] at h;obtain⟨rfl,rfl⟩:=h;exact⟨.inl rfl,b⟩);.cases h);.cases h
 .cases h
theorem uY(h:(kY e).length≠0):bJ e=true/\kY e=i7 (dj e):=by
 unfold kY at h ⊢;cases a:bJ e with
 | true=>exact⟨rfl,ba rfl⟩
 | false=>rw[a] at h;simp at h
theorem rb(h:mg e I=0):bJ e=true/\∀a∈dj e,a<I:=by
 unfold mg B9 at h;split at h;.cases h
 .rename_i j;obtain⟨k,l⟩:=uY j;refine⟨k,λa p=>?_⟩;obtain⟨g,f,_⟩:=lN (dj e);rw[<-l] at g f;split at h;(.rename_i b;obtain⟨i,m⟩:=List.mem_iff_getElem?.1 ((f a).2 p);obtain⟨o,c⟩:=bD m;(have d:(kY e).length-1<(kY e).length:=by omega);rw[cQ,VR d,Option.getD_some] at b;by_cases n:i=(kY e).length-1;(.subst n;rw[<-c];exact b);.have:=List.pairwise_iff_getElem.1 g i ((kY e).length-1) o d (by omega);rw[c] at this;omega);.split at h<;>simp at h
theorem um(h:mg e I=1):bJ e=true/\∀a∈dj e,I<=a:=by
 unfold mg B9 at h;split at h;.cases h
 .rename_i j;obtain⟨k,l⟩:=uY j;refine⟨k,λa p=>?_⟩;obtain⟨g,f,_⟩:=lN (dj e);rw[<-l] at g f;split at h;(.simp at h);.split at h;(.rename_i c;obtain⟨i,m⟩:=List.mem_iff_getElem?.1 ((f a).2 p);obtain⟨o,d⟩:=bD m;(have b:0<(kY e).length:=by omega);rw[cQ,VR b,Option.getD_some] at c;by_cases n:i=0;(.subst n;rw[<-d];exact c);.have:=List.pairwise_iff_getElem.1 g 0 i b o (by omega);rw[d] at this;omega);.simp at h
def eq0(b:Int)(a:Ex):List Ex:=(wD b a).map (·.1)
def eq1(b:Int)(a:Ex):List Ex:=(wD b a).map (·.2)
theorem lX{a:Ex×Ex}(h:a∈wD I e):∃b∈cH e,b.op=12/\(b.args=[a.1,a.2]∨b.args=[a.2,a.1])/\mg a.1 I=0/\mg a.2 I=1:=by obtain⟨b,d,c⟩:=List.mem_filterMap.1 h;exact⟨b,d,y5 c⟩
theorem rW(c:x.length=y.length)(h:bJ e=true->∀b∈dj e,x[b.toNat]?=y[b.toNat]?):bZ x e=bZ y e:=by
 unfold bZ;split;.rename_i a;exact tR x y c e (da a) (h a)
 .rfl
theorem yM(C:0<n)(D:k<2)(g:x.length=n+m)(i:y.length=n+m)(d:z.length=eQ n m k):gu (ip (eq0 n e) (eq1 n e) k) (dB x (gG n k) z)=gu (ip (eq0 n e) (eq1 n e) k) (dB y (gG n k) z):=by
 have A:gG n k+z.length<=n+m:=by rw[d];unfold gG eQ;split<;>omega
 have s:(dB x (gG n k) z).length=(dB y (gG n k) z).length:=by rw[jV (by omega),jV (by omega),g,i]
 have t:(ip (eq0 n e) (eq1 n e) k).map (bZ (dB x (gG n k) z))=(ip (eq0 n e) (eq1 n e) k).map (bZ (dB y (gG n k) z)):=by refine List.map_congr_left λE a=>rW s λw b l=>?_;unfold ip at a;unfold gG eQ at *;by_cases f:k=0;(.simp only[f,if_true] at a d ⊢;obtain⟨v,c,rfl⟩:=b6 a;obtain⟨u,_,_,_,o,_⟩:=lX c;have:=(rb o).2 b l;unfold dB;simp only[List.take_zero,dK];(have j:b.toNat<z.length:=by omega);rw[eK j,eK j]);.simp only[f,if_false] at a d ⊢;obtain⟨v,c,rfl⟩:=b6 a;obtain⟨u,_,_,_,_,p⟩:=lX c;have:=(um p).2 b l;(have B:n<=b.toNat:=by omega);unfold dB;have q:x.drop (n+z.length)=[]:=gl (by omega);have r:y.drop (n+z.length)=[]:=gl (by omega);rw[q,r,VI,ez (by rw[List.length_take];omega),ez (by rw[List.length_take];omega),List.length_take,List.length_take,g,i]
 unfold gu;rw[t]
theorem CU:cr 134:=λargs a=>by kernel_rfl
theorem CT:cr 135:=λargs a=>by kernel_rfl
theorem AE{N:Nat}(h:(r++[x]) <+: A)(a:A.length<=N):r.length+1<=N:=by have:=h.length_le;simp at this;omega
theorem Am{c:List aH->Option (List aH)}(C:t<2)(y:0<eQ l s t)(z:l+s<=128)(g:(ip L M t).length<=1000000)(f:∀x∈ip L M t,x.fin)(q:∀b a,b.length=l+s->a.length=eQ l s t->gu (ip L M t) (dB b (gG l t) a)=c a)(u:r.length<=2147483648) :
  Tk w r (eQ l s t) (.func (.func 134) #[.pointer (some ⟨n,0,none⟩)] #[]) (zZ w n m k j i l s e L M o t P c):=
 ⟨⟨_,_,_,rfl⟩,λE K F G I a D J A B p v d=>⟨_,_,fm CU _ _ _,yQ D C y z g f q (AE A u) B p v d⟩,j2⟩
structure zX(w0:World)(b3 b4 px mx pb lb mb n1 n2:Nat)(e:Ex)(E0 E1:List Ex)(al:Bool)(s:Nat)(Q:Nat->Prop)(kf:List aH->Option (List aH))(kb:ia)(nm:Nat)(f:Value)(O:Nat->Prop)(ys:List (List aH))(W:World):Prop where
 c3:W.cell? ⟨b3,0,none⟩=some (.pointer (some ⟨px,0,none⟩))
 c4:W.cell? ⟨b4,0,none⟩=some f
 g:∃O' P L,Vm w0 px mx pb lb mb n1 n2 e E0 E1 al s Q O' kb (kb.map (·.1)) (e9 (List.replicate kb.length false) (ys.flatMap λp=>fa s e kb (kf p) p)) nm P L W/\(∀k,O k ↔ O' k∨k=b3∨k=b4)/\¬O' b3/\¬O' b4
 lim:∀k,O k->w0.heap.size<=k/\k<W.heap.size
theorem AD{C:Nat}{E:Nat}{B:List aH->Option (List aH)}{A:ia}{D:Nat}:qA w (zX w n m k j i l s t C e L M o E P B A D v):=
 ⟨λ{p G F u I} h b f=>by
  obtain⟨q,r,g,z,c,x,y⟩:=h.g
  exact⟨b.cell h.c3 (f n ((c n).2 (.inr (.inl rfl)))),b.cell h.c4 (f m ((c m).2 (.inr (.inr rfl)))),⟨q,r,g,z.ky b λa d=>f a ((c a).2 (.inl d)),c,x,y⟩,λa d=>⟨(h.lim a d).1,cN (h.lim a d).2 b.size⟩⟩,λ{p F u} h=>h.lim⟩
def fw(g f:Nat)(b:Bool)(c:Ex)(e:List aH->Option (List aH))(d:ia)(i:List (List aH)):List (List aH):=i.flatMap λa=>gj g f b c d (e a) a
theorem kF(g e:Nat)(a:Bool)(b:Ex)(d:List aH->Option (List aH))(c:ia)(i:List (List aH))(f:List aH):fw g e a b d c (i++[f])=fw g e a b d c i++gj g e a b c (d f) f:=by simp[fw]
theorem vE{I:(Nat->Prop)->List (List aH)->World->Prop}{d:Nat}(VZ:Tk w r (t+d) v I){g p:Nat}{q:List aH->Option (List aH)}{G:Nat->Prop}{f:ia}{O:Nat}{Y:Nat} (Wn:i6 I (zX w n m k j i l s t d e L M o g P q f O v) A (fw g d (o && decide (p=0)) e q f) G B W) (V7:Bw w W) (Wu:g<2) (Wv:p=1-g) (Wr:0<t) (Wt:0<d) (Ws:t+d<=128) (Wm:(ip L M p).length<=1000000) (Wl:∀x∈ip L M p,x.fin) (Wb:∀V V2,V.length=t+d->V2.length=eQ t d p->gu (ip L M p) (dB V (gG t p) V2)=q V2) (Wq:f.length<=2147483648) (Wc:∀b∈f,dH (eQ t d g) b.1) (VY:(A++fw g d (o && decide (p=0)) e q f (B++[y])) <+: r) (Wf:dH (eQ t d p) y) (V8:bX W a y) (V0:∀D Q,a=some ⟨D,Q,none⟩->y≠[]->¬G D) (V6:sE a):Calls prog 135 #[.slice a y.length Y,.pointer (some ⟨n,0,none⟩),.pointer (some ⟨m,0,none⟩)] W (gm (i6 I (zX w n m k j i l s t d e L M o g P q f O v) A (fw g d (o && decide (p=0)) e q f)) G (B++[y]) W):=by
 obtain⟨R,T,Wg,z,K,E⟩:=Wn;obtain⟨J,V,Wy,Wd,u,VW,VX⟩:=z.g;rw[kF] at VY;have Wh:=H (x7 VZ Wd (by rw[jG];simp) Wg (λc b C=>K c b ((u c).2 (.inl C))) V7 Wu Wv Wr Wt Ws Wm Wl Wb Wq Wc (by simpa [cI] using VY) Wf V8 (c:=Y) (λD Q V4 V5=>⟨λb=>V0 D Q V4 V5 ((E D).2 (.inl b)),λb=>V0 D Q V4 V5 ((E D).2 (.inr ((u D).2 (.inl b))))⟩) V6);have Wi:Hid (∀Z F,BH I R (A++fw g d (o && decide (p=0)) e q f B++gj g d (o && decide (p=0)) e f (q y) y) J W (λX S F=>Vm w k j i l s t d e L M o g P J f (f.map (·.1)) (e9 (e9 (List.replicate f.length false) (B.flatMap λy=>fa g e f (q y) y)) (fa g e f (q y) y)) O X S F) Z F->gm (i6 I (zX w n m k j i l s t d e L M o g P q f O v) A (fw g d (o && decide (p=0)) e q f)) G (B++[y]) W (.returned (.tuple #[])) F):=λZ F h=>by obtain⟨_,V3,X,S,Ww,Wx,V1,N,Wk⟩:=h;have V9:¬(R n∨J n):=λb=>b.elim (λb=>K n b ((u n).2 (.inr (.inl rfl)))) VW;have Wa:¬(R m∨J m):=λb=>b.elim (λb=>K m b ((u m).2 (.inr (.inr rfl)))) VX;have Wp:∀c,T c->w.heap.size<=c/\c<F.heap.size:=λc b=>⟨(z.lim c b).1,cN (z.lim c b).2 N.size⟩;refine⟨rfl,λc=>V3 c∨T c,⟨V3,T,?_,⟨N.cell z.c3 V9,N.cell z.c4 Wa,⟨J,X,S,?_,u,VW,VX⟩,Wp⟩,λc b C=>?_,λc=>Iff.rfl⟩,λc b=>?_,N.mono λc b=>(E c).2 (b.imp id λb=>(u c).2 (.inl b))⟩;(.rw[kF,<-cI];exact Ww);(.rw[List.flatMap_append,q7];simpa using Wx);(.rcases(u c).1 C with C|C|C;(.exact Wk c b C);(.subst C;rcases V1 c b with b|b;(.exact V9 (.inl b));.have:=(z.lim c ((u c).2 (.inr (.inl rfl)))).2;omega);.subst C;rcases V1 c b with b|b;(.exact Wa (.inl b));.have:=(z.lim c ((u c).2 (.inr (.inr rfl)))).2;omega);.rcases b with b|b;(.exact(V1 c b).imp (λb=>(E c).2 (.inl b)) id);.exact .inl ((E c).2 (.inr b))
 obtain⟨WB,WC,WA,rfl⟩:=VZ.fn;have c3:=z.c3;have Wz:=z.c4;clear Wd Wg z K E u VW VX VZ VY Wf V8 V0 V7 Wb Wc V6;go_enter func135,ntmps135;go_wp2_with (go_at_call 136;refine(U Wh).mono ?_;rintro Z WD We;have Wj:=H (U Wi _ _ We);obtain⟨rfl,_⟩:=We);go_end0;exact U Wj
theorem x9{b:List aH->Option (List aH)}{a:ia}(h:r <+: A):fw n m o e b a r <+: fw n m o e b a A:=by obtain⟨c,rfl⟩:=h;unfold fw;rw[List.flatMap_append];exact List.prefix_append _ _
theorem Al{p:(Nat->Prop)->List (List aH)->World->Prop}{a:Nat}(u:Tk w r (t+a) v p){c b:Nat}{f:List aH->Option (List aH)}{d:ia}{W:Nat}
  (T:c<2) (V:b=1-c) (K:0<t) (O:0<a) (N:t+a<=128) (D:(ip L M b).length<=1000000) (C:∀x∈ip L M b,x.fin) (G:∀q g,q.length=t+a->g.length=eQ t a b->gu (ip L M b) (dB q (gG t b) g)=f g) (I:d.length<=2147483648) (Q:∀X∈d,dH (eQ t a c) X.1) (E:(B++fw c a (o && decide (b=0)) e f d A) <+: r) :
  Tk w A (eQ t a b) (.func (.func 135) #[] #[.pointer (some ⟨n,0,none⟩),.pointer (some ⟨m,0,none⟩)]) (i6 p (zX w n m k j i l s t a e L M o c P f d W v) B (fw c a (o && decide (b=0)) e f d)):=
 ⟨⟨_,_,_,rfl⟩,λZ VZ VW VX VY g Y z R S F J y=>⟨_,_,fm CT _ _ _,vE u Y z T V K O N D C G I Q (((List.prefix_append_right_inj B).2 (x9 R)).trans E) S F J y⟩,kh u.stb AD _ _⟩
theorem vC{w0:World}(c:Bool)(d:Nat)(f:ko n m k i l e L M P x y w)(p:qw w j 0 λ_=>none)(g:∀a,P a->w0.heap.size<=a/\a<w.heap.size/\a≠j)(B:w0.heap.size<=m/\w0.heap.size<=k/\w0.heap.size<=j)(A:w0.heap.size<=w.heap.size):Vm w0 w.heap.size n m k j i l e L M c d P (λa=>P a∨a=m∨a=k∨a=j∨a=w.heap.size) [] [] [] 0 x y (w.alloc (.cells #[.pointer (some ⟨n,0,none⟩),.int .i64 (d:Int),.bool c,.slice none 0 0,.slice none 0 0,.map (some j)] 197)):=by
 have q:Ky (λ_=>False) w (w.alloc (.cells #[.pointer (some ⟨n,0,none⟩),.int .i64 (d:Int),.bool c,.slice none 0 0,.slice none 0 0,.map (some j)] 197)):=Ky.ab (am VS _);have u:=f.p.lt;have v:=f.l.lt;have z:=p.lt;have t:(w.alloc (.cells #[.pointer (some ⟨n,0,none⟩),.int .i64 (d:Int),.bool c,.slice none 0 0,.slice none 0 0,.map (some j)] 197)).heap.size=w.heap.size+1:=by simp
 refine⟨by simp[go_sem],by simp[go_sem],by simp[go_sem],⟨.slice none 0 0,λ_=>False,by simp[go_sem],?_,λa b=>b.elim⟩,⟨.slice none 0 0,by simp[go_sem],?_,(λo e=>(by cases e))⟩,by simp[go_sem],⟨λ_=>none,p.ky q (λb=>b),⟨λa _=>?_,(λs r e=>(by cases e)),(λs r o e=>(by cases e)),(λs E r D o e=>(by cases e))⟩⟩,f.ky q (λ_ _ b=>b) (λb=>b) (λb=>b),λC=>?_,?_,λa b=>⟨.inl b,by have:=(g a b).2.1;omega,(g a b).2.2⟩,⟨by simp,by simp,by simp,by simp⟩,λa b=>?_⟩;.exact fQ.nil _ _
 .exact World.ownsRow_nil _ _ _ _
 .exact World.ownsRow_nil _ _ _ _
 .simp[go_sem]
 .exact⟨_,_,Go.Deep.blk_alloc_new _ _⟩
 .rw[t];rcases b with b|rfl|rfl|rfl|rfl;(.have:=g a b;omega);(.omega);(.omega);(.omega);.omega
def Ew(b e:Nat)(c:Ex)(a:World)(l:Ending)(f:World):Prop:=∃j k i g,l=.returned (.pointer (some ⟨j,0,none⟩))/\ko j k i b e c (eq0 b c) (eq1 b c) g (List.replicate (b+e) aH.null) (List.replicate (b+e) aH.null) f/\(∀d,g d->a.heap.size<=d/\d<f.heap.size)/\a.heap.size<=k/\a.heap.size<=i/\Bw a f
def Ev(s:World)(c p:Nat)(b:Ex)(j:Bool)(r:Nat)(l:List aH->Option (List aH))(a:World)(k:Ending)(g:World):Prop:=∃f o q m n i d,k=.returned (.pointer (some ⟨f,0,none⟩))/\zZ s f o q m n c p b (eq0 c b) (eq1 c b) j r i l d [] g/\(∀e,d e->a.heap.size<=e)/\Bw a g
theorem ro(c:Bool)(f:Nat)(r:List aH->Option (List aH))(o:Bw w W)(g:Bw W X)(q:ko n m k i l e (eq0 i e) (eq1 i e) P (List.replicate (i+l) aH.null) (List.replicate (i+l) aH.null) X)(p:qw X j 0 λ_=>none)(d:∀a,P a->W.heap.size<=a/\a<X.heap.size/\a≠j)(u:W.heap.size<=m)(s:W.heap.size<=k)(t:W.heap.size<=j):Ev w i l e c f r W (.returned (.pointer (some ⟨X.heap.size,0,none⟩))) (X.alloc (.cells #[.pointer (some ⟨n,0,none⟩),.int .i64 (f:Int),.bool c,.slice none 0 0,.slice none 0 0,.map (some j)] 197)):=by
 have v:=o.size;have x:=g.size;have h:=vC (w0:=w) c f q p (λa b=>⟨by have:=(d a b).1;omega,(d a b).2⟩) ⟨by omega,by omega,by omega⟩ (by omega);refine⟨_,n,m,k,j,P,_,rfl,⟨_,_,by simpa [kp] using h⟩,λa b=>?_,am g _⟩;rcases b with b|rfl|rfl|rfl|rfl;.exact(d a b).1
 all_goals omega
theorem rt(G:List aH->Option (List aH))(VX:∀B,Bw W B->Calls prog 179 #[p.val g,.int .i64 (n:Int),.int .i64 (m:Int)] B (Ew n m e B))(Z:Bw w W):Calls prog 133 #[p.val g,.int .i64 (n:Int),.int .i64 (m:Int),.int .i64 (k:Int)] W (Ev w n m e (p.op == 5) k G W):=by
 obtain⟨t,y⟩:=bj (W.alloc (p.box g));have VZ:Bw W t:=by rw[<-y];exact am VS _
 have VW:dL t W.heap.size 0 p g:=by rw[<-y];refine⟨?_,?_,?_,?_,?_,?_,?_,?_,?_,?_,?_⟩<;>simp[go_sem]
 have A:=H VX;have X:=H Z;have V3:=H y;have j:Hid (Bw W t.drew):=VZ.drew;have d:Hid (dL t.drew W.heap.size 0 p g):=VW.aa VS.drew;have Wa:=@run_makeMap prog;rw[Pl.ad] at A ⊢;clear VW VZ y Z VX;go_enter func133,ntmps133;go_upto_region 1 with fail;rw[U V3];obtain⟨u,V0⟩:=bn W.heap.size;rw[<-V0] at d ⊢;clear V0;refine bH (λV5:World=>dL V5 u 0 p g) 9 ?_;obtain⟨l,VY⟩:=bn t.drew;rw[<-VY] at j d ⊢;clear VY;refine ap 0 (.agg #[.int .i64 p.op,.string p.au,.slice g.aE p.ex.length g.cE,.slice g.aC p.cols.length g.cC,.slice g.aK p.keys.length g.cK,.slice g.aA p.aggs.length g.cA,.int .i64 p.fn,.int .i64 p.aj,.int .i64 p.n,.int .i64 p.off,.slice g.aP p.args.length g.cP]) rfl (U d) ?_ λV9 C=>by obtain⟨I,J,L,M,N,O,P,Q,R,S,K⟩:=C;simp only[bI] at I J L M N O P Q R S K;go_simp
 refine ap 1 (.int .i64 (n:Int)) rfl (U d) ?_;refine ap 2 (.int .i64 (m:Int)) rfl (U d) ?_;refine ap 4 (.int .i64 (k:Int)) rfl (U d) ?_;refine ap 5 (.pointer (some ⟨u,0,none⟩)) rfl (U d) ?_;refine ap 6 (.int .i64 p.op) rfl (U d) ?_ λV9 C=>by obtain⟨I,J,L,M,N,O,P,Q,R,S,K⟩:=C;simp only[bI] at I J L M N O P Q R S K;go_simp
 refine ap 7 (.bool (p.op == 5)) rfl (U d) ?_;refine ed [3,8] (by kernel_rfl) (by simp) ?_;intro Wb V1;simp only[List.mem_cons,List.not_mem_nil,or_false] at V1;rcases V1 with rfl|rfl;.refine b8 rfl (by rfl) λb a=>?_;go_simp;refine(U A l (U j)).mono ?_;rintro _ r ⟨V7,V8,V6,V4,rfl,v,i,E,D,f⟩;go_simp;have s:Hid (dL r u 0 p g):=(U d).aa f;have o:=am (VT _ r) (.map #[] 0);have V:=(U j).size;have T:=f.size;have x:=H (ro (p.op == 5) k G (U X) (ac (ac (U j) f) o) (v.ky (Ky.ab o (F:=λ_=>False)) (λ_ _ c=>c) (λc=>c) (λc=>c)) (qw.made r) (λq c=>⟨by have:=(i q c).1;omega,by have:=(i q c).2;simp;omega,by have:=(i q c).2;omega⟩) (by omega) (by omega) (by omega));(have z:(r.alloc (.map #[] 0)).heap.size=r.heap.size+1:=by simp);rw[z] at x;clear v i E D f o V T z;refine VP a (U s) ?_;clear a b;refine bh 8 rfl λb a=>?_;go_simp;refine VP a ((U s).aa (am VS _)) ?_;clear a b;refine bh 9 rfl λb a=>?_;go_simp;refine bE a ?_;clear a b;refine bh 10 rfl λb a=>?_;go_simp;refine bE a ?_;clear a b;refine bh 11 rfl λb a=>?_;go_simp;refine bE a ?_;clear a b;refine cf ?_;go_wp2;go_ret;exact U x
 .refine b8 rfl (by rfl) λb a=>?_;go_simp;have o:=am (VT _ l) (.map #[] 0);have s:Hid (dL (l.alloc (.map #[] 0)) u 0 p g):=(U d).aa o;have Y:=H o;clear o;refine VP a (U s) ?_;clear a b;refine bh 3 rfl λb a=>?_;go_simp;refine(U A (l.alloc (.map #[] 0)) (ac (U j) (U Y))).mono ?_;rintro _ r ⟨V7,V8,V6,V4,rfl,v,i,E,D,f⟩;go_simp;have V2:Hid (dL r u 0 p g):=(U s).aa f;have V:=(U j).size;(have z:(l.alloc (.map #[] 0)).heap.size=l.heap.size+1:=by simp);have T:=f.size;have x:=H (ro (p.op == 5) k G (U X) (ac (ac (U j) (U Y)) f) v ((qw.made l).ky (Ky.ab f (F:=λ_=>False)) (λc=>c)) (λq c=>⟨by have:=(i q c).1;omega,(i q c).2,by have:=(i q c).1;omega⟩) (by omega) (by omega) (by omega));clear v i E D f V z T;refine VP a (U V2) ?_;clear a b;refine bh 9 rfl λb a=>?_;go_simp;refine bE a ?_;clear a b;refine bh 10 rfl λb a=>?_;go_simp;refine bE a ?_;clear a b;refine bh 11 rfl λb a=>?_;go_simp;refine bE a ?_;clear a b;refine cf ?_;go_wp2;go_ret;exact U x
structure k7(base bl mx pb lb n1 n2:Nat)(e:Ex)(L0 L1:List (Ex×Value))(Qf:Nat->Prop)(W:World):Prop where
 c0:W.cell? ⟨mx,0,none⟩=some (.slice (some ⟨pb,0,none⟩) (n1+n2) (n1+n2))
 c1:∃k,W.cell? ⟨mx,1,none⟩=some (.slice (some ⟨pb,0,none⟩) n1 k)
 c2:∃k,W.cell? ⟨mx,2,none⟩=some (.slice (some ⟨pb,n1*3,none⟩) n2 k)
 c3:W.cell? ⟨mx,3,none⟩=some (.slice (some ⟨lb,0,none⟩) (n1+n2) (n1+n2))
 c4:∃vF,W.cell? ⟨mx,4,none⟩=some vF/\dz Qf W vF e
 c5:∃v5 v6,W.cell? ⟨mx,5,none⟩=some v5/\W.cell? ⟨mx,6,none⟩=some v6/\W.ownsRow 0 78 1 v5 L0.length (L0.map (·.2))/\W.ownsRow 0 78 1 v6 L1.length (L1.map (·.2))/\(∀g,v5.ownBlock=some g->bl<=g/\¬Qf g/\¬v6.ownBlock=some g)/\∀g,v6.ownBlock=some g->bl<=g/\¬Qf g
 w0:∀q∈L0,dz Qf W q.2 q.1
 w1:∀q∈L1,dz Qf W q.2 q.1
 p:e8 W pb (List.replicate (n1+n2) aH.null)
 l:e8 W lb (List.replicate (n1+n2) aH.null)
 f:∀j,W.frozen? ⟨mx,j,none⟩=false
 t:Tg 219 W mx
 q:∀k,Qf k->base<=k/\k≠mx/\k≠pb/\k≠lb
 b:base<=mx/\base<=pb/\base<=lb/\pb≠lb/\base<=bl
theorem k7.aa{base:Nat}{r s:List (Ex×Value)}(h:k7 base n m k j i l e r s P w)(E:Bw w W)(f:∀d,P d->Q d)(u:∀d,Q d->P d∨w.heap.size<=d)(O:base<=w.heap.size):k7 base n m k j i l e r s Q W:=by
 have c:Ky (λ_=>False) w W:=Ky.ab E;obtain⟨I,z⟩:=h.c1;obtain⟨J,A⟩:=h.c2;obtain⟨o,B,N⟩:=h.c4;obtain⟨L,M,C,D,v,x,p,t⟩:=h.c5;have q:∀{o:Value} {y:Ex},dz P w o y->dz Q W o y:=λF=>(F.ky c λ_ _ a=>a).mono λd a _=>f d a;have g:∀b,b<w.heap.size->¬P b->¬Q b:=λb R g a=>by rcases u b a with a|a;(.exact g a);.omega
 have K:=h.t.lt;have S:=h.p.lt;have T:=h.l.lt;refine⟨c.cell h.c0 id,⟨I,c.cell z id⟩,⟨J,c.cell A id⟩,c.cell h.c3 id,⟨o,c.cell B id,q N⟩,⟨L,M,c.cell C id,c.cell D id,bM v c λ_ _=>id,bM x c λ_ _=>id,λb e=>⟨(p b e).1,g b (br v e).lt (p b e).2.1,(p b e).2.2⟩,λb e=>⟨(t b e).1,g b (br x e).lt (t b e).2⟩⟩,λa f=>q (h.w0 a f),λa f=>q (h.w1 a f),h.p.ky c id,h.l.ky c id,λG=>VN c K id (h.f G),h.t.ky c id,λd a=>?_,h.b⟩;rcases u d a with a|a;.exact h.q d a
 .exact⟨by omega,by omega,by omega,by omega⟩
theorem uP{Q:Nat->Prop}{b:List (Ex×Value)}(j:w.ownsRow 0 78 1 v b.length (b.map (·.2)))(p:∀f∈b,dz P w f.2 f.1)(n:∀c,v.ownBlock=some c->Q c)(o:∀e,P e->e<w.heap.size->Q e):∃i e,v=.slice i (b.map (·.1)).length e/\lB Q w i (b.map (·.1)):=by
 rw[bQ];rcases j.2 with ⟨rfl,m⟩|⟨c,k,q,rfl,_⟩
 .have:b=[]:=dF m;subst this;exact⟨none,0,rfl,λg l a=>by simp at a⟩
 .refine⟨some ⟨c,0,none⟩,k,rfl,λg l a=>?_⟩
  rw[bL] at a
  cases d:b[g]? with
  | none=>rw[d] at a;cases a
  | some f=>
   rw[d] at a
   simp at a
   subst a
   have r:=(bD d).1
   refine⟨c,0,f.2,rfl,n c rfl,?_,(p f (VQ d)).mono o⟩
   rw[bI,World.ownsRow.cellAt j g (by omega),bL,d]
   rfl
theorem k7.mch{base:Nat}{r s:List (Ex×Value)}(h:k7 base n m k j i l e r s P w):∃c,ko m k j i l e (r.map (·.1)) (s.map (·.1)) c (List.replicate (i+l) aH.null) (List.replicate (i+l) aH.null) w/\∀b,c b->base<=b/\b<w.heap.size:=by
 obtain⟨Q,B,R⟩:=h.c4;obtain⟨v,x,C,D,p,q,E,F⟩:=h.c5;have O:=h.t.lt;obtain⟨c,f⟩:∃c:Nat->Prop,∀b,c b ↔ (P b/\b<w.heap.size)∨b=m∨v.ownBlock=some b∨x.ownBlock=some b:=⟨_,λb=>Iff.rfl⟩;obtain⟨z,M,G,J⟩:=uP (Q:=c) p h.w0 (λd e=>(f d).2 (.inr (.inr (.inl e)))) λb a g=>(f b).2 (.inl ⟨a,g⟩);obtain⟨A,N,I,K⟩:=uP (Q:=c) q h.w1 (λd e=>(f d).2 (.inr (.inr (.inr e)))) λb a g=>(f b).2 (.inl ⟨a,g⟩);have t:∀{d:Nat},Tg 43 w d->P d∨d=m∨v.ownBlock=some d∨x.ownBlock=some d->P d:=λo a=>by rcases a with a|a|a|a;(.exact a);(.exact absurd a (o.ne h.t (by decide)));(.exact absurd rfl (o.ne (br p a) (by decide)));.exact absurd rfl (o.ne (br q a) (by decide))
 have u:∀y∈List.replicate (i+l) aH.null,eO y:=λy L=>by rw[(List.mem_replicate.1 L).2];exact⟨d4.1,bt,by simp[bk,aH.null]⟩
 refine⟨c,⟨h.c0,h.c1,h.c2,h.c3,⟨Q,B,R.mono λb a g=>(f b).2 (.inl ⟨a,g⟩)⟩,⟨z,M,by rw[C,G],J⟩,⟨A,N,by rw[D,I],K⟩,h.p,by simp,u,h.l,by simp,u,by simp,⟨(f m).2 (.inr (.inl rfl)),λa=>?_,λa=>?_,h.b.2.2.2.1⟩⟩,λb a=>?_⟩;.exact(h.q k (t (br h.p rfl) (((f k).1 a).imp And.left id))).2.2.1 rfl
 .exact(h.q j (t (br h.l rfl) (((f j).1 a).imp And.left id))).2.2.2 rfl
 .rcases(f b).1 a with a|a|a|a;(.exact⟨(h.q b a.1).1,a.2⟩);(.subst a;exact⟨h.b.1,O⟩);(.exact⟨cw h.b.2.2.2.2 (E b a).1,(br p a).lt⟩);.exact⟨cw h.b.2.2.2.2 (F b a).1,(br q a).lt⟩
theorem k7.push0{base:Nat}{x:Ex}{s K:List (Ex×Value)}{tb:Nat}(h:k7 base n m k j i l e s K Q w)(E:dz Q w v x)(V1:v.oneCell'=true)(VZ:w.cell? ⟨tb,0,none⟩=some v)(Wl:s.length<=1000000)(Wk:n<=w.heap.size)(V6:∀c,Q c->c<w.heap.size)(X:TypeId):∃I f d,w.cell? ⟨m,5,none⟩=some I/\(Builtin.append_ #[162,162] X #[I,.slice (some ⟨tb,0,none⟩) 1 1]).run prog w=.ok f d/\d.cell? ⟨m,5,none⟩=some I/\d.frozen? ⟨m,5,none⟩=false/\k7 base n m k j i l e (s++[(x,v)]) K Q (d.setCell ⟨m,5,none⟩ f)/\∃J:Nat->Prop,Ky J w d/\∀c,J c->n<=c/\Tg 78 w c:=by
 obtain⟨Wa,Z⟩:=h.c1;obtain⟨Wb,VW⟩:=h.c2;obtain⟨We,VX,Wf⟩:=h.c4;obtain⟨q,Wd,L,VY,B,F,u,V0⟩:=h.c5;obtain⟨V9,V3,Wh,Wi,Wj⟩:=info_parts tA
 obtain⟨f,d,V7,Wc,G,_,z⟩:=run_append_own_at (P:=prog) w 0 162 X 78 V9 .nilFunc 1 8 underlying162 V3 Wh Wi Wj rfl (by decide) q _ _ B ⟨tb,0,none⟩ 1 1 [v] rfl (λg Wg o=>by
  match g,o with
  | 0,o=>simp at o;subst o;simpa [Addr.add] using VZ
  | g+1,o=>simp at o) (λWg T=>by simp at T;subst T;exact V1) (by unfold maxLen;omega) (by omega) bt
 have r:Ky (λg=>q.ownBlock=some g) w d:=Ky.ao G λb e=>e;have V:Ky (λc=>c=m) d (d.setCell ⟨m,5,none⟩ f):=cS _ _ _ _ rfl;have A:Ky (λc=>q.ownBlock=some c∨c=m) w (d.setCell ⟨m,5,none⟩ f):=(r.mono λc a=>.inl a).trans (V.mono λc a=>.inr a) (Nw.refl _ _);have y:¬q.ownBlock=some m:=λe=>h.t.ne (br B e) (by decide) rfl;have V5:∀c,Q c->¬(q.ownBlock=some c∨c=m):=λc a x=>by rcases x with x|x;(.exact(u c x).2.1 a);.exact(h.q c a).2.1 x
 have O:∀{b:Nat},Tg 43 w b->¬(q.ownBlock=some b∨b=m):=λS a=>by rcases a with a|a;(.exact S.ne (br B a) (by decide) rfl);.exact S.ne h.t (by decide) a
 have D:∀b,f.ownBlock=some b->q.ownBlock=some b∨w.heap.size<=b:=λb e=>by rcases z with z|z;(.rw[z] at e;exact .inl e);.rw[z] at e;injection e with e;exact .inr (by omega)
 have W:=h.t.lt;have C:∀{v:Value} {x:Ex},dz Q w v x->dz Q (d.setCell ⟨m,5,none⟩ f) v x:=λE=>E.ky A V5;have t:∀{g:Nat} {Y:Value},g≠5->w.cell? ⟨m,g,none⟩=some Y->(d.setCell ⟨m,5,none⟩ f).cell? ⟨m,g,none⟩=some Y:=λo V2=>(bo _ _ _ _ _ _ (by simp[o])).trans (r.cell V2 y);have M:=r.cell L y;have V4:(d.setCell ⟨m,5,none⟩ f).ownsRow 0 78 1 f (s++[(x,v)]).length ((s++[(x,v)]).map (·.2)):=by(have:=bM Wc V λb e x=>by subst x;rcases D b e with a|a;(.exact y a);.omega);simpa using this
 have V8:∀a∈s++[(x,v)],dz Q (d.setCell ⟨m,5,none⟩ f) a.2 a.1:=λa p=>by rcases cM p with p|p;(.exact C (h.w0 a p));.simp at p;subst p;exact C E
 have R:∀b,f.ownBlock=some b->n<=b/\¬Q b:=λb e=>by rcases D b e with a|a;(.exact⟨(u b a).1,(u b a).2.1⟩);.exact⟨by omega,λG=>by have:=V6 b G;omega⟩
 refine⟨q,f,d,L,V7,M,VN r W y (h.f 5),⟨t (by omega) h.c0,⟨Wa,t (by omega) Z⟩,⟨Wb,t (by omega) VW⟩,t (by omega) h.c3,⟨We,t (by omega) VX,C Wf⟩,?_,V8,λa p=>C (h.w1 a p),h.p.ky A (O (br h.p rfl)),h.l.ky A (O (br h.l rfl)),λg=>by rw[bN];exact VN r W y (h.f g),(h.t.ky r y).set _ _ _,h.q,h.b⟩,_,r,λc a=>?_⟩;.refine⟨f,Wd,b5 M,t (by omega) VY,V4,bM F A λb e a=>?_,λb e=>⟨(R b e).1,(R b e).2,λN=>?_⟩,V0⟩;(.rcases a with a|a;(.exact(u b a).2.2 e);.exact(br F e).ne h.t (by decide) a);.rcases D b e with a|a;(.exact(u b a).2.2 N);.have:=(br F N).lt;omega
 .exact⟨(u c a).1,br B a⟩
theorem k7.push1{base:Nat}{x:Ex}{L s:List (Ex×Value)}{tb:Nat}(h:k7 base n m k j i l e L s Q w)(F:dz Q w v x)(V0:v.oneCell'=true)(VY:w.cell? ⟨tb,0,none⟩=some v)(Wl:s.length<=1000000)(Wk:n<=w.heap.size)(V6:∀c,Q c->c<w.heap.size)(W:TypeId):∃J f d,w.cell? ⟨m,6,none⟩=some J/\(Builtin.append_ #[162,162] W #[J,.slice (some ⟨tb,0,none⟩) 1 1]).run prog w=.ok f d/\d.cell? ⟨m,6,none⟩=some J/\d.frozen? ⟨m,6,none⟩=false/\k7 base n m k j i l e L (s++[(x,v)]) Q (d.setCell ⟨m,6,none⟩ f)/\∃K:Nat->Prop,Ky K w d/\∀c,K c->n<=c/\Tg 78 w c:=by
 obtain⟨Wa,Y⟩:=h.c1;obtain⟨Wb,Z⟩:=h.c2;obtain⟨We,VW,Wf⟩:=h.c4;obtain⟨Wd,q,VX,M,G,B,z,D⟩:=h.c5;obtain⟨V9,V2,Wh,Wi,Wj⟩:=info_parts tA
 obtain⟨f,d,V7,Wc,I,_,y⟩:=run_append_own_at (P:=prog) w 0 162 W 78 V9 .nilFunc 1 8 underlying162 V2 Wh Wi Wj rfl (by decide) q _ _ B ⟨tb,0,none⟩ 1 1 [v] rfl (λg Wg o=>by
  match g,o with
  | 0,o=>simp at o;subst o;simpa [Addr.add] using VY
  | g+1,o=>simp at o) (λWg S=>by simp at S;subst S;exact V0) (by unfold maxLen;omega) (by omega) bt
 have r:Ky (λg=>q.ownBlock=some g) w d:=Ky.ao I λb e=>e;have T:Ky (λc=>c=m) d (d.setCell ⟨m,6,none⟩ f):=cS _ _ _ _ rfl;have A:Ky (λc=>q.ownBlock=some c∨c=m) w (d.setCell ⟨m,6,none⟩ f):=(r.mono λc a=>.inl a).trans (T.mono λc a=>.inr a) (Nw.refl _ _);have u:¬q.ownBlock=some m:=λe=>h.t.ne (br B e) (by decide) rfl;have V5:∀c,Q c->¬(q.ownBlock=some c∨c=m):=λc a x=>by rcases x with x|x;(.exact(D c x).2 a);.exact(h.q c a).2.1 x
 have O:∀{b:Nat},Tg 43 w b->¬(q.ownBlock=some b∨b=m):=λR a=>by rcases a with a|a;(.exact R.ne (br B a) (by decide) rfl);.exact R.ne h.t (by decide) a
 have E:∀b,f.ownBlock=some b->q.ownBlock=some b∨w.heap.size<=b:=λb e=>by rcases y with y|y;(.rw[y] at e;exact .inl e);.rw[y] at e;injection e with e;exact .inr (by omega)
 have V:=h.t.lt;have C:∀{v:Value} {x:Ex},dz Q w v x->dz Q (d.setCell ⟨m,6,none⟩ f) v x:=λF=>F.ky A V5;have t:∀{g:Nat} {X:Value},g≠6->w.cell? ⟨m,g,none⟩=some X->(d.setCell ⟨m,6,none⟩ f).cell? ⟨m,g,none⟩=some X:=λo V1=>(bo _ _ _ _ _ _ (by simp[o])).trans (r.cell V1 u);have N:=r.cell M u;have V4:(d.setCell ⟨m,6,none⟩ f).ownsRow 0 78 1 f (s++[(x,v)]).length ((s++[(x,v)]).map (·.2)):=by(have:=bM Wc T λb e x=>by subst x;rcases E b e with a|a;(.exact u a);.omega);simpa using this
 have V8:∀a∈s++[(x,v)],dz Q (d.setCell ⟨m,6,none⟩ f) a.2 a.1:=λa p=>by rcases cM p with p|p;(.exact C (h.w1 a p));.simp at p;subst p;exact C F
 have V3:∀b,f.ownBlock=some b->n<=b/\¬Q b:=λb e=>by rcases E b e with a|a;(.exact D b a);.exact⟨by omega,λI=>by have:=V6 b I;omega⟩
 refine⟨q,f,d,M,V7,N,VN r V u (h.f 6),⟨t (by omega) h.c0,⟨Wa,t (by omega) Y⟩,⟨Wb,t (by omega) Z⟩,t (by omega) h.c3,⟨We,t (by omega) VW,C Wf⟩,?_,(λa p=>C (h.w0 a p)),V8,h.p.ky A (O (br h.p rfl)),h.l.ky A (O (br h.l rfl)),λg=>by rw[bN];exact VN r V u (h.f g),(h.t.ky r u).set _ _ _,h.q,h.b⟩,_,r,λc a=>?_⟩;.refine⟨Wd,f,t (by omega) VX,b5 N,bM G A λb e a=>?_,V4,λb e=>⟨(z b e).1,(z b e).2.1,λVZ=>?_⟩,V3⟩;(.rcases a with a|a;(.exact(z b e).2.2 a);.exact(br G e).ne h.t (by decide) a);.rcases E b VZ with a|a;(.exact(z b e).2.2 a);.have:=(br G e).lt;omega
 .exact⟨(D c a).1,br B a⟩
abbrev lk (c f a b d e:Nat) (g:Value):Obj:=.cells #[.slice (some ⟨c,0,none⟩) (a+b) (a+b),.slice (some ⟨c,0,none⟩) a d,.slice (some ⟨c,a*3,none⟩) b e,.slice (some ⟨f,0,none⟩) (a+b) (a+b),g,.slice none 0 0,.slice none 0 0] 219
theorem k7.start{base:Nat}(s:e8 w m (List.replicate (j+i) aH.null))(r:e8 w k (List.replicate (j+i) aH.null))(t:dz P w v e)(b:∀a,P a->base<=a/\a<w.heap.size/\a≠m/\a≠k)(d:base<=m/\base<=k/\m≠k)(q:base<=w.heap.size)(g l:Nat)(p:base<=n):k7 base n w.heap.size m k j i e [] [] P (w.alloc (lk m k j i g l v)):=by have f:Ky (λ_=>False) w (w.alloc (lk m k j i g l v)):=Ky.ab (am VS _);refine⟨by simp[go_sem],⟨g,by simp[go_sem]⟩,⟨l,by simp[go_sem]⟩,by simp[go_sem],⟨v,by simp[go_sem],t.ky f λ_ _ c=>c⟩,⟨.slice none 0 0,.slice none 0 0,by simp[go_sem],by simp[go_sem],World.ownsRow_nil _ _ _ _,World.ownsRow_nil _ _ _ _,(λo e=>(by cases e)),(λo e=>(by cases e))⟩,(λc b=>(by cases b)),(λc b=>(by cases b)),s.ky f id,r.ky f id,λu=>by simp[go_sem],⟨_,_,Go.Deep.blk_alloc_new _ _⟩,λa c=>⟨(b a c).1,?_,(b a c).2.2⟩,⟨q,d.1,d.2.1,d.2.2,p⟩⟩;have:=(b a c).2.1;omega
theorem ji(h:iM w.heap.size [] W v e)(f:Bw W X):dz (λa=>w.heap.size<=a/\a<W.heap.size) X v e:=
 dz.ky ⟨w.heap.size,W,h,(Ky.ab (VT _ W) (F:=λ_=>False)).kept (ce.refl _ _ _) (λa _ _ b=>b),λa c d=>⟨c,d⟩⟩ (Ky.ab f (F:=λ_=>False)) λ_ _ b=>b
theorem li{d:Oper}{b:Act}{e:Act->World->Prop}{k:Exit->Act->World->Prop}(j f:Operand)(s:d.op=Op.makeSlice 40 j f)(a:Nat)(q:b.eval j=.int .i64 (a:Int))(n:b.eval f=.int .i64 (a:Int))(r:a<=2147483648) (l:∀c,e8 c w.heap.size (List.replicate a aH.null)->Bw w c->c.heap.size=w.heap.size+1->e (b.put d.dst (.slice (some ⟨w.heap.size,0,none⟩) a a)) c):d.wp prog b w e k:=by
 obtain⟨i,o,t,u,v⟩:=info_parts jo;have m:(i.bytes:Int)*(a:Int)<=281474976710656:=by rw[v];omega
 have g:=run_make (P:=prog) w 40 43 i _ underlying40 o t .i64 .i64 a a (by omega) (Int.le_refl _) m (by omega);simp only[Int.toNat_natCast,u] at g;have p:=l _ (U3 w a r) (am VS _) (by simp);unfold Oper.wp execOp;simp only[s,q,n,Sem.run_bind,g,Result.andThen_ok,Sem.run_pure];exact p
theorem j8{x:Ex}(h:L[n]?=some x):(L.take (n+1)).filterMap (p9 I)=(L.take n).filterMap (p9 I)++(p9 I x).toList:=by rw[List.take_add_one,h,List.filterMap_append];cases a:p9 I x<;>simp[a]
theorem Va:∀(d:Nat) (a:Ex),a.size<=d->bJ a=true->∀e∈cH a,bJ e=true
 | 0,a,k,_,_,_=>by rw[Ex.ak] at k;omega
 | d+1,a,k,c,e,b=>by by_cases f:a.op=19;(.obtain⟨l,m,g⟩:=Vv (da c) (by rw[f];decide);(have i:a.args[0]?=some l:=by rw[g];rfl);(have j:a.args[1]?=some m:=by rw[g];rfl);have n:=Ex.ar i;have o:=Ex.ar j;rw[fG,ba (by simp[f,c]),g,d0,d0,d0,VI] at b;rcases cM b with b|b;(.exact Va d l (by omega) (hE c i) e b);.exact Va d m (by omega) (hE c j) e b);.rw[fG,VU (by simp[f]),List.mem_singleton] at b;subst b;unfold dn;split;(.rw[nt];exact c);.exact c
theorem UN(b:bJ e=true)(c:E∈cH e)(a:E.op=12):∃d f,E.args=[d,f]:=Vv (da (Va _ e bi b E c)) (by rw[a];decide)
structure Bq(w:World)(b:Nat)(q:Nd):Prop where
 c:∀j u,(sh q)[j]?=some u->w.cell? ⟨b,j,none⟩=some u
 f:∀j,w.frozen? ⟨b,j,none⟩=false
 t:Tg 45 w b
theorem Bq.ky{F:Nat->Prop}{d:Nd}(h:Bq w n d)(a:Ky F w W)(b:¬F n):Bq W n d:=
 ⟨λc f e=>a.cell (h.c c f e) b,λc=>VN a h.t.lt b (h.f c),h.t.ky a b⟩
theorem Bq.aa{a:Nd}(h:Bq w n a)(b:Bw w W):Bq W n a:=h.ky (Ky.ab b (F:=λ_=>False)) id
theorem Bq.six{a:Nd}(h:Bq w n a):ee w n a.1 a.2.1 a.2.2:=⟨h.c 0 _ rfl,h.c 1 _ rfl,h.c 2 _ rfl,h.c 3 _ rfl,h.c 4 _ rfl,h.c 5 _ rfl⟩
theorem Bq.new(d:World)(b:Nd):Bq (d.alloc (.cells #[.int .i64 b.1.op,.int .i64 b.1.n,.int .i64 b.1.v.k,.int .i64 b.1.v.n,.string b.1.v.s,.slice b.2.1 b.1.args.length b.2.2] 45)) d.heap.size b:=by
 refine⟨λc e a=>?_,λc=>by simp[go_sem],⟨_,_,Go.Deep.blk_alloc_new _ _⟩⟩;match c,a with
 | 0,a=>simp[sh] at a;subst a;simp[go_sem]
 | 1,a=>simp[sh] at a;subst a;simp[go_sem]
 | 2,a=>simp[sh] at a;subst a;simp[go_sem]
 | 3,a=>simp[sh] at a;subst a;simp[go_sem]
 | 4,a=>simp[sh] at a;subst a;simp[go_sem]
 | 5,a=>simp[sh] at a;subst a;simp[go_sem]
 | c+6,a=>simp[sh] at a
theorem jW{F:Nat->Prop}(c:World)(a d:Nat)(e:List Value)(hF:F a):Ky F c (c.setCells a d e):=Ky.ao (VJ c a d e) λf b=>by injection b with b;exact b ▸ hF
theorem Tg.cells(h:Tg n w m)(c:Nat)(b:List Value):∀a,Tg n (w.setCells c a b) m:=by
 induction b generalizing w with
 | nil=>exact λ_=>h
 | cons e b d=>intro a;rw[World.setCells];exact d (h.set c a e) _
theorem Bq.here{b:Nd}(h:Bq w n b)(a:Nat)(c:a<6):(w.cell? ⟨n,a,none⟩).isSome=true:=by rw[h.c a _ (VR (l:=sh b) (i:=a) c)];rfl
theorem Bq.put{g:Nd}(h:Bq w n g)(b:Nd):Bq (w.setCells n 0 (sh b)) n b:=by refine⟨λa i e=>?_,λa=>by rw[World.frozen?_setCells];exact h.f a,h.t.cells n _ 0⟩;obtain⟨d,f⟩:=bD e;have:=World.cell?_setCells_in n (sh b) 0 w (λa c=>by rw[bI];exact h.here a c) a d;rw[bI,f] at this;exact this
theorem Bq.run{k:Nd}(h:Bq w n k)(a:Nd):(Instr.storeAt 45 (.pointer (some ⟨n,0,none⟩)) (.agg #[.int .i64 a.1.op,.int .i64 a.1.n,.int .i64 a.1.v.k,.int .i64 a.1.v.n,.string a.1.v.s,.slice a.2.1 a.1.args.length a.2.2])).run prog w=.ok () (w.setCells n 0 (sh a)):=by obtain⟨m,i,l,j,_⟩:=info_parts tB;have c:=run_storeCells_cells (P:=prog) n 0 (sh a) 0 w (λe b=>by simpa using h.here e b) (λe b=>h.f _) (by intro o d;simp only[sh,List.mem_cons,List.not_mem_nil,or_false] at d;rcases d with rfl|rfl|rfl|rfl|rfl|rfl<;>rfl);rw[Nat.add_zero] at c;have f:(Value.agg #[.int .i64 a.1.op,.int .i64 a.1.n,.int .i64 a.1.v.k,.int .i64 a.1.v.n,.string a.1.v.s,.slice a.2.1 a.1.args.length a.2.2]).cells.toList=sh a:=rfl;have g:(Value.agg #[.int .i64 a.1.op,.int .i64 a.1.n,.int .i64 a.1.v.k,.int .i64 a.1.v.n,.string a.1.v.s,.slice a.2.1 a.1.args.length a.2.2]).cells.size=6:=rfl;simp[Instr.storeAt,storeVar,Instr.sureAddr,sizeOf,typeInfo,i,j,g,f,c]
structure lA(lo b c:Nat)(x y:Nd)(w:World):Prop where
 x:Bq w b x
 y:Bq w c y
 n:b≠c
 l:lo<=b/\lo<=c
theorem lA.aa{x b:Nd}(h:lA n m k x b w)(a:Bw w W):lA n m k x b W:=⟨h.x.aa a,h.y.aa a,h.n,h.l⟩
theorem lA.ky{F:Nat->Prop}{x d:Nd}(h:lA n m k x d w)(a:Ky F w W)(b:∀c,Tg 45 w c->¬F c):lA n m k x d W:=⟨h.x.ky a (b _ h.x.t),h.y.ky a (b _ h.y.t),h.n,h.l⟩
theorem lA.put{c:Nat}{x b:Nd}(h:lA n m c x b w)(a:Nd):lA n m c a b (w.setCells m 0 (sh a)):=⟨h.x.put a,h.y.ky (jW w m 0 _ rfl (F:=λk=>k=m)) (Ne.symm h.n),h.n,h.l⟩
theorem lA.put'{x c:Nd}(h:lA n m k x c w)(a:Nd):lA n m k x a (w.setCells k 0 (sh a)):=⟨h.x.ky (jW w k 0 _ rfl (F:=λb=>b=k)) h.n,h.y.put a,h.n,h.l⟩
structure qv(base:Nat)(w7:World)(mx pb lb n1 n2:Nat)(e:Ex)(PL:List Nd)(k:Nat)(L0 L1:List (Ex×Value))(Qf:Nat->Prop)(wr:World):Prop where
 m:k7 base w7.heap.size mx pb lb n1 n2 e L0 L1 Qf wr
 e0:L0.map (·.1)=(((PL.map (·.1)).take k).filterMap (p9 n1)).map (·.1)
 e1:L1.map (·.1)=(((PL.map (·.1)).take k).filterMap (p9 n1)).map (·.2)
 q:∀j,Qf j->j<wr.heap.size
 k:Ky (λj=>j=mx∨w7.heap.size<=j) w7 wr
theorem qv.len{base:Nat}{a:List Nd}{b c:List (Ex×Value)}{wr:World}(h:qv base w n m k j i e a l b c P wr)(o:a.length<=400):b.length<=400/\c.length<=400:=by have d:=congrArg List.length h.e0;have f:=congrArg List.length h.e1;have g:=List.length_filterMap_le (p9 j) ((a.map (·.1)).take l);simp only[bQ,List.length_take] at d f g;omega
theorem qv.part{base:Nat}{b:List Nd}{f g:List (Ex×Value)}{wr:World}(h:qv base W n m k j i e b l f g P wr)(x:n<w.heap.size)(c:eS W w.heap.size (.slice (some ⟨s,0,none⟩) b.length t) b)(q:∀a∈b,BJ w.heap.size [s] W a.2.1 a.1.args){a:Nd}(d:b[l]?=some a):d3 wr s (l*6) a/\Ex.all wr a.2.1 a.1.args:=by
 have y:=World.ownsRow.lt c s rfl;have r:¬(s=n∨W.heap.size<=s):=by omega
 refine⟨(eS.facts (bM c h.k λu e=>by injection e with e;subst e;exact r) d).1,q a (VQ d) wr ⟨h.k.size,λo v p _=>h.k.block o p (by omega)⟩⟩
theorem qv.aa{base:Nat}{g:List Nd}{d f:List (Ex×Value)}{wr:World}(h:qv base w n m k j i e g l d f P wr)(c:Bw wr W)(o:base<=w.heap.size):qv base w n m k j i e g l d f P W:=
 ⟨h.m.aa c (λ_ a=>a) (λ_ a=>.inl a) (cw o h.k.size),h.e0,h.e1,λb a=>cN (h.q b a) c.size,h.k.trans (Ky.ab c (F:=λb=>b=n∨w.heap.size<=b)) (Nw.refl _ _)⟩
theorem qv.skip{base:Nat}{a:List Nd}{c d:List (Ex×Value)}{wr:World}{b:Nd}(h:qv base w n m k j i e a l c d P wr)(o:a[l]?=some b)(g:p9 j b.1=none):qv base w n m k j i e a (l+1) c d P wr:=by
 have f:(a.map (·.1))[l]?=some b.1:=by rw[bL,o];rfl
 refine⟨h.m,?_,?_,h.q,h.k⟩;.rw[h.e0,j8 f,g];simp
 .rw[h.e1,j8 f,g];simp
theorem k7.ready{base:Nat}{x:Ex}{d f:List (Ex×Value)}(h:k7 base n m k j i l e d f P w)(q:iM w.heap.size [] W v x)(o:Bw w W)(p:base<=w.heap.size)(c:Obj):k7 base n m k j i l e d f (λa=>P a∨(w.heap.size<=a/\a<W.heap.size)) (W.alloc c)/\dz (λa=>P a∨(w.heap.size<=a/\a<W.heap.size)) (W.alloc c) v x:=by have g:=am (VT _ W) c;exact⟨h.aa (ac o g) (λ_ b=>.inl b) (λa b=>b.imp id And.left) p,(ji q g).mono λa b _=>.inr b⟩
def Eb(base i c u q r s d:Nat)(p:Ex)(l m:List (Ex×Value))(j:Value)(g k:World)(w:Value)(v:TypeId):Prop:=∃n t o e a f,e=.slice n t o/\(Builtin.append_ #[162,162] v #[j,.slice (some ⟨k.heap.size,0,none⟩) 1 1]).run prog (k.alloc (.cells #[w] 78))=.ok e a/\a.cell? ⟨c,d,none⟩=some j/\a.frozen? ⟨c,d,none⟩=false/\k7 base i c u q r s p l m f (a.setCell ⟨c,d,none⟩ e)/\(∀b,f b->b<a.heap.size)/\Ky (λb=>i<=b/\¬Tg 45 g b) g a
theorem oz{base size:Nat}(h:w.ownsRow base n size v m D):∃a c b,v=.slice a c b:=by
 rcases h.2 with ⟨rfl,_⟩|⟨f,d,e,rfl,_⟩
 .exact⟨_,_,_,rfl⟩
 .exact⟨_,_,_,rfl⟩
theorem x4{G:Nat->Prop}(i:Bw w W)(d:Obj)(c:Ky G (W.alloc d) X)(f:∀a,G a->n<=a/\Tg 78 (W.alloc d) a):Ky (λa=>n<=a/\¬Tg 45 w a) w X:=by have b:Ky (λ_=>False) w (W.alloc d):=Ky.ab (ac i (am VS d));refine⟨c.os.trans b.os,c.tape.trans b.tape,c.output.trans b.output,cw b.size c.size,λa g j=>?_⟩;rw[c.block a (cN g b.size) λe=>j ⟨(f a e).1,λk=>(k.ky b id).ne (f a e).2 (by decide) rfl⟩,b.block a g id]
theorem k7.eq0{base:Nat}{o t:List (Ex×Value)}(h:k7 base n m k j i l e o t P w)(L:n<=w.heap.size)(Q:∀a,P a->a<w.heap.size)(Z:o.length<=400):∃d,w.cell? ⟨m,5,none⟩=some d/\∀b f s,iM w.heap.size [] b f s->Bw w b->∀r,Eb base n m k j i l 5 e (o++[(s,f)]) t d w b f r:=by
 obtain⟨d,V1,u,_⟩:=h.c5;refine⟨d,u,λb f s A g r=>?_⟩;have M:base<=w.heap.size:=cw h.b.2.2.2.2 L;have V2:=g.size;obtain⟨N,O⟩:=h.ready A g M (.cells #[f] 78);obtain⟨q,p,rfl,_⟩:=A;have VW:(b.alloc (.cells #[.func (.func q) #[] p] 78)).heap.size=b.heap.size+1:=by simp
 have z:∀a,(P a∨(w.heap.size<=a/\a<b.heap.size))->a<(b.alloc (.cells #[.func (.func q) #[] p] 78)).heap.size:=λa c=>by rcases c with c|c;(.have:=Q a c;omega);.omega
 obtain⟨W,V,X,E,R,v,F,y,Y,x,K⟩:=N.push0 O rfl (tb:=b.heap.size) (by simp[go_sem]) (by omega) (by omega) z r;have G:W=d:=by have:=ae u (ac g (am (VT _ b) (.cells #[.func (.func q) #[] p] 78)));rw[E] at this;exact Option.some.inj this
 subst G;obtain⟨VZ,V0,B,VY,T,VX,_⟩:=y.c5;rw[b5 v] at B;injection B with I;obtain⟨C,S,D,J⟩:=oz T;exact⟨C,S,D,V,X,_,I.trans J,R,v,F,y,λa c=>cN (z a c) x.size,x4 g _ x K⟩
theorem k7.eq1{base:Nat}{t o:List (Ex×Value)}(h:k7 base n m k j i l e t o P w)(L:n<=w.heap.size)(Q:∀a,P a->a<w.heap.size)(Z:o.length<=400):∃d,w.cell? ⟨m,6,none⟩=some d/\∀b f s,iM w.heap.size [] b f s->Bw w b->∀r,Eb base n m k j i l 6 e t (o++[(s,f)]) d w b f r:=by
 obtain⟨V1,d,_,u,_⟩:=h.c5;refine⟨d,u,λb f s A g r=>?_⟩;have M:base<=w.heap.size:=cw h.b.2.2.2.2 L;have V2:=g.size;obtain⟨N,O⟩:=h.ready A g M (.cells #[f] 78);obtain⟨q,p,rfl,_⟩:=A;have VW:(b.alloc (.cells #[.func (.func q) #[] p] 78)).heap.size=b.heap.size+1:=by simp
 have z:∀a,(P a∨(w.heap.size<=a/\a<b.heap.size))->a<(b.alloc (.cells #[.func (.func q) #[] p] 78)).heap.size:=λa c=>by rcases c with c|c;(.have:=Q a c;omega);.omega
 obtain⟨W,V,X,E,R,v,F,y,Y,x,K⟩:=N.push1 O rfl (tb:=b.heap.size) (by simp[go_sem]) (by omega) (by omega) z r;have G:W=d:=by have:=ae u (ac g (am (VT _ b) (.cells #[.func (.func q) #[] p] 78)));rw[E] at this;exact Option.some.inj this
 subst G;obtain⟨VZ,V0,VY,B,VX,T,_⟩:=y.c5;rw[b5 v] at B;injection B with I;obtain⟨C,S,D,J⟩:=oz T;exact⟨C,S,D,V,X,_,I.trans J,R,v,F,y,λa c=>cN (z a c) x.size,x4 g _ x K⟩
theorem qv.push{base:Nat}{b:List Nd}{c d:List (Ex×Value)}{wr:World}{f:Nd}{x:Ex}(h:qv base w n m k j i e b l c d P wr)(r:b[l]?=some f)(o:p9 j f.1=some (x,E))(q:k7 base w.heap.size n m k j i e (c++[(x,v)]) (d++[(E,u)]) Q W)(s:∀a,Q a->a<W.heap.size)(p:Ky (λa=>a=n∨w.heap.size<=a) wr W):qv base w n m k j i e b (l+1) (c++[(x,v)]) (d++[(E,u)]) Q W:=by
 have g:(b.map (·.1))[l]?=some f.1:=by rw[bL,r];rfl
 refine⟨q,?_,?_,s,h.k.trans p (Nw.refl _ _)⟩;.rw[ep,h.e0,j8 g,o];simp
 .rw[ep,h.e1,j8 g,o];simp
section
variable {P:Program}{ops:Array Oper}{Q:Exit->Act->World->Prop}{md:Region.Mode}{S:World->Prop}{k:Nat}
theorem wY{b:Array Bool}{g:Act}(e:Nat){i:Oper}{q:List Oper}(m:ops.toList.drop e=i::q)(d:(Region.ready md ops b == [e] && (Region.ready md ops (b.setIfInBounds e true)).isEmpty && (b.setIfInBounds e true).getD k true)=true)(p:Region.wanted i (yielded ops g.tmps)=true) (h:∀a:Act->World->Prop,Hid (∀c f,Q .normal c f->a c f)->i.wp P g w a Q):eq P md ops Q S k (n+1) b g w:=by simp only[cc,beq_iff_eq,List.isEmpty_iff] at d;refine sr d.1.1 (b8 m p λa l=>h a (H λc f o=>U l c f ⟨λj=>?_,pd d.1.2 o _⟩));rw[d.2] at j;cases j
theorem fK{c:Array Bool}{a:Act}(b:Nat){d:Oper}{u:List Oper}(o:ops.toList.drop b=d::u)(m:(Region.ready md ops c == [b] && (Region.ready md ops (c.setIfInBounds b true)).isEmpty && (c.setIfInBounds b true).getD k true)=true)(t:Region.wanted d (yielded ops a.tmps)=true)
  (i:TypeId) (f g:Operand) (p:d.op=Op.store i f g) (e j:Value) (q:a.eval f=e) (r:a.eval g=j) (s:(Instr.storeAt i e j).run P w=.ok () W)
  (h:Q .normal (a.put d.dst (.tuple #[])) W):eq P md ops Q S k (n+1) c a w:=
 wY b o m t λv l=>eW i f g p e j q r s (U l _ _ h)
end
structure Ag(bq gb go qc:Nat)(l r:Nd)(X:World):Prop where
 a:X.cell? ⟨bq,5,none⟩=some (.slice (some ⟨gb,go,none⟩) 2 qc)
 l:d3 X gb go l
 r:d3 X gb (go+6) r
theorem d3.ky{F:Nat->Prop}{c:Nd}(h:d3 w n m c)(a:Ky F w W)(b:¬F n):d3 W n m c:=by obtain⟨d,e,f,g,i,j⟩:=h;exact⟨a.cell d b,a.cell e b,a.cell f b,a.cell g b,a.cell i b,a.cell j b⟩
theorem Ag.ky{F:Nat->Prop}{c d:Nd}(h:Ag n m j i c d w)(a:Ky F w W)(e:¬F n)(b:¬F m):Ag n m j i c d W:=⟨a.cell h.a e,h.l.ky a b,h.r.ky a b⟩
theorem Ag.aa{a b:Nd}(h:Ag n m j i a b w)(c:Bw w W):Ag n m j i a b W:=h.ky (Ky.ab c (F:=λ_=>False)) id id
theorem Ag.lt{a b:Nd}(h:Ag n m j i a b w):n<w.heap.size/\m<w.heap.size:=⟨ck _ _ h.a,ck _ _ h.l.1⟩
def zE:Nd:=(Ex.mk 0 0 aH.null [],none,0)
abbrev zB:Obj:=.cells #[.int .i64 0,.int .i64 0,.int .i64 0,.int .i64 0,.string ⟨#[]⟩,.slice none 0 0] 45
theorem Ao(a:World):lA a.heap.size a.heap.size (a.heap.size+1) zE zE ((a.alloc zB).alloc zB)/\lA a.heap.size (a.heap.size+1) a.heap.size zE zE ((a.alloc zB).alloc zB)/\Bw a ((a.alloc zB).alloc zB):=by
 have e:=am (VT _ a) zB;have d:=am (VT _ (a.alloc zB)) zB;have f:(a.alloc zB).heap.size=a.heap.size+1:=by simp
 have c:=(Bq.new a zE).aa d;have b:=Bq.new (a.alloc zB) zE;rw[f] at b;exact⟨⟨c,b,by omega,by omega,by omega⟩,⟨b,c,by omega,by omega,by omega⟩,ac e d⟩
theorem e6(b:Below n w W)(f:n<=m)(d:n<=w.heap.size)(c:List Value):Below n w (W.setCells m 0 c):=b.trans (bB (VJ W m 0 c) (cw d b.size) λe a=>by injection a with a;omega)
theorem qT{a b:Nd}(h:lA n m j zE zE w):lA n m j a b ((w.setCells m 0 (sh a)).setCells j 0 (sh b)):=(h.put a).put' b
theorem CO{c x i:Ex}(j:e.op=12)(l:e.args=[E,c])(b:(x,i)=if mg E I=1 then (c,E) else (E,c)):p9 I e=if mg x I=0/\mg i I=1 then some (x,i) else none:=by
 unfold p9;rw[ba j,l];simp only;by_cases g:mg E I=1;.rw[ba g] at b ⊢;injection b with d f;rw[d,f];by_cases a:mg c I=0;(.rw[ba a,ba ⟨a,g⟩]);.rw[VU a,VU λm=>a m.1]
 .rw[VU g] at b ⊢;injection b with d f;rw[d,f]
theorem wh{N:List Nat}(a:World)(h:m<n∨m∈N):ce n N a { a with heap:=a.heap.setIfInBounds m (.cells #[] 0) }:=
 ⟨by simp,λd e f c=>by
  have:m≠d:=λb=>by subst b;rcases h with h|h;omega;exact c h
  simp[Array.getElem?_setIfInBounds,this]⟩
theorem wi(b:World)(a c:Nat):({ b with heap:=b.heap.setIfInBounds a (.cells #[] 0) }:World).cell? ⟨a,c,none⟩=none:=by
 unfold World.cell?;simp only[Array.getElem?_setIfInBounds];by_cases h:a<b.heap.size;.simp[h]
 .simp[h]
theorem d3.block{q:Nd}(h:d3 w n m q)(o:W.heap[n]?=w.heap[n]?):d3 W n m q:=by
 have b:∀{c:Nat} {d:Value},w.cell? ⟨n,c,none⟩=some d->W.cell? ⟨n,c,none⟩=some d:=λ{c d} l=>by rw[World.cell?_of_block (w:=w) (a:=⟨n,c,none⟩) o];exact l
 obtain⟨e,f,g,i,j,k⟩:=h;exact⟨b e,b f,b g,b i,b j,b k⟩
theorem uT{N:List Nat}{i:Nat}{x:Ex}(h:BJ n N w a L)(r:L[i]?=some x):∃b f e j,a=some ⟨b,f,none⟩/\d3 w b (f+i*6) (x,e,j)/\BJ n N w e x.args/\n<=b/\b<w.heap.size/\b ∉ N:=by
 obtain⟨b,f,m,C⟩:=Ex.ag (h w (ce.refl _ _ _)) r;obtain⟨e,j,p,_⟩:=Ex.ah C;have y:b<w.heap.size:=ck _ _ p.1;have t:¬(b<n∨b∈N):=λD=>by obtain⟨A,E,c,o⟩:=Ex.ag (h _ (wh w D)) r;rw[m] at c;injection c with c;injection c with k l;subst k l;obtain⟨_,_,q,_⟩:=Ex.ah o;have:=q.1;rw[wi] at this;cases this
 have u:n<=b:=Nat.le_of_not_lt λg=>t (.inl g);have v:b ∉ N:=λg=>t (.inr g);refine⟨b,f,e,j,m,p,λz s=>?_,u,y,v⟩;obtain⟨A,E,c,o⟩:=Ex.ag (h z s) r;rw[m] at c;injection c with c;injection c with k l;subst k l;obtain⟨F,G,q,B⟩:=Ex.ah o;have d:=(d3.block (q:=(x,e,j)) p (s.block b u y v)).2.2.2.2.2;rw[q.2.2.2.2.2] at d;injection d with d;injection d with d;subst d;exact B
theorem qv.kept{base:Nat}{c:List Nd}{a b:List (Ex×Value)}{wr:World}(h:qv base W n m k j i e c l a b P wr)(o:n<w.heap.size)(N:List Nat):ce w.heap.size N W wr:=⟨h.k.size,λd g f _=>h.k.block d f (by omega)⟩
theorem Ae{base:Nat}{C:List Nd}{A B:List (Ex×Value)}{r z:Nat}{p:Ex}(Q:qv base W n m k j l e C s A B P X)(O:n<w.heap.size)(h:BJ w.heap.size [t] W a [E,p])(M:X.cell? ⟨r,5,none⟩=some (.slice a 2 z)):∃b d f o g q,a=some ⟨b,d,none⟩/\Ag r b d z (E,f,o) (p,g,q) X/\BJ w.heap.size [t] W f E.args/\BJ w.heap.size [t] W g p.args:=by obtain⟨b,d,f,o,x,D,N,J,K,L⟩:=uT (i:=0) h rfl;obtain⟨S,T,g,q,c,F,R,_⟩:=uT (i:=1) h rfl;rw[x] at c;injection c with c;injection c with G I;subst G I;subst x;have y:=(Q.kept O [t]).block b J K L;have u:=D.block y;have v:=F.block y;simp only[Nat.zero_mul,Nat.one_mul,Nat.add_zero] at u v;exact⟨b,d,f,o,g,q,rfl,⟨M,u,v⟩,N,R⟩
theorem lA.lower{x a:Nd}(h:lA n k j x a w)(b:m<=n):lA m k j x a w:=⟨h.x,h.y,h.n,by have:=h.l.1;omega,by have:=h.l.2;omega⟩
theorem jI(d:w.cell? ⟨n,m,none⟩=some v)(e:w.frozen? ⟨n,m,none⟩=false)(a:Option Addr)(c b:Nat):(Instr.storeAt 162 (.pointer (some ⟨n,m,none⟩)) (.slice a c b)).run prog w=.ok () (w.setCell ⟨n,m,none⟩ (.slice a c b)):=by go_simp
theorem lA.psh{x c:Nd}(h:lA j i l x c w)(e:Ky (λa=>n<=a/\¬Tg 45 w a) w W)(f:Tg 219 (W.setCell ⟨m,k,none⟩ v) m):lA j i l x c (W.setCell ⟨m,k,none⟩ v):=
 (h.ky e λa b g=>g.2 b).ky (cS W m k v rfl (F:=λa=>a=m)) λa b d=>by subst d;exact(b.set a k v).ne f (by decide) rfl
theorem ee.psh{x:Nd}(h:Bq w m x)(b:Ky (λa=>n<=a/\¬Tg 45 w a) w W):ee W m x.1 x.2.1 x.2.2:=(h.ky b λc=>c.2 h.t).six
theorem ur(b:Ky (λa=>n<=a/\¬Tg 45 w a) w W):Ky (λa=>a=m∨n<=a) w (W.setCell ⟨m,k,none⟩ v):=(b.mono λa c=>Or.inr c.1).trans (cS W m k v (.inl rfl)) (Nw.refl _ _)
end Go.Proofs.YtklgoolblpmmlaaGreat
