import Derived.Test.YtklgoolblpmmlaaGreatStA
import Derived.Test.YtklgoolblpmmlaaGreatAnyG
import Derived.Test.YtklgoolblpmmlaaGreatPlN
import Derived.Test.YtklgoolblpmmlaaGreatAwB
set_option linter.all false
set_option maxHeartbeats 8000000
set_option maxRecDepth 100000
namespace Go.Proofs.YtklgoolblpmmlaaGreat
open Go.RowKit Go.Sort Go.Lib Go.Proofs.Tryz
variable{a b:Option Addr}{x:List aH}{W w:World}{A r:List (List aH)}{n:Nat}{p q:Pl}{O g:Pm}{I J:Int}{T:List Tb}
theorem Ub{ca cb:Nat}(P:x.length<=1000000)(A:bX w a x)(B:bX w b x):Calls prog 27 #[.slice a x.length ca,.slice b x.length cb] w λk q=>k=.returned (.bool true)/\Bw w q:=by
 go_enter func27,ntmps27;go_wp2_with fail;go_loopw[13] (λp E=>∃c:Nat,c<=x.length/\p=.int .i64 c/\Bw w E) (λp E=>x.length-(intOf p).toNat);case atStart=>exact⟨0,bt,rfl,VS⟩
 case round=>obtain⟨c,O,rfl,l⟩:=hrel;have I:=A.aa l;have J:=B.aa l;by_cases m:c<x.length;(.obtain⟨d,o⟩:∃d,x[c]?=some d:=⟨_,VR m⟩;rcases I with k|⟨f,i,rfl,C⟩;(.subst k;simp at m);obtain⟨r,s,t⟩:=C c d o;(have K:(c:Int)<(x.length:Int):=by omega);rcases J with k|⟨g,ob,rfl,D⟩;(.subst k;simp at m);obtain⟨u,v,y⟩:=D c d o;clear C D o;go_upto_region 6 with fail;have e:Hid ((wr.drew.cell? ⟨f,i+c*3,none⟩=some (.int .i64 d.k)/\wr.drew.cell? ⟨f,i+c*3+1,none⟩=some (.int .i64 d.n)/\wr.drew.cell? ⟨f,i+c*3+2,none⟩=some (.string d.s))/\wr.drew.cell? ⟨g,ob+c*3,none⟩=some (.int .i64 d.k)/\wr.drew.cell? ⟨g,ob+c*3+1,none⟩=some (.int .i64 d.n)/\wr.drew.cell? ⟨g,ob+c*3+2,none⟩=some (.string d.s)):=⟨⟨r,s,t⟩,u,v,y⟩;have F:=H l;clear r s t u v y l A B;refine bH (λj:World=>(j.cell? ⟨f,i+c*3,none⟩=some (.int .i64 d.k)/\j.cell? ⟨f,i+c*3+1,none⟩=some (.int .i64 d.n)/\j.cell? ⟨f,i+c*3+2,none⟩=some (.string d.s))/\j.cell? ⟨g,ob+c*3,none⟩=some (.int .i64 d.k)/\j.cell? ⟨g,ob+c*3+1,none⟩=some (.int .i64 d.n)/\j.cell? ⟨g,ob+c*3+2,none⟩=some (.string d.s)) 8 ?_;refine ap 0 (.slice (some ⟨f,i,none⟩) x.length ca) rfl (U e) ?_;refine ap 1 (.int .i64 (c:Int)) rfl (U e) ?_;refine ap 2 (.pointer (some ⟨f,i+c*3,none⟩)) rfl (U e) ?_;(refine ap 3 (.agg #[.int .i64 d.k,.int .i64 d.n,.string d.s]) rfl (U e) ?_ λq n=>by obtain⟨⟨L,M,N⟩,_⟩:=n;go_simp);refine ap 4 (.slice (some ⟨g,ob,none⟩) x.length cb) rfl (U e) ?_;refine ap 5 (.int .i64 (c:Int)) rfl (U e) ?_;refine ap 6 (.pointer (some ⟨g,ob+c*3,none⟩)) rfl (U e) ?_;(refine ap 7 (.agg #[.int .i64 d.k,.int .i64 d.n,.string d.s]) rfl (U e) ?_ λq n=>by obtain⟨_,L,M,N⟩:=n;go_simp);refine bh 8 rfl λG z=>?_;go_simp;refine bE z ?_;clear z G;refine cf ?_;go_wp2;exact⟨⟨c+1,by omega,by go_num,(U F).drew⟩,by simp[intOf];omega⟩);·(have K:¬(c:Int)<(x.length:Int):=by omega);go_wp2;go_ret;exact⟨rfl,l⟩
theorem Uk{c1 c2:Nat}(G:∀d∈r,d.length<=1000000)(k:ga w a r)(E:ga w b r)(T:r.length<=2147483648):Calls prog 10 #[.slice a r.length c1,.slice b r.length c2] w λD z=>D=.returned (.bool true)/\Bw w z:=by
 have M:=H G;have N:=H k;have O:=H E;clear G k E;go_enter func10,ntmps10;go_wp2_with fail;go_loopw[13] (λv J=>∃c:Nat,c<=r.length/\v=.int .i64 c/\Bw w J) (λv J=>r.length-(intOf v).toNat);case atStart=>exact⟨0,bt,rfl,VS⟩
 case round=>obtain⟨c,S,rfl,g⟩:=hrel;by_cases k:c<r.length;(.obtain⟨d,l⟩:∃R,r[c]?=some R:=⟨_,VR k⟩;obtain⟨i,m,x,q,rfl,o,A⟩:=((U N).aa g).get l;obtain⟨j,n,y,s,rfl,p,B⟩:=((U O).aa g).get l;have I:=U M d (VQ l);have P:=H (Ub (ca:=q) (cb:=s) I (A.aa VS.drew) (B.aa VS.drew));(have Q:(c:Int)<(r.length:Int):=by omega);have K:=H g;have e:Hid (wr.drew.cell? ⟨i,m+c,none⟩=some (.slice x d.length q)/\wr.drew.cell? ⟨j,n+c,none⟩=some (.slice y d.length s)):=⟨o,p⟩;clear l A B I g o p;go_upto_region 6 with fail;refine bH (λC:World=>C.cell? ⟨i,m+c,none⟩=some (.slice x d.length q)/\C.cell? ⟨j,n+c,none⟩=some (.slice y d.length s)) 8 ?_;refine ap 0 (.slice (some ⟨i,m,none⟩) r.length c1) rfl (U e) ?_;refine ap 1 (.int .i64 (c:Int)) rfl (U e) ?_;refine ap 2 (.pointer (some ⟨i,m+c,none⟩)) rfl (U e) ?_;(refine ap 3 (.slice x d.length q) rfl (U e) ?_ λz u=>by obtain⟨o,p⟩:=u;go_simp);refine ap 4 (.slice (some ⟨j,n,none⟩) r.length c2) rfl (U e) ?_;refine ap 5 (.int .i64 (c:Int)) rfl (U e) ?_;refine ap 6 (.pointer (some ⟨j,n+c,none⟩)) rfl (U e) ?_;(refine ap 7 (.slice y d.length s) rfl (U e) ?_ λz u=>by obtain⟨o,p⟩:=u;go_simp);refine bh 8 rfl λt f=>?_;go_simp;refine(U P).mono ?_;rintro D V ⟨rfl,F⟩;go_simp;have L:=H (ac (U K).drew F);clear F;refine bE f ?_;clear f t;refine bh 9 rfl λt f=>?_;go_simp;refine bE f ?_;clear f t;refine cf ?_;go_wp2;exact⟨⟨c+1,by omega,by go_num,U L⟩,by simp[intOf];omega⟩);·(have Q:¬(c:Int)<(r.length:Int):=by omega);go_wp2;go_ret;exact⟨rfl,g⟩
theorem Ek(a:List (List aH))(x:List aH):x∈ih a ↔ x∈a:=by rw[<-List.count_pos_iff,l3];split<;>simp_all
theorem mN(b a:List (List aH))(x:List aH):(dP b a).count x=a.count x-b.count x:=by
 refine gL (P:=λa=>(dP b a).count x=a.count x-b.count x) (by simp[dP,kV]) (λa f c=>?_) a;unfold dP at c ⊢;rw[hd];by_cases d:x=f;.subst d;rw[List.count_append,List.count_singleton_self];split;(.rename_i h;(have h:b.count x<=a.count x:=by simpa using h);rw[List.count_append,List.count_singleton_self,c];omega);.rename_i h;(have h:¬b.count x<=a.count x:=by simpa using h);rw[c];omega
 ·(have e:List.count x [f]=0:=by rw[List.count_eq_zero];simpa using d);rw[List.count_append,e];split;(.rw[List.count_append,e,c];rfl);.rw[c];rfl
def Uo(b:Int)(a:List Pl):Pl:=.mk b ⟨#[]⟩ [] [] [] [] 0 0 0 0 a
def T0(a:Option Addr)(b:Nat):Pm:=⟨none,0,none,0,none,0,none,0,a,b⟩
def it(d:Int)(c:Nat)(a:Option Addr)(b:Nat):Value:=.agg #[.int .i64 d,.string ⟨#[]⟩,.slice none 0 0,.slice none 0 0,.slice none 0 0,.slice none 0 0,.int .i64 0,.int .i64 0,.int .i64 0,.int .i64 0,.slice a c b]
theorem T8(d:Int)(c:List Pl)(a:Option Addr)(b:Nat):(Uo d c).val (T0 a b)=it d c.length a b:=by rw[Pl.ad];rfl
theorem T5{op:Int}{b:List Pl}{c:Nat}(g:Pl.all w a b):Calls prog 18 #[.int .i64 op,.slice a b.length c] w λk i=>k=.returned (it op b.length a c)/\hI i (Uo op b) (T0 a c)/\Bw w i:=by have j:=H g;clear g;go_enter func18,ntmps18;go_wp2;have f:=dL.new w (Uo op b) (T0 a c);have d:=am (VT _ w) ((Uo op b).box (T0 a c));obtain⟨l,e⟩:=bj (w.alloc ((Uo op b).box (T0 a c)));rw[e] at f d;simp only[Pl.box,Uo,T0,Pl.op,Pl.au,Pl.ex,Pl.cols,Pl.keys,Pl.aggs,Pl.fn,Pl.aj,Pl.n,Pl.off,Pl.args,dY,List.length_nil,bI] at e;rw[e];rw[<-T8];refine bs (v:=(Uo op b).val (T0 a c)) (xX (Z:=w.heap.size) rfl f.var rfl) rfl ⟨rfl,?_,d⟩;exact⟨⟨by unfold Uo;rw[Pl.ex,Ex.all];trivial,.inl rfl,.inl rfl,.inl rfl,bt⟩,Pl.af _ (U j) d⟩
abbrev T3 (a:Pl) (c:Pm) (b:Pl) (d:Pm):Obj:=.cells #[.int .i64 a.op,.string a.au,.slice c.aE a.ex.length c.cE,.slice c.aC a.cols.length c.cC,.slice c.aK a.keys.length c.cK,.slice c.aA a.aggs.length c.cA,.int .i64 a.fn,.int .i64 a.aj,.int .i64 a.n,.int .i64 a.off,.slice c.aP a.args.length c.cP,.int .i64 b.op,.string b.au,.slice d.aE b.ex.length d.cE,.slice d.aC b.cols.length d.cC,.slice d.aK b.keys.length d.cK,.slice d.aA b.aggs.length d.cA,.int .i64 b.fn,.int .i64 b.aj,.int .i64 b.n,.int .i64 b.off,.slice d.aP b.args.length d.cP] 28
theorem T7(a:World)(d:Pl)(b:Pm)(e:Pl)(c:Pm):dL (a.alloc (T3 d b e c)) a.heap.size 0 d b/\dL (a.alloc (T3 d b e c)) a.heap.size 11 e c:=
 ⟨⟨by simp[go_sem],by simp[go_sem],by simp[go_sem],by simp[go_sem],by simp[go_sem],by simp[go_sem],by simp[go_sem],by simp[go_sem],by simp[go_sem],by simp[go_sem],by simp[go_sem]⟩,⟨by simp[go_sem],by simp[go_sem],by simp[go_sem],by simp[go_sem],by simp[go_sem],by simp[go_sem],by simp[go_sem],by simp[go_sem],by simp[go_sem],by simp[go_sem],by simp[go_sem]⟩⟩
theorem TP(i:dL w n 0 p g)(j:dL w n 11 q O)(a:hI w p g)(b:hI w q O):Pl.all w (some ⟨n,0,none⟩) [p,q]:=by
 rw[Pl.all];refine⟨n,0,rfl,?_,?_⟩
 .cases p with
  | mk o r e cols k c f d O m l=>
   rw[Pl.at]
   exact⟨g,i,a.o,a.p⟩
 .rw[Pl.all]
  refine⟨n,11,rfl,?_,by rw[Pl.all];trivial⟩
  cases q with
  | mk o r e cols k c f d s m l=>
   rw[Pl.at]
   exact⟨O,j,b.o,b.p⟩
theorem Ue(b:hI w p g)(c:hI w q O):Pl.all (w.alloc (T3 p g q O)) (some ⟨w.heap.size,0,none⟩) [p,q]:=
 have a:=am (VT _ w) (T3 p g q O)
 TP (T7 w p g q O).1 (T7 w p g q O).2 (b.aa a) (c.aa a)
theorem Ud(a:hI w p g):Pl.all (w.alloc (p.box g)) (some ⟨w.heap.size,0,none⟩) [p]:=
 Ck (dL.new w p g) (a.aa (am (VT _ w) (p.box g)))
theorem Um(b:List Tb)(o:∀u∈b,u.fin)(p:Sk b)(t:b.length<=1048576)(e:Option Addr)(g:Nat){op:Int}{l:List Pl}(n:(Uo op l).fin)(r:(Uo op l).aQ)(s:bC b (Uo op l)<=2147483647)(k:lZ w e b){c:Nat}(m:Bw w W)(q:Pl.all W a l):Calls prog 18 #[.int .i64 op,.slice a l.length c] W λf d=>f=.returned (it op l.length a c)/\Bw W d/\hI d (Uo op l) (T0 a c)/\Calls prog 14 #[it op l.length a c,.slice e b.length g] d (Df b (Uo op l) d):=by refine(T5 q).mono ?_;rintro f d ⟨rfl,j,i⟩;refine⟨rfl,i,j,?_⟩;rw[<-T8];refine(hY b o p t e g (Uo op l) n r s _ d j (k.aa (ac m i))).mono ?_;intro f d h;exact h.got
def Ul(a:List (Int×Bool))(b c:Int)(d:Pl):Pl:=.mk 9 ⟨#[]⟩ [] [] a [] 0 0 b c [d]
theorem TW(a:List Tb)(b c:Pl):bC a (Uo 8 [b,c])=min (bC a b+bC a c) 2147483648:=by have h:=dl a b;have d:=dl a c;rw[ff];unfold eP gi;show min (max (min (min (0+bC a b) 2147483648+bC a c) 2147483648) 1) 2147483648=_;omega
theorem Uf(a:List Tb)(b c:Pl):bC a (Uo 11 [b,c])=max (bC a b) (bC a c):=by have h:=dl a b;have d:=dl a c;rw[ff];unfold eP gi;show min (max (max (max 1 (bC a b)) (bC a c)) 1) 2147483648=_;omega
theorem Uj(b:List Tb)(a:Pl):bC b (Uo 7 [a])=bC b a:=by have h:=dl b a;rw[ff];unfold eP gi;show min (max (max 1 (bC b a)) 1) 2147483648=_;omega
theorem T6(b:List Tb)(c:List (Int×Bool))(d e:Int)(a:Pl):bC b (Ul c d e a)=bC b a:=by have h:=dl b a;rw[ff];unfold eP gi;show min (max (max 1 (bC b a)) 1) 2147483648=_;omega
theorem Uh{b:List Pl}(d:b.length<=1048576)(e:Pl.ay b):(Uo I b).fin:=by unfold Uo;rw[Pl.fin];refine⟨⟨by decide,by simp,by simp,by simp,by simp,d,⟨by decide,by decide⟩,(λc a=>by cases a),(λc a=>by cases a),(λc a=>by cases a)⟩,?_,e⟩;rw[Ex.ay];trivial
theorem TY{b:List (Int×Bool)}(c:b.length<=1048576)(d:∀x∈b,bY x.1)(e:bY I)(f:p.fin):(Ul b I J p).fin:=by
 unfold Ul;rw[Pl.fin];refine⟨⟨by decide,by simp,by simp,c,by simp,by simp,e,(λx a=>by cases a),d,(λx a=>by cases a)⟩,?_,?_⟩;.rw[Ex.ay];trivial
 .rw[Pl.ay,Pl.ay];exact⟨f,trivial⟩
theorem TS(a:p.fin):Pl.ay [p]:=by rw[Pl.ay,Pl.ay];exact⟨a,trivial⟩
theorem TT(a:p.fin)(b:q.fin):Pl.ay [p,q]:=by rw[Pl.ay];exact⟨a,TS b⟩
theorem T4(a:p.aQ):Pl.aO [p]:=by rw[Pl.aO,Pl.aO];exact⟨a,trivial⟩
theorem TU(a:p.aQ)(b:q.aQ):Pl.aO [p,q]:=by rw[Pl.aO];exact⟨a,T4 b⟩
theorem Ui{a:List Pl}(b:Pl.aO a):(Uo I a).aQ:=by unfold Uo;rw[Pl.aQ];exact⟨by decide,b⟩
theorem TZ{c:List (Int×Bool)}(a:J<=9223372036854775807)(b:p.aQ):(Ul c I J p).aQ:=by unfold Ul;rw[Pl.aQ];exact⟨a,T4 b⟩
theorem Uc(a:List Tb)(b c:Pl):cg a (Uo 11 [b,c])=dP (cg a c) (cg a b):=by rw[iS];rfl
theorem TQ(a:List Tb)(b c:Pl):cg a (Uo 8 [b,c])=cg a b++cg a c:=by rw[iS];show [cg a b,cg a c].flatten=_;simp
theorem T9(b:List Tb)(a:Pl):cg b (Uo 7 [a])=ih (cg b a):=by rw[iS];rfl
theorem TV(e:List Tb)(b:List (Int×Bool))(c a:Int)(d:Pl):cg e (Ul b c a d)=nG b a.toNat (U2 c.toNat a.toNat) (cg e d):=by rw[iS];rfl
theorem TX{wd:Nat}(b:∀c∈r,dH wd c)(a:A.Perm r):qV A=qV r:=B0 b ((gE A).trans a) (vo A)
theorem T2(q:Sk T)(o:p.fin)(i:bC T p<=2147483647)(n:gO T p=0):(gO T (Uo 11 [p,p])=0->VC T (Uo 11 [p,p])=[])/\(gO T (Uo 11 [Uo 8 [p,p],p])=0->VC T (Uo 11 [Uo 8 [p,p],p])=VC T p)/\(gO T (Uo 7 [p])=0->gO T (Uo 7 [Uo 7 [p]])=0->VC T (Uo 7 [Uo 7 [p]])=VC T (Uo 7 [p]))/\(gO T (Uo 7 [p])=0->(ih (VC T p++[])).length=(VC T (Uo 7 [p])).length)/\∀(a:List (Int×Bool)) (b:Int),0<=b->gO T (Ul a b 0 p)=0->gO T (Ul a 1099511627776 b p)=0->(VC T (Ul a b 0 p)++VC T (Ul a 1099511627776 b p)).Perm (VC T p)/\(((VC T (Ul a b 0 p)).length:Int)=b∨(VC T (Ul a 1099511627776 b p)).length=0):=by
 obtain⟨c,g,j,e⟩:=k4 n;have t:eI T=true:=by unfold e5 at c;simp only[cc] at c;exact c.1
 have f:=hP c q p.size p bi o g j i;have w:=iR t p.size p bi g j i;refine⟨λh=>?_,λh=>?_,λh d=>?_,λh=>?_,λa b x h d=>?_⟩;.rw[(k4 h).2.2.2,Uc];(have:dP (cg T p) (cg T p)=[]:=List.eq_nil_iff_forall_not_mem.2 λk u=>by have:=List.count_pos_iff.2 u;rw[mN] at this;omega);rw[this];exact List.perm_nil.1 (gE [])
 .rw[(k4 h).2.2.2,e,Uc,TQ];exact TX f (i8 λk=>by rw[mN,List.count_append];omega)
 .rw[(k4 h).2.2.2,(k4 d).2.2.2,T9,T9];exact TX (wd:=(bK T p).2.length) (λv s=>f v ((Ek _ _).1 s)) (i8 λk=>by rw[l3,l3];simp[Ek])
 .rw[(k4 h).2.2.2,T9,(gE _).length_eq,VI,e];exact(Ad (gE _)).length_eq
 .rw[(k4 h).2.2.2,(k4 d).2.2.2,TV,TV,e];(have l:nG a (0:Int).toNat (U2 b.toNat (0:Int).toNat) (cg T p)=(cj a (cg T p)).take b.toNat:=by unfold nG U2;simp);have r:(cj a (cg T p)).length=(cg T p).length:=(cB a _).length_eq;(have m:nG a b.toNat (U2 (1099511627776:Int).toNat b.toNat) (cg T p)=(cj a (cg T p)).drop b.toNat:=by unfold nG U2;rw[fz];rw[r];have:(1099511627776:Int).toNat=1099511627776:=rfl;omega);rw[l,m];refine⟨?_,?_⟩;(.refine((gE _).append (gE _)).trans ?_;rw[List.take_append_drop];exact(cB a _).trans (gE _).symm);.rw[(gE _).length_eq,(gE _).length_eq,List.length_take,List.length_drop];omega
def TN(b:Option Addr)(c:Nat)(a:Option Addr):Pm:=⟨none,0,none,0,b,c,none,0,a,1⟩
theorem Ug(c:List Tb)(q:∀x∈c,x.fin)(r:Sk c)(v:c.length<=1048576)(d:Option Addr)(e:Nat){b:List (Int×Bool)}{n o:Int}(m:(Ul b n o p).fin)(s:(Ul b n o p).aQ)(u:bC c (Ul b n o p)<=2147483647)(l:lZ w d c)(t:hI w p g){cK:Nat}(j:dh w a b)(f:Bw w W):Calls prog 14 #[.agg #[.int .i64 9,.string ⟨#[]⟩,.slice none 0 0,.slice none 0 0,.slice a b.length cK,.slice none 0 0,.int .i64 0,.int .i64 0,.int .i64 n,.int .i64 o,.slice (some ⟨W.heap.size,0,none⟩) 1 1],.slice d c.length e] (W.alloc (p.box g)) (Df c (Ul b n o p) (W.alloc (p.box g))):=by have i:=ac f (am (VT _ W) (p.box g));have k:hI (W.alloc (p.box g)) (Ul b n o p) (TN a cK (some ⟨W.heap.size,0,none⟩)):=⟨⟨by unfold Ul;rw[Pl.ex,Ex.all];trivial,.inl rfl,j.aa i,.inl rfl,bt⟩,Ud (t.aa f)⟩;have h:=(hY c q r v d e (Ul b n o p) m s u _ _ k (l.aa i)).mono λy z h=>h.got;rw[Pl.ad] at h;exact h
theorem TO(d:List Tb)(D:∀ZP∈d,ZP.fin)(E:Sk d)(V8:d.length<=1048576)(A:Option Addr)(Q:Nat)(a:Pl)(u:a.fin)(S:a.aQ)(f:Pm)(j:List (Int×Bool))(Yc:j.length<=1048576)(Yd:∀x∈j,bY x.1)(YT:Option Addr)(Xb:Nat)(i:Int)(WU:bY i)(M:World)(X4:dh M YT j)(XF:hI M a f)(V4:lZ M A d):Calls prog 5 #[a.val f,.slice YT j.length Xb,.int .i64 i,.slice A d.length Q] M λb v=>b=.returned (.bool true)/\Bw M v:=by
 obtain⟨g,XK⟩:=bn (M.alloc (a.box f));have XE:Bw M g:=by rw[XK];exact am (VT _ M) _
 have X3:dL g M.heap.size 0 a f:=by rw[XK];exact dL.new _ a f
 have X0:(Uo 8 [a,a]).fin:=Uh (by simp) (TT u u);have Zm:(Uo 8 [a,a]).aQ:=Ui (TU S S);have XD:(Uo 7 [a]).fin:=Uh (by simp) (TS u);have Yh:(Uo 7 [a]).aQ:=Ui (T4 S);have W0:=H (λ(c:World) (e:Bw g c)=>X3.aa e);have s:=H (λ(c:World) (e:Bw g c)=>(X3.aa e).load);rw[Pl.ad] at s;have Y:=H (λ(c:World) (e:Bw g c)=>XF.aa (ac XE e));have W3:=H (λ(c:World) (e:Bw g c)=>T5 (op:=8) (c:=2) (Ue (U Y c e) (U Y c e)));have WP:=H (λ(c:World) (e:Bw g c) (W8:Option Addr) (P:Nat) (Xh:hI c (Uo 8 [a,a]) (T0 W8 P))=>xr d D V8 A Q (Uo 8 [a,a]) X0 _ c Xh (V4.aa (ac XE e)));simp only[T8] at WP;obtain⟨ZO,Yf⟩:=bn (decide (2147483647<bC d (Uo 8 [a,a])));simp only[<-Yf] at WP;have YC:=H Yf;have w:=H XE;have Xy:=H XK;unfold Pl.box at Xy;rw[Pl.ad];clear XK XE X3 Yf;go_enter func5,ntmps5;go_upto_region 1 with fail;rw[<-U Xy];cases ZO
 case true=>
  go_wp2_with (first
   | (refine a1 ?_ 28 (.tmp 4) rfl _ (by simp[Act.eval,Act.put]) _ (U s _ VS) ?_;. simp[Region.wanted,yielded])
   | (go_at_call 18;refine(U W3 g VS).mono ?_;rintro b Yk ⟨rfl,Xi,V5⟩;have WI:=H (ac (am (VT _ g) _) V5);have Xv:=H Xi;clear V5 Xi)
   | (go_at_call 7;refine(U WP Yk (U WI) _ _ (U Xv)).mono ?_;rintro b Zp ⟨rfl,Wf⟩))
  go_ret;exact⟨rfl,ac (U w) (ac (U WI) Wf)⟩
 case false=>
  have ZM:bC d (Uo 8 [a,a])<=2147483647:=by have:=of_decide_eq_false (U YC).symm;omega
  have V7:bC d a<=2147483647:=by have We:=TW d a a;have YY:=dl d a;omega
  have WW:=H (λ(c:World) (e:Bw g c)=>(hY d D E V8 A Q a u S V7 f c (U Y c e) (V4.aa (ac (U w) e))).mono λXC v h=>h.got);have W1:=H (λ(c:World) (e:Bw g c)=>Um d D E V8 A Q (op:=11) (l:=[a,a]) (c:=2) (Uh (by simp) (TT u u)) (Ui (TU S S)) (by rw[Uf];omega) V4 (ac (U w) (am e _)) (Ue (U Y c e) (U Y c e)));have WY:=H (λ(c:World) (e:Bw g c) (W8:Option Addr) (P:Nat) (Xh:hI c (Uo 8 [a,a]) (T0 W8 P))=>Um d D E V8 A Q (op:=11) (l:=[Uo 8 [a,a],a]) (c:=2) (Uh (by simp) (TT X0 u)) (Ui (TU Zm S)) (by rw[Uf];omega) V4 (ac (U w) (am e _)) (Ue Xh (U Y c e)));have WL:=H (λ(c:World) (e:Bw g c)=>Um d D E V8 A Q (op:=7) (l:=[a]) (c:=1) XD Yh (by rw[Uj];exact V7) V4 (ac (U w) (am e _)) (Ud (U Y c e)));have W2:=H (λ(c:World) (e:Bw g c) (W8:Option Addr) (P:Nat) (Xh:hI c (Uo 7 [a]) (T0 W8 P))=>Um d D E V8 A Q (op:=7) (l:=[Uo 7 [a]]) (c:=1) (Uh (by simp) (TS XD)) (Ui (T4 Yh)) (by rw[Uj,Uj];exact V7) V4 (ac (U w) (am e _)) (Ud Xh));have WN:=H (λ(i:Int) (WU:bY i) (c:World) (e:Bw g c)=>Ug d D E V8 A Q (n:=i) (o:=0) (cK:=Xb) (TY Yc Yd WU u) (TZ (by decide) S) (by rw[T6];exact V7) V4 XF X4 (ac (U w) e));have WO:=H (λ(i:Int) (WU:bY i) (c:World) (e:Bw g c)=>Ug d D E V8 A Q (n:=1099511627776) (o:=i) (cK:=Xb) (TY Yc Yd ⟨by decide,by decide⟩ u) (TZ WU.2 S) (by rw[T6];exact V7) V4 XF X4 (ac (U w) e));have YD:=H (λV3=>T2 E u V7 V3);have r:=H (λV3=>BD D E u V7 V3);have Yr:=H (λWe=>BD D E XD (by rw[Uj];exact V7) We);have Yz:=H WU;unfold Df at WW W1 WY WL W2 WN WO;obtain⟨ZN,XJ⟩:=bj d.length;obtain⟨ZX,Ye⟩:=bj j.length;rw[XJ] at WP ⊢;simp only[XJ] at WW W1 WY WL W2;simp only[XJ,Ye] at WN WO;rw[Ye];clear XJ Ye ZM V7 YC D E u S Yc Yd WU X4 XF V4 X0 Zm XD Yh V8
  go_upto_region 3 with (first
   | (refine a1 ?_ 28 (.tmp 4) rfl _ (by simp[Act.eval,Act.put]) _ (U s _ VS) ?_;. simp[Region.wanted,yielded])
   | (go_at_call 18;refine(U W3 g VS).mono ?_;rintro b Yk ⟨rfl,Xi,V5⟩;have WI:=H (ac (am (VT _ g) _) V5);have Xv:=H Xi;clear V5 Xi)
   | (go_at_call 7;refine(U WP Yk (U WI) _ _ (U Xv)).mono ?_;rintro b Zp ⟨rfl,Wf⟩;have Xs:=H (ac (U WI) Wf);clear Wf))
  clear WI Xv WP;obtain⟨YU,Ya⟩:=bn (gO d a == 0);obtain⟨YV,V5⟩:=bn (gO d (Uo 11 [a,a]) == 0);obtain⟨XA,Wf⟩:=bn (gO d (Uo 11 [Uo 8 [a,a],a]) == 0);obtain⟨YW,WS⟩:=bn (gO d (Uo 7 [a]) == 0);obtain⟨YX,WT⟩:=bn (gO d (Uo 7 [Uo 7 [a]]) == 0);obtain⟨O,X5⟩:=bn (VC d a);obtain⟨YS,X6⟩:=bn (VC d (Uo 11 [a,a]));obtain⟨Xz,X7⟩:=bn (VC d (Uo 11 [Uo 8 [a,a],a]));obtain⟨W7,X8⟩:=bn (VC d (Uo 7 [a]));obtain⟨Zt,X9⟩:=bn (VC d (Uo 7 [Uo 7 [a]]));have Wq:Hid (YU=true->YV=true->XA=true->YW=true->YX=true->YS=[]/\Xz=O/\Zt=W7/\(ih (O++[])).length=W7.length/\(Dh O/\O.length<=2147483647)/\(Dh W7/\W7.length<=2147483647)/\∀(j:List (Int×Bool)) (i:Int),0<=i->gO d (Ul j i 0 a)=0->gO d (Ul j 1099511627776 i a)=0->(VC d (Ul j i 0 a)++VC d (Ul j 1099511627776 i a)).Perm O/\(((VC d (Ul j i 0 a)).length:Int)=i∨(VC d (Ul j 1099511627776 i a)).length=0)):=λV3 We YY ZI ZJ=>by have Wa:=of_decide_eq_true (Ya.symm.trans V3);have V2:=of_decide_eq_true (WS.symm.trans ZI);obtain⟨ZC,ZD,ZE,ZF,ZH⟩:=U YD Wa;rw[X5,X6,X7,X8,X9];exact⟨ZC (of_decide_eq_true (V5.symm.trans We)),ZD (of_decide_eq_true (Wf.symm.trans YY)),ZE V2 (of_decide_eq_true (WT.symm.trans ZJ)),ZF V2,U r Wa,U Yr V2,ZH⟩
  simp only[<-Ya,<-X5] at WW;simp only[<-V5,<-X6] at W1;simp only[<-Wf,<-X7] at WY;simp only[<-WS,<-X8] at WL;simp only[<-WT,<-X9] at W2;clear Ya V5 Wf WS WT X5 X6 X7 X8 X9 YD r Yr
  go_upto_region 4 with (first
   | (refine a1 ?_ 28 (.tmp 4) rfl _ (by simp[Act.eval,Act.put]) _ (U s _ (U Xs)) ?_;. simp[Region.wanted,yielded])
   | (go_at_call 14;refine(U WW Zp (U Xs)).mono ?_;rintro b Zq ⟨Zv,XB,rfl,Zh,WS⟩;have Xt:=H (ac (U Xs) WS);have YE:=H Zh;clear WS Zh))
  clear Xs WW
  go_upto_region 5 with (first
   | (refine a1 ?_ 28 (.tmp 4) rfl _ (by simp[Act.eval,Act.put]) _ (U s _ (U Xt)) ?_;. simp[Region.wanted,yielded])
   | (go_at_call 18;refine(U W1 Zq (U Xt)).mono ?_;rintro b ZZ ⟨rfl,WT,_,Zb⟩;have Yp:=H (ac (am (VT _ Zq) _) WT);have Yt:=H Zb;clear WT Zb)
   | (go_at_call 14;refine(U Yt).mono ?_;rintro b ZR ⟨Zw,Ww,rfl,Zi,R⟩;have XM:=H (ac (U Yp) R);have Yq:=H (ac (U Xt) (U XM));have YH:=H ((U YE).aa (U XM));have YK:=H Zi;clear R Zi))
  clear Xt YE W1 Yp Yt XM;obtain⟨WQ,Xk⟩:=bn ZR.drew;have Wj:Hid (Bw g WQ):=by rw[Xk];exact(U Yq).drew
  have YJ:Hid (ga WQ Zv O):=by rw[Xk];exact(U YH).aa VS.drew
  have YN:Hid (ga WQ Zw YS):=by rw[Xk];exact(U YK).aa VS.drew
  clear Yq YH YK;refine bH (λZu:World=>Bw g Zu) 13 ?_;rw[<-Xk];clear Xk;refine ap 0 (.agg #[.int .i64 a.op,.string a.au,.slice f.aE a.ex.length f.cE,.slice f.aC a.cols.length f.cC,.slice f.aK a.keys.length f.cK,.slice f.aA a.aggs.length f.cA,.int .i64 a.fn,.int .i64 a.aj,.int .i64 a.n,.int .i64 a.off,.slice f.aP a.args.length f.cP]) rfl (U Wj) ?_ λv Xj=>by obtain⟨Wa,Wx,Wb,V2,Wc,Wd,Xd,Xe,Xf,Xg,Xc⟩:=U W0 v Xj;simp only[bI] at Wa Wx Wb V2 Wc Wd Xd Xe Xf Xg Xc;go_simp
  refine ap 1 (.agg #[.int .i64 a.op,.string a.au,.slice f.aE a.ex.length f.cE,.slice f.aC a.cols.length f.cC,.slice f.aK a.keys.length f.cK,.slice f.aA a.aggs.length f.cA,.int .i64 a.fn,.int .i64 a.aj,.int .i64 a.n,.int .i64 a.off,.slice f.aP a.args.length f.cP]) rfl (U Wj) ?_ λv Xj=>by obtain⟨Wa,Wx,Wb,V2,Wc,Wd,Xd,Xe,Xf,Xg,Xc⟩:=U W0 v Xj;simp only[bI] at Wa Wx Wb V2 Wc Wd Xd Xe Xf Xg Xc;go_simp
  refine ap 4 (.agg #[.int .i64 a.op,.string a.au,.slice f.aE a.ex.length f.cE,.slice f.aC a.cols.length f.cC,.slice f.aK a.keys.length f.cK,.slice f.aA a.aggs.length f.cA,.int .i64 a.fn,.int .i64 a.aj,.int .i64 a.n,.int .i64 a.off,.slice f.aP a.args.length f.cP]) rfl (U Wj) ?_ λv Xj=>by obtain⟨Wa,Wx,Wb,V2,Wc,Wd,Xd,Xe,Xf,Xg,Xc⟩:=U W0 v Xj;simp only[bI] at Wa Wx Wb V2 Wc Wd Xd Xe Xf Xg Xc;go_simp
  refine ap 7 (.slice A ZN Q) rfl (U Wj) ?_;refine bh 2 rfl λz n=>?_;go_simp;have XO:=H (am (U Wj) (T3 a f a f));refine VP n (U XO) ?_;clear n z;refine bh 3 rfl λz n=>?_;go_simp;refine(U W3 WQ (U Wj)).mono ?_;rintro b Zr ⟨rfl,Y0,C⟩;unfold it;go_simp;have Xu:=H (ac (U XO) C);have Yx:=H (ac (am (VT _ WQ) _) C);have YB:=H Y0;clear C Y0;refine VP n (U Xu) ?_;clear n z XO;refine bh 5 rfl λz n=>?_;go_simp;have XP:=H (am (U Xu) (T3 (Uo 8 [a,a]) (T0 (some ⟨WQ.heap.size,0,none⟩) 2) a f));refine VP n (U XP) ?_;clear n z;refine bh 6 rfl λz n=>?_;go_simp;refine(U WY Zr (U Xu) _ _ (U YB)).mono ?_;rintro b Z0 ⟨rfl,Yb,_,Zc⟩;go_simp;have XN:=H (ac (U XP) Yb);have XU:=H (ac (U Yx) (ac (am (VT _ Zr) _) Yb));have Yu:=H Zc;clear Yb Zc;refine VP n (U XN) ?_;clear n z XP Xu Yx YB WY;refine bh 8 rfl λz n=>?_;go_simp;refine(U Yu).mono ?_;rintro b Zs ⟨WR,B,rfl,Zj,XG⟩;go_simp;have W:=H (ac (U XN) XG);have YI:=H ((U YJ).aa (ac (U XU) XG));have YM:=H ((U YN).aa (ac (U XU) XG));have YO:=H Zj;clear XG Zj;refine VP n (U W) ?_;clear n z XN XU Yu YJ YN Wj;refine ap 9 (.tuple #[.slice WR Xz.length B,.bool XA]) rfl (U W) ?_;refine ap 10 (.slice WR Xz.length B) rfl (U W) ?_;refine ap 11 (.bool XA) rfl (U W) ?_;refine ap 12 (.slice WR Xz.length B) rfl (U W) ?_;refine bh 13 rfl λz n=>?_;go_simp;refine bE n ?_;clear n z;refine cf ?_
  go_upto_region 7 with (first
   | (refine a1 ?_ 28 (.tmp 4) rfl _ (by simp[Act.eval,Act.put]) _ (U s _ (U W)) ?_;. simp[Region.wanted,yielded])
   | (go_at_call 18;refine(U WL Zs (U W)).mono ?_;rintro b Z1 ⟨rfl,Y8,_,Zd⟩;have Yy:=H (ac (am (VT _ Zs) _) Y8);have Yv:=H Zd;clear Y8 Zd)
   | (go_at_call 14;refine(U Yv).mono ?_;rintro b Zn ⟨ZS,c3,rfl,Zk,Y2⟩;have WZ:=H (ac (U Yy) Y2);have WX:=H (ac (U W) (U WZ));have YG:=H ((U YI).aa (U WZ));have YL:=H ((U YM).aa (U WZ));have YP:=H ((U YO).aa (U WZ));have YQ:=H Zk;clear Y2 Zk))
  clear W YI YM YO Yy Yv WZ
  go_upto_region 8 with (first
   | (refine a1 ?_ 28 (.tmp 4) rfl _ (by simp[Act.eval,Act.put]) _ (U s _ (U WX)) ?_;. simp[Region.wanted,yielded])
   | (go_at_call 18;refine(U W2 Zo (U Yo) _ _ (U YA)).mono ?_;rintro b ZY ⟨rfl,Y4,_,Y9⟩;have Yw:=H (ac (U XQ) (ac (am (VT _ Zo) _) Y4));have Ys:=H Y9;clear Y4 Y9)
   | (go_at_call 18;refine(U WL Zn (U WX)).mono ?_;rintro b Zo ⟨rfl,Y3,YZ,_⟩;unfold it;have XQ:=H (ac (am (VT _ Zn) _) Y3);have Yo:=H (ac (U WX) (U XQ));have YA:=H YZ;clear Y3 YZ)
   | (go_at_call 14;refine(U Ys).mono ?_;rintro b WF ⟨ZT,Zz,rfl,Zl,Y5⟩;have WJ:=H (ac (U Yw) Y5);have XL:=H (ac (U WX) (U WJ));have VW:=H ((U YG).aa (U WJ));have WM:=H ((U YL).aa (U WJ));have Wr:=H ((U YP).aa (U WJ));have Ws:=H ((U YQ).aa (U WJ));have Wt:=H Zl;clear Y5 Zl))
  clear WX YG YL YP YQ XQ Yo YA Yw Ys WJ WL W2;have WK:=H (oM WF);have WH:=H (ac (U w) (U XL));cases YU;case false=>clear VW WM Wr Ws Wt Wq;go_wp2_with (go_at_call 11;refine(U WK).mono ?_;rintro b WV ⟨rfl,t⟩);go_ret;exact⟨rfl,ac (U WH) t⟩
  cases YV;case false=>clear VW WM Wr Ws Wt Wq;go_wp2_with (go_at_call 11;refine(U WK).mono ?_;rintro b WV ⟨rfl,t⟩);go_ret;exact⟨rfl,ac (U WH) t⟩
  cases XA;case false=>clear VW WM Wr Ws Wt Wq;go_wp2_with (go_at_call 11;refine(U WK).mono ?_;rintro b WV ⟨rfl,t⟩);go_ret;exact⟨rfl,ac (U WH) t⟩
  cases YW;case false=>clear VW WM Wr Ws Wt Wq;go_wp2_with (go_at_call 11;refine(U WK).mono ?_;rintro b WV ⟨rfl,t⟩);go_ret;exact⟨rfl,ac (U WH) t⟩
  cases YX;case false=>clear VW WM Wr Ws Wt Wq;go_wp2_with (go_at_call 11;refine(U WK).mono ?_;rintro b WV ⟨rfl,t⟩);go_ret;exact⟨rfl,ac (U WH) t⟩
  obtain⟨Wx,Wb,Wc,Wd,⟨XH,Ze⟩,⟨Za,ZK⟩,Y1⟩:=U Wq rfl rfl rfl rfl rfl;have ZA:=Wb.symm;have ZB:=Wc.symm;subst Wx ZA ZB;have YR:=H (Uk (c1:=B) (c2:=XB) (λb k=>(XH b k).1) (U Wr) (U VW) (by omega));have XW:=H (λ(c:World) (e:Bw WF c)=>Uk (c1:=c3) (c2:=Zz) (λb k=>(Za b k).1) ((U Ws).aa e) ((U Wt).aa e) (by omega));have XX:=H (λ(c:World) (e:Bw WF c)=>jE (c1:=XB) (a2:=none) (c2:=0) (rs2:=[]) ((U VW).aa e) (.inl rfl) XH (λb k=>by cases k) (by simp;omega));simp only[List.length_nil] at XX;have YF:=H (λ(c:World) (e:Bw WF c)=>(U VW).aa e);have XV:=H Wd;have Xx:=H Y1;have r:=H XH;obtain⟨ZW,XI⟩:=bj W7.length;rw[XI] at XV;simp only[XI] at XW;simp only[List.length_nil,XI];clear VW WM Wr Ws Wt Wq Za ZK Y1 XH Wd XI WK Wb Wc
  go_upto_region 12 with (first
   | (go_at_call 10;refine(U XW WV (U XR)).mono ?_;rintro b ZQ ⟨rfl,Y6⟩;have XS:=H (ac (U XR) Y6);clear Y6)
   | (go_at_call 10;refine(U YR).mono ?_;rintro b WV ⟨rfl,t⟩;have XR:=H t;clear t)
   | (go_at_call 17;refine(U XX ZQ (U XS)).mono ?_;rintro b Xq ⟨ZV,rfl,Zg,_,Y7⟩;have Zf:=Zg.len 3;rw[U XV] at Zf;have XT:=H (ac (U XS) Y7);clear Zg Y7))
  have V9:=H (ac (U XL) (U XT));have Xw:=H (U YF Xq (U XT));clear YR XW XX YF XV Zf XR XS XT XL WH;by_cases ZL:i<0
  .go_upto_region 14 with fail;obtain⟨W9,R⟩:=bn (gO d (Ul j 0 0 a) == 0);obtain⟨Xa,C⟩:=bn (gO d (Ul j 1099511627776 0 a) == 0);obtain⟨V0,Wy⟩:=bn (VC d (Ul j 0 0 a));obtain⟨V1,Wz⟩:=bn (VC d (Ul j 1099511627776 0 a));(have Z:Hid (W9=true->Xa=true->(V0++V1).Perm O/\((V0.length:Int)=0∨V1.length=0)):=λX1 X2=>by rw[Wy,Wz];exact U Xx j 0 (by omega) (of_decide_eq_true (R.symm.trans X1)) (of_decide_eq_true (C.symm.trans X2)));have Wg:=H (U WN 0 ⟨by decide,by decide⟩ Xq (U V9));have Wh:=H (U WO 0 ⟨by decide,by decide⟩);simp only[<-R,<-Wy] at Wg;simp only[<-C,<-Wz] at Wh;clear R C Wy Wz Xx WN WO
   go_upto_region 15 with (first
    | (refine a1 ?_ 28 (.tmp 4) rfl _ (by simp[Act.eval,Act.put]) _ (U s _ (U V9)) ?_;. simp[Region.wanted,yielded])
    | (go_at_call 14;refine(U Wg).mono ?_;rintro b Xr ⟨Zx,XY,rfl,Xo,Xl⟩;have Wk:=H (ac (am (VT _ Xq) _) Xl);have T:=H (ac (U V9) (U Wk));have W4:=H ((U Xw).aa (U Wk));have W5:=H Xo;clear Xl Xo))
   clear Wg
   go_upto_region 16 with (first
    | (refine a1 ?_ 28 (.tmp 4) rfl _ (by simp[Act.eval,Act.put]) _ (U s _ (U T)) ?_;. simp[Region.wanted,yielded])
    | (go_at_call 14;refine(U Wh Xr (U T)).mono ?_;rintro b WG ⟨Zy,XZ,rfl,Xp,Xm⟩;have X:=H (ac (am (VT _ Xr) _) Xm);have V:=H (ac (U w) (ac (U T) (U X)));have VX:=H ((U W4).aa (U X));have VY:=H ((U W5).aa (U X));have VZ:=H Xp;clear Xm Xp))
   clear Wh Wk T W4 W5 X Xw V9 s W0 Xy Y W3;have Wl:=H (oM WG);cases W9;(case false=>clear VX VY VZ Z;go_wp2_with (go_at_call 11;refine(U Wl).mono ?_;rintro b N ⟨rfl,m⟩);go_ret;exact⟨rfl,ac (U V) m⟩);cases Xa;(case false=>clear VX VY VZ Z;go_wp2_with (go_at_call 11;refine(U Wl).mono ?_;rintro b N ⟨rfl,m⟩);go_ret;exact⟨rfl,ac (U V) m⟩);obtain⟨q,V6⟩:=U Z rfl rfl;have Xn:=q.length_eq;rw[bG] at Xn;have Wu:=H (jE (c1:=XY) (c2:=XZ) (U VY) (U VZ) (λb k=>U r b (q.mem_iff.1 (List.mem_append_left _ k))) (λb k=>U r b (q.mem_iff.1 (List.mem_append_right _ k))) (by omega));have Wv:=H (λ(c:World) (e:Bw WG c)=>jE (c1:=XB) (a2:=none) (c2:=0) (rs2:=[]) ((U VX).aa e) (.inl rfl) (U r) (λb k=>by cases k) (by simp;omega));simp only[List.length_nil] at Wv;have W6:Hid (∀(L K:Nat) (c:World),h9 c L (V0++V1)->h9 c K (O++[])->Calls prog 16 #[.map (some L),.map (some K)] c λXC v=>XC=.returned (.bool true)/\Bw c v):=λL K c We V3=>rc We V3 (λx=>by rw[VI];exact wg q x) (by rw[VI];exact(Ad q).length_eq) (λb k=>U r b (q.mem_iff.1 k));obtain⟨WE,WC⟩:=bj V0.length;obtain⟨Yg,WD⟩:=bj V1.length;rw[WC,WD] at V6;rw[WC,WD] at Wu ⊢;clear VX VY VZ Z Wl q Xn r WC WD Ze;by_cases J:(WE:Int)=0
   ·(have Yi:((WE:Int) == 0)=true:=by simpa using J);clear J V6
    go_wp2_with (first
     | (go_at_call 17;refine(U Wv N (U y)).mono ?_;rintro b Yl ⟨K,rfl,F,_,p⟩;have Wp:=H ((U Wn).ky (G:=λ_=>False) (Ky.ab p) (λh=>h));have Wm:=H F;have Wi:=H p;clear F p)
     | (go_at_call 17;refine(U Wu).mono ?_;rintro b N ⟨L,rfl,I,_,m⟩;have Wn:=H I;have y:=H m;clear I m)
     | (go_at_call 16;refine(U W6 _ _ _ (U Wp) (U Wm)).mono ?_;rintro b Ym ⟨rfl,WA⟩)
     | (go_at_call 11;refine(oM _).mono ?_;rintro b Yn ⟨rfl,WB⟩))
    go_ret;exact⟨rfl,ac (U V) (ac (U y) (ac (U Wi) (ac WA WB)))⟩
   ·(have Yi:((WE:Int) == 0)=false:=by simpa using J);have Yj:Yg=0:=V6.resolve_left J;subst Yj;clear J V6
    go_wp2_with (first
     | (go_at_call 17;refine(U Wv N (U y)).mono ?_;rintro b Yl ⟨K,rfl,F,_,p⟩;have Wp:=H ((U Wn).ky (G:=λ_=>False) (Ky.ab p) (λh=>h));have Wm:=H F;have Wi:=H p;clear F p)
     | (go_at_call 17;refine(U Wu).mono ?_;rintro b N ⟨L,rfl,I,_,m⟩;have Wn:=H I;have y:=H m;clear I m)
     | (go_at_call 16;refine(U W6 _ _ _ (U Wp) (U Wm)).mono ?_;rintro b Ym ⟨rfl,WA⟩)
     | (go_at_call 11;refine(oM _).mono ?_;rintro b Yn ⟨rfl,WB⟩))
    go_ret;exact⟨rfl,ac (U V) (ac (U y) (ac (U Wi) (ac WA WB)))⟩
  .have ZU:¬i<0:=ZL;go_upto_region 14 with fail;obtain⟨W9,R⟩:=bn (gO d (Ul j i 0 a) == 0);obtain⟨Xa,C⟩:=bn (gO d (Ul j 1099511627776 i a) == 0);obtain⟨V0,Wy⟩:=bn (VC d (Ul j i 0 a));obtain⟨V1,Wz⟩:=bn (VC d (Ul j 1099511627776 i a));(have Z:Hid (W9=true->Xa=true->(V0++V1).Perm O/\((V0.length:Int)=i∨V1.length=0)):=λX1 X2=>by rw[Wy,Wz];exact U Xx j i (by omega) (of_decide_eq_true (R.symm.trans X1)) (of_decide_eq_true (C.symm.trans X2)));have Wg:=H (U WN i (U Yz) Xq (U V9));have Wh:=H (U WO i (U Yz));simp only[<-R,<-Wy] at Wg;simp only[<-C,<-Wz] at Wh;clear R C Wy Wz Xx WN WO
   go_upto_region 15 with (first
    | (refine a1 ?_ 28 (.tmp 4) rfl _ (by simp[Act.eval,Act.put]) _ (U s _ (U V9)) ?_;. simp[Region.wanted,yielded])
    | (go_at_call 14;refine(U Wg).mono ?_;rintro b Xr ⟨Zx,XY,rfl,Xo,Xl⟩;have Wk:=H (ac (am (VT _ Xq) _) Xl);have T:=H (ac (U V9) (U Wk));have W4:=H ((U Xw).aa (U Wk));have W5:=H Xo;clear Xl Xo))
   clear Wg
   go_upto_region 16 with (first
    | (refine a1 ?_ 28 (.tmp 4) rfl _ (by simp[Act.eval,Act.put]) _ (U s _ (U T)) ?_;. simp[Region.wanted,yielded])
    | (go_at_call 14;refine(U Wh Xr (U T)).mono ?_;rintro b WG ⟨Zy,XZ,rfl,Xp,Xm⟩;have X:=H (ac (am (VT _ Xr) _) Xm);have V:=H (ac (U w) (ac (U T) (U X)));have VX:=H ((U W4).aa (U X));have VY:=H ((U W5).aa (U X));have VZ:=H Xp;clear Xm Xp))
   clear Wh Wk T W4 W5 X Xw V9 s W0 Xy Y W3;have Wl:=H (oM WG);cases W9;(case false=>clear VX VY VZ Z;go_wp2_with (go_at_call 11;refine(U Wl).mono ?_;rintro b N ⟨rfl,m⟩);go_ret;exact⟨rfl,ac (U V) m⟩);cases Xa;(case false=>clear VX VY VZ Z;go_wp2_with (go_at_call 11;refine(U Wl).mono ?_;rintro b N ⟨rfl,m⟩);go_ret;exact⟨rfl,ac (U V) m⟩);obtain⟨q,V6⟩:=U Z rfl rfl;have Xn:=q.length_eq;rw[bG] at Xn;have Wu:=H (jE (c1:=XY) (c2:=XZ) (U VY) (U VZ) (λb k=>U r b (q.mem_iff.1 (List.mem_append_left _ k))) (λb k=>U r b (q.mem_iff.1 (List.mem_append_right _ k))) (by omega));have Wv:=H (λ(c:World) (e:Bw WG c)=>jE (c1:=XB) (a2:=none) (c2:=0) (rs2:=[]) ((U VX).aa e) (.inl rfl) (U r) (λb k=>by cases k) (by simp;omega));simp only[List.length_nil] at Wv;have W6:Hid (∀(L K:Nat) (c:World),h9 c L (V0++V1)->h9 c K (O++[])->Calls prog 16 #[.map (some L),.map (some K)] c λXC v=>XC=.returned (.bool true)/\Bw c v):=λL K c We V3=>rc We V3 (λx=>by rw[VI];exact wg q x) (by rw[VI];exact(Ad q).length_eq) (λb k=>U r b (q.mem_iff.1 k));obtain⟨WE,WC⟩:=bj V0.length;obtain⟨Yg,WD⟩:=bj V1.length;rw[WC,WD] at V6;rw[WC,WD] at Wu ⊢;clear VX VY VZ Z Wl q Xn r WC WD Ze;by_cases J:(WE:Int)=i
   ·(have Yi:((WE:Int) == i)=true:=by simpa using J);clear J V6
    go_wp2_with (first
     | (go_at_call 17;refine(U Wv N (U y)).mono ?_;rintro b Yl ⟨K,rfl,F,_,p⟩;have Wp:=H ((U Wn).ky (G:=λ_=>False) (Ky.ab p) (λh=>h));have Wm:=H F;have Wi:=H p;clear F p)
     | (go_at_call 17;refine(U Wu).mono ?_;rintro b N ⟨L,rfl,I,_,m⟩;have Wn:=H I;have y:=H m;clear I m)
     | (go_at_call 16;refine(U W6 _ _ _ (U Wp) (U Wm)).mono ?_;rintro b Ym ⟨rfl,WA⟩)
     | (go_at_call 11;refine(oM _).mono ?_;rintro b Yn ⟨rfl,WB⟩))
    go_ret;exact⟨rfl,ac (U V) (ac (U y) (ac (U Wi) (ac WA WB)))⟩
   ·(have Yi:((WE:Int) == i)=false:=by simpa using J);have Yj:Yg=0:=V6.resolve_left J;subst Yj;clear J V6
    go_wp2_with (first
     | (go_at_call 17;refine(U Wv N (U y)).mono ?_;rintro b Yl ⟨K,rfl,F,_,p⟩;have Wp:=H ((U Wn).ky (G:=λ_=>False) (Ky.ab p) (λh=>h));have Wm:=H F;have Wi:=H p;clear F p)
     | (go_at_call 17;refine(U Wu).mono ?_;rintro b N ⟨L,rfl,I,_,m⟩;have Wn:=H I;have y:=H m;clear I m)
     | (go_at_call 16;refine(U W6 _ _ _ (U Wp) (U Wm)).mono ?_;rintro b Ym ⟨rfl,WA⟩)
     | (go_at_call 11;refine(oM _).mono ?_;rintro b Yn ⟨rfl,WB⟩))
    go_ret;exact⟨rfl,ac (U V) (ac (U y) (ac (U Wi) (ac WA WB)))⟩
end Go.Proofs.YtklgoolblpmmlaaGreat
