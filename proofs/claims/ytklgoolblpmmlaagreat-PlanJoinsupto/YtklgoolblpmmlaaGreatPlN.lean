import Derived.Test.YtklgoolblpmmlaaGreatPlL
set_option linter.all false
set_option maxHeartbeats 4000000
set_option maxRecDepth 100000
namespace Go.Proofs.YtklgoolblpmmlaaGreat
open Go.RowKit Go.Sort Go.Proofs.Tryz
theorem lS{α:Type}{n:Nat}{p:Nat->α->Prop}(h:∀a,a<n->∃d,p a d):∃c:List α,c.length=n/\∀a d,c[a]?=some d->p a d:=by
 induction n with
 | zero=>exact⟨[],rfl,λa d e=>by simp at e⟩
 | succ n o=>obtain⟨c,k,l⟩:=o λa e=>h a (by omega);obtain⟨d,j⟩:=h n (by omega);refine⟨c++[d],by simp[k],λa g b=>?_⟩;by_cases e:a<n;(.rw[eK (by omega)] at b;exact l a g b);.rw[ez (by omega)] at b;(have:a-c.length=0:=by by_cases i:a-c.length=0;(.exact i);.obtain⟨f,m⟩:∃f,a-c.length=f+1:=⟨a-c.length-1,by omega⟩;rw[m] at b;simp at b);rw[this] at b;simp at b;subst b;(have:a=n:=by omega);subst this;exact j
variable{W w:World}{a:Option Addr}{L:List Ex}{c:aH}{x y:List aH}{C:List Int}{j k m n:Nat}{I:Int}{r:List (List aH)}{T:List Tb}{p:Pl}{g:Pm}
theorem y4(h:Ex.all w a L):∃l:List Value,l.length=L.length/\xc w a l/\∀(c:Nat) b e,L[c]?=some b->l[c]?=some e->∃d f,e=b.val d f/\Ex.all w d b.args:=by
 by_cases z:L=[];.subst z;exact⟨[],rfl,.inl rfl,λc b e k=>by simp at k⟩
 obtain⟨K,E⟩:∃g,L[0]?=some g:=by cases L with|nil=>exact absurd rfl z|cons g L=>exact⟨g,rfl⟩
 obtain⟨r,C,A,_⟩:=Ex.ag h E;obtain⟨l,G,B⟩:=lS (n:=L.length) (p:=λc (e:Value)=>∃b d f,L[c]?=some b/\e=b.val d f/\Ex.all w d b.args/\∀j,Bw w j->(Instr.loadAt 45 (.pointer (some ⟨r,C+c*6,none⟩))).run prog j=.ok e j) λc F=>by obtain⟨b,k⟩:∃b,L[c]?=some b:=⟨_,VR F⟩;obtain⟨J,M,g,D⟩:=Ex.ag h k;rw[A] at g;simp only[Option.some.injEq,Addr.mk.injEq,and_true] at g;obtain⟨rfl,rfl⟩:=g;obtain⟨d,f,⟨s,t,u,v,x,y⟩,o⟩:=Ex.ah D;refine⟨b.val d f,b,d,f,k,rfl,o,λj i=>?_⟩;replace s:=ae s i;replace t:=ae t i;replace u:=ae u i;replace v:=ae v i;replace x:=ae x i;replace y:=ae y i;unfold Ex.val;go_simp
 refine⟨l,G,.inr ⟨r,C,A,λc e q j i=>?_⟩,λc b e k q=>?_⟩;.obtain⟨b,d,f,_,_,_,I⟩:=B c e q;exact I j i
 .obtain⟨N,d,f,m,g,o,_⟩:=B c e q;rw[k] at m;injection m with m;subst m;exact⟨d,f,g,o⟩
theorem kd(d:List Ex)(k:Ex->Bool)(e:Nat)(s:∀args a,(callFunc e args).run prog a=.ok (.enter e args) a)(i:Option Addr)(n:Nat)(a:World)(C:d.length<=140737488355328)(u:Ex.all a i d) (x:∀(g:Nat) c,d[g]?=some c->∀f j b,Bw a b->Ex.all b f c.args->Calls prog e #[c.val f j] b λl m=>l=.returned (.bool (k c))/\Bw b m):Calls prog 61 #[.slice i d.length n,.func (.func e) #[] #[]] a λl m=>l=.returned (.bool (d.any k))/\Bw a m:=by obtain⟨A,q,w,y⟩:=y4 u;have h:=U4 A (d.map k) (by rw[bQ,q]) i n (.func (.func e) #[] #[]) a (by omega) w ⟨e,#[],rfl,s,λg z B b t o p=>by rw[bL] at o;obtain⟨c,r,rfl⟩:=Option.map_eq_some_iff.1 o;obtain⟨f,j,rfl,v⟩:=y g c z r t;exact x g c r f j b p (Ex.af _ v p)⟩;rw[q,List.any_map] at h;exact h
theorem Cg{e:List Pl}(h:Pl.all w a e):∃k:List Value,k.length=e.length/\UA w a k/\∀(c:Nat) b f,e[c]?=some b->k[c]?=some f->∃d,f=b.val d/\hI w b d:=by
 by_cases s:e=[];.subst s;exact⟨[],rfl,.inl rfl,λc b f j=>by simp at j⟩
 obtain⟨F,y⟩:∃g,e[0]?=some g:=by cases e with|nil=>exact absurd rfl s|cons g e=>exact⟨g,rfl⟩
 obtain⟨r,v,t,_⟩:=Pl.ag h y;obtain⟨k,B,u⟩:=lS (n:=e.length) (p:=λc (f:Value)=>∃b d,e[c]?=some b/\f=b.val d/\hI w b d/\∀i,Bw w i->(Instr.loadAt 28 (.pointer (some ⟨r,v+c*11,none⟩))).run prog i=.ok f i) λc A=>by obtain⟨b,j⟩:∃b,e[c]?=some b:=⟨_,VR A⟩;obtain⟨E,G,g,x⟩:=Pl.ag h j;rw[t] at g;simp only[Option.some.injEq,Addr.mk.injEq,and_true] at g;obtain⟨rfl,rfl⟩:=g;obtain⟨d,z,D,o⟩:=Pl.ah x;exact⟨b.val d,b,d,j,rfl,⟨D,o⟩,λi m=>(z.aa m).load⟩
 refine⟨k,B,.inr ⟨r,v,t,λc f q i m=>?_⟩,λc b f j q=>?_⟩;.obtain⟨b,d,_,_,_,C⟩:=u c f q;exact C i m
 .obtain⟨I,d,l,g,o,_⟩:=u c f q;rw[j] at l;injection l with l;subst l;exact⟨d,g,o⟩
theorem qg(d:List Pl)(j:Pl->Bool)(e:Nat)(r:∀args a,(callFunc e args).run prog a=.ok (.enter e args) a)(i:Option Addr)(m:Nat)(a:World)(B:d.length<=140737488355328)(t:Pl.all a i d) (w:∀(f:Nat) c,d[f]?=some c->∀g b,Bw a b->hI b c g->Calls prog e #[c.val g] b λk l=>k=.returned (.bool (j c))/\Bw b l):Calls prog 63 #[.slice i d.length m,.func (.func e) #[] #[]] a λk l=>k=.returned (.bool (d.any j))/\Bw a l:=by obtain⟨z,p,v,x⟩:=Cg t;have h:=wT z (d.map j) (by rw[bQ,p]) i m (.func (.func e) #[] #[]) a (by omega) v ⟨e,#[],rfl,r,λf y A b s n o=>by rw[bL] at n;obtain⟨c,q,rfl⟩:=Option.map_eq_some_iff.1 n;obtain⟨g,rfl,u⟩:=x f c y q s;exact w f c q g b o (u.aa o)⟩;rw[p,List.any_map] at h;exact h
def kC(x a:aH):Bool:=decide (x.k=a.k) && (decide (x.n=a.n) && decide (x.s=a.s))
theorem pw{x:aH}(h:kC x c=true):x=c:=by unfold kC at h;simp only[cc,cF] at h;cases x;cases c;simp only at h;obtain⟨rfl,rfl,rfl⟩:=h;rfl
theorem VB(x:aH):kC x x=true:=by unfold kC;simp
theorem DA(x a:aH)(d:World):(binOp .neq 43 (.agg #[.int .i64 x.k,.int .i64 x.n,.string x.s]) (.agg #[.int .i64 a.k,.int .i64 a.n,.string a.s])).run prog d=.ok (.bool (!kC x a)) d:=by
 have o:=underlying2;have p:=underlying3;have q:=underlying9;have l:=isAgg2;have m:=isAgg3;have n:=isAgg9;have r:=sizeOf2;have s:=sizeOf3;have t:=sizeOf9;have i:Tryz.prog.underlying 43=some (.struct (Tryz.prog.fieldsOf 43)):=by kernel_rfl
 have k:Tryz.prog.stoodInHeld 43=false:=by kernel_rfl
 unfold kC;rw[run_neq_struct,show (10000:Nat)=9999+1 from rfl,run_equalIn_agg d 9999 43 _ _ i k];simp only[Program.fieldsOf,underlying43];go_simp;have j:∀b c:ByteArray,b.toList=c.toList ↔ b=c:=λb c=>by rw[ByteArray.toList_eq,ByteArray.toList_eq];exact⟨λh=>ByteArray.ext (Array.toList_inj.1 h),λh=>by rw[h]⟩
 by_cases e:x.k=a.k<;>by_cases f:x.n=a.n<;>by_cases g:x.s=a.s<;>simp[e,f,g,j]
mutual
def eX:Ex->Bool
 | .mk b d a c=>(decide (¬b=1) && decide (¬d=0)) || (decide (¬b=2) && !kC a .null) || !kC a (bk a) || mB c
def mB:List Ex->Bool
 | []=>false
 | a::b=>eX a || mB b
end
theorem mA:∀a:List Ex,mB a=a.any eX
 | []=>by rw[mB];rfl
 | b::a=>by rw[mB,List.any_cons,mA a]
theorem vW(a:Ex):eX a=((decide (¬a.op=1) && decide (¬a.n=0)) || (decide (¬a.op=2) && !kC a.v .null) || !kC a.v (bk a.v) || a.args.any eX):=by cases a;rw[eX,mA];rfl
theorem nL(a:Ex)(X:a.fin)(v:Option Addr)(x:Nat)(r:World)(W:Ex.all r v a.args) (O:∀(L:Nat) y,a.args[L]?=some y->∀D J b,Ex.all b D y.args->Calls prog 113 #[y.val D J] b λB C=>B=.returned (.bool (eX y))/\Bw b C):Calls prog 113 #[a.val v x] r λB C=>B=.returned (.bool (eX a))/\Bw r C:=by
 obtain⟨⟨VX,_,_,_⟩,_⟩:=Ex.an X;have F:=am (VT _ r) (a.box v x);have G:=ee.new r a v x;unfold Ex.box at F G;obtain⟨u,E⟩:=bn (eX a);rw[<-E];rw[vW] at E;have s:Hid (∀b,Bw r b->Calls prog 61 #[.slice v a.args.length x,.func (.func 113) #[] #[]] b λB C=>B=.returned (.bool (a.args.any eX))/\Bw b C):=λb Z=> kd a.args eX 113 (λargs r=>by kernel_rfl) v x b VX (Ex.af _ W Z) λL y VY D J Y _ VW=>O L y VY D J Y VW;have f:=H (ec a.v);have g:=H (DA a.v .null);have d:=H (DA a.v (bk a.v));rw[Ex.ad];rw[aH.open_] at f;generalize a.args.any eX=I at *;clear O W X;obtain⟨k,K⟩:=bn (r.alloc (a.box v x));rw[<-K] at F G;have e:=H F;have t:=H K;obtain⟨P,Q,R,S,T,V⟩:=G;have V0:=cell_regrown P;have V1:=cell_regrown Q;have V2:=cell_regrown R;have V3:=cell_regrown S;have V4:=cell_regrown T;have V5:=cell_regrown V;have i:=H E;clear F K P Q R S T V E;by_cases o:a.op=1
 .have p1:(a.op != 1)=false:=by rw[o];rfl
  have p2:(a.op != 2)=true:=by rw[o];rfl
  cases m:kC a.v .null
  .rw[m] at g;have M:∀b,(binOp .neq 43 (.agg #[.int .i64 a.v.k,.int .i64 a.v.n,.string a.v.s]) (.agg #[.int .i64 0,.int .i64 0,.string ⟨#[]⟩])).run prog b=.ok (.bool true) b:=λb=>U g b;(obtain rfl:u=true:=by rw[U i,o,m];rfl);clear i m o g;go_enter func113,ntmps113;go_upto_region 1 with fail;rw[<-U t];refine wp_region_quiet_below (by kernel_rfl) (by kernel_rfl) ?_
   repeat (go_big_quiet_step (first
    | (go_at_call 47;exact Calls.regrown_of (U f _))
    | (go_at_call 61;exact Calls.regrown_of (U s _ (ac (U e) (below_regrown _ _ _))))))
   refine wpQuiet_nil ?_;intro n c;(have l:Bw k n:=by obtain⟨w,rfl⟩:=c;exact below_regrown _ _ _);clear c;go_wp2;go_ret;exact⟨rfl,ac (U e) l⟩
  .have A:=pw m;(have q:bk a.v=a.v:=by rw[A];rfl);rw[q] at f d;rw[VB] at d;rw[m] at g;have M:∀b,(binOp .neq 43 (.agg #[.int .i64 a.v.k,.int .i64 a.v.n,.string a.v.s]) (.agg #[.int .i64 0,.int .i64 0,.string ⟨#[]⟩])).run prog b=.ok (.bool false) b:=λb=>U g b;have N:∀b,(binOp .neq 43 (.agg #[.int .i64 a.v.k,.int .i64 a.v.n,.string a.v.s]) (.agg #[.int .i64 a.v.k,.int .i64 a.v.n,.string a.v.s])).run prog b=.ok (.bool false) b:=λb=>U d b;(obtain rfl:u=I:=by rw[U i,o,m,q,VB];rfl);rw[aH.open_] at f;clear i m o g d A q;go_enter func113,ntmps113;go_upto_region 1 with fail;rw[<-U t];refine wp_region_quiet_below (by kernel_rfl) (by kernel_rfl) ?_
   repeat (go_big_quiet_step (first
    | (go_at_call 47;exact Calls.regrown_of (U f _))
    | (go_at_call 61;exact Calls.regrown_of (U s _ (ac (U e) (below_regrown _ _ _))))))
   refine wpQuiet_nil ?_;intro n c;(have l:Bw k n:=by obtain⟨w,rfl⟩:=c;exact below_regrown _ _ _);clear c;go_wp2;go_ret;exact⟨rfl,ac (U e) l⟩
 by_cases p:a.op=2
 .have p1:(a.op != 1)=true:=by rw[p];rfl
  have p2:(a.op != 2)=false:=by rw[p];rfl
  by_cases j:a.n=0
  ·(have p3:(a.n != 0)=false:=by rw[j];rfl);cases z:kC a.v (bk a.v)
   .rw[z] at d;have N:∀b,(binOp .neq 43 (.agg #[.int .i64 a.v.k,.int .i64 a.v.n,.string a.v.s]) (.agg #[.int .i64 (bk a.v).k,.int .i64 (bk a.v).n,.string (bk a.v).s])).run prog b=.ok (.bool true) b:=λb=>U d b;(obtain rfl:u=true:=by rw[U i,p,j,z];rfl);rw[aH.open_] at f;generalize bk a.v=VZ at *;clear i z o p g d j;go_enter func113,ntmps113;go_upto_region 1 with fail;rw[<-U t];refine wp_region_quiet_below (by kernel_rfl) (by kernel_rfl) ?_
    repeat (go_big_quiet_step (first
     | (go_at_call 47;exact Calls.regrown_of (U f _))
     | (go_at_call 61;exact Calls.regrown_of (U s _ (ac (U e) (below_regrown _ _ _))))))
    refine wpQuiet_nil ?_;intro n c;(have l:Bw k n:=by obtain⟨w,rfl⟩:=c;exact below_regrown _ _ _);clear c;go_wp2;go_ret;exact⟨rfl,ac (U e) l⟩
   .have q:=(pw z).symm;rw[q] at f d;rw[VB] at d;have N:∀b,(binOp .neq 43 (.agg #[.int .i64 a.v.k,.int .i64 a.v.n,.string a.v.s]) (.agg #[.int .i64 a.v.k,.int .i64 a.v.n,.string a.v.s])).run prog b=.ok (.bool false) b:=λb=>U d b;(obtain rfl:u=I:=by rw[U i,p,j,q,VB];rfl);rw[aH.open_] at f;clear i z o p g d j q;go_enter func113,ntmps113;go_upto_region 1 with fail;rw[<-U t];refine wp_region_quiet_below (by kernel_rfl) (by kernel_rfl) ?_
    repeat (go_big_quiet_step (first
     | (go_at_call 47;exact Calls.regrown_of (U f _))
     | (go_at_call 61;exact Calls.regrown_of (U s _ (ac (U e) (below_regrown _ _ _))))))
    refine wpQuiet_nil ?_;intro n c;(have l:Bw k n:=by obtain⟨w,rfl⟩:=c;exact below_regrown _ _ _);clear c;go_wp2;go_ret;exact⟨rfl,ac (U e) l⟩
  ·(have p3:(a.n != 0)=true:=by simpa using j);(obtain rfl:u=true:=by rw[U i,p];simp[j]);clear i o p g d j;go_enter func113,ntmps113;go_upto_region 1 with fail;rw[<-U t];refine wp_region_quiet_below (by kernel_rfl) (by kernel_rfl) ?_
   repeat (go_big_quiet_step (first
    | (go_at_call 47;exact Calls.regrown_of (U f _))
    | (go_at_call 61;exact Calls.regrown_of (U s _ (ac (U e) (below_regrown _ _ _))))))
   refine wpQuiet_nil ?_;intro n c;(have l:Bw k n:=by obtain⟨w,rfl⟩:=c;exact below_regrown _ _ _);clear c;go_wp2;go_ret;exact⟨rfl,ac (U e) l⟩
 .have p1:(a.op != 1)=true:=by simpa using o
  have p2:(a.op != 2)=true:=by simpa using p
  by_cases j:a.n=0
  ·(have p3:(a.n != 0)=false:=by rw[j];rfl);cases m:kC a.v .null
   .rw[m] at g;have M:∀b,(binOp .neq 43 (.agg #[.int .i64 a.v.k,.int .i64 a.v.n,.string a.v.s]) (.agg #[.int .i64 0,.int .i64 0,.string ⟨#[]⟩])).run prog b=.ok (.bool true) b:=λb=>U g b;(obtain rfl:u=true:=by rw[U i,m];simp[p]);clear i m o p g j;go_enter func113,ntmps113;go_upto_region 1 with fail;rw[<-U t];refine wp_region_quiet_below (by kernel_rfl) (by kernel_rfl) ?_
    repeat (go_big_quiet_step (first
     | (go_at_call 47;exact Calls.regrown_of (U f _))
     | (go_at_call 61;exact Calls.regrown_of (U s _ (ac (U e) (below_regrown _ _ _))))))
    refine wpQuiet_nil ?_;intro n c;(have l:Bw k n:=by obtain⟨w,rfl⟩:=c;exact below_regrown _ _ _);clear c;go_wp2;go_ret;exact⟨rfl,ac (U e) l⟩
   .have A:=pw m;(have q:bk a.v=a.v:=by rw[A];rfl);rw[q] at f d;rw[VB] at d;rw[m] at g;have M:∀b,(binOp .neq 43 (.agg #[.int .i64 a.v.k,.int .i64 a.v.n,.string a.v.s]) (.agg #[.int .i64 0,.int .i64 0,.string ⟨#[]⟩])).run prog b=.ok (.bool false) b:=λb=>U g b;have N:∀b,(binOp .neq 43 (.agg #[.int .i64 a.v.k,.int .i64 a.v.n,.string a.v.s]) (.agg #[.int .i64 a.v.k,.int .i64 a.v.n,.string a.v.s])).run prog b=.ok (.bool false) b:=λb=>U d b;(obtain rfl:u=I:=by rw[U i,m,q,VB,j];simp);rw[aH.open_] at f;clear i m o p g d A q j;go_enter func113,ntmps113;go_upto_region 1 with fail;rw[<-U t];refine wp_region_quiet_below (by kernel_rfl) (by kernel_rfl) ?_
    repeat (go_big_quiet_step (first
     | (go_at_call 47;exact Calls.regrown_of (U f _))
     | (go_at_call 61;exact Calls.regrown_of (U s _ (ac (U e) (below_regrown _ _ _))))))
    refine wpQuiet_nil ?_;intro n c;(have l:Bw k n:=by obtain⟨w,rfl⟩:=c;exact below_regrown _ _ _);clear c;go_wp2;go_ret;exact⟨rfl,ac (U e) l⟩
  ·(have p3:(a.n != 0)=true:=by simpa using j);(obtain rfl:u=true:=by rw[U i];simp[j,o]);clear i o p g d j;go_enter func113,ntmps113;go_upto_region 1 with fail;rw[<-U t];refine wp_region_quiet_below (by kernel_rfl) (by kernel_rfl) ?_
   repeat (go_big_quiet_step (first
    | (go_at_call 47;exact Calls.regrown_of (U f _))
    | (go_at_call 61;exact Calls.regrown_of (U s _ (ac (U e) (below_regrown _ _ _))))))
   refine wpQuiet_nil ?_;intro n c;(have l:Bw k n:=by obtain⟨w,rfl⟩:=c;exact below_regrown _ _ _);clear c;go_wp2;go_ret;exact⟨rfl,ac (U e) l⟩
theorem jR:∀(e:Nat) (a:Ex),a.size<=e->a.fin->∀(c:Option Addr) (d:Nat) (b:World),Ex.all b c a.args->Calls prog 113 #[a.val c d] b λo p=>o=.returned (.bool (eX a))/\Bw b p
 | 0,a,g,_,_,_,_,_=>by rw[Ex.ak] at g;omega
 | e+1,a,g,f,c,d,b,n=>nL a f c d b n λr q i k l j m=>jR e q (by have:=Ex.ar i;omega) (Ex.aq f i) k l j m
theorem pM(a:Ex)(f:a.fin)(c:Option Addr)(d:Nat)(b:World)(e:Ex.all b c a.args):Calls prog 113 #[a.val c d] b λg i=>g=.returned (.bool (eX a))/\Bw b i:=jR a.size a bi f c d b e
def hg(a:Ex):Bool:=!bJ a || eX a
theorem th(a:Ex)(r:a.fin)(d:Option Addr)(e:Nat)(b:World)(l:Ex.all b d a.args):Calls prog 62 #[a.val d e] b λk x=>k=.returned (.bool (hg a))/\Bw b x:=by
 have m:=am (VT _ b) (a.box d e);have o:=H (ee.new b a d e);have j:=H m;have c:=H (q5 a r d e _ (Ex.af _ l m));have p:=H (λ(q:World) (u:Bw b q)=>pM a r d e q (Ex.af _ l u));unfold Ex.box at o j c;rw[Ex.ad] at c p ⊢;unfold hg;have n:=lU a;generalize eX a=w at *;clear l m;cases f:bJ a with
 | true=>
  have i:g6 a=((a.size:Int),(a.high:Int)):=by unfold g6;rw[ba f]
  have s:jP a=(a.size:Int):=by unfold jP;rw[ba f]
  rw[i] at c;rw[s] at n;have F:¬(400:Int)<(a.size:Int):=by omega
  clear f i s n;go_enter func62,ntmps62
  go_wp2_with (first
   | (go_at_call 108;refine(U c).mono ?_;rintro k y ⟨rfl,g⟩;obtain⟨z,A,B,C,D,E⟩:=(U o).aa g)
   | (go_at_call 113;refine(U p _ (ac (U j) g)).mono ?_;rintro k G ⟨rfl,v⟩))
  go_ret;exact⟨by have t:decide ((400:Int)<(a.size:Int))=false:=decide_eq_false (by omega);show Ending.returned (.bool (decide ((400:Int)<(a.size:Int)) || w))=_;rw[t];rfl,ac (ac (U j) g) v⟩
 | false=>(have i:g6 a=(401,41):=by unfold g6;rw[VU (by rw[f];decide)]);rw[i] at c;clear f i n;go_enter func62,ntmps62;go_wp2_with (go_at_call 108;refine(U c).mono ?_;rintro k y ⟨rfl,g⟩);go_ret;exact⟨rfl,ac (U j) g⟩
def fD(a:Pl):Bool:=eo a && eM a && k5 a (qz a)
theorem sM(a:Pl)(t:a.fin)(d:Pm)(c:World)(u:iO c a d):Calls prog 60 #[a.val d] c λe y=>e=.returned (.bool (fD a))/\Bw c y:=by
 have s:=am (VT _ c) (a.box d);have j:=H (dL.new c a d);have k:=H (dL.new c a d).load;have g:=H s;have f:=H (rK a d);have i:=H (λ(r:World) (w:Bw c r)=>pR a t d r (u.aa w));have n:=H (pH a d);unfold fD;unfold Pl.box at j g k;rw[Pl.ad] at f i n k ⊢;generalize k5 a (qz a)=A at *;clear s u t;cases m:eo a
 .rw[m] at f;clear m i n j;go_enter func60,ntmps60
  go_wp2_with (first
   | (refine a1 ?_ 28 (.tmp 1) rfl _ (by simp[Act.eval]) _ (U k) ?_;. simp[Region.wanted,yielded])
   | (go_at_call 109;refine(U f _).mono ?_;rintro e v ⟨rfl,b⟩))
  go_ret;exact⟨rfl,ac (U g) b⟩
 .rw[m] at f;cases o:eM a
  .rw[o] at i;clear m o n;go_enter func60,ntmps60
   go_wp2_with (first
    | (refine a1 ?_ 28 (.tmp 1) rfl _ (by simp[Act.eval]) _ (U l) ?_;. simp[Region.wanted,yielded])
    | (refine a1 ?_ 28 (.tmp 1) rfl _ (by simp[Act.eval]) _ (U k) ?_;. simp[Region.wanted,yielded])
    | (go_at_call 109;refine(U f _).mono ?_;rintro e v ⟨rfl,b⟩;have l:=H ((U j).aa b).load;rw[Pl.ad] at l)
    | (go_at_call 110;refine(U i _ (ac (U g) b)).mono ?_;rintro e z ⟨rfl,p⟩))
   go_ret;exact⟨rfl,ac (ac (U g) b) p⟩
  .rw[o] at i;clear m o;go_enter func60,ntmps60
   go_wp2_with (first
    | (refine a1 ?_ 28 (.tmp 1) rfl _ (by simp[Act.eval]) _ (U q) ?_;. simp[Region.wanted,yielded])
    | (refine a1 ?_ 28 (.tmp 1) rfl _ (by simp[Act.eval]) _ (U l) ?_;. simp[Region.wanted,yielded])
    | (refine a1 ?_ 28 (.tmp 1) rfl _ (by simp[Act.eval]) _ (U k) ?_;. simp[Region.wanted,yielded])
    | (go_at_call 109;refine(U f _).mono ?_;rintro e v ⟨rfl,b⟩;have l:=H ((U j).aa b).load;rw[Pl.ad] at l)
    | (go_at_call 110;refine(U i _ (ac (U g) b)).mono ?_;rintro e z ⟨rfl,p⟩;have q:=H ((U j).aa (ac b p)).load;rw[Pl.ad] at q)
    | (go_at_call 111;refine(U n _).mono ?_;rintro e B ⟨rfl,x⟩))
   go_ret;exact⟨rfl,ac (ac (ac (U g) b) p) x⟩
mutual
def eR:Pl->Bool
 | .mk j k a cols f c e d g i b=>fD (.mk j k a cols f c e d g i b) && !a.any hg && !zK b
def zK:List Pl->Bool
 | []=>false
 | b::a=>!eR b || zK a
end
theorem sn:∀a:List Pl,zK a=a.any λb=>!eR b
 | []=>by rw[zK];rfl
 | b::a=>by rw[zK,List.any_cons,sn a]
theorem kl(a:Pl):eR a=(fD a && !a.ex.any hg && !a.args.any λb=>!eR b):=by cases a;rw[eR,sn];rfl
theorem nQ(a:Pl)(z:a.fin)(f:Pm)(b:World)(q:hI b a f) (C:∀(r:Nat) c,a.args[r]?=some c->∀s e,hI e c s->Calls prog 64 #[c.val s] e λg B=>g=.returned (.bool (!eR c))/\Bw e B):Calls prog 36 #[a.val f] b λg B=>g=.returned (.bool (eR a))/\Bw b B:=by
 obtain⟨⟨L,M,N,O,P,Q,R,_⟩,D,_⟩:=Pl.an z;have y:=am (VT _ b) (a.box f);have k:=H (dL.new b a f);have l:=H (dL.new b a f).load;have i:=H y;have j:=H (sM a z f _ (q.o.aa y));have m:=H (λ(e:World) (w:Bw b e)=>kd a.ex hg 62 (λargs b=>by kernel_rfl) f.aE f.cE e (by omega) (Ex.af _ q.o.e w) λr c A F G u _ x=>th c (Ex.av D (VQ A)) F G u x);have t:=H (λ(e:World) (w:Bw b e)=>qg a.args (λc=>!eR c) 64 (λargs b=>by kernel_rfl) f.aP f.cP e (by omega) (Pl.af _ q.p w) λr c A s u _ x=>C r c A s u x);rw[kl];unfold Pl.box at k i l j;rw[Pl.ad] at j l ⊢;generalize (a.args.any λc=>!eR c)=S at *;clear y q z D C;cases n:fD a
 .rw[n] at j;clear n m t k;go_enter func36,ntmps36
  go_wp2_with (first
   | (refine a1 ?_ 28 (.tmp 1) rfl _ (by simp[Act.eval]) _ (U l) ?_;. simp[Region.wanted,yielded])
   | (go_at_call 60;refine(U j).mono ?_;rintro g E ⟨rfl,d⟩))
  go_ret;exact⟨rfl,ac (U i) d⟩
 .rw[n] at j;cases p:a.ex.any hg
  .rw[p] at m;clear n p;go_enter func36,ntmps36
   go_wp2_with (first
    | (refine a1 ?_ 28 (.tmp 1) rfl _ (by simp[Act.eval]) _ (U l) ?_;. simp[Region.wanted,yielded])
    | (go_at_call 60;refine(U j).mono ?_;rintro g E ⟨rfl,d⟩;have v:=((U k).aa d).c2;simp only[bI] at v)
    | (go_at_call 61;refine(U m _ (ac (U i) d)).mono ?_;rintro g K ⟨rfl,o⟩;have I:=((U k).aa (ac d o)).c10;simp only[bI] at I)
    | (go_at_call 63;refine(U t _ (ac (ac (U i) d) o)).mono ?_;rintro g T ⟨rfl,J⟩))
   go_ret;exact⟨rfl,ac (ac (ac (U i) d) o) J⟩
  .rw[p] at m;clear n p t;go_enter func36,ntmps36
   go_wp2_with (first
    | (refine a1 ?_ 28 (.tmp 1) rfl _ (by simp[Act.eval]) _ (U l) ?_;. simp[Region.wanted,yielded])
    | (go_at_call 60;refine(U j).mono ?_;rintro g E ⟨rfl,d⟩;have v:=((U k).aa d).c2;simp only[bI] at v)
    | (go_at_call 61;refine(U m _ (ac (U i) d)).mono ?_;rintro g K ⟨rfl,o⟩))
   go_ret;exact⟨rfl,ac (ac (U i) d) o⟩
theorem mX(a:Pl)(d:Pm)(b:World)(h:∀c,Bw b c->Calls prog 36 #[a.val d] c λe j=>e=.returned (.bool (eR a))/\Bw c j):Calls prog 64 #[a.val d] b λe j=>e=.returned (.bool (!eR a))/\Bw b j:=by
 have f:=H (am (VT _ b) (a.box d));have g:=H (h _ (U f));have i:=H (dL.new b a d).load;unfold Pl.box at f g i;rw[Pl.ad] at g i ⊢;generalize eR a=l at *;clear h;go_enter func64,ntmps64
 go_wp2_with (first
  | (refine a1 ?_ 28 (.tmp 1) rfl _ (by simp[Act.eval]) _ (U i) ?_;. simp[Region.wanted,yielded])
  | (go_at_call 36;refine(U g).mono ?_;rintro e m ⟨rfl,k⟩))
 go_ret;exact⟨rfl,ac (U f) k⟩
theorem j0:∀(d:Nat) (a:Pl),a.size<=d->a.fin->∀(c:Pm) (b:World),hI b a c->Calls prog 36 #[a.val c] b λp q=>p=.returned (.bool (eR a))/\Bw b q
 | 0,a,f,_,_,_,_=>by rw[Pl.ak] at f;omega
 | d+1,a,f,e,c,b,o=>nQ a e c b o λr j g i k m=>mX j i k λl n=>j0 d j (by have:=Pl.ar g;omega) (Pl.aq e g) i l (m.aa n)
theorem pT(a:Pl)(e:a.fin)(c:Pm)(b:World)(d:hI b a c):Calls prog 36 #[a.val c] b λf g=>f=.returned (.bool (eR a))/\Bw b g:=j0 a.size a bi e c b d
def iK(a:Pl):Int:=if (k1 a 400 40).isSome then (if eR a then 0 else 1) else 3
theorem t6(a:Pl)(r:a.fin)(e:Pm)(c:World)(o:hI c a e):Calls prog 23 #[a.val e] c λi v=>i=.returned (.int .i64 (iK a))/\Bw c v:=by
 have p:=am (VT _ c) (a.box e);have l:=H (dL.new c a e);have j:=H (dL.new c a e).load;have f:=H p;have d:=H (lx a.size a bi r 400 40 e _ (by omega) (by omega) (by omega) (by omega) (o.aa p));have g:=H (λ(s:World) (u:Bw c s)=>pT a r e s (o.aa u));unfold iK;unfold Pl.box at l f j d;rw[Pl.ad] at d g j ⊢;clear p o r;cases m:k1 a 400 40 with
 | none=>
  rw[m] at d;clear m g l;go_enter func23,ntmps23
  go_wp2_with (first
   | (refine a1 ?_ 28 (.tmp 1) rfl _ (by simp[Act.eval]) _ (U j) ?_;. simp[Region.wanted,yielded])
   | (go_at_call 35;refine(U d).mono ?_;rintro i t ⟨rfl,b⟩))
  go_ret;exact⟨rfl,ac (U f) b⟩
 | some x=>
  rw[m] at d;clear m;cases n:eR a
  .rw[n] at g;clear n;go_enter func23,ntmps23
   go_wp2_with (first
    | (refine a1 ?_ 28 (.tmp 1) rfl _ (by simp[Act.eval]) _ (U k) ?_;. simp[Region.wanted,yielded])
    | (refine a1 ?_ 28 (.tmp 1) rfl _ (by simp[Act.eval]) _ (U j) ?_;. simp[Region.wanted,yielded])
    | (go_at_call 35;refine(U d).mono ?_;rintro i t ⟨rfl,b⟩;have k:=H ((U l).aa b).load;rw[Pl.ad] at k)
    | (go_at_call 36;refine(U g _ (ac (U f) b)).mono ?_;rintro i w ⟨rfl,q⟩))
   go_ret;exact⟨rfl,ac (ac (U f) b) q⟩
  .rw[n] at g;clear n;go_enter func23,ntmps23
   go_wp2_with (first
    | (refine a1 ?_ 28 (.tmp 1) rfl _ (by simp[Act.eval]) _ (U k) ?_;. simp[Region.wanted,yielded])
    | (refine a1 ?_ 28 (.tmp 1) rfl _ (by simp[Act.eval]) _ (U j) ?_;. simp[Region.wanted,yielded])
    | (go_at_call 35;refine(U d).mono ?_;rintro i t ⟨rfl,b⟩;have k:=H ((U l).aa b).load;rw[Pl.ad] at k)
    | (go_at_call 36;refine(U g _ (ac (U f) b)).mono ?_;rintro i w ⟨rfl,q⟩))
   go_ret;exact⟨rfl,ac (ac (U f) b) q⟩
def p8(a:aH)(b:Int):Bool:=!((decide (¬(bk a).k=0) && decide (¬(bk a).k=b)) || decide (1000<(bk a).s.size))
def U1(c:List aH)(a:List Int):Bool:=decide (c.length=a.length) && !(c.zip a).any λb=>!p8 b.1 b.2
theorem vQ(h:Below (w.alloc (.cells #[.int .i64 c.k,.int .i64 c.n,.string c.s] 43)).heap.size (w.alloc (.cells #[.int .i64 c.k,.int .i64 c.n,.string c.s] 43)) W):eB W w.heap.size c/\Vx W w.heap.size:=by have a:eB (w.alloc (.cells #[.int .i64 c.k,.int .i64 c.n,.string c.s] 43)) w.heap.size c:=⟨by simp[go_sem],by simp[go_sem],by simp[go_sem]⟩;have b:Vx (w.alloc (.cells #[.int .i64 c.k,.int .i64 c.n,.string c.s] 43)) w.heap.size:=⟨by simp[go_sem],by simp[go_sem],by simp[go_sem]⟩;exact⟨a.aa h,b.aa (by simp) h⟩
theorem AB(a:aH)(h:eB W w.heap.size c)(b:Bw w W):eB (((W.setCell ⟨w.heap.size,0,none⟩ (.int .i64 a.k)).setCell ⟨w.heap.size,1,none⟩ (.int .i64 a.n)).setCell ⟨w.heap.size,2,none⟩ (.string a.s)) w.heap.size a/\Bw w (((W.setCell ⟨w.heap.size,0,none⟩ (.int .i64 a.k)).setCell ⟨w.heap.size,1,none⟩ (.int .i64 a.n)).setCell ⟨w.heap.size,2,none⟩ (.string a.s)):=by obtain⟨d,e,f⟩:=h;exact⟨⟨by simp[go_sem, *],by simp[go_sem, *],by simp[go_sem, *]⟩,kD b bi _ _ _⟩
theorem BX{x:aH}(a:y[n]?=some x)(b:C[n]?=some I):(y.zip C)[n]?=some (x,I):=by rw[List.getElem?_zip_eq_some];exact⟨a,b⟩
theorem y3(g:List (ByteArray×Int))(d:List aH)(V2:Option Addr)(Wl:Nat)(V3:Option Addr)(Wm:Nat)(r:World)(Wz:d.length<=1048576)(Ww:g.length<=1048576)(Z:Vs r V2 g)(VW:bX r V3 d):Calls prog 58 #[.slice V3 d.length Wm,.slice V2 g.length Wl] r λV Wr=>V=.returned (.bool (U1 d (g.map Prod.snd)))/\Bw r Wr:=by
 have V7:=H Z;have Wa:=H VW;obtain⟨B,q⟩:=bn (U1 d (g.map Prod.snd));rw[<-q];unfold U1 at q;rw[bQ] at q;clear Z VW;by_cases w:d.length=g.length;case neg=>(obtain rfl:B=false:=by rw[q];simp[w]);(have Wg:((d.length:Int) != (g.length:Int))=true:=by simp;omega);clear q w;go_enter func58,ntmps58;go_wp2;go_ret;exact⟨rfl,VS⟩
 have Wg:((d.length:Int) != (g.length:Int))=false:=by simp;omega
 have T:Hid (B=!(d.zip (g.map Prod.snd)).any λb=>!p8 b.1 b.2):=by show _=_;rw[q,decide_eq_true w];rfl
 have V8:=H w;clear q w;go_enter func58,ntmps58;go_wp2_with fail;go_loopw[14] (λP wr=>∃i:Nat,i<=d.length/\P=.int .i64 (i:Int)/\Hid (((d.zip (g.map Prod.snd)).take i).any (λb=>!p8 b.1 b.2)=false)/\Hid (Bw r wr)) (λP _=>d.length-(intOf P).toNat);case atStart=>exact⟨0,bt,rfl,by show _=_;rfl,VS⟩
 case round=>obtain⟨i,Wy,rfl,t,x⟩:=hrel;by_cases Wk:i<d.length;(·(have Wj:(i:Int)<(d.length:Int):=by omega);(have Wx:i<g.length:=by have:=U V8;omega);obtain⟨m,N⟩:∃m,d[i]?=some m:=⟨_,VR Wk⟩;obtain⟨Wv,WA,Wh,Wc,Wd,We⟩:=((U Wa).aa (U x)).lo N;obtain⟨E,V0⟩:∃E,g[i]?=some E:=⟨_,VR (by omega)⟩;obtain⟨Wp,Wq,Wi,_,C⟩:=((U V7).aa (U x)).get V0;(have O:(g.map Prod.snd)[i]?=some E.2:=by rw[bL,V0];rfl);obtain⟨V5,p⟩:=E;simp only at C O;have A:=H (BX N O);have y:=H (ec m (wr.alloc (.cells #[.int .i64 m.k,.int .i64 m.n,.string m.s] 43)));have VX:=am (VT _ wr) (.cells #[.int .i64 m.k,.int .i64 m.n,.string m.s] 43);have F:=H VX;rw[Wh,Wi];obtain⟨a,L⟩:=bn (bk m);obtain⟨o,M⟩:=bn (!p8 m p);(have f:Hid (o=((decide (¬a.k=0) && decide (¬a.k=p)) || decide (1000<a.s.size))):=by show _=_;rw[M,L];unfold p8;rw[Bool.not_not]);have z:=H M;rw[<-L] at y;simp only[aH.open_] at y;clear N O L M VX;go_upto_region 7 with (go_at_call 47;refine(U y).mono ?_;rintro V V4 ⟨rfl,D⟩;obtain⟨⟨g0,W,X⟩,Wt,V5,Wu⟩:=vQ D);have u:=H (AB a ⟨g0,W,X⟩ (ac (U F) D));have Wf:V4.cell? ⟨Wp,Wq+i*2+1,none⟩=some (.int .i64 p):=ae C (ac (U F) D);obtain⟨e,VZ⟩:=bn (((V4.setCell ⟨wr.heap.size,0,none⟩ (.int .i64 a.k)).setCell ⟨wr.heap.size,1,none⟩ (.int .i64 a.n)).setCell ⟨wr.heap.size,2,none⟩ (.string a.s));rw[<-VZ] at u ⊢;have K:=ae C (U u).2;obtain⟨Q,V1,R⟩:=(U u).1;have V6:=H (ac (U x) (U u).2);clear g0 W X Wt V5 Wu D Wc Wd We C Wf VZ u F y;go_cut[39] (λWn Ws=>Wn=.bool o/\Bw e Ws);(case first=>have WB:=cell_regrown Q;have WC:=cell_regrown R;have WD:=cell_regrown K;clear Q V1 R K;by_cases s:1000<a.s.size;(·(have Wb:(1000:Int)<(a.s.size:Int):=by omega);by_cases j:a.k=0;(·(have I:(a.k != 0)=false:=by rw[j];rfl);(obtain rfl:o=true:=by rw[U f];simp[*]);clear f j s;refine wp_region_quiet_below (by kernel_rfl) (by kernel_rfl) ?_;(repeat (go_big_quiet_step (fail)));refine wpQuiet_nil ?_;intro l c;(have k:Bw e l:=by obtain⟨b,rfl⟩:=c;exact below_regrown _ _ _);clear c;go_wp2;go_meet;exact⟨rfl,k⟩);(have I:(a.k != 0)=true:=by simpa using j);by_cases n:a.k=p;(·(have J:(a.k != p)=false:=by rw[n];simp);(obtain rfl:o=true:=by rw[U f];simp[*]);clear f j n s;refine wp_region_quiet_below (by kernel_rfl) (by kernel_rfl) ?_;(repeat (go_big_quiet_step (fail)));refine wpQuiet_nil ?_;intro l c;(have k:Bw e l:=by obtain⟨b,rfl⟩:=c;exact below_regrown _ _ _);clear c;go_wp2;go_meet;exact⟨rfl,k⟩);(have J:(a.k != p)=true:=by simpa using n);(obtain rfl:o=true:=by rw[U f];simp[*]);clear f j n s;refine wp_region_quiet_below (by kernel_rfl) (by kernel_rfl) ?_;(repeat (go_big_quiet_step (fail)));refine wpQuiet_nil ?_;intro l c;(have k:Bw e l:=by obtain⟨b,rfl⟩:=c;exact below_regrown _ _ _);clear c;go_wp2;go_meet;exact⟨rfl,k⟩);·(have Wb:¬(1000:Int)<(a.s.size:Int):=by omega);by_cases j:a.k=0;(·(have I:(a.k != 0)=false:=by rw[j];rfl);(obtain rfl:o=false:=by rw[U f];simp[*]);clear f j s;refine wp_region_quiet_below (by kernel_rfl) (by kernel_rfl) ?_;(repeat (go_big_quiet_step (fail)));refine wpQuiet_nil ?_;intro l c;(have k:Bw e l:=by obtain⟨b,rfl⟩:=c;exact below_regrown _ _ _);clear c;go_wp2;go_meet;exact⟨rfl,k⟩);(have I:(a.k != 0)=true:=by simpa using j);by_cases n:a.k=p;(·(have J:(a.k != p)=false:=by rw[n];simp);(obtain rfl:o=false:=by rw[U f];simp[*]);clear f j n s;refine wp_region_quiet_below (by kernel_rfl) (by kernel_rfl) ?_;(repeat (go_big_quiet_step (fail)));refine wpQuiet_nil ?_;intro l c;(have k:Bw e l:=by obtain⟨b,rfl⟩:=c;exact below_regrown _ _ _);clear c;go_wp2;go_meet;exact⟨rfl,k⟩);(have J:(a.k != p)=true:=by simpa using n);(obtain rfl:o=true:=by rw[U f];simp[*]);clear f j n s;refine wp_region_quiet_below (by kernel_rfl) (by kernel_rfl) ?_;(repeat (go_big_quiet_step (fail)));refine wpQuiet_nil ?_;intro l c;(have k:Bw e l:=by obtain⟨b,rfl⟩:=c;exact below_regrown _ _ _);clear c;go_wp2;go_meet;exact⟨rfl,k⟩);case rest=>obtain⟨rfl,VY⟩:=hcut;have S:=H (ac (U V6) VY);clear VY Q V1 R K f;cases o;(.have V9:=H (ny (p:=λb=>!p8 b.1 b.2) (U A) (U t) (U z).symm);clear t z A;go_wp2;exact⟨⟨i+1,by omega,by go_num,U V9,U S⟩,by simp[intOf];omega⟩);·(have G:Hid (B=false):=by show _=_;rw[U T,qr (p:=λb=>!p8 b.1 b.2) (U A) (U z).symm];rfl);clear t z A;go_wp2;exact bs (v:=.bool false) (by simp[results,results58,go_sem]) rfl ⟨by rw[U G],U S⟩);·(have Wj:¬(i:Int)<(d.length:Int):=by omega);(have G:Hid (B=true):=by have Y:=U t;rw[fz (by rw[List.length_zip];omega)] at Y;show _=_;rw[U T,Y];rfl);clear t;go_wp2;exact bs (v:=.bool true) (by simp[results,results58,go_sem]) rfl ⟨by rw[U G],U x⟩
theorem vh(c:Tb)(b:List aH)(d:Tm)(f:Nat)(e:Option Addr)(l:Nat)(a:World)(q:b.length<=1048576)(p:c.cols.length<=1048576)(i:uf a f 0 c d)(j:Vs a d.aC c.cols)(k:bX a e b):Calls prog 57 #[.slice e b.length l,.pointer (some ⟨f,0,none⟩)] a λg r=>g=.returned (.bool (!U1 b (c.cols.map Prod.snd)))/\Bw a r:=by have m:=H (y3 c.cols b d.aC d.cC e l a q p j k);have n:=i.c1;simp only[bI] at n;generalize U1 b (c.cols.map Prod.snd)=s at *;clear i j k;go_enter func57,ntmps57;go_wp2_with (go_at_call 58;refine(U m).mono ?_;rintro g t ⟨rfl,o⟩);go_ret;exact⟨rfl,o⟩
def Vr(a:Tb):Bool:=a.rows.any λb=>!U1 b (a.cols.map Prod.snd)
theorem Ax(h:ga w a r):∃j:List Value,j.length=r.length/\Sm w a j/\∀(c:Nat) b e,r[c]?=some b->j[c]?=some e->∃d f,e=.slice d b.length f/\bX w d b:=by
 rcases h with v|⟨o,t,x,h⟩;.subst v;exact⟨[],rfl,.inl rfl,λc b e i=>by simp at i⟩
 obtain⟨j,A,s⟩:=lS (n:=r.length) (p:=λc (e:Value)=>∃b d f,r[c]?=some b/\e=.slice d b.length f/\bX w d b/\∀g,Bw w g->(Instr.loadAt 40 (.pointer (some ⟨o,t+c,none⟩))).run prog g=.ok e g) λc z=>by obtain⟨b,i⟩:∃b,r[c]?=some b:=⟨_,VR z⟩;obtain⟨d,f,q,C⟩:=h c b i;refine⟨.slice d b.length f,b,d,f,i,rfl,C,λg l=>?_⟩;replace q:=ae q l;go_simp
 refine⟨j,A,.inr ⟨o,t,x,λc e m g l=>?_⟩,λc b e i m=>?_⟩;.obtain⟨b,d,f,_,_,_,B⟩:=s c e m;exact B g l
 .obtain⟨D,d,f,k,u,y,_⟩:=s c e m;rw[i] at k;injection k with k;subst k;exact⟨d,f,u,y⟩
theorem uk(h:lZ w a T):∃i:List Value,i.length=T.length/\Sl w a i/\∀(c:Nat) b e,T[c]?=some b->i[c]?=some e->∃d,e=b.val d/\zW w b d:=by
 rcases h with s|⟨m,q,u,h⟩;.subst s;exact⟨[],rfl,.inl rfl,λc b e g=>by simp at g⟩
 obtain⟨i,y,o⟩:=lS (n:=T.length) (p:=λc (e:Value)=>∃b d,T[c]?=some b/\e=b.val d/\zW w b d/\∀f,Bw w f->(Instr.loadAt 63 (.pointer (some ⟨m,q+c*3,none⟩))).run prog f=.ok e f) λc x=>by obtain⟨b,g⟩:∃b,T[c]?=some b:=⟨_,VR x⟩;obtain⟨d,t,A⟩:=h c b g;exact⟨b.val d,b,d,g,rfl,A,λf k=>(t.aa k).load⟩
 refine⟨i,y,.inr ⟨m,q,u,λc e l f k=>?_⟩,λc b e g l=>?_⟩;.obtain⟨b,d,_,_,_,z⟩:=o c e l;exact z f k
 .obtain⟨B,d,j,r,v,_⟩:=o c e l;rw[g] at j;injection j with j;subst j;exact⟨d,r,v⟩
theorem pj(a:Tb)(e:a.fin)(c:Tm)(b:World)(r:zW b a c):Calls prog 34 #[a.val c] b λd u=>d=.returned (.bool (Vr a))/\Bw b u:=by have i:=am (VT _ b) (a.box c);have p:=uf.new b a c;have k:=r.aa i;obtain⟨E,l,q,s⟩:=Ax k.r;have j:=wS E (a.rows.map λA=>!U1 A (a.cols.map Prod.snd)) (by rw[bQ,l]) c.aR c.cR (.func (.func 57) #[] #[.pointer (some ⟨b.heap.size,0,none⟩)]) _ (by have:=e.r;omega) q ⟨57,_,rfl,λargs b=>by kernel_rfl,λz D F v w o g=>by rw[bL] at o;obtain⟨m,t,rfl⟩:=Option.map_eq_some_iff.1 o;obtain⟨B,C,rfl,x⟩:=s z m D t w;exact vh a m c b.heap.size B C v (e.rr m (VQ t)) e.c (p.aa g) (k.c.aa g) (x.aa g)⟩;rw[l,List.any_map] at j;have f:=H j;have n:=H i;change Hid (Calls prog 56 _ _ λd u=>d=.returned (.bool (Vr a))/\_) at f;generalize Vr a=I at *;unfold Tb.box at f n;rw[Tb.ad];clear i p k q s j r e l;go_enter func34,ntmps34;go_wp2_with (go_at_call 56;refine(U f).mono ?_;rintro d G ⟨rfl,y⟩);go_ret;exact⟨rfl,ac (U n) y⟩
theorem lI(a:List Tb)(p:∀u∈a,u.fin)(z:a.length<=1048576)(c:Option Addr)(e:Nat)(b:World)(n:lZ b c a):Calls prog 33 #[.slice c a.length e,.func (.func 34) #[] #[]] b λk x=>k=.returned (.bool (a.any Vr))/\Bw b x:=by obtain⟨w,g,q,r⟩:=uk n;have h:=wQ w (a.map Vr) (by rw[bQ,g]) c e (.func (.func 34) #[] #[]) b (by omega) q ⟨34,#[],rfl,λargs b=>by kernel_rfl,λs v y j l f m=>by rw[bL] at f;obtain⟨d,i,rfl⟩:=Option.map_eq_some_iff.1 f;obtain⟨t,rfl,o⟩:=r s d v i l;exact pj d (p d (VQ i)) t j (o.aa m)⟩;rw[g,List.any_map] at h;exact h
theorem yO:(Tryz.prog.info? 9).map (λa=>(a.zero,a.size,a.bytes))=some (some (.string ⟨#[]⟩),1,16):=by kernel_rfl
theorem oI{base:Nat}(h:w.ownsRow base 9 1 (.slice (some ⟨n,0,none⟩) m m) m (madeCells (Value.cells (.string ⟨#[]⟩)) (m*1)).toList):jw w base (.slice (some ⟨n,0,none⟩) m m) (List.replicate m ⟨#[]⟩):=by
 have a:(madeCells (Value.cells (.string ⟨#[]⟩)) (m*1)).toList=List.replicate m (Value.string ⟨#[]⟩):=by rw[Nat.mul_one];exact toList_madeCells_one _ _
 rw[a] at h;unfold jw;rw[List.length_replicate,List.map_replicate];exact h
theorem og(d:List ByteArray)(b a:Nat)(f:d.length=a)(i:a<b)(e:ByteArray):(d++List.replicate (b-a) (⟨#[]⟩:ByteArray)).set a e=(d++[e])++List.replicate (b-(a+1)) (⟨#[]⟩:ByteArray):=by obtain⟨c,g⟩:∃c,b-a=c+1:=⟨b-a-1,by omega⟩;rw[g,show b-(a+1)=c by omega,<-f];rw[List.replicate_succ,List.set_append_right _ _ bi,Nat.sub_self,List.set_cons_zero,cI];rfl
theorem so(d:List ByteArray)(b a:Nat)(e:d.length=a)(g:a<b):(d++List.replicate (b-a) (⟨#[]⟩:ByteArray))[a]?=some ⟨#[]⟩/\b=(d++List.replicate (b-a) (⟨#[]⟩:ByteArray)).length:=by refine⟨?_,by rw[bG,List.length_replicate];omega⟩;obtain⟨c,f⟩:∃c,b-a=c+1:=⟨b-a-1,by omega⟩;rw[ez (by omega),e,Nat.sub_self,f];rfl
theorem jw.store{base N k:Nat}{a:List ByteArray}(h:jw w base (.slice (some ⟨n,0,none⟩) N m) a)(d:N=a.length)(b:ByteArray):jw (w.setCell ⟨n,k,none⟩ (.string b)) base (.slice (some ⟨n,0,none⟩) N m) (a.set k b):=by subst d;have c:=(World.ownsRow.stored h k (.string b)).1;unfold jw;rw[List.length_set,List.map_set];exact c
theorem jw.at{base N:Nat}{a:List ByteArray}{x:ByteArray}(h:jw w base (.slice (some ⟨n,0,none⟩) N m) a)(c:N=a.length)(b:a[k]?=some x):w.cell? ⟨n,k,none⟩=some (.string x)/\w.frozen? ⟨n,k,none⟩=false:=by subst c;have d:=(bD b).1;refine⟨?_,World.ownsRow.frozenAt h k⟩;rw[World.ownsRow.cellAt h k (by omega),bL,b];rfl
theorem jw.strs{base:Nat}{c:List ByteArray}(h:jw w base (.slice a n m) c):hk w a c:=by
 rcases h.2 with ⟨e,k⟩|⟨d,p,q,e,_⟩
 .have:c=[]:=dF k;exact .inl this
 .injection e with g r i;subst g;refine .inr ⟨d,0,rfl,λb o l=>?_⟩;subst i;have f:=World.ownsRow.cells h rfl b (.string o) (by rw[bL,l];rfl);(have j:(⟨d,0,none⟩:Addr).add b=⟨d,0+b,none⟩:=by by_cases h:b=0<;>simp[Addr.add,h]);rw[j] at f;exact f
def fq(a:Tb):Bool:=jn (a.cols.map Prod.snd) && hh (a.cols.map Prod.fst)
theorem pZ(a:Tb)(I:a.fin)(d:Tm)(e:World)(VZ:zW e a d):Calls prog 45 #[a.val d] e λw Wk=>w=.returned (.bool (fq a))/\Bw e Wk:=by
 obtain⟨o,q⟩:=bn (fq a);rw[<-q];unfold fq jn at q;rw[bQ,List.any_map] at q;have V7:=H I.cn;have Wq:=I.c;have F:=am (VT _ e) (a.box d);have u:=H (uf.new e a d);have y:=H (VZ.aa F).c;have g:=H F;unfold Tb.box at y u g;rw[Tb.ad];obtain⟨f,L⟩:=bn (e.alloc (.cells #[.string a.name,.slice d.aC a.cols.length d.cC,.slice d.aR a.rows.length d.cR] 63));rw[<-L] at u g y;have v:=H L;have t:=H q;have S:=(U u).c1;simp only[bI] at S;clear I VZ F L q;by_cases VX:a.cols.length<1;·(have Wb:(a.cols.length:Int)<1:=by omega);(obtain rfl:o=false:=by rw[U t,decide_eq_false (by omega:¬1<=a.cols.length)];rfl);clear VX;go_enter func45,ntmps45;go_upto_region 1 with fail;rw[<-U v];go_wp2;go_ret;exact⟨rfl,U g⟩
 have Wb:¬(a.cols.length:Int)<1:=by omega
 by_cases Wg:32<a.cols.length;·(have Wc:(32:Int)<(a.cols.length:Int):=by omega);(obtain rfl:o=false:=by rw[U t,decide_eq_false (by omega:¬a.cols.length<=32),Bool.and_false];rfl);clear VX Wg;go_enter func45,ntmps45;go_upto_region 1 with fail;rw[<-U v];go_wp2;go_ret;exact⟨rfl,U g⟩
 have Wc:¬(32:Int)<(a.cols.length:Int):=by omega
 have A:Hid (o=(!(a.cols.any (lF ∘ Prod.snd)) && hh (a.cols.map Prod.fst))):=by show _=_;rw[U t,decide_eq_true (by omega:1<=a.cols.length),decide_eq_true (by omega:a.cols.length<=32)];rfl
 clear t;obtain⟨Wj,VW,V2,V3,V4⟩:=info_parts yO;go_enter func45,ntmps45;go_upto_region 1 with fail;rw[<-U v];clear v;go_upto_region 4 with (at_make;refine wpList_make_full _ rfl (.tmp 18) (.tmp 18) 94 rfl f.heap.size 9 Wj (.string ⟨#[]⟩) 1 underlying94 VW V2 V3 .i64 .i64 _ _ a.cols.length rfl rfl rfl rfl (by rw[V4];omega) (by unfold maxLen;omega) bi ?_;intro Wv X Z);have z:=H (bB Z bi (λWp We=>by cases We));have Q:=H (oI X);have W:=((U u).aa (U z)).c1;simp only[bI] at W;clear X Z V2 V3 V4 VW S;go_wp2_with fail;go_loopw[23] (λM wr=>∃(b:Nat),b<=a.cols.length/\M=.int .i64 (b:Int)/\Hid (jw wr f.heap.size (.slice (some ⟨f.heap.size,0,none⟩) a.cols.length a.cols.length) ((a.cols.take b).map Prod.fst++List.replicate (a.cols.length-b) ⟨#[]⟩))/\Hid ((a.cols.take b).any (lF ∘ Prod.snd)=false)/\Hid (Bw f wr)) (λM _=>a.cols.length-(intOf M).toNat);case atStart=>exact⟨0,bt,rfl,U Q,by show _=_;rfl,U z⟩
 case round=>clear Q z W;obtain⟨b,Wf,rfl,n,i,r⟩:=hrel;by_cases J:b<a.cols.length;(·(have Wd:(b:Int)<(a.cols.length:Int):=by omega);obtain⟨c,m⟩:∃c,a.cols[b]?=some c:=⟨_,VR J⟩;obtain⟨Wn,Ws,Wa,T,V⟩:=((U y).aa (U r)).get m;have G:=am (VT _ wr) (.cells #[.string c.1,.int .i64 c.2] 73);have j:=H (lj c.2 (wr.alloc (.cells #[.string c.1,.int .i64 c.2] 73)));have s:=H G;(have B:Hid ((wr.alloc (.cells #[.string c.1,.int .i64 c.2] 73)).cell? ⟨wr.heap.size,0,none⟩=some (.string c.1)):=by show _=_;simp[go_sem]);rw[Wa];cases l:lF c.2;(.have R:=H (dZ Prod.fst m);have V8:Hid ((a.cols.take (b+1)).any (lF ∘ Prod.snd)=false):=ny m (U i) l;(have VY:((a.cols.take b).map Prod.fst).length=b:=by simp;omega);have N:=H VY;have O:=H J;rw[l] at j;obtain⟨V1,Wl⟩:=c;simp only at T V j s B R;clear m l i VY G;go_wp2_with (go_at_call 88;refine(U j).mono ?_;rintro w V0 ⟨rfl,k⟩;have D:=ac (U s) k;have E:=(U n).aa D;have x:=so _ a.cols.length b (U N) (U O);have K:=E.at x.2 x.1;have Wt:=K.1;have Wu:=K.2;have Ww:=ae (U B) k;have V9:=H (E.store (k:=b) x.2 V1);have V5:=H D;clear D E x K);have Y:=U V9;rw[og _ _ _ (U N) (U O),<-U R] at Y;exact⟨⟨b+1,by omega,by go_num,Y,U V8,(ac (U r) (U V5)).setCell (p:=⟨f.heap.size,b,none⟩) bi _⟩,by simp[intOf];omega⟩);·(have C:Hid (o=false):=by show _=_;rw[U A,qr (p:=lF ∘ Prod.snd) m l];rfl);rw[l] at j;obtain⟨V1,Wl⟩:=c;simp only at T V j s;clear m l i G B n;go_wp2_with (go_at_call 88;refine(U j).mono ?_;rintro w V0 ⟨rfl,k⟩);go_ret;exact⟨by rw[U C];rfl,ac (U g) (ac (U r) (ac (U s) k))⟩);·(have Wd:¬(b:Int)<(a.cols.length:Int):=by omega);(obtain rfl:b=a.cols.length:=by omega);rw[dy,Nat.sub_self,List.replicate_zero,VI] at n;rw[dy] at i;(have C:Hid (o=hh (a.cols.map Prod.fst)):=by show _=_;rw[U A,U i];rfl);have P:=H (kn (a.cols.map Prod.fst) (some ⟨f.heap.size,0,none⟩) a.cols.length wr (by rw[bQ];omega) (λWx Wh=>by obtain⟨Wm,Wi,rfl⟩:=b6 Wh;have:=U V7 Wm Wi;omega) (U n).strs);rw[bQ] at P;have V6:=H (ac (U g) (U r));clear Wf J i A n;generalize hh (a.cols.map Prod.fst)=Wr at *;go_wp2_with (go_at_call 46;refine(U P).mono ?_;rintro w V0 ⟨rfl,k⟩);go_ret;exact⟨by rw[U C];rfl,ac (U V6) k⟩
def eI(a:List Tb):Bool:=!(a.any λb=>!fq b) && hh (a.map Tb.name)
theorem pp(a:List Tb)(S:∀f∈a,f.fin)(We:a.length<=1048576)(O:Option Addr)(V2:Nat)(c:World)(R:lZ c O a):Calls prog 28 #[.slice O a.length V2] c λq Wa=>q=.returned (.bool (eI a))/\Bw c Wa:=by
 obtain⟨N,r⟩:=bn (eI a);rw[<-r];unfold eI at r;have I:=H S;have VX:=H R;have w:=H r;clear S R r;obtain⟨V9,V,Y,Z,VW⟩:=info_parts yO;go_enter func28,ntmps28;go_upto_region 2 with (at_make;refine wpList_make_full _ rfl (.tmp 7) (.tmp 7) 94 rfl c.heap.size 9 V9 (.string ⟨#[]⟩) 1 underlying94 V Y Z .i64 .i64 _ _ a.length rfl rfl rfl rfl (by rw[VW];omega) (by unfold maxLen;omega) bi ?_;intro Wj P T);have G:=H (bB T bi (λWd V5=>by cases V5));have M:=H (oI P);clear P T Y Z VW V;go_wp2_with fail;go_loopw[11] (λF wr=>∃(b:Nat),b<=a.length/\F=.int .i64 (b:Int)/\Hid (jw wr c.heap.size (.slice (some ⟨c.heap.size,0,none⟩) a.length a.length) ((a.take b).map Tb.name++List.replicate (a.length-b) ⟨#[]⟩))/\Hid ((a.take b).any (λf=>!fq f)=false)/\Hid (Bw c wr)) (λF _=>a.length-(intOf F).toNat);case atStart=>exact⟨0,bt,rfl,U M,by show _=_;rfl,U G⟩
 case round=>
  clear M G;obtain⟨b,V6,rfl,l,g,n⟩:=hrel;by_cases C:b<a.length
  ·(have V4:(b:Int)<(a.length:Int):=by omega);obtain⟨d,e⟩:∃d,a[b]?=some d:=⟨_,VR C⟩;obtain⟨Wc,Wg,m,V3,z,D⟩:=((U VX).aa (U n)).get e;have s:=am (VT _ wr) (d.box m);have v:=H z.load;have i:=H (pZ d (U I d (VQ e)) m (wr.alloc (d.box m)) (D.aa s));have o:=H (uf.new wr d m).load;have x:=H (uf.new wr d m);have u:=H s;rw[Tb.ad] at v o i;unfold Tb.box at i o x u;rw[V3];cases k:fq d
   ·(have y:Hid (N=false):=by show _=_;rw[U w,qr (p:=λf=>!fq f) e (by simp[k])];rfl);rw[k] at i;clear e k g s l z D x
    go_wp2_with (first
     | (refine a1 ?_ 63 (.tmp 14) rfl _ (by simp[Act.eval]) _ (U v) ?_;. simp[Region.wanted,yielded])
     | (refine a1 ?_ 63 (.tmp 5) rfl _ (by simp[Act.eval]) _ (U o) ?_;. simp[Region.wanted,yielded])
     | (go_at_call 45;refine(U i).mono ?_;rintro q X ⟨rfl,j⟩))
    go_ret;exact⟨by rw[U y];rfl,ac (U n) (ac (U u) j)⟩
   .have V1:=H (dZ Tb.name e);have VZ:Hid ((a.take (b+1)).any (λf=>!fq f)=false):=ny e (U g) (by simp[k]);(have W:((a.take b).map Tb.name).length=b:=by simp;omega);have J:=H W;have K:=H C;rw[k] at i;clear e k g W s z D
    go_wp2_with (first
     | (refine a1 ?_ 63 (.tmp 14) rfl _ (by simp[Act.eval]) _ (U v) ?_;. simp[Region.wanted,yielded])
     | (refine a1 ?_ 63 (.tmp 5) rfl _ (by simp[Act.eval]) _ (U o) ?_;. simp[Region.wanted,yielded])
     | (go_at_call 45;refine(U i).mono ?_;rintro q X ⟨rfl,j⟩;have A:=ac (U u) j;have B:=(U l).aa A;have t:=so _ a.length b (U J) (U K);have E:=B.at t.2 t.1;have Wh:=E.1;have Wi:=E.2;have Wk:=((U x).aa j).c0;have V0:=H (B.store (k:=b) t.2 d.name);have VY:=H A;clear A B t E))
    have Q:=U V0;rw[og _ _ _ (U J) (U K),<-U V1] at Q;exact⟨⟨b+1,by omega,by go_num,Q,U VZ,(ac (U n) (U VY)).setCell (p:=⟨c.heap.size,b,none⟩) bi _⟩,by simp[intOf];omega⟩
  ·(have V4:¬(b:Int)<(a.length:Int):=by omega);(obtain rfl:b=a.length:=by omega);rw[dy,Nat.sub_self,List.replicate_zero,VI] at l;rw[dy] at g;(have y:Hid (N=hh (a.map Tb.name)):=by show _=_;rw[U w,U g];rfl);have L:=H (kn (a.map Tb.name) (some ⟨c.heap.size,0,none⟩) a.length wr (by rw[bQ];omega) (λWl V7=>by obtain⟨Wb,V8,rfl⟩:=b6 V7;have:=(U I Wb V8).n;omega) (U l).strs);rw[bQ] at L;clear V6 C g w l;generalize hh (a.map Tb.name)=Wf at *;go_wp2_with (go_at_call 46;refine(U L).mono ?_;rintro q X ⟨rfl,j⟩);go_ret;exact⟨by rw[U y];rfl,ac (U n) j⟩
def e5(a:List Tb):Bool:=eI a && !a.any Vr
theorem yU(a:List Tb)(j:∀u∈a,u.fin)(r:a.length<=1048576)(l:Option Addr)(o:Nat)(d:World)(i:lZ d l a):Calls prog 22 #[.slice l a.length o] d λe v=>e=.returned (.int .i64 (if e5 a then 0 else 1))/\Bw d v:=by
 have g:=H (pp a j r l o d i);have f:=H (λ(q:World) (t:Bw d q)=>lI a j r l o q (i.aa t));obtain⟨n,b⟩:=bn (e5 a);rw[<-b];unfold e5 at b;cases k:eI a;.rw[k] at g b;obtain rfl:n=false:=b;clear k f i j;go_enter func22,ntmps22;go_wp2_with (go_at_call 28;refine(U g).mono ?_;rintro e s ⟨rfl,c⟩);go_ret;exact⟨rfl,c⟩
 .rw[k] at g b;cases m:a.any Vr
  .rw[m] at f b;obtain rfl:n=true:=b;clear k m i j;go_enter func22,ntmps22
   go_wp2_with (first
    | (go_at_call 28;refine(U g).mono ?_;rintro e s ⟨rfl,c⟩)
    | (go_at_call 33;refine(U f _ c).mono ?_;rintro e w ⟨rfl,p⟩))
   go_ret;exact⟨rfl,ac c p⟩
  .rw[m] at f b;obtain rfl:n=false:=b;clear k m i j;go_enter func22,ntmps22
   go_wp2_with (first
    | (go_at_call 28;refine(U g).mono ?_;rintro e s ⟨rfl,c⟩)
    | (go_at_call 33;refine(U f _ c).mono ?_;rintro e w ⟨rfl,p⟩))
   go_ret;exact⟨rfl,ac c p⟩
theorem ga.get{i:Nat}(h:ga w a r)(e:r[i]?=some x):∃b c d f,a=some ⟨b,c,none⟩/\w.cell? ⟨b,c+i,none⟩=some (.slice d x.length f)/\bX w d x:=by
 rcases h with h|⟨b,c,k,h⟩;.rw[h] at e;simp at e
 .obtain⟨d,f,g,j⟩:=h i x e;exact⟨b,c,d,f,k,g,j⟩
theorem dL.put(h:dL w n 0 p g)(t:n≠m)(b:Value):dL (w.setCell ⟨m,j,none⟩ b) n 0 p g:=by have a:∀k,(w.setCell ⟨m,j,none⟩ b).cell? ⟨n,k,none⟩=w.cell? ⟨n,k,none⟩:=λk=>bo _ _ _ _ _ _ (by simp[t]);obtain⟨c,d,f,c3,i,l,o,q,r,s,e⟩:=h;exact⟨by rw[a];exact c,by rw[a];exact d,by rw[a];exact f,by rw[a];exact c3,by rw[a];exact i,by rw[a];exact l,by rw[a];exact o,by rw[a];exact q,by rw[a];exact r,by rw[a];exact s,by rw[a];exact e⟩
end Go.Proofs.YtklgoolblpmmlaaGreat
