import Derived.Test.YtabmgpillccfaaaGreatDoorPlL
import Derived.Test.YtabmgpillccfaaaGreatDoorPlC
import Derived.Test.YtabmgpillccfaaaGreatDoorRows
set_option linter.all false
set_option maxHeartbeats 4000000
set_option maxRecDepth 100000
namespace Go.Proofs.YtabmgpillccfaaaGreatDoor
open Go.RowKit Go.Sort Go.Proofs.Tryz Go.ChangeShapes Go.WideShapes Go.ChangeAt Go.Joins Go.Deep
theorem nY{α:Type}{n:Nat}{p:Nat->α->Prop}(h:∀a,a<n->∃d,p a d):∃c:List α,c.length=n/\∀a d,c[a]?=some d->p a d:=by
 induction n with
 | zero=>exact⟨[],rfl,λa d e=>by simp at e⟩
 | succ n o=>obtain⟨c,k,l⟩:=o λa e=>h a (by omega);obtain⟨d,j⟩:=h n (by omega);refine⟨c++[d],by simp[k],λa g b=>?_⟩;by_cases e:a<n;(.rw[mt (by omega)] at b;exact l a g b);.rw[gn (by omega)] at b;(have:a-c.length=0:=by by_cases i:a-c.length=0;(.exact i);.obtain⟨f,m⟩:∃f,a-c.length=f+1:=⟨a-c.length-1,by omega⟩;rw[m] at b;simp at b);rw[this] at b;simp at b;subst b;(have:a=n:=by omega);subst this;exact j
variable{w:World}{a:Option Addr}{L:List Ex}{c f:dt}{e:Ex}{k m n:Nat}{D:List Value}
theorem sy(h:Ex.all w a L):∃l:List Value,l.length=L.length/\sJ w a l/\∀(c:Nat) b e,L[c]?=some b->l[c]?=some e->∃d f,e=b.val d f/\Ex.all w d b.args:=by
 by_cases z:L=[];.subst z;exact⟨[],rfl,.inl rfl,λc b e k=>by simp at k⟩
 obtain⟨K,E⟩:∃g,L[0]?=some g:=by cases L with|nil=>exact absurd rfl z|cons g L=>exact⟨g,rfl⟩
 obtain⟨r,C,A,_⟩:=Ex.all_get h E;obtain⟨l,G,B⟩:=nY (n:=L.length) (p:=λc (e:Value)=>∃b d f,L[c]?=some b/\e=b.val d f/\Ex.all w d b.args/\∀j,Bw w j->(Instr.loadAt 72 (.pointer (some ⟨r,C+c*6,none⟩))).run prog j=.ok e j) λc F=>by obtain⟨b,k⟩:∃b,L[c]?=some b:=⟨_,ba F⟩;obtain⟨J,M,g,D⟩:=Ex.all_get h k;rw[A] at g;simp only[Option.some.injEq,Addr.mk.injEq,and_true] at g;obtain⟨rfl,rfl⟩:=g;obtain⟨d,f,⟨s,t,u,v,x,y⟩,o⟩:=Ex.ao D;refine⟨b.val d f,b,d,f,k,rfl,o,λj i=>?_⟩;replace s:=aG s i;replace t:=aG t i;replace u:=aG u i;replace v:=aG v i;replace x:=aG x i;replace y:=aG y i;unfold Ex.val;go_simp
 refine⟨l,G,.inr ⟨r,C,A,λc e q j i=>?_⟩,λc b e k q=>?_⟩;.obtain⟨b,d,f,_,_,_,I⟩:=B c e q;exact I j i
 .obtain⟨N,d,f,m,g,o,_⟩:=B c e q;rw[k] at m;injection m with m;subst m;exact⟨d,f,g,o⟩
theorem hX(d:List Ex)(p:Ex->Bool)(e:Nat)(s:∀args a,(callFunc e args).run prog a=.ok (.enter e args) a)(i:Option Addr)(m:Nat)(a:World)(C:d.length<=140737488355328)(u:Ex.all a i d) (x:∀(g:Nat) c,d[g]?=some c->∀f j b,Bw a b->Ex.all b f c.args->Calls prog e #[c.val f j] b λk l=>k=.returned (.bool (p c))/\Bw b l):Calls prog 64 #[.slice i d.length m,.func (.func e) #[] #[]] a λk l=>k=.returned (.bool (d.any p))/\Bw a l:=by obtain⟨A,q,w,y⟩:=sy u;have h:=pF A (d.map p) (by rw[VP,q]) i m (.func (.func e) #[] #[]) a (by omega) w ⟨e,#[],rfl,s,λg z B b t n o=>by rw[b8] at n;obtain⟨c,r,rfl⟩:=Option.map_eq_some_iff.1 n;obtain⟨f,j,rfl,v⟩:=y g c z r t;exact x g c r f j b o (Ex.ab _ v o)⟩;rw[q,List.any_map] at h;exact h
theorem sh{e:List Pl}(h:Pl.all w a e):∃k:List Value,k.length=e.length/\sH w a k/\∀(c:Nat) b f,e[c]?=some b->k[c]?=some f->∃d,f=b.val d/\dN w b d:=by
 by_cases s:e=[];.subst s;exact⟨[],rfl,.inl rfl,λc b f j=>by simp at j⟩
 obtain⟨F,y⟩:∃g,e[0]?=some g:=by cases e with|nil=>exact absurd rfl s|cons g e=>exact⟨g,rfl⟩
 obtain⟨r,v,t,_⟩:=Pl.all_get h y;obtain⟨k,B,u⟩:=nY (n:=e.length) (p:=λc (f:Value)=>∃b d,e[c]?=some b/\f=b.val d/\dN w b d/\∀i,Bw w i->(Instr.loadAt 28 (.pointer (some ⟨r,v+c*11,none⟩))).run prog i=.ok f i) λc A=>by obtain⟨b,j⟩:∃b,e[c]?=some b:=⟨_,ba A⟩;obtain⟨E,G,g,x⟩:=Pl.all_get h j;rw[t] at g;simp only[Option.some.injEq,Addr.mk.injEq,and_true] at g;obtain⟨rfl,rfl⟩:=g;obtain⟨d,z,D,o⟩:=Pl.ao x;exact⟨b.val d,b,d,j,rfl,⟨D,o⟩,λi m=>(z.aa m).load⟩
 refine⟨k,B,.inr ⟨r,v,t,λc f q i m=>?_⟩,λc b f j q=>?_⟩;.obtain⟨b,d,_,_,_,C⟩:=u c f q;exact C i m
 .obtain⟨I,d,l,g,o,_⟩:=u c f q;rw[j] at l;injection l with l;subst l;exact⟨d,g,o⟩
theorem lb(d:List Pl)(p:Pl->Bool)(e:Nat)(r:∀args a,(callFunc e args).run prog a=.ok (.enter e args) a)(i:Option Addr)(l:Nat)(a:World)(B:d.length<=140737488355328)(t:Pl.all a i d) (w:∀(f:Nat) c,d[f]?=some c->∀g b,Bw a b->dN b c g->Calls prog e #[c.val g] b λj k=>j=.returned (.bool (p c))/\Bw b k):Calls prog 66 #[.slice i d.length l,.func (.func e) #[] #[]] a λj k=>j=.returned (.bool (d.any p))/\Bw a k:=by obtain⟨z,o,v,x⟩:=sh t;have h:=pD z (d.map p) (by rw[VP,o]) i l (.func (.func e) #[] #[]) a (by omega) v ⟨e,#[],rfl,r,λf y A b s m n=>by rw[b8] at m;obtain⟨c,q,rfl⟩:=Option.map_eq_some_iff.1 m;obtain⟨g,rfl,u⟩:=x f c y q s;exact w f c q g b n (u.aa n)⟩;rw[o,List.any_map] at h;exact h
def gq(a b:dt):Bool:=decide (a.k=b.k) && (decide (a.n=b.n) && decide (a.s=b.s))
theorem gP(h:gq c f=true):c=f:=by unfold gq at h;simp only[dW,eK] at h;cases c;cases f;simp only at h;obtain⟨rfl,rfl,rfl⟩:=h;rfl
theorem cV(a:dt):gq a a=true:=by unfold gq;simp
theorem rC(a b:dt)(e:World):(binOp .neq 70 (.agg #[.int .i64 a.k,.int .i64 a.n,.string a.s]) (.agg #[.int .i64 b.k,.int .i64 b.n,.string b.s])).run prog e=.ok (.bool (!gq a b)) e:=by
 have p:=underlying2;have q:=underlying3;have r:=underlying9;have m:=isAgg2;have n:=isAgg3;have o:=isAgg9;have s:=sizeOf2;have t:=sizeOf3;have u:=sizeOf9;have j:Tryz.prog.underlying 70=some (.struct (Tryz.prog.fieldsOf 70)):=by kernel_rfl
 have l:Tryz.prog.stoodInHeld 70=false:=by kernel_rfl
 unfold gq;rw[run_neq_struct,show (10000:Nat)=9999+1 from rfl,run_equalIn_agg e 9999 70 _ _ j l];simp only[Program.fieldsOf,underlying70];go_simp;have k:∀c d:ByteArray,c.toList=d.toList ↔ c=d:=λc d=>by rw[ByteArray.toList_eq,ByteArray.toList_eq];exact⟨λh=>ByteArray.ext (Array.toList_inj.1 h),λh=>by rw[h]⟩
 by_cases f:a.k=b.k<;>by_cases g:a.n=b.n<;>by_cases i:a.s=b.s<;>simp[f,g,i,k]
mutual
def dr:Ex->Bool
 | .mk b d a c=>(decide (¬b=1) && decide (¬d=0)) || (decide (¬b=2) && !gq a .null) || !gq a (bv a) || jm c
def jm:List Ex->Bool
 | []=>false
 | a::b=>dr a || jm b
end
theorem jl:∀a:List Ex,jm a=a.any dr
 | []=>by rw[jm];rfl
 | b::a=>by rw[jm,List.any_cons,jl a]
theorem kf(a:Ex):dr a=((decide (¬a.op=1) && decide (¬a.n=0)) || (decide (¬a.op=2) && !gq a.v .null) || !gq a.v (bv a.v) || a.args.any dr):=by cases a;rw[dr,jl];rfl
theorem jO(a:Ex)(X:a.fin)(v:Option Addr)(x:Nat)(r:World)(W:Ex.all r v a.args) (O:∀(L:Nat) y,a.args[L]?=some y->∀D J b,Ex.all b D y.args->Calls prog 116 #[y.val D J] b λB C=>B=.returned (.bool (dr y))/\Bw b C):Calls prog 116 #[a.val v x] r λB C=>B=.returned (.bool (dr a))/\Bw r C:=by
 obtain⟨⟨VX,_,_,_⟩,_⟩:=Ex.af X;have F:=ae (ar _ r) (a.box v x);have G:=mz.new r a v x;unfold Ex.box at F G;obtain⟨u,E⟩:=al (dr a);rw[<-E];rw[kf] at E;have s:Hid (∀b,Bw r b->Calls prog 64 #[.slice v a.args.length x,.func (.func 116) #[] #[]] b λB C=>B=.returned (.bool (a.args.any dr))/\Bw b C):=λb Z=> hX a.args dr 116 (λargs r=>by kernel_rfl) v x b VX (Ex.ab _ W Z) λL y VY D J Y _ VW=>O L y VY D J Y VW;have f:=VV (kx a.v);have g:=VV (rC a.v .null);have d:=VV (rC a.v (bv a.v));rw[Ex.ad];rw[dt.open_] at f;generalize a.args.any dr=I at *;clear O W X;obtain⟨k,K⟩:=al (r.alloc (.cells #[.int .i64 a.op,.int .i64 a.n,.int .i64 a.v.k,.int .i64 a.v.n,.string a.v.s,.slice v a.args.length x] 72));rw[<-K] at F G;have e:=VV F;have t:=VV K;obtain⟨P,Q,R,S,T,V⟩:=G;have VZ:=cell_regrown P;have V0:=cell_regrown Q;have V1:=cell_regrown R;have V2:=cell_regrown S;have V3:=cell_regrown T;have V4:=cell_regrown V;have i:=VV E;clear F K P Q R S T V E;by_cases o:a.op=1
 .have p1:(a.op != 1)=false:=by rw[o];rfl
  have p2:(a.op != 2)=true:=by rw[o];rfl
  cases m:gq a.v .null
  .rw[m] at g;have M:∀b,(binOp .neq 70 (.agg #[.int .i64 a.v.k,.int .i64 a.v.n,.string a.v.s]) (.agg #[.int .i64 0,.int .i64 0,.string ⟨#[]⟩])).run prog b=.ok (.bool true) b:=λb=>U g b;(obtain rfl:u=true:=by rw[U i,o,m];rfl);clear i m o g;go_enter func116,ntmps116;go_upto_region 1 with fail;rw[<-U t];refine wp_region_quiet_below (by kernel_rfl) (by kernel_rfl) ?_
   repeat (go_big_quiet_step (first
    | (go_at_call 158;exact Calls.regrown_of (U f _))
    | (go_at_call 64;exact Calls.regrown_of (U s _ (ac (U e) (below_regrown _ _ _))))))
   refine wpQuiet_nil ?_;intro n c;(have l:Bw k n:=by obtain⟨w,rfl⟩:=c;exact below_regrown _ _ _);clear c;go_wp2;go_ret;exact⟨rfl,ac (U e) l⟩
  .have A:=gP m;(have q:bv a.v=a.v:=by rw[A];rfl);rw[q] at f d;rw[cV] at d;rw[m] at g;have M:∀b,(binOp .neq 70 (.agg #[.int .i64 a.v.k,.int .i64 a.v.n,.string a.v.s]) (.agg #[.int .i64 0,.int .i64 0,.string ⟨#[]⟩])).run prog b=.ok (.bool false) b:=λb=>U g b;have N:∀b,(binOp .neq 70 (.agg #[.int .i64 a.v.k,.int .i64 a.v.n,.string a.v.s]) (.agg #[.int .i64 a.v.k,.int .i64 a.v.n,.string a.v.s])).run prog b=.ok (.bool false) b:=λb=>U d b;(obtain rfl:u=I:=by rw[U i,o,m,q,cV];rfl);rw[dt.open_] at f;clear i m o g d A q;go_enter func116,ntmps116;go_upto_region 1 with fail;rw[<-U t];refine wp_region_quiet_below (by kernel_rfl) (by kernel_rfl) ?_
   repeat (go_big_quiet_step (first
    | (go_at_call 158;exact Calls.regrown_of (U f _))
    | (go_at_call 64;exact Calls.regrown_of (U s _ (ac (U e) (below_regrown _ _ _))))))
   refine wpQuiet_nil ?_;intro n c;(have l:Bw k n:=by obtain⟨w,rfl⟩:=c;exact below_regrown _ _ _);clear c;go_wp2;go_ret;exact⟨rfl,ac (U e) l⟩
 by_cases p:a.op=2
 .have p1:(a.op != 1)=true:=by rw[p];rfl
  have p2:(a.op != 2)=false:=by rw[p];rfl
  by_cases j:a.n=0
  ·(have p3:(a.n != 0)=false:=by rw[j];rfl);cases z:gq a.v (bv a.v)
   .rw[z] at d;have N:∀b,(binOp .neq 70 (.agg #[.int .i64 a.v.k,.int .i64 a.v.n,.string a.v.s]) (.agg #[.int .i64 (bv a.v).k,.int .i64 (bv a.v).n,.string (bv a.v).s])).run prog b=.ok (.bool true) b:=λb=>U d b;(obtain rfl:u=true:=by rw[U i,p,j,z];rfl);rw[dt.open_] at f;generalize bv a.v=cv at *;clear i z o p g d j;go_enter func116,ntmps116;go_upto_region 1 with fail;rw[<-U t];refine wp_region_quiet_below (by kernel_rfl) (by kernel_rfl) ?_
    repeat (go_big_quiet_step (first
     | (go_at_call 158;exact Calls.regrown_of (U f _))
     | (go_at_call 64;exact Calls.regrown_of (U s _ (ac (U e) (below_regrown _ _ _))))))
    refine wpQuiet_nil ?_;intro n c;(have l:Bw k n:=by obtain⟨w,rfl⟩:=c;exact below_regrown _ _ _);clear c;go_wp2;go_ret;exact⟨rfl,ac (U e) l⟩
   .have q:=(gP z).symm;rw[q] at f d;rw[cV] at d;have N:∀b,(binOp .neq 70 (.agg #[.int .i64 a.v.k,.int .i64 a.v.n,.string a.v.s]) (.agg #[.int .i64 a.v.k,.int .i64 a.v.n,.string a.v.s])).run prog b=.ok (.bool false) b:=λb=>U d b;(obtain rfl:u=I:=by rw[U i,p,j,q,cV];rfl);rw[dt.open_] at f;clear i z o p g d j q;go_enter func116,ntmps116;go_upto_region 1 with fail;rw[<-U t];refine wp_region_quiet_below (by kernel_rfl) (by kernel_rfl) ?_
    repeat (go_big_quiet_step (first
     | (go_at_call 158;exact Calls.regrown_of (U f _))
     | (go_at_call 64;exact Calls.regrown_of (U s _ (ac (U e) (below_regrown _ _ _))))))
    refine wpQuiet_nil ?_;intro n c;(have l:Bw k n:=by obtain⟨w,rfl⟩:=c;exact below_regrown _ _ _);clear c;go_wp2;go_ret;exact⟨rfl,ac (U e) l⟩
  ·(have p3:(a.n != 0)=true:=by simpa using j);(obtain rfl:u=true:=by rw[U i,p];simp[j]);clear i o p g d j;go_enter func116,ntmps116;go_upto_region 1 with fail;rw[<-U t];refine wp_region_quiet_below (by kernel_rfl) (by kernel_rfl) ?_
   repeat (go_big_quiet_step (first
    | (go_at_call 158;exact Calls.regrown_of (U f _))
    | (go_at_call 64;exact Calls.regrown_of (U s _ (ac (U e) (below_regrown _ _ _))))))
   refine wpQuiet_nil ?_;intro n c;(have l:Bw k n:=by obtain⟨w,rfl⟩:=c;exact below_regrown _ _ _);clear c;go_wp2;go_ret;exact⟨rfl,ac (U e) l⟩
 .have p1:(a.op != 1)=true:=by simpa using o
  have p2:(a.op != 2)=true:=by simpa using p
  by_cases j:a.n=0
  ·(have p3:(a.n != 0)=false:=by rw[j];rfl);cases m:gq a.v .null
   .rw[m] at g;have M:∀b,(binOp .neq 70 (.agg #[.int .i64 a.v.k,.int .i64 a.v.n,.string a.v.s]) (.agg #[.int .i64 0,.int .i64 0,.string ⟨#[]⟩])).run prog b=.ok (.bool true) b:=λb=>U g b;(obtain rfl:u=true:=by rw[U i,m];simp[p]);clear i m o p g j;go_enter func116,ntmps116;go_upto_region 1 with fail;rw[<-U t];refine wp_region_quiet_below (by kernel_rfl) (by kernel_rfl) ?_
    repeat (go_big_quiet_step (first
     | (go_at_call 158;exact Calls.regrown_of (U f _))
     | (go_at_call 64;exact Calls.regrown_of (U s _ (ac (U e) (below_regrown _ _ _))))))
    refine wpQuiet_nil ?_;intro n c;(have l:Bw k n:=by obtain⟨w,rfl⟩:=c;exact below_regrown _ _ _);clear c;go_wp2;go_ret;exact⟨rfl,ac (U e) l⟩
   .have A:=gP m;(have q:bv a.v=a.v:=by rw[A];rfl);rw[q] at f d;rw[cV] at d;rw[m] at g;have M:∀b,(binOp .neq 70 (.agg #[.int .i64 a.v.k,.int .i64 a.v.n,.string a.v.s]) (.agg #[.int .i64 0,.int .i64 0,.string ⟨#[]⟩])).run prog b=.ok (.bool false) b:=λb=>U g b;have N:∀b,(binOp .neq 70 (.agg #[.int .i64 a.v.k,.int .i64 a.v.n,.string a.v.s]) (.agg #[.int .i64 a.v.k,.int .i64 a.v.n,.string a.v.s])).run prog b=.ok (.bool false) b:=λb=>U d b;(obtain rfl:u=I:=by rw[U i,m,q,cV,j];simp);rw[dt.open_] at f;clear i m o p g d A q j;go_enter func116,ntmps116;go_upto_region 1 with fail;rw[<-U t];refine wp_region_quiet_below (by kernel_rfl) (by kernel_rfl) ?_
    repeat (go_big_quiet_step (first
     | (go_at_call 158;exact Calls.regrown_of (U f _))
     | (go_at_call 64;exact Calls.regrown_of (U s _ (ac (U e) (below_regrown _ _ _))))))
    refine wpQuiet_nil ?_;intro n c;(have l:Bw k n:=by obtain⟨w,rfl⟩:=c;exact below_regrown _ _ _);clear c;go_wp2;go_ret;exact⟨rfl,ac (U e) l⟩
  ·(have p3:(a.n != 0)=true:=by simpa using j);(obtain rfl:u=true:=by rw[U i];simp[j,o]);clear i o p g d j;go_enter func116,ntmps116;go_upto_region 1 with fail;rw[<-U t];refine wp_region_quiet_below (by kernel_rfl) (by kernel_rfl) ?_
   repeat (go_big_quiet_step (first
    | (go_at_call 158;exact Calls.regrown_of (U f _))
    | (go_at_call 64;exact Calls.regrown_of (U s _ (ac (U e) (below_regrown _ _ _))))))
   refine wpQuiet_nil ?_;intro n c;(have l:Bw k n:=by obtain⟨w,rfl⟩:=c;exact below_regrown _ _ _);clear c;go_wp2;go_ret;exact⟨rfl,ac (U e) l⟩
theorem hJ:∀(e:Nat) (a:Ex),a.size<=e->a.fin->∀(c:Option Addr) (d:Nat) (b:World),Ex.all b c a.args->Calls prog 116 #[a.val c d] b λo p=>o=.returned (.bool (dr a))/\Bw b p
 | 0,a,g,_,_,_,_,_=>by rw[Ex.am] at g;omega
 | e+1,a,g,f,c,d,b,n=>jO a f c d b n λr q i k l j m=>hJ e q (by have:=Ex.av i;omega) (Ex.ay f i) k l j m
theorem kT(a:Ex)(f:a.fin)(c:Option Addr)(d:Nat)(b:World)(e:Ex.all b c a.args):Calls prog 116 #[a.val c d] b λg i=>g=.returned (.bool (dr a))/\Bw b i:=hJ a.size a aV f c d b e
def ca(a:Ex):Bool:=!b0 a || dr a
theorem nm(a:Ex)(r:a.fin)(d:Option Addr)(e:Nat)(b:World)(l:Ex.all b d a.args):Calls prog 65 #[a.val d e] b λk x=>k=.returned (.bool (ca a))/\Bw b x:=by
 have m:=ae (ar _ b) (a.box d e);have o:=VV (mz.new b a d e);have j:=VV m;have c:=VV (lx a r d e _ (Ex.ab _ l m));have p:=VV (λ(q:World) (u:Bw b q)=>kT a r d e q (Ex.ab _ l u));unfold Ex.box at o j c;rw[Ex.ad] at c p ⊢;unfold ca;have n:=gT a;generalize dr a=w at *;clear l m;cases f:b0 a with
 | true=>
  have i:cq a=((a.size:Int),(a.high:Int)):=by unfold cq;rw[aR f]
  have s:eN a=(a.size:Int):=by unfold eN;rw[aR f]
  rw[i] at c;rw[s] at n;have F:¬(400:Int)<(a.size:Int):=by omega
  clear f i s n;go_enter func65,ntmps65
  go_wp2_with (first
   | (go_at_call 111;refine(U c).mono ?_;rintro k y ⟨rfl,g⟩;obtain⟨z,A,B,C,D,E⟩:=(U o).aa g)
   | (go_at_call 116;refine(U p _ (ac (U j) g)).mono ?_;rintro k G ⟨rfl,v⟩))
  go_ret;exact⟨by have t:decide ((400:Int)<(a.size:Int))=false:=decide_eq_false (by omega);show Ending.returned (.bool (decide ((400:Int)<(a.size:Int)) || w))=_;rw[t];rfl,ac (ac (U j) g) v⟩
 | false=>(have i:cq a=(401,41):=by unfold cq;rw[aL (by rw[f];decide)]);rw[i] at c;clear f i n;go_enter func65,ntmps65;go_wp2_with (go_at_call 111;refine(U c).mono ?_;rintro k y ⟨rfl,g⟩);go_ret;exact⟨rfl,ac (U j) g⟩
def b7(p:Pl):Bool:=cm p && bg p && ds p (hh p)
theorem mI(p:Pl)(t:p.fin)(c:Pm)(b:World)(u:jW b p c):Calls prog 63 #[p.val c] b λd y=>d=.returned (.bool (b7 p))/\Bw b y:=by
 have s:=ae (ar _ b) (p.box c);have i:=VV (dL.new b p c);have j:=VV (dL.new b p c).load;have f:=VV s;have e:=VV (ma p c);have g:=VV (λ(r:World) (w:Bw b r)=>kY p t c r (u.aa w));have m:=VV (lX p c);unfold b7;unfold Pl.box at i f j;rw[Pl.ad] at e g m j ⊢;generalize ds p (hh p)=A at *;clear s u t;cases l:cm p
 .rw[l] at e;clear l g m i;go_enter func63,ntmps63
  go_wp2_with (first
   | (refine aH ?_ 28 (.tmp 1) rfl _ (by simp[Act.eval]) _ (U j) ?_;. simp[Region.wanted,yielded])
   | (go_at_call 112;refine(U e _).mono ?_;rintro d v ⟨rfl,a⟩))
  go_ret;exact⟨rfl,ac (U f) a⟩
 .rw[l] at e;cases n:bg p
  .rw[n] at g;clear l n m;go_enter func63,ntmps63
   go_wp2_with (first
    | (refine aH ?_ 28 (.tmp 1) rfl _ (by simp[Act.eval]) _ (U k) ?_;. simp[Region.wanted,yielded])
    | (refine aH ?_ 28 (.tmp 1) rfl _ (by simp[Act.eval]) _ (U j) ?_;. simp[Region.wanted,yielded])
    | (go_at_call 112;refine(U e _).mono ?_;rintro d v ⟨rfl,a⟩;have k:=VV ((U i).aa a).load;rw[Pl.ad] at k)
    | (go_at_call 113;refine(U g _ (ac (U f) a)).mono ?_;rintro d z ⟨rfl,o⟩))
   go_ret;exact⟨rfl,ac (ac (U f) a) o⟩
  .rw[n] at g;clear l n;go_enter func63,ntmps63
   go_wp2_with (first
    | (refine aH ?_ 28 (.tmp 1) rfl _ (by simp[Act.eval]) _ (U q) ?_;. simp[Region.wanted,yielded])
    | (refine aH ?_ 28 (.tmp 1) rfl _ (by simp[Act.eval]) _ (U k) ?_;. simp[Region.wanted,yielded])
    | (refine aH ?_ 28 (.tmp 1) rfl _ (by simp[Act.eval]) _ (U j) ?_;. simp[Region.wanted,yielded])
    | (go_at_call 112;refine(U e _).mono ?_;rintro d v ⟨rfl,a⟩;have k:=VV ((U i).aa a).load;rw[Pl.ad] at k)
    | (go_at_call 113;refine(U g _ (ac (U f) a)).mono ?_;rintro d z ⟨rfl,o⟩;have q:=VV ((U i).aa (ac a o)).load;rw[Pl.ad] at q)
    | (go_at_call 114;refine(U m _).mono ?_;rintro d B ⟨rfl,x⟩))
   go_ret;exact⟨rfl,ac (ac (ac (U f) a) o) x⟩
mutual
def dO:Pl->Bool
 | .mk k l a e g c f d i j b=>b7 (.mk k l a e g c f d i j b) && !a.any ca && !li b
def li:List Pl->Bool
 | []=>false
 | b::a=>!dO b || li a
end
theorem mq:∀a:List Pl,li a=a.any λb=>!dO b
 | []=>by rw[li];rfl
 | b::a=>by rw[li,List.any_cons,mq a]
theorem lh(p:Pl):dO p=(b7 p && !p.ex.any ca && !p.args.any λa=>!dO a):=by cases p;rw[dO,mq];rfl
theorem jU(p:Pl)(z:p.fin)(e:Pm)(a:World)(q:dN a p e) (C:∀(r:Nat) b,p.args[r]?=some b->∀s d,dN d b s->Calls prog 67 #[b.val s] d λf B=>f=.returned (.bool (!dO b))/\Bw d B):Calls prog 24 #[p.val e] a λf B=>f=.returned (.bool (dO p))/\Bw a B:=by
 obtain⟨⟨L,M,N,O,P,Q,R,_⟩,D,_⟩:=Pl.af z;have y:=ae (ar _ a) (p.box e);have j:=VV (dL.new a p e);have k:=VV (dL.new a p e).load;have g:=VV y;have i:=VV (mI p z e _ (q.o.aa y));have l:=VV (λ(d:World) (w:Bw a d)=>hX p.ex ca 65 (λargs a=>by kernel_rfl) e.aE e.cE d (by omega) (Ex.ab _ q.o.e w) λr b A F G u _ x=>nm b (Ex.ag D (a8 A)) F G u x);have t:=VV (λ(d:World) (w:Bw a d)=>lb p.args (λb=>!dO b) 67 (λargs a=>by kernel_rfl) e.aP e.cP d (by omega) (Pl.ab _ q.p w) λr b A s u _ x=>C r b A s u x);rw[lh];unfold Pl.box at j g k i;rw[Pl.ad] at i k ⊢;generalize (p.args.any λb=>!dO b)=S at *;clear y q z D C;cases m:b7 p
 .rw[m] at i;clear m l t j;go_enter func24,ntmps24
  go_wp2_with (first
   | (refine aH ?_ 28 (.tmp 1) rfl _ (by simp[Act.eval]) _ (U k) ?_;. simp[Region.wanted,yielded])
   | (go_at_call 63;refine(U i).mono ?_;rintro f E ⟨rfl,c⟩))
  go_ret;exact⟨rfl,ac (U g) c⟩
 .rw[m] at i;cases o:p.ex.any ca
  .rw[o] at l;clear m o;go_enter func24,ntmps24
   go_wp2_with (first
    | (refine aH ?_ 28 (.tmp 1) rfl _ (by simp[Act.eval]) _ (U k) ?_;. simp[Region.wanted,yielded])
    | (go_at_call 63;refine(U i).mono ?_;rintro f E ⟨rfl,c⟩;have v:=((U j).aa c).c2;simp only[aT] at v)
    | (go_at_call 64;refine(U l _ (ac (U g) c)).mono ?_;rintro f K ⟨rfl,n⟩;have I:=((U j).aa (ac c n)).c10;simp only[aT] at I)
    | (go_at_call 66;refine(U t _ (ac (ac (U g) c) n)).mono ?_;rintro f T ⟨rfl,J⟩))
   go_ret;exact⟨rfl,ac (ac (ac (U g) c) n) J⟩
  .rw[o] at l;clear m o t;go_enter func24,ntmps24
   go_wp2_with (first
    | (refine aH ?_ 28 (.tmp 1) rfl _ (by simp[Act.eval]) _ (U k) ?_;. simp[Region.wanted,yielded])
    | (go_at_call 63;refine(U i).mono ?_;rintro f E ⟨rfl,c⟩;have v:=((U j).aa c).c2;simp only[aT] at v)
    | (go_at_call 64;refine(U l _ (ac (U g) c)).mono ?_;rintro f K ⟨rfl,n⟩))
   go_ret;exact⟨rfl,ac (ac (U g) c) n⟩
theorem ju(p:Pl)(c:Pm)(a:World)(h:∀b,Bw a b->Calls prog 24 #[p.val c] b λd i=>d=.returned (.bool (dO p))/\Bw b i):Calls prog 67 #[p.val c] a λd i=>d=.returned (.bool (!dO p))/\Bw a i:=by
 have e:=VV (ae (ar _ a) (p.box c));have f:=VV (h _ (U e));have g:=VV (dL.new a p c).load;unfold Pl.box at e f g;rw[Pl.ad] at f g ⊢;generalize dO p=k at *;clear h;go_enter func67,ntmps67
 go_wp2_with (first
  | (refine aH ?_ 28 (.tmp 1) rfl _ (by simp[Act.eval]) _ (U g) ?_;. simp[Region.wanted,yielded])
  | (go_at_call 24;refine(U f).mono ?_;rintro d l ⟨rfl,j⟩))
 go_ret;exact⟨rfl,ac (U e) j⟩
theorem hR:∀(d:Nat) (a:Pl),a.size<=d->a.fin->∀(c:Pm) (b:World),dN b a c->Calls prog 24 #[a.val c] b λp q=>p=.returned (.bool (dO a))/\Bw b q
 | 0,a,f,_,_,_,_=>by rw[Pl.am] at f;omega
 | d+1,a,f,e,c,b,o=>jU a e c b o λr j g i k m=>ju j i k λl n=>hR d j (by have:=Pl.av g;omega) (Pl.ay e g) i l (m.aa n)
theorem kZ(p:Pl)(d:p.fin)(b:Pm)(a:World)(c:dN a p b):Calls prog 24 #[p.val b] a λe f=>e=.returned (.bool (dO p))/\Bw a f:=hR p.size p aV d b a c
def bS(p:Pl):Int:=if (e3 p 400 40).isSome then (if dO p then 0 else 1) else 3
theorem jy(p:Pl)(r:p.fin)(d:Pm)(b:World)(n:dN b p d):Calls prog 10 #[p.val d] b λg v=>g=.returned (.int .i64 (bS p))/\Bw b v:=by
 have o:=ae (ar _ b) (p.box d);have k:=VV (dL.new b p d);have i:=VV (dL.new b p d).load;have e:=VV o;have c:=VV (iI p.size p aV r 400 40 d _ (by omega) (by omega) (by omega) (by omega) (n.aa o));have f:=VV (λ(s:World) (u:Bw b s)=>kZ p r d s (n.aa u));unfold bS;unfold Pl.box at k e i c;rw[Pl.ad] at c f i ⊢;clear o n r;cases l:e3 p 400 40 with
 | none=>
  rw[l] at c;clear l f k;go_enter func10,ntmps10
  go_wp2_with (first
   | (refine aH ?_ 28 (.tmp 1) rfl _ (by simp[Act.eval]) _ (U i) ?_;. simp[Region.wanted,yielded])
   | (go_at_call 23;refine(U c).mono ?_;rintro g t ⟨rfl,a⟩))
  go_ret;exact⟨rfl,ac (U e) a⟩
 | some x=>
  rw[l] at c;clear l;cases m:dO p
  .rw[m] at f;clear m;go_enter func10,ntmps10
   go_wp2_with (first
    | (refine aH ?_ 28 (.tmp 1) rfl _ (by simp[Act.eval]) _ (U j) ?_;. simp[Region.wanted,yielded])
    | (refine aH ?_ 28 (.tmp 1) rfl _ (by simp[Act.eval]) _ (U i) ?_;. simp[Region.wanted,yielded])
    | (go_at_call 23;refine(U c).mono ?_;rintro g t ⟨rfl,a⟩;have j:=VV ((U k).aa a).load;rw[Pl.ad] at j)
    | (go_at_call 24;refine(U f _ (ac (U e) a)).mono ?_;rintro g w ⟨rfl,q⟩))
   go_ret;exact⟨rfl,ac (ac (U e) a) q⟩
  .rw[m] at f;clear m;go_enter func10,ntmps10
   go_wp2_with (first
    | (refine aH ?_ 28 (.tmp 1) rfl _ (by simp[Act.eval]) _ (U j) ?_;. simp[Region.wanted,yielded])
    | (refine aH ?_ 28 (.tmp 1) rfl _ (by simp[Act.eval]) _ (U i) ?_;. simp[Region.wanted,yielded])
    | (go_at_call 23;refine(U c).mono ?_;rintro g t ⟨rfl,a⟩;have j:=VV ((U k).aa a).load;rw[Pl.ad] at j)
    | (go_at_call 24;refine(U f _ (ac (U e) a)).mono ?_;rintro g w ⟨rfl,q⟩))
   go_ret;exact⟨rfl,ac (ac (U e) a) q⟩
def n4(a:Ex):Bool:=(decide (¬a.op=1) && decide (¬a.n=0)) || (decide (¬a.op=2) && !gq a.v .null) || !gq a.v (bv a.v)
theorem nn(a:Ex):dr a=(n4 a || a.args.any dr):=kf a
theorem rd(d:b0 e=true):e.args.any ca=e.args.any dr:=by
 have h:∀a∈e.args,ca a=dr a:=λa b=>by obtain⟨g,f,rfl⟩:=List.getElem_of_mem b;unfold ca;rw[pK d (ba f)];rfl
 rw[Bool.eq_iff_iff,List.any_eq_true,List.any_eq_true];exact⟨λ⟨a,b,c⟩=>⟨a,b,by rw[<-h a b];exact c⟩,λ⟨a,b,c⟩=>⟨a,b,by rw[h a b];exact c⟩⟩
theorem mM(a:Ex)(V:a.fin)(A:Option Addr)(P:Nat)(t:World)(S:Ex.all t A a.args) (VW:∀(I:Nat) p,a.args[I]?=some p->∀B Q b,Ex.all b B p.args->Calls prog 77 #[p.val B Q] b λx V7=>x=.returned (.bool (!ca p))/\Bw b V7):Calls prog 77 #[a.val A P] t λx V7=>x=.returned (.bool (!ca a))/\Bw t V7:=by
 obtain⟨⟨Wv,_,_,_⟩,_⟩:=Ex.af V;have T:=ae (ar _ t) (a.box A P);have J:=VV (mz.new t a A P);have u:=VV (mO a V A P _ (Ex.ab _ S T));have K:=VV T;have Wa:=VV VW;have V8:=VV (λ(b:World) (Wn:Bw t b)=>Ex.ab _ S Wn);obtain⟨y,v⟩:=al (ca a);rw[<-v];unfold ca at v;unfold Ex.box at J u K;rw[Ex.ad] at u ⊢;cases D:b0 a;.rw[D] at u v;obtain rfl:y=true:=v;clear D T VW S V Wa V8 J;go_enter func77,ntmps77;go_wp2_with (go_at_call 126;refine(U u).mono ?_;rintro x WD ⟨rfl,C⟩);go_ret;exact⟨rfl,ac (U K) C⟩
 rw[D] at u v;have Wc:y=(n4 a || a.args.any ca):=by rw[v,rd D,nn];rfl
 have z:=VV Wc;have f:=VV (i6 a.v);have g:=VV (rC a.v .null);have d:=VV (rC a.v (bv a.v));rw[dt.open_] at f;obtain⟨s,W⟩:=al (n4 a);rw[<-W] at z;unfold n4 at W;have i:=VV W;clear D v Wc W T VW S V;go_enter func77,ntmps77;go_upto_region 3 with (go_at_call 126;refine(U u).mono ?_;rintro x e ⟨rfl,C⟩);have X:=VV ((U J).aa C);have V9:=VV (ac (U K) C);clear C J K u;go_cut[34] (λWr Wt=>Wr=.bool s/\Bw e Wt);case first=>obtain⟨VX,VY,VZ,V0,V1,R⟩:=U X;have Ww:=cell_regrown VX;have Wx:=cell_regrown VY;have Wy:=cell_regrown VZ;have Wz:=cell_regrown V0;have WA:=cell_regrown V1;clear VX VY VZ V0 V1 R z;by_cases n:a.op=1;(·(have p1:(a.op != 1)=false:=by rw[n];rfl);(have p2:(a.op != 2)=true:=by rw[n];rfl);cases l:gq a.v .null;(.rw[l] at g;have V5:∀b,(binOp .neq 70 (.agg #[.int .i64 a.v.k,.int .i64 a.v.n,.string a.v.s]) (.agg #[.int .i64 0,.int .i64 0,.string ⟨#[]⟩])).run prog b=.ok (.bool true) b:=λb=>U g b;(obtain rfl:s=true:=by rw[U i,n,l];rfl);clear i l n g;refine wp_region_quiet_below (by kernel_rfl) (by kernel_rfl) ?_;(repeat (go_big_quiet_step ((go_at_call 127;exact Calls.regrown_of (U f _)))));refine wpQuiet_nil ?_;intro m c;(have k:Bw e m:=by obtain⟨w,rfl⟩:=c;exact below_regrown _ _ _);clear c;go_wp2;go_meet;exact⟨rfl,k⟩);.have F:=gP l;(have q:bv a.v=a.v:=by rw[F];rfl);rw[q] at f d;rw[cV] at d;rw[l] at g;have V5:∀b,(binOp .neq 70 (.agg #[.int .i64 a.v.k,.int .i64 a.v.n,.string a.v.s]) (.agg #[.int .i64 0,.int .i64 0,.string ⟨#[]⟩])).run prog b=.ok (.bool false) b:=λb=>U g b;have V6:∀b,(binOp .neq 70 (.agg #[.int .i64 a.v.k,.int .i64 a.v.n,.string a.v.s]) (.agg #[.int .i64 a.v.k,.int .i64 a.v.n,.string a.v.s])).run prog b=.ok (.bool false) b:=λb=>U d b;(obtain rfl:s=false:=by rw[U i,n,l,q,cV];rfl);rw[dt.open_] at f;clear i l n g d F q;refine wp_region_quiet_below (by kernel_rfl) (by kernel_rfl) ?_;(repeat (go_big_quiet_step ((go_at_call 127;exact Calls.regrown_of (U f _)))));refine wpQuiet_nil ?_;intro m c;(have k:Bw e m:=by obtain⟨w,rfl⟩:=c;exact below_regrown _ _ _);clear c;go_wp2;go_meet;exact⟨rfl,k⟩);by_cases o:a.op=2;(·(have p1:(a.op != 1)=true:=by rw[o];rfl);(have p2:(a.op != 2)=false:=by rw[o];rfl);by_cases j:a.n=0;(·(have p3:(a.n != 0)=false:=by rw[j];rfl);cases E:gq a.v (bv a.v);(.rw[E] at d;have V6:∀b,(binOp .neq 70 (.agg #[.int .i64 a.v.k,.int .i64 a.v.n,.string a.v.s]) (.agg #[.int .i64 (bv a.v).k,.int .i64 (bv a.v).n,.string (bv a.v).s])).run prog b=.ok (.bool true) b:=λb=>U d b;(obtain rfl:s=true:=by rw[U i,o,j,E];rfl);rw[dt.open_] at f;generalize bv a.v=cv at *;clear i E n o g d j;refine wp_region_quiet_below (by kernel_rfl) (by kernel_rfl) ?_;(repeat (go_big_quiet_step ((go_at_call 127;exact Calls.regrown_of (U f _)))));refine wpQuiet_nil ?_;intro m c;(have k:Bw e m:=by obtain⟨w,rfl⟩:=c;exact below_regrown _ _ _);clear c;go_wp2;go_meet;exact⟨rfl,k⟩);.have q:=(gP E).symm;rw[q] at f d;rw[cV] at d;have V6:∀b,(binOp .neq 70 (.agg #[.int .i64 a.v.k,.int .i64 a.v.n,.string a.v.s]) (.agg #[.int .i64 a.v.k,.int .i64 a.v.n,.string a.v.s])).run prog b=.ok (.bool false) b:=λb=>U d b;(obtain rfl:s=false:=by rw[U i,o,j,q,cV];rfl);rw[dt.open_] at f;clear i E n o g d j q;refine wp_region_quiet_below (by kernel_rfl) (by kernel_rfl) ?_;(repeat (go_big_quiet_step ((go_at_call 127;exact Calls.regrown_of (U f _)))));refine wpQuiet_nil ?_;intro m c;(have k:Bw e m:=by obtain⟨w,rfl⟩:=c;exact below_regrown _ _ _);clear c;go_wp2;go_meet;exact⟨rfl,k⟩);·(have p3:(a.n != 0)=true:=by simpa using j);(obtain rfl:s=true:=by rw[U i,o];simp[j]);clear i n o g d j;refine wp_region_quiet_below (by kernel_rfl) (by kernel_rfl) ?_;(repeat (go_big_quiet_step ((go_at_call 127;exact Calls.regrown_of (U f _)))));refine wpQuiet_nil ?_;intro m c;(have k:Bw e m:=by obtain⟨w,rfl⟩:=c;exact below_regrown _ _ _);clear c;go_wp2;go_meet;exact⟨rfl,k⟩);·(have p1:(a.op != 1)=true:=by simpa using n);(have p2:(a.op != 2)=true:=by simpa using o);by_cases j:a.n=0;(·(have p3:(a.n != 0)=false:=by rw[j];rfl);cases l:gq a.v .null;(.rw[l] at g;have V5:∀b,(binOp .neq 70 (.agg #[.int .i64 a.v.k,.int .i64 a.v.n,.string a.v.s]) (.agg #[.int .i64 0,.int .i64 0,.string ⟨#[]⟩])).run prog b=.ok (.bool true) b:=λb=>U g b;(obtain rfl:s=true:=by rw[U i,l];simp[o]);clear i l n o g j;refine wp_region_quiet_below (by kernel_rfl) (by kernel_rfl) ?_;(repeat (go_big_quiet_step ((go_at_call 127;exact Calls.regrown_of (U f _)))));refine wpQuiet_nil ?_;intro m c;(have k:Bw e m:=by obtain⟨w,rfl⟩:=c;exact below_regrown _ _ _);clear c;go_wp2;go_meet;exact⟨rfl,k⟩);.have F:=gP l;(have q:bv a.v=a.v:=by rw[F];rfl);rw[q] at f d;rw[cV] at d;rw[l] at g;have V5:∀b,(binOp .neq 70 (.agg #[.int .i64 a.v.k,.int .i64 a.v.n,.string a.v.s]) (.agg #[.int .i64 0,.int .i64 0,.string ⟨#[]⟩])).run prog b=.ok (.bool false) b:=λb=>U g b;have V6:∀b,(binOp .neq 70 (.agg #[.int .i64 a.v.k,.int .i64 a.v.n,.string a.v.s]) (.agg #[.int .i64 a.v.k,.int .i64 a.v.n,.string a.v.s])).run prog b=.ok (.bool false) b:=λb=>U d b;(obtain rfl:s=false:=by rw[U i,l,q,cV,j];simp);rw[dt.open_] at f;clear i l n o g d F q j;refine wp_region_quiet_below (by kernel_rfl) (by kernel_rfl) ?_;(repeat (go_big_quiet_step ((go_at_call 127;exact Calls.regrown_of (U f _)))));refine wpQuiet_nil ?_;intro m c;(have k:Bw e m:=by obtain⟨w,rfl⟩:=c;exact below_regrown _ _ _);clear c;go_wp2;go_meet;exact⟨rfl,k⟩);·(have p3:(a.n != 0)=true:=by simpa using j);(obtain rfl:s=true:=by rw[U i];simp[j,n]);clear i n o g d j;refine wp_region_quiet_below (by kernel_rfl) (by kernel_rfl) ?_;(repeat (go_big_quiet_step ((go_at_call 127;exact Calls.regrown_of (U f _)))));refine wpQuiet_nil ?_;intro m c;(have k:Bw e m:=by obtain⟨w,rfl⟩:=c;exact below_regrown _ _ _);clear c;go_wp2;go_meet;exact⟨rfl,k⟩
 case rest=>obtain⟨rfl,V4⟩:=hcut;have M:=VV (ac (U V9) V4);have Wh:=VV ((U X).aa V4);clear V4 V9 X i f g d;cases s;(.have Wb:Hid (y=a.args.any ca):=U z;obtain⟨-,-,-,-,-,R⟩:=U Wh;clear z;obtain⟨Wg,Wp⟩:=al wc;subst Wp;go_wp2_with fail;go_loopw[38] (λI wr=>∃(r:Nat),r<=a.args.length/\I=.int .i64 (r:Int)/\Hid ((a.args.take r).any ca=false)/\Hid (Bw Wg wr)) (λI _=>a.args.length-(intOf I).toNat);(case atStart=>exact⟨0,bf,rfl,by show (a.args.take 0).any ca=false;rfl,aN⟩);case round=>clear R;obtain⟨r,Wu,rfl,O,L⟩:=hrel;by_cases Wo:r<a.args.length;(·(have Wm:(r:Int)<(a.args.length:Int):=by omega);obtain⟨p,G⟩:∃p,a.args[r]?=some p:=⟨_,ba Wo⟩;have Wf:=ac (U M) (U L);obtain⟨WB,WC,Wl,We⟩:=Ex.all_get (U V8 _ Wf) G;obtain⟨B,Q,⟨VX,VY,VZ,V0,V1,R⟩,Wd⟩:=Ex.ao We;have V3:=ae (ar _ wr) (p.box B Q);have N:=VV (U Wa r p G B Q _ (Ex.ab _ Wd V3));have Y:=VV (ac (U L) V3);unfold Ex.box at N Y;rw[Ex.ad] at N;have Wk:Hid (ca p=false->(a.args.take (r+1)).any ca=false):=λh=>gI G (U O) h;(have Wj:Hid (ca p=true->y=true):=λh=>by rw[U Wb];exact h2 G h);generalize ca p=Wq at *;rw[Wl];clear G We Wd V3 Wf O L;cases Wq;(.have Wi:=VV (U Wk rfl);go_wp2_with (go_at_call 77;refine(U N).mono ?_;rintro x Ws ⟨rfl,V2⟩);exact⟨⟨r+1,by omega,by go_num,U Wi,ac (U Y) V2⟩,by simp[intOf];omega⟩);.have Z:=VV (U Wj rfl);go_wp2_with (go_at_call 77;refine(U N).mono ?_;rintro x Ws ⟨rfl,V2⟩);go_ret;exact⟨by rw[U Z];rfl,ac (U M) (ac (U Y) V2)⟩);·(have Wm:¬(r:Int)<(a.args.length:Int):=by omega);(have Z:Hid (y=false):=by have h:=U O;rw[h3 (by omega)] at h;rw[U Wb];exact h);clear O;go_wp2;go_ret;exact⟨by rw[U Z];rfl,ac (U M) (U L)⟩);.obtain rfl:y=true:=U z;go_wp2;go_ret;exact⟨rfl,U M⟩
theorem j4:∀(e:Nat) (a:Ex),a.size<=e->a.fin->∀(c:Option Addr) (d:Nat) (b:World),Ex.all b c a.args->Calls prog 77 #[a.val c d] b λo p=>o=.returned (.bool (!ca a))/\Bw b p
 | 0,a,g,_,_,_,_,_=>by rw[Ex.am] at g;omega
 | e+1,a,g,f,c,d,b,n=>mM a f c d b n λr q i k l j m=>j4 e q (by have:=Ex.av i;omega) (Ex.ay f i) k l j m
theorem oK(a:Ex)(f:a.fin)(c:Option Addr)(d:Nat)(b:World)(e:Ex.all b c a.args):Calls prog 77 #[a.val c d] b λg i=>g=.returned (.bool (!ca a))/\Bw b i:=j4 a.size a aV f c d b e
theorem jJ{H:Type}{enc:TypeId×Value->H}{a:Program}{w:World}{base:Nat}{spare:Nat->Bool}{held:Bool}{C:TypeId}{d e g i j k l m o p f:Field}{E:DataW H×List MemPlace}(I:a.underlying C=some (.struct #[d,e,g,i,j,k,l,m,o,p,f]))(h:DataW.trod enc a w base spare held n C D=some E):∃q r t u v x y z A B s b,E.1=.agg [q.1,r.1,t.1,u.1,v.1,x.1,y.1,z.1,A.1,B.1,s.1]/\D.length=a.cellsOf C/\DataW.trod enc a w base spare held b d.type ((D.drop d.offset).take (a.cellsOf d.type))=some q/\DataW.trod enc a w base spare held b e.type ((D.drop e.offset).take (a.cellsOf e.type))=some r/\DataW.trod enc a w base spare held b g.type ((D.drop g.offset).take (a.cellsOf g.type))=some t/\DataW.trod enc a w base spare held b i.type ((D.drop i.offset).take (a.cellsOf i.type))=some u/\DataW.trod enc a w base spare held b j.type ((D.drop j.offset).take (a.cellsOf j.type))=some v/\DataW.trod enc a w base spare held b k.type ((D.drop k.offset).take (a.cellsOf k.type))=some x/\DataW.trod enc a w base spare held b l.type ((D.drop l.offset).take (a.cellsOf l.type))=some y/\DataW.trod enc a w base spare held b m.type ((D.drop m.offset).take (a.cellsOf m.type))=some z/\DataW.trod enc a w base spare held b o.type ((D.drop o.offset).take (a.cellsOf o.type))=some A/\DataW.trod enc a w base spare held b p.type ((D.drop p.offset).take (a.cellsOf p.type))=some B/\DataW.trod enc a w base spare held b f.type ((D.drop f.offset).take (a.cellsOf f.type))=some s:=by
 obtain⟨J,b,_,rfl,F,G,c⟩:=DataW.trod_struct I h;match J,G with
 | [q,r,t,u,v,x,y,z,A,B,s],_=>exact⟨q,r,t,u,v,x,y,z,A,B,s,b,by simp,F,by simpa using c 0 d rfl,by simpa using c 1 e rfl,by simpa using c 2 g rfl,by simpa using c 3 i rfl,by simpa using c 4 j rfl,by simpa using c 5 k rfl,by simpa using c 6 l rfl,by simpa using c 7 m rfl,by simpa using c 8 o rfl,by simpa using c 9 p rfl,by simpa using c 10 f rfl⟩
theorem ov:Tryz.prog.cellsOf 28=11:=by kernel_rfl
theorem q2:Tryz.prog.cellsOf 23=1:=by kernel_rfl
theorem q1:Tryz.prog.cellsOf 24=1:=by kernel_rfl
theorem q3:Tryz.prog.cellsOf 25=1:=by kernel_rfl
theorem q0:Tryz.prog.cellsOf 26=1:=by kernel_rfl
theorem ky:Tryz.prog.cellsOf 82=2:=by kernel_rfl
theorem kA:Tryz.prog.cellsOf 78=2:=by kernel_rfl
theorem rW:Tryz.prog.cellsOf 4=1:=by kernel_rfl
theorem rB{H:Type}(a:DataW H):1<=Rows.uptoBulk a:=by
 cases a with
 | lit b=>cases b<;>simp[Rows.uptoBulk]
 | nil=>simp[Rows.uptoBulk]
 | ptr a=>simp[Rows.uptoBulk]
 | slice c spare=>simp[Rows.uptoBulk]
 | agg e=>simp[Rows.uptoBulk]
 | iface f a=>simp[Rows.uptoBulk]
 | map d=>simp[Rows.uptoBulk]
 | held h=>simp[Rows.uptoBulk]
theorem jr{H:Type}:∀a:List (DataW H),a.length<=Rows.uptoBulkAll a
 | []=>bf
 | b::a=>by have:=jr a;have:=rB b;rw[Rows.uptoBulkAll,a1];omega
theorem jf{H:Type}:∀{b:List (DataW H)} {a:DataW H},a∈b->Rows.uptoBulk a<=Rows.uptoBulkAll b
 | c::b,a,h=>by rw[Rows.uptoBulkAll];rcases dm h with rfl|h;(.omega);.have:=jf h;omega
theorem e4{H:Type}{b:List (DataW H)}{a:DataW H}(h:a∈b):Rows.uptoBulk a<=Rows.uptoBulk (.agg b)/\SizeOf.sizeOf a<SizeOf.sizeOf (DataW.agg b):=by
 refine⟨?_,?_⟩;.have:=jf h;simp only[Rows.uptoBulk];omega
 .have:=List.sizeOf_lt_of_mem h;simp only[DataW.agg.sizeOf_spec];omega
theorem nN{H:Type}{a:ByteArray}(h:Rows.uptoBulk (.lit (.string a.data.toList):DataW H)<=n):a.size<=n:=by
 simp only[Rows.uptoBulk] at h;have b:a.data.toList.length=a.size:=by rw[Array.length_toList];rfl
 omega
section
variable {H:Type}{enc:TypeId×Value->H}{w:World}{base:Nat}{spare:Nat->Bool}{held:Bool}
def nK{α:Type}(w:World)(f:Nat)(cells:α->List Value)(g:Option Addr)(e:List α):Prop:=e=[]∨∃a d,g=some ⟨a,d,none⟩/\∀(b:Nat) q,e[b]?=some q->∀(c:Nat) v,(cells q)[c]?=some v->w.cell? ⟨a,d+b*f+c,none⟩=some v
theorem e7{α:Type}[Inhabited α]{cv:Value}{i:DataW H×List MemPlace}(d:Nat)(B:0<d)(cells:α->List Value)(r:α->Prop)(Y:Tryz.prog.underlying n=some (.slice m))(P:Tryz.prog.cellsOf m=d)(E:∀b,(cells b).length=d) (O:∀q z (y:DataW H×List MemPlace),DataW.trod enc prog w base spare held q m z=some y->SizeOf.sizeOf y.1<SizeOf.sizeOf i.1->Rows.uptoBulk y.1<=Rows.uptoBulk i.1->∃b,z=cells b/\r b) (h:DataW.trod enc prog w base spare held k n [cv]=some i):∃(f:Option Addr) (p:Nat) (o:List α),cv=.slice f o.length p/\o.length<=p/\nK w d cells f o/\(∀b∈o,r b)/\o.length<=Rows.uptoBulk i.1:=by
 rcases open_slice Y h with ⟨j,G⟩|⟨f,len,p,x,q,c,Pl,j,VY,V,V1,W,G,Q⟩
 .simp only[List.cons.injEq,and_true] at j;subst j;exact⟨none,0,[],rfl,aV,.inl rfl,(λb e=>by cases e),bf⟩
 .simp only[List.cons.injEq,and_true] at j;subst j;have I:i.1=.slice ((List.range len).map c) ((List.range (x-len)).map λg=>c (len+g)):=by rw[G]
  have V0:len<=x:=by rw[W];split<;>omega
  have VZ:Rows.uptoBulk i.1=Rows.uptoBulkAll ((List.range len).map c)+Rows.uptoBulkAll ((List.range (x-len)).map λg=>c (len+g))+1:=by rw[I,Rows.uptoBulk]
  have R:∀a,a<len->∃b:α,w.cells? base (f.add (a*d)) d=some (cells b)/\r b:=by
   intro a l;obtain⟨L,A,M⟩:=Q a (by omega);rw[P] at A;have F:c a∈(List.range len).map c:=List.mem_map.2 ⟨a,List.mem_range.2 l,rfl⟩
   obtain⟨b,rfl,e⟩:=O q L (c a,Pl a) M (by
    have V2:=List.sizeOf_lt_of_mem F;rw[I];simp only[DataW.slice.sizeOf_spec];show SizeOf.sizeOf (c a)<_;omega) (by
    have:=jf F;show Rows.uptoBulk (c a)<=_;omega)
   exact⟨b,A,e⟩
  obtain⟨s,t⟩:=choose_lt (α:=α) (n:=len) R;have u:((List.range len).map s).length=len:=by simp
  refine⟨some f,p,(List.range len).map s,by rw[u],by rw[u];exact V,?_,?_,?_⟩;.by_cases N:len=0;(.left;subst N;rfl);.right;obtain⟨K,VW,VX⟩:=f;have C:=(World.cells?_some (t 0 (by omega)).1).2.2 0 B;obtain⟨V3,Z⟩:∃J,(cells (s 0))[0]?=some J:=⟨_,ba (by rw[E];exact B)⟩;rw[Z] at C;(have X:VX=none:=by simpa [Addr.add] using World.cell?_spot C);subst X;refine⟨K,VW,rfl,λa b e g J v=>?_⟩;obtain⟨l,rfl⟩:=b6 e;(have S:a<len:=by simpa using l);simp only[List.getElem_map,List.getElem_range] at v;(have T:g<d:=by have:=(b6 v).1;rw[E] at this;exact this);have D:=(World.cells?_some (t a S).1).2.2 g T;rw[mw,mw,v] at D;exact D
  .intro b e;obtain⟨a,l,rfl⟩:=fB e;exact(t a (by simpa using l)).2
  .rw[u];have:=jr ((List.range len).map c);rw[VP,List.length_range] at this;omega
def iU(a:Ex×Option Addr×Nat):List Value:=[.int .i64 a.1.op,.int .i64 a.1.n,.int .i64 a.1.v.k,.int .i64 a.1.v.n,.string a.1.v.s,.slice a.2.1 a.1.args.length a.2.2]
theorem og{d:List (Ex×Option Addr×Nat)}(h:nK w 6 iU a d)(g:∀c∈d,Ex.all w c.2.1 c.1.args):Ex.all w a (d.map Prod.fst):=by
 rcases h with rfl|⟨k,j,rfl,h⟩;.show Ex.all w a [];rw[Ex.all];trivial
 .refine Ex.all_of _ j λi l e=>?_;rw[b8] at e;obtain⟨c,f,rfl⟩:=Option.map_eq_some_iff.1 e;have b:=h i c f;exact Ex.at_mk ⟨b 0 _ rfl,b 1 _ rfl,b 2 _ rfl,b 3 _ rfl,b 4 _ rfl,b 5 _ rfl⟩ (g c (a8 f))
theorem lW:∀(k:Nat) (b:DataW H),SizeOf.sizeOf b<=k->Rows.uptoBulk b<=1048576->∀{l:Nat} {e:List Value} {ps:List MemPlace},DataW.trod enc prog w base spare held l 72 e=some (b,ps)->∃a:Ex×Option Addr×Nat,e=iU a/\Ex.all w a.2.1 a.1.args/\a.1.fin
 | 0,b,F,_,_,_,_,_=>by cases b<;>simp at F
 | k+1,b,F,V8,l,e,ps,h=>by
  obtain⟨M,N,g,m,Wb,f,C,y,z,A,B⟩:=trod_struct4 underlying72 h
  simp only[Prod.mk.injEq] at f
  obtain⟨rfl,_⟩:=f
  rw[lf] at C
  match e,C with
  | [VY,VZ,V0,V1,V2,V3],_=>
   simp only[iu,rX,ow,List.drop_zero,List.take_succ_cons,List.take_zero,List.drop_succ_cons] at y z A B
   obtain⟨I,p,Wd,Wj⟩:=DataW.trod_int underlying3 y
   obtain⟨G,q,We,Y⟩:=DataW.trod_int underlying3 z
   obtain⟨O,P,i,Wc,V,V9,u,v,x⟩:=trod_struct3 underlying70 A
   simp only[iu,sE,q4,List.drop_zero,List.take_succ_cons,List.take_zero,List.drop_succ_cons] at u v x
   obtain⟨J,r,Wf,Wk⟩:=DataW.trod_int underlying3 u
   obtain⟨K,s,Wg,Z⟩:=DataW.trod_int underlying2 v
   obtain⟨c,t,X,Wl⟩:=DataW.trod_string underlying9 x
   simp only[List.cons.injEq,and_true] at p q r s t
   subst p q r s t
   have VW:=(e4 (show g.1∈[M.1,N.1,g.1,m.1] by simp)).1
   have VX:=e4 (show m.1∈[M.1,N.1,g.1,m.1] by simp)
   have W:g.1=.agg [O.1,P.1,i.1]:=by rw[V]
   have Q:=(e4 (show i.1∈[O.1,P.1,i.1] by simp)).1
   rw[<-W] at Q
   have V7:c.size<=1048576:=nN (H:=H) (by have R:i.1=.lit (.string c.data.toList):=(by rw[X]);rw[<-R];omega)
   have Wa:Inhabited (Ex×Option Addr×Nat):=⟨(.mk 0 0 .null [],none,0)⟩
   obtain⟨n,o,d,rfl,V6,T,E,V5⟩:=e7 6 (by decide) iU (λa=>Ex.all w a.2.1 a.1.args/\a.1.fin) underlying22 lf (λa=>rfl) (λl V4 L S Wh Wi=>lW k L.1 (by omega) (by omega) (ps:=L.2) S) B
   have D:(d.map Prod.fst).length=d.length:=by simp
   refine⟨(.mk I G ⟨J,K,c⟩ (d.map Prod.fst),n,o),?_,og T (λa j=>(E a j).1),?_⟩
   .show _=[_,_,_,_,_,Value.slice n (d.map Prod.fst).length o]
    rw[D];rfl
   .show Ex.fin (.mk I G ⟨J,K,c⟩ (d.map Prod.fst))
    rw[Ex.fin]
    refine⟨⟨by rw[D];omega,by show c.size<=_;omega,fz Z,fz Y⟩,Ex.aC _ λWm f=>?_⟩
    obtain⟨a,j,rfl⟩:=fB f
    exact(E a j).2
theorem Pl.all_of{w:World}{e:Nat}:∀(d:List Pl) (a:Nat),(∀(b:Nat) c,d[b]?=some c->Pl.at w e (a+b*11) c)->Pl.all w (some ⟨e,a,none⟩) d
 | [],a,_=>by rw[Pl.all];trivial
 | c::d,a,h=>by rw[Pl.all];refine⟨e,a,rfl,by simpa using h 0 c rfl,Pl.all_of d (a+11) λb g f=>?_⟩;have:=h (b+1) g (by simpa using f);rw[show a+11+b*11=a+(b+1)*11 by omega];exact this
variable{p:Pl}
theorem Pl.at_mk{w:World}{m:Pm}(h:dL w n k p m)(b:jW w p m)(a:Pl.all w m.aP p.args):p.at w n k:=by
 cases p with
 | mk q r f e i c g d l o j=>rw[Pl.at];exact⟨m,h,b,a⟩
theorem Pl.aC:∀(a:List Pl),(∀b∈a,b.fin)->Pl.ah a
 | [],_=>by rw[Pl.ah];trivial
 | c::a,h=>by rw[Pl.ah];exact⟨h c (by simp),Pl.aC a λb d=>h b (by simp[d])⟩
def iS(a:Pl×Pm):List Value:=[.int .i64 a.1.op,.string a.1.tab,.slice a.2.aE a.1.ex.length a.2.cE,.slice a.2.aC a.1.cols.length a.2.cC,.slice a.2.aK a.1.keys.length a.2.cK,.slice a.2.aA a.1.aggs.length a.2.cA,.int .i64 a.1.fn,.int .i64 a.1.col,.int .i64 a.1.n,.int .i64 a.1.off,.slice a.2.aP a.1.args.length a.2.cP]
theorem rz{d:List (Pl×Pm)}(h:nK w 11 iS a d)(i:∀c∈d,dN w c.1 c.2):Pl.all w a (d.map Prod.fst):=by
 rcases h with rfl|⟨l,k,rfl,h⟩;.show Pl.all w a [];rw[Pl.all];trivial
 .refine Pl.all_of _ k λj n e=>?_;rw[b8] at e;obtain⟨c,g,rfl⟩:=Option.map_eq_some_iff.1 e;have b:=h j c g;have f:=i c (a8 g);exact Pl.at_mk (m:=c.2) ⟨b 0 _ rfl,b 1 _ rfl,b 2 _ rfl,b 3 _ rfl,b 4 _ rfl,b 5 _ rfl,b 6 _ rfl,b 7 _ rfl,b 8 _ rfl,b 9 _ rfl,b 10 _ rfl⟩ f.o f.p
theorem nd{cv:Value}{f:DataW H×List MemPlace}(h:DataW.trod enc prog w base spare held n 23 [cv]=some f):∃(d:Option Addr) (e:Nat) (b:List Int),cv=.slice d b.length e/\b.length<=e/\bC w d b/\(∀a∈b,b2 a)/\b.length<=Rows.uptoBulk f.1:=by
 obtain⟨d,e,b,k,l,c,m,o⟩:=e7 (α:=Int) 1 (by decide) (λa=>[.int .i64 a]) b2 underlying23 iu (λ_=>rfl) (λv u x j _ _=>by obtain⟨a,i,_,t⟩:=DataW.trod_int underlying3 j;exact⟨a,i,fz t⟩) h;refine⟨d,e,b,k,l,?_,m,o⟩;rcases c with c|⟨g,s,p,c⟩;.exact .inl c
 .exact .inr ⟨g,s,p,λr a q=>by have:=c r a q 0 _ rfl;simpa using this⟩
theorem nc{cv:Value}{p:DataW H×List MemPlace}(h:DataW.trod enc prog w base spare held n 24 [cv]=some p):∃(d:Option Addr) (e:Nat) (b:List (Int×Bool)),cv=.slice d b.length e/\b.length<=e/\cL w d b/\(∀a∈b,b2 a.1)/\b.length<=Rows.uptoBulk p.1:=by
 obtain⟨d,e,b,s,t,c,u,v⟩:=e7 (α:=Int×Bool) 2 (by decide) (λa=>[.int .i64 a.1,.bool a.2]) (λa=>b2 a.1) underlying24 ky (λ_=>rfl) (λC q E r _ _=>by
  obtain⟨F,G,D,_,l,j,k⟩:=trod_struct2 underlying82 r
  rw[ky] at l
  match q,l with
  | [A,B],_=>
   simp only[iu,rW,List.drop_zero,List.take_succ_cons,List.take_zero,List.drop_succ_cons] at j k
   obtain⟨a,g,_,z⟩:=DataW.trod_int underlying3 j
   obtain⟨f,i,_⟩:=DataW.trod_bool underlying4 k
   simp only[List.cons.injEq,and_true] at g i
   subst g i
   exact⟨(a,f),rfl,fz z⟩) h
 refine⟨d,e,b,s,t,?_,u,v⟩;rcases c with c|⟨f,y,x,c⟩;.exact .inl c
 .exact .inr ⟨f,y,x,λo a m=>⟨c o a m 0 _ rfl,c o a m 1 _ rfl⟩⟩
theorem nf{cv:Value}{o:DataW H×List MemPlace}(h:DataW.trod enc prog w base spare held n 25 [cv]=some o):∃(d:Option Addr) (e:Nat) (b:List (Int×Int)),cv=.slice d b.length e/\b.length<=e/\dI w d b/\(∀a∈b,b2 a.2)/\b.length<=Rows.uptoBulk o.1:=by
 obtain⟨d,e,b,s,t,c,u,v⟩:=e7 (α:=Int×Int) 2 (by decide) (λa=>[.int .i64 a.1,.int .i64 a.2]) (λa=>b2 a.2) underlying25 kA (λ_=>rfl) (λD q G r _ _=>by
  obtain⟨I,J,E,_,k,i,j⟩:=trod_struct2 underlying78 r
  rw[kA] at k
  match q,k with
  | [B,C],_=>
   simp only[iu,List.drop_zero,List.take_succ_cons,List.take_zero,List.drop_succ_cons] at i j
   obtain⟨a,f,_,F⟩:=DataW.trod_int underlying3 i
   obtain⟨A,g,_,z⟩:=DataW.trod_int underlying3 j
   simp only[List.cons.injEq,and_true] at f g
   subst f g
   exact⟨(a,A),rfl,fz z⟩) h
 refine⟨d,e,b,s,t,?_,u,v⟩;rcases c with c|⟨p,y,x,c⟩;.exact .inl c
 .exact .inr ⟨p,y,x,λm a l=>⟨c m a l 0 _ rfl,c m a l 1 _ rfl⟩⟩
end
end Go.Proofs.YtabmgpillccfaaaGreatDoor
