import Derived.Test.YtabmgpillccfaaaGreatDoorExG
import Derived.Maps.Own
import Derived.Maps.OwnOps
import Derived.Maps.Views
set_option linter.all false
set_option maxHeartbeats 2000000
set_option maxRecDepth 100000
namespace Go.Proofs.YtabmgpillccfaaaGreatDoor
open Go.RowKit Go.Sort Go.Proofs.Tryz
structure rg(κ:Type)(k:TypeId) where
 K:Maps.Keyed prog k
 v:κ->Value
 l:κ->Lit
 ok:κ->Prop
 key:∀x,ok x->keyOf prog k (v x)=some (l x)
 isk:∀x,WideAt.IsKeyLit (l x)
 inj:∀x y,l x=l y->x=y
variable{I:Int}{W w:World}{m n:Nat}{v:Value}{a:Option Addr}{C:List Int}
theorem sM(h:b2 I):(Lit.int .i64 I).wf=true:=by simp[Lit.wf,IntKind.min,IntKind.max,IntKind.signed,IntKind.bits];exact⟨h.1,h.2⟩
def sS:rg Int 3:=⟨Maps.int_keyed underlying3,λa=>.int .i64 a,λa=>.int .i64 a,b2,λa h=>Maps.keyOf_int_mk underlying3 (sM h),λ_=>trivial,λa b h=>by injection h⟩
def r8{d:Type}{b:TypeId}(e:rg d b)(j:World)(f i:Nat)(g:d->Int):Prop:=∃a:DataW Unit,j.ownsMap prog b (plainElem prog 3) f i a/\Maps.IsMap a/\∀c,a.atKey (e.l c) (.lit (.int .i64 0))=.lit (.int .i64 (g c))
theorem sL(a:World):(zeroValue 3).run prog a=.ok (.int .i64 0) a:=by kernel_rfl
theorem r8.made{d:Type}{b:TypeId}(c:rg d b)(a:World):r8 c (a.alloc (.map #[] 0)) a.heap.size 0 (λ_=>0):=⟨.map [],World.ownsMap_made a prog b _,⟨[],rfl⟩,λe=>by rfl⟩
theorem r8.look{c:Type}{e:TypeId}{a:rg c e}{d:c->Int}(h:r8 a w n m d){t:TypeId}(j:Tryz.prog.underlying t=some (.map e 3)){x:c}(k:a.ok x):(Instr.lookup t (.map (some n)) (a.v x) false).run prog w=.ok (.int .i64 (d x)) w:=by obtain⟨l,f,p,g⟩:=h;obtain⟨o,i,b,_⟩:=f.lookup_int a.K j underlying3 (sL w) (a.key x k);rw[g x] at b;simp only[DataW.lit.injEq,Lit.int.injEq,true_and] at b;rw[i,b]
theorem r8.put{e:Type}[DecidableEq e]{k:TypeId}{a:rg e k}{g:e->Int}(h:r8 a w n m g){t:TypeId}(s:Tryz.prog.underlying t=some (.map k 3))(A:m<=140737488355328){x:e}(u:a.ok x){c:Int}(o:b2 c):∃d,(Instr.mapUpdate t (.map (some n)) (a.v x) (.int .i64 c)).run prog w=.ok () d/\r8 a d n (m+1) (λb=>if b=x then c else g b)/\w.grownBy d (some n):=by
 obtain⟨y,j,i,l⟩:=h;obtain⟨d,r,q,p⟩:=j.update a.K s (by unfold maxLen;omega) (a.key x u) (plainElem_int underlying3 (sM o));refine⟨d,r,⟨_,q,?_,λb=>?_⟩,p⟩;.obtain⟨z,rfl⟩:=i;exact⟨_,rfl⟩
 .show _=DataW.lit (.int .i64 (if b=x then c else g b));by_cases f:b=x;(.subst f;rw[aR rfl,Maps.atKey_put_same i (a.isk _)]);.rw[aL f,Maps.atKey_put_other (λv=>f (a.inj _ _ v)),l b]
theorem gu{e:Array Oper}{rest:List Oper}{b:Oper}{a:Act}{c:Exit->Act->World->Prop}(n:b.guard=none)(d l g:Operand)(f:TypeId)(p:b.op=Op.mapUpdate f d l g)(i k j:Value)(o:a.eval d=i)(s:a.eval l=k)(r:a.eval g=j) (q:(Instr.mapUpdate f i k j).run prog w=.ok () W) (h:wpList prog e c rest (a.put b.dst undef) W):wpList prog e c (b::rest) a w:=by refine wpList_plain n λt m=>?_;unfold Oper.wp;simp[execOp,p,o,s,r,q,Result.andThen];exact m _ _ h
theorem dX{e:Array Oper}{rest:List Oper}{b:Oper}{a:Act}{c:Exit->Act->World->Prop}(l:b.guard=none)(d j:Operand)(f:TypeId)(n:b.op=Op.lookup f d j false)(g i:Value)(m:a.eval d=g)(p:a.eval j=i) (o:(Instr.lookup f g i false).run prog w=.ok v w) (h:wpList prog e c rest (a.put b.dst v) w):wpList prog e c (b::rest) a w:=by refine wpList_plain l λq k=>?_;unfold Oper.wp;simp[execOp,n,m,p,o,Result.andThen];exact k _ _ h
theorem bP{row:Option Nat}(a:w.grownBy W row){B:Nat}(f:B<=w.heap.size)(e:∀b,row=some b->B<=b):Below B w W:=
 ⟨a.os,a.tape,a.output,a.size,λc g=>a.block c (by omega) (λd=>by have:=e c d.symm;omega)⟩
theorem bC.getP{i:Nat}{x:Int}(h:bC w a C)(d:C[i]?=some x):∃b c,a=some ⟨b,c,none⟩/\w.cell? ⟨b,c+i,none⟩=some (.int .i64 x):=by
 rcases h with h|⟨b,c,e,h⟩;.rw[h] at d;simp at d
 .exact⟨b,c,e,h i x d⟩
def g2{a:Type}[DecidableEq a](d:List a)(b:Nat)(c:a):Int:=((d.take b).count c:Int)
theorem pH{e:Type}[DecidableEq e]{a:List e}{d:e}(h:a[n]?=some d):(λb=>if b=d then g2 a n d+1 else g2 a n b)=g2 a (n+1):=by
 funext b;obtain⟨f,rfl⟩:=b6 h;unfold g2;rw[List.take_succ_eq_append_getElem f,List.count_append];by_cases c:b=a[n];.subst c;rw[aR rfl];simp
 .rw[aL c];(have:List.count b [a[n]]=0:=by rw[List.count_eq_zero];simpa using c);rw[this];simp
theorem jk{c:Type}[DecidableEq c]{a:List c}{b:c}(h:a[n]?=some b)(l:(a.take n).Nodup):(g2 a n b=0->(a.take (n+1)).Nodup)/\(¬g2 a n b=0->¬a.Nodup):=by
 obtain⟨d,rfl⟩:=b6 h;unfold g2;refine⟨λi=>?_,λi m=>?_⟩;.rw[List.take_succ_eq_append_getElem d,List.nodup_append];(have:a[n] ∉ a.take n:=by rw[<-List.count_eq_zero];omega);refine⟨l,by simp,λo j p f g=>?_⟩;simp at f;subst f;subst g;exact this j
 .have k:a[n]∈a.take n:=by
   rw[<-List.count_pos_iff]
   omega
  have e:(a.take (n+1)).Nodup:=m.sublist (List.take_sublist _ _)
  rw[List.take_succ_eq_append_getElem d,List.nodup_append] at e
  exact e.2.2 _ k _ (by simp) rfl
theorem rV{e:Type}[DecidableEq e](d:List e)(b:Nat)(c:e):0<=g2 d b c/\g2 d b c<=b:=by unfold g2;have:=List.count_le_length (l:=d.take b) (a:=c);rw[List.length_take] at this;omega
theorem pn{t c b:TypeId}(h:Tryz.prog.underlying t=some (.map c b))(d:Int)(a:World):(Instr.makeMap t (some (.int .i64 d))).run prog a=.ok (.map (some a.heap.size)) (a.alloc (.map #[] 0)):=by simp[Instr.makeMap,run_underlying h,asInt,asIntOf,Result.andThen]
theorem lq(a:List Int)(D:Option Addr)(E:Nat)(d:World)(VX:a.length<=140737488355328)(e:∀b∈a,b2 b)(G:bC d D a):Calls prog 182 #[.slice D a.length E] d λT V=>T=.returned (.bool (decide a.Nodup))/\Bw d V:=by
 have P:=VV e;have N:=VV G;obtain⟨C,r⟩:=al (decide a.Nodup);rw[<-r];have B:=VV r;have z:=VV (r8.made sS d);have x:=VV (ae (ar _ d) (.map #[] 0));clear e G r;have S:=pn (t:=254) underlying254;go_enter func182,ntmps182;go_wp2_with fail;go_loopw[11] (λv wr=>∃(c:Nat),c<=a.length/\v=.int .i64 (c:Int)/\Hid (r8 sS wr d.heap.size c (g2 a c))/\Hid ((a.take c).Nodup)/\Hid (Bw d wr)) (λv _=>a.length-(intOf v).toNat);case atStart=>exact⟨0,bf,rfl,by have:=U z;have p:(λ_=>(0:Int))=g2 a 0:=(by funext V0;simp[g2]);rw[p] at this;exact this,by show (a.take 0).Nodup;simp,U x⟩
 case round=>
  clear z x S;obtain⟨c,VW,rfl,i,j,f⟩:=hrel;by_cases R:c<a.length
  ·(have Q:(c:Int)<(a.length:Int):=by omega);obtain⟨b,e⟩:∃b,a[c]?=some b:=⟨_,ba R⟩;have u:=U P b (a8 e);obtain⟨W,VZ,rfl,X⟩:=((U N).aa (U f)).getP e;have VY:=rV a c b;have K:=(U i).look (t:=254) underlying254 (x:=b) u;obtain⟨w,M,k,J⟩:=(U i).put (t:=254) underlying254 (by omega) (x:=b) u (c:=g2 a c b+1) ⟨by omega,by omega⟩;have s:=k.look (t:=254) underlying254 (x:=b) u;rw[aR rfl] at s;rw[pH e] at k;have L:=jk e (U j);have I:=(U f).trans (bP J (U f).size (λY p=>by cases p;exact aV));have l:=VV K;have n:=VV M;have m:=VV s;have O:=VV k;have y:=VV I;have A:=VV L;generalize g2 a c b=g at *;clear e K M s k I J L i j f;change Hid ((Instr.lookup 254 (.map (some d.heap.size)) (.int .i64 b) false).run prog wr=.ok (.int .i64 g) wr) at l;change Hid ((Instr.lookup 254 (.map (some d.heap.size)) (.int .i64 b) false).run prog w=.ok (.int .i64 (g+1)) w) at m;change Hid ((Instr.mapUpdate 254 (.map (some d.heap.size)) (.int .i64 b) (.int .i64 (g+1))).run prog wr=.ok () w) at n;by_cases q:g=0
   .subst q
    go_wp2_with (first
     | (at_lookup;refine dX rfl (.tmp 15) (.tmp 16) 254 rfl _ _ rfl rfl (U l) ?_)
     | (at_mapUpdate;refine gu rfl (.tmp 15) (.tmp 16) (.tmp 18) 254 rfl _ _ _ rfl rfl rfl (U n) ?_)
     | (at_lookup;refine dX rfl (.tmp 19) (.tmp 20) 254 rfl _ _ rfl rfl (U m) ?_))
    exact⟨⟨c+1,by omega,by go_num,U O,(U A).1 rfl,U y⟩,by simp[intOf];omega⟩
   ·(have Z:(1:Int)<g+1:=by omega);(have o:Hid (C=false):=by rw[U B];show _=_;simpa using(U A).2 q);clear q
    go_wp2_with (first
     | (at_lookup;refine dX rfl (.tmp 15) (.tmp 16) 254 rfl _ _ rfl rfl (U l) ?_)
     | (at_mapUpdate;refine gu rfl (.tmp 15) (.tmp 16) (.tmp 18) 254 rfl _ _ _ rfl rfl rfl (U n) ?_)
     | (at_lookup;refine dX rfl (.tmp 19) (.tmp 20) 254 rfl _ _ rfl rfl (U m) ?_))
    go_ret;exact⟨by rw[U o];rfl,U y⟩
  ·(have Q:¬(c:Int)<(a.length:Int):=by omega);(have o:Hid (C=true):=by have F:=U j;rw[h3 (by omega)] at F;rw[U B];show _=_;simpa using F);clear i j;go_wp2;go_ret;exact⟨by rw[U o];rfl,U f⟩
def sd(a:World)(e:Value)(i:List Value)(f:List Bool):Prop:=∃b d,e=.func (.func b) #[] d/\(∀args a,(callFunc b args).run prog a=.ok (.enter b args) a)/\∀(c:Nat) v bb W,i[c]?=some v->f[c]?=some bb->Bw a W->Calls prog b (#[v]++d) W λg j=>g=.returned (.bool bb)/\Bw W j
def ev(d:List Bool)(e:Int):Prop:=(∃c:Nat,e=c/\d[c]?=some true/\∀b:Nat,b<c->∀a,d[b]?=some a->a=false)∨(e=-1/\∀(b:Nat) a,d[b]?=some a->a=false)
theorem gc{a:List Bool}(h:ev a I):decide (0<=I)=a.any id:=by
 rcases h with ⟨f,rfl,c,_⟩|⟨rfl,h⟩
 .have:a.any id=true:=List.any_eq_true.2 ⟨true,a8 c,rfl⟩;rw[this];simp
 .have:a.any id=false:=by
   rw[List.any_eq_false]
   intro g d
   obtain⟨e,b,rfl⟩:=List.getElem_of_mem d
   have:=h e _ (ba b)
   simp[this]
  rw[this];rfl
theorem hI{d:List Bool}(h:∀b:Nat,b<n->∀a,d[b]?=some a->a=false)(g:d[n]?=some false):∀b:Nat,b<n+1->∀a,d[b]?=some a->a=false:=by
 intro b f a c;rcases Nat.lt_or_eq_of_le (Nat.le_of_lt_succ f) with e|rfl;.exact h b e a c
 .rw[g] at c;injection c with c;exact c.symm
def sJ(f:World)(g:Option Addr)(e:List Value):Prop:=e=[]∨∃b d,g=some ⟨b,d,none⟩/\∀(c:Nat) v,e[c]?=some v->∀a,Bw f a->(Instr.loadAt 72 (.pointer (some ⟨b,d+c*6,none⟩))).run prog a=.ok v a
theorem VC(b:List Value)(d:List Bool)(C:d.length=b.length)(y:Option Addr)(E:Nat)(s:Value)(e:World)(M:b.length<=140737488355328)(z:sJ e y b)(hF:sd e s b d):Calls prog 115 #[.slice y b.length E,s] e λo I=>∃m,o=.returned (.int .i64 m)/\ev d m/\Bw e I:=by
 have t:=VV z;have w:=VV C;obtain⟨O,N,rfl,K,v⟩:=hF;have D:=VV v;clear z v C;go_enter func115,ntmps115;go_wp2_with fail;go_loopw[8] (λc wr=>∃a:Nat,a<=b.length/\c=.int .i64 (a:Int)/\Hid (∀c:Nat,c<a->∀k,d[c]?=some k->k=false)/\Hid (Bw e wr)) (λc _=>b.length-(intOf c).toNat);case atStart=>exact⟨0,bf,rfl,λc G=>absurd G (by omega),aN⟩
 case round=>
  obtain⟨a,L,rfl,f,g⟩:=hrel;by_cases q:a<b.length
  ·(have F:(a:Int)<(b.length:Int):=by omega);obtain⟨n,r⟩:∃n,b[a]?=some n:=⟨_,ba q⟩;obtain⟨l,j⟩:∃l,d[a]?=some l:=⟨_,ba (by rw[U w];exact q)⟩;rcases U t with o|⟨P,Q,rfl,B⟩;(.subst o;simp at q);have u:=VV (B a n r wr (U g));have x:=VV (U D a n l wr r j (U g));clear B r t;cases l
   .have i:=VV (hI (U f) j);clear f j
    go_wp2_with (first
     | (refine aH ?_ 72 (.tmp 14) rfl _ (by simp[Act.eval]) _ (U u) ?_;. simp[Region.wanted,yielded])
     | (refine(U x).mono ?_;rintro m J ⟨rfl,p⟩))
    exact⟨⟨a+1,by omega,by go_num,U i,ac (U g) p⟩,by simp[intOf];omega⟩
   .have i:Hid (ev d (a:Int)):=Or.inl ⟨a,rfl,j,U f⟩;clear f j
    go_wp2_with (first
     | (refine aH ?_ 72 (.tmp 14) rfl _ (by simp[Act.eval]) _ (U u) ?_;. simp[Region.wanted,yielded])
     | (refine(U x).mono ?_;rintro m J ⟨rfl,p⟩))
    go_ret;exact⟨_,rfl,U i,ac (U g) p⟩
  ·(have F:¬(a:Int)<(b.length:Int):=by omega);have i:Hid (ev d (-1)):=Or.inr ⟨rfl,λc k A=>U f c (by have:=(b6 A).1;rw[U w] at this;omega) k A⟩;clear f;go_wp2;go_ret;exact⟨_,rfl,U i,U g⟩
theorem pF(b:List Value)(c:List Bool)(r:c.length=b.length)(g:Option Addr)(j:Nat)(f:Value)(a:World)(q:b.length<=140737488355328)(k:sJ a g b)(hF:sd a f b c):Calls prog 64 #[.slice g b.length j,f] a λd i=>d=.returned (.bool (c.any id))/\Bw a i:=by have l:Hid (Calls prog 115 #[.slice g b.length j,f] a λd i=>∃e,d=.returned (.int .i64 e)/\decide (0<=e)=c.any id/\Bw a i):=(VC b c r g j f a q k hF).mono λd i ⟨e,m,n,o⟩=>⟨e,m,gc n,o⟩;clear k hF;generalize c.any id=e at *;go_enter func64,ntmps64;go_wp2_with (go_at_call 115;refine(U l).mono ?_;rintro d u ⟨t,rfl,s,p⟩);go_ret;exact⟨rfl,p⟩
def sH(f:World)(g:Option Addr)(e:List Value):Prop:=e=[]∨∃b d,g=some ⟨b,d,none⟩/\∀(c:Nat) v,e[c]?=some v->∀a,Bw f a->(Instr.loadAt 28 (.pointer (some ⟨b,d+c*11,none⟩))).run prog a=.ok v a
theorem st(b:List Value)(d:List Bool)(C:d.length=b.length)(y:Option Addr)(E:Nat)(s:Value)(e:World)(M:b.length<=140737488355328)(z:sH e y b)(hF:sd e s b d):Calls prog 117 #[.slice y b.length E,s] e λo I=>∃m,o=.returned (.int .i64 m)/\ev d m/\Bw e I:=by
 have t:=VV z;have w:=VV C;obtain⟨O,N,rfl,K,v⟩:=hF;have D:=VV v;clear z v C;go_enter func117,ntmps117;go_wp2_with fail;go_loopw[8] (λc wr=>∃a:Nat,a<=b.length/\c=.int .i64 (a:Int)/\Hid (∀c:Nat,c<a->∀k,d[c]?=some k->k=false)/\Hid (Bw e wr)) (λc _=>b.length-(intOf c).toNat);case atStart=>exact⟨0,bf,rfl,λc G=>absurd G (by omega),aN⟩
 case round=>
  obtain⟨a,L,rfl,f,g⟩:=hrel;by_cases q:a<b.length
  ·(have F:(a:Int)<(b.length:Int):=by omega);obtain⟨n,r⟩:∃n,b[a]?=some n:=⟨_,ba q⟩;obtain⟨l,j⟩:∃l,d[a]?=some l:=⟨_,ba (by rw[U w];exact q)⟩;rcases U t with o|⟨P,Q,rfl,B⟩;(.subst o;simp at q);have u:=VV (B a n r wr (U g));have x:=VV (U D a n l wr r j (U g));clear B r t;cases l
   .have i:=VV (hI (U f) j);clear f j
    go_wp2_with (first
     | (refine aH ?_ 28 (.tmp 14) rfl _ (by simp[Act.eval]) _ (U u) ?_;. simp[Region.wanted,yielded])
     | (refine(U x).mono ?_;rintro m J ⟨rfl,p⟩))
    exact⟨⟨a+1,by omega,by go_num,U i,ac (U g) p⟩,by simp[intOf];omega⟩
   .have i:Hid (ev d (a:Int)):=Or.inl ⟨a,rfl,j,U f⟩;clear f j
    go_wp2_with (first
     | (refine aH ?_ 28 (.tmp 14) rfl _ (by simp[Act.eval]) _ (U u) ?_;. simp[Region.wanted,yielded])
     | (refine(U x).mono ?_;rintro m J ⟨rfl,p⟩))
    go_ret;exact⟨_,rfl,U i,ac (U g) p⟩
  ·(have F:¬(a:Int)<(b.length:Int):=by omega);have i:Hid (ev d (-1)):=Or.inr ⟨rfl,λc k A=>U f c (by have:=(b6 A).1;rw[U w] at this;omega) k A⟩;clear f;go_wp2;go_ret;exact⟨_,rfl,U i,U g⟩
theorem pD(b:List Value)(c:List Bool)(r:c.length=b.length)(g:Option Addr)(j:Nat)(f:Value)(a:World)(q:b.length<=140737488355328)(k:sH a g b)(hF:sd a f b c):Calls prog 66 #[.slice g b.length j,f] a λd i=>d=.returned (.bool (c.any id))/\Bw a i:=by have l:Hid (Calls prog 117 #[.slice g b.length j,f] a λd i=>∃e,d=.returned (.int .i64 e)/\decide (0<=e)=c.any id/\Bw a i):=(st b c r g j f a q k hF).mono λd i ⟨e,m,n,o⟩=>⟨e,m,gc n,o⟩;clear k hF;generalize c.any id=e at *;go_enter func66,ntmps66;go_wp2_with (go_at_call 117;refine(U l).mono ?_;rintro d u ⟨t,rfl,s,p⟩);go_ret;exact⟨rfl,p⟩
def sI(f:World)(g:Option Addr)(e:List Value):Prop:=e=[]∨∃b d,g=some ⟨b,d,none⟩/\∀(c:Nat) v,e[c]?=some v->∀a,Bw f a->(Instr.loadAt 3 (.pointer (some ⟨b,d+c,none⟩))).run prog a=.ok v a
theorem su(b:List Value)(d:List Bool)(C:d.length=b.length)(y:Option Addr)(E:Nat)(s:Value)(e:World)(M:b.length<=140737488355328)(z:sI e y b)(hF:sd e s b d):Calls prog 184 #[.slice y b.length E,s] e λo I=>∃m,o=.returned (.int .i64 m)/\ev d m/\Bw e I:=by
 have t:=VV z;have w:=VV C;obtain⟨O,N,rfl,K,v⟩:=hF;have D:=VV v;clear z v C;go_enter func184,ntmps184;go_wp2_with fail;go_loopw[8] (λc wr=>∃a:Nat,a<=b.length/\c=.int .i64 (a:Int)/\Hid (∀c:Nat,c<a->∀k,d[c]?=some k->k=false)/\Hid (Bw e wr)) (λc _=>b.length-(intOf c).toNat);case atStart=>exact⟨0,bf,rfl,λc G=>absurd G (by omega),aN⟩
 case round=>
  obtain⟨a,L,rfl,f,g⟩:=hrel;by_cases q:a<b.length
  ·(have F:(a:Int)<(b.length:Int):=by omega);obtain⟨n,r⟩:∃n,b[a]?=some n:=⟨_,ba q⟩;obtain⟨l,j⟩:∃l,d[a]?=some l:=⟨_,ba (by rw[U w];exact q)⟩;rcases U t with o|⟨P,Q,rfl,B⟩;(.subst o;simp at q);have u:=VV (B a n r wr (U g));have x:=VV (U D a n l wr r j (U g));clear B r t;cases l
   .have i:=VV (hI (U f) j);clear f j
    go_wp2_with (first
     | (refine aH ?_ 3 (.tmp 14) rfl _ (by simp[Act.eval]) _ (U u) ?_;. simp[Region.wanted,yielded])
     | (refine(U x).mono ?_;rintro m J ⟨rfl,p⟩))
    exact⟨⟨a+1,by omega,by go_num,U i,ac (U g) p⟩,by simp[intOf];omega⟩
   .have i:Hid (ev d (a:Int)):=Or.inl ⟨a,rfl,j,U f⟩;clear f j
    go_wp2_with (first
     | (refine aH ?_ 3 (.tmp 14) rfl _ (by simp[Act.eval]) _ (U u) ?_;. simp[Region.wanted,yielded])
     | (refine(U x).mono ?_;rintro m J ⟨rfl,p⟩))
    go_ret;exact⟨_,rfl,U i,ac (U g) p⟩
  ·(have F:¬(a:Int)<(b.length:Int):=by omega);have i:Hid (ev d (-1)):=Or.inr ⟨rfl,λc k A=>U f c (by have:=(b6 A).1;rw[U w] at this;omega) k A⟩;clear f;go_wp2;go_ret;exact⟨_,rfl,U i,U g⟩
theorem pE(b:List Value)(c:List Bool)(r:c.length=b.length)(g:Option Addr)(j:Nat)(f:Value)(a:World)(q:b.length<=140737488355328)(k:sI a g b)(hF:sd a f b c):Calls prog 155 #[.slice g b.length j,f] a λd i=>d=.returned (.bool (c.any id))/\Bw a i:=by have l:Hid (Calls prog 184 #[.slice g b.length j,f] a λd i=>∃e,d=.returned (.int .i64 e)/\decide (0<=e)=c.any id/\Bw a i):=(su b c r g j f a q k hF).mono λd i ⟨e,m,n,o⟩=>⟨e,m,gc n,o⟩;clear k hF;generalize c.any id=e at *;go_enter func155,ntmps155;go_wp2_with (go_at_call 184;refine(U l).mono ?_;rintro d u ⟨t,rfl,s,p⟩);go_ret;exact⟨rfl,p⟩
def sK(f:World)(g:Option Addr)(e:List Value):Prop:=e=[]∨∃b d,g=some ⟨b,d,none⟩/\∀(c:Nat) v,e[c]?=some v->∀a,Bw f a->(Instr.loadAt 78 (.pointer (some ⟨b,d+c*2,none⟩))).run prog a=.ok v a
theorem sw(b:List Value)(d:List Bool)(C:d.length=b.length)(y:Option Addr)(E:Nat)(s:Value)(e:World)(M:b.length<=140737488355328)(z:sK e y b)(hF:sd e s b d):Calls prog 183 #[.slice y b.length E,s] e λo I=>∃m,o=.returned (.int .i64 m)/\ev d m/\Bw e I:=by
 have t:=VV z;have w:=VV C;obtain⟨O,N,rfl,K,v⟩:=hF;have D:=VV v;clear z v C;go_enter func183,ntmps183;go_wp2_with fail;go_loopw[8] (λc wr=>∃a:Nat,a<=b.length/\c=.int .i64 (a:Int)/\Hid (∀c:Nat,c<a->∀k,d[c]?=some k->k=false)/\Hid (Bw e wr)) (λc _=>b.length-(intOf c).toNat);case atStart=>exact⟨0,bf,rfl,λc G=>absurd G (by omega),aN⟩
 case round=>
  obtain⟨a,L,rfl,f,g⟩:=hrel;by_cases q:a<b.length
  ·(have F:(a:Int)<(b.length:Int):=by omega);obtain⟨n,r⟩:∃n,b[a]?=some n:=⟨_,ba q⟩;obtain⟨l,j⟩:∃l,d[a]?=some l:=⟨_,ba (by rw[U w];exact q)⟩;rcases U t with o|⟨P,Q,rfl,B⟩;(.subst o;simp at q);have u:=VV (B a n r wr (U g));have x:=VV (U D a n l wr r j (U g));clear B r t;cases l
   .have i:=VV (hI (U f) j);clear f j
    go_wp2_with (first
     | (refine aH ?_ 78 (.tmp 14) rfl _ (by simp[Act.eval]) _ (U u) ?_;. simp[Region.wanted,yielded])
     | (refine(U x).mono ?_;rintro m J ⟨rfl,p⟩))
    exact⟨⟨a+1,by omega,by go_num,U i,ac (U g) p⟩,by simp[intOf];omega⟩
   .have i:Hid (ev d (a:Int)):=Or.inl ⟨a,rfl,j,U f⟩;clear f j
    go_wp2_with (first
     | (refine aH ?_ 78 (.tmp 14) rfl _ (by simp[Act.eval]) _ (U u) ?_;. simp[Region.wanted,yielded])
     | (refine(U x).mono ?_;rintro m J ⟨rfl,p⟩))
    go_ret;exact⟨_,rfl,U i,ac (U g) p⟩
  ·(have F:¬(a:Int)<(b.length:Int):=by omega);have i:Hid (ev d (-1)):=Or.inr ⟨rfl,λc k A=>U f c (by have:=(b6 A).1;rw[U w] at this;omega) k A⟩;clear f;go_wp2;go_ret;exact⟨_,rfl,U i,U g⟩
theorem pG(b:List Value)(c:List Bool)(r:c.length=b.length)(g:Option Addr)(j:Nat)(f:Value)(a:World)(q:b.length<=140737488355328)(k:sK a g b)(hF:sd a f b c):Calls prog 151 #[.slice g b.length j,f] a λd i=>d=.returned (.bool (c.any id))/\Bw a i:=by have l:Hid (Calls prog 183 #[.slice g b.length j,f] a λd i=>∃e,d=.returned (.int .i64 e)/\decide (0<=e)=c.any id/\Bw a i):=(sw b c r g j f a q k hF).mono λd i ⟨e,m,n,o⟩=>⟨e,m,gc n,o⟩;clear k hF;generalize c.any id=e at *;go_enter func151,ntmps151;go_wp2_with (go_at_call 183;refine(U l).mono ?_;rintro d u ⟨t,rfl,s,p⟩);go_ret;exact⟨rfl,p⟩
def iw(b:ByteArray)(a:Nat):Int:=((b.data.toList.getD a 0).toNat:Int)
theorem hm(b:ByteArray)(a:Nat)(h:a<b.size)(c:World):(Instr.index 9 (.string b) (.int .i64 (a:Int))).run prog c=.ok (.int .u8 (iw b a)) c:=by
 rw[run_index_string c 9 b .i64 a underlying9,dif_pos ⟨by omega,by omega⟩];have d:a<b.data.size:=h;have:iw b a=((b[((a:Int)).toNat]'(by simpa using h)).toNat:Int):=by unfold iw;(have e:a<b.data.toList.length:=by simpa using d);rw[fC,ba e,Option.getD_some,Array.getElem_toList];rfl
 rw[this]
def ip(a:Int):Bool:=decide (97<=a) && decide (a<=122)
def it(a:Int):Bool:=(decide (48<=a) && decide (a<=57)) || a == 95
def hj(a:Int):Bool:=ip a || it a
def dT(a:ByteArray):Bool:=decide (1<=a.size) && decide (a.size<=40) && ip (iw a 0) && (List.range a.size).all (λb=>hj (iw a b))
theorem jq(a:Int)(c:World):Calls prog 173 #[.int .u8 a] c λe f=>e=.returned (.bool (ip a))/\Bw c f:=by
 unfold ip;by_cases b:97<=a;.by_cases d:a<=122;(.go_enter func173,ntmps173;go_wp2;go_ret;exact⟨by simp[b,d],aN⟩);.go_enter func173,ntmps173;go_wp2;go_ret;exact⟨by simp[b,d],aN⟩
 .go_enter func173,ntmps173;go_wp2;go_ret;exact⟨by simp[b];intros;omega,aN⟩
theorem hL(a:Int)(k:World):Calls prog 169 #[.int .u8 a] k λd m=>d=.returned (.bool (hj a))/\Bw k m:=by
 have c:=VV (jq a);unfold hj;cases g:ip a;.rw[g] at c;have e:Hid (it a=((decide (48<=a) && decide (a<=57)) || a == 95)):=rfl;generalize it a=n at *;rw[Bool.false_or];clear g;by_cases j:48<=a;(.by_cases l:a<=57;(.go_enter func169,ntmps169;go_wp2_with (go_at_call 173;refine(U c _).mono ?_;rintro d i ⟨rfl,b⟩);go_ret;exact⟨by rw[U e];simp[j,l],b⟩);.by_cases f:a=95;(.subst f;go_enter func169,ntmps169;go_wp2_with (go_at_call 173;refine(U c _).mono ?_;rintro d i ⟨rfl,b⟩);go_ret;exact⟨by rw[U e];rfl,b⟩);.go_enter func169,ntmps169;go_wp2_with (go_at_call 173;refine(U c _).mono ?_;rintro d i ⟨rfl,b⟩);go_ret;exact⟨by rw[U e];simp[j,l,f],b⟩);·(have f:¬a=95:=by omega);go_enter func169,ntmps169;go_wp2_with (go_at_call 173;refine(U c _).mono ?_;rintro d i ⟨rfl,b⟩);go_ret;exact⟨by rw[U e];simp[j,f];intros;omega,b⟩
 .rw[g] at c;clear g;go_enter func169,ntmps169;go_wp2_with (go_at_call 173;refine(U c _).mono ?_;rintro d i ⟨rfl,b⟩);go_ret;exact⟨rfl,b⟩
theorem l1{b:ByteArray}(h:∀a,a<n->hj (iw b a)=true)(d:n=b.size):(List.range b.size).all (λa=>hj (iw b a))=true:=by rw[List.all_eq_true];intro a c;exact h a (by rw[d];exact List.mem_range.1 c)
theorem l0{a:ByteArray}(b:n<a.size)(h:hj (iw a n)=false):(List.range a.size).all (λc=>hj (iw a c))=false:=by rw[List.all_eq_false];exact⟨n,List.mem_range.2 b,by simp[h]⟩
theorem jt(a:ByteArray)(N:a.size<=140737488355328)(t:World):Calls prog 136 #[.string a] t λm F=>m=.returned (.bool (dT a))/\Bw t F:=by
 obtain⟨k,n⟩:=al (dT a);rw[<-n];unfold dT at n;have d:=VV n;clear n;by_cases K:a.size<1;·(have e:Hid (k=false):=by rw[U d];show _=_;simp;omega);(have z:(a.size:Int)<1:=by omega);go_enter func136,ntmps136;go_wp2;go_ret;exact⟨by rw[U e];rfl,aN⟩
 by_cases L:40<a.size;·(have e:Hid (k=false):=by rw[U d];show _=_;simp;omega);(have z:¬(a.size:Int)<1:=by omega);(have E:(40:Int)<(a.size:Int):=by omega);go_enter func136,ntmps136;go_wp2;go_ret;exact⟨by rw[U e];rfl,aN⟩
 have z:¬(a.size:Int)<1:=by omega
 have E:¬(40:Int)<(a.size:Int):=by omega
 have w:decide (1<=a.size)=true:=by simp;omega
 have x:decide (a.size<=40)=true:=by simp;omega
 rw[w,x,Bool.true_and,Bool.true_and] at d;clear w x;have s:=hm a 0 (by omega);have i:=VV (jq (iw a 0));cases l:ip (iw a 0);.rw[l] at i d;have e:Hid (k=false):=U d;rw[Int.natCast_zero] at s;generalize iw a 0=I at *;clear l d;go_enter func136,ntmps136;go_wp2_with (go_at_call 173;refine(U i _).mono ?_;rintro m u ⟨rfl,o⟩);go_ret;exact⟨by rw[U e];rfl,o⟩
 .rw[l] at i;rw[l,Bool.true_and] at d;rw[Int.natCast_zero] at s;generalize iw a 0=I at *;clear l;go_enter func136,ntmps136;go_wp2_with (go_at_call 173;refine(U i _).mono ?_;rintro m u ⟨rfl,o⟩);have v:=VV o;clear o s i;go_loopw[20] (λc wr=>∃b:Nat,b<=a.size/\c=.int .i64 (b:Int)/\Hid (∀c,c<b->hj (iw a c)=true)/\Hid (Bw u wr)) (λc _=>a.size-(intOf c).toNat);case atStart=>exact⟨0,bf,rfl,λc r=>absurd r (by omega),aN⟩
  case round=>
   obtain⟨b,M,rfl,j,p⟩:=hrel;by_cases y:b<a.size
   ·(have B:(b:Int)<(a.size:Int):=by omega);have C:=hm a b y;have g:=VV (hL (iw a b));cases f:hj (iw a b);·(have e:Hid (k=false):=by rw[U d];exact l0 y f);rw[f] at g;generalize iw a b=J at *;clear f j;go_wp2_with (go_at_call 169;refine(U g _).mono ?_;rintro m G ⟨rfl,q⟩);go_ret;exact⟨by rw[U e];rfl,ac (ac (U v) (U p)) q⟩
    .have A:Hid (∀c,c<b+1->hj (iw a c)=true):=λc r=>by
      rcases Nat.lt_or_eq_of_le (Nat.le_of_lt_succ r) with h|rfl
      .exact U j c h
      .exact f
     rw[f] at g
     generalize D:iw a b=J at C g
     clear f j D
     go_wp2_with (go_at_call 169;refine(U g _).mono ?_;rintro m G ⟨rfl,q⟩)
     exact⟨⟨b+1,by omega,by go_num,U A,ac (U p) q⟩,by simp[intOf];omega⟩
   ·(have B:¬(b:Int)<(a.size:Int):=by omega);(have e:Hid (k=true):=by rw[U d];exact l1 (U j) (by omega));clear j;go_wp2;go_ret;exact⟨by rw[U e];rfl,ac (U v) (U p)⟩
end Go.Proofs.YtabmgpillccfaaaGreatDoor
