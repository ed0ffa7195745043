import Derived.Test.YtklgoolblpmmlaaGreatStA
import Derived.Maps.Own
import Derived.Maps.OwnOps
import Derived.Maps.Views
set_option linter.all false
set_option maxHeartbeats 2000000
set_option maxRecDepth 100000
namespace Go.Proofs.YtklgoolblpmmlaaGreat
open Go.RowKit Go.Sort Go.Proofs.Tryz
structure qx(κ:Type)(k:TypeId) where
 K:Maps.Keyed prog k
 v:κ->Value
 l:κ->Lit
 ok:κ->Prop
 key:∀x,ok x->keyOf prog k (v x)=some (l x)
 isk:∀x,WideAt.IsKeyLit (l x)
 inj:∀x y,l x=l y->x=y
theorem z8{x:Int}(h:bY x):(Lit.int .i64 x).wf=true:=by simp[Lit.wf,IntKind.min,IntKind.max,IntKind.signed,IntKind.bits];exact⟨h.1,h.2⟩
def DF:qx Int 3:=⟨Maps.int_keyed underlying3,λa=>.int .i64 a,λa=>.int .i64 a,bY,λa h=>Maps.keyOf_int_mk underlying3 (z8 h),λ_=>trivial,λa b h=>by injection h⟩
theorem lG{b:Program}{d:TypeId}(e:b.underlying d=some .string){a:ByteArray}(c:a.size<=maxLen):keyOf b d (.string a)=some (.string a.data.toList):=by have f:a.data.size<=maxLen:=c;simp[keyOf,e,mapKey,Lit.wf,f,c]
def cJ:qx ByteArray 9:=⟨Maps.string_keyed underlying9,λa=>.string a,λa=>.string a.data.toList,λa=>a.size<=140737488355328,λa h=>lG underlying9 (by unfold maxLen;omega),λ_=>trivial,λa b h=>by injection h with h;exact ByteArray.ext (Array.toList_inj.1 h)⟩
def k8{d:Type}{b:TypeId}(e:qx d b)(j:World)(f i:Nat)(g:d->Int):Prop:=∃a:DataW Unit,j.ownsMap prog b (plainElem prog 3) f i a/\Maps.IsMap a/\∀c,a.atKey (e.l c) (.lit (.int .i64 0))=.lit (.int .i64 (g c))
theorem uh(a:World):(zeroValue 3).run prog a=.ok (.int .i64 0) a:=by kernel_rfl
theorem k8.made{d:Type}{b:TypeId}(c:qx d b)(a:World):k8 c (a.alloc (.map #[] 0)) a.heap.size 0 (λ_=>0):=⟨.map [],World.ownsMap_made a prog b _,⟨[],rfl⟩,λe=>by rfl⟩
variable{W w:World}{m n:Nat}{v:Value}{a:Option Addr}{C:List Int}{D:List Value}{I:Int}
theorem k8.lt{a:Type}{d:TypeId}{b:qx a d}{c:a->Int}(h:k8 b w n m c):n<w.heap.size:=by obtain⟨e,h,_⟩:=h;exact h.lt
theorem k8.aa{c:Type}{o:TypeId}{a:qx c o}{b:c->Int}(h:k8 a w n m b)(k:Bw w W):k8 a W n m b:=by have l:=h.lt;obtain⟨d,⟨f,e,g,i⟩,j⟩:=h;exact⟨d,⟨f,e,by rw[k.block n l];exact g,i⟩,j⟩
theorem k8.look{c:Type}{e:TypeId}{a:qx c e}{d:c->Int}(h:k8 a w n m d){t:TypeId}(j:Tryz.prog.underlying t=some (.map e 3)){x:c}(k:a.ok x):(Instr.lookup t (.map (some n)) (a.v x) false).run prog w=.ok (.int .i64 (d x)) w:=by obtain⟨l,f,p,g⟩:=h;obtain⟨o,i,b,_⟩:=f.lookup_int a.K j underlying3 (uh w) (a.key x k);rw[g x] at b;simp only[DataW.lit.injEq,Lit.int.injEq,true_and] at b;rw[i,b]
theorem k8.put{e:Type}[DecidableEq e]{k:TypeId}{a:qx e k}{g:e->Int}(h:k8 a w n m g){t:TypeId}(s:Tryz.prog.underlying t=some (.map k 3))(A:m<=140737488355328){x:e}(u:a.ok x){c:Int}(o:bY c):∃d,(Instr.mapUpdate t (.map (some n)) (a.v x) (.int .i64 c)).run prog w=.ok () d/\k8 a d n (m+1) (λb=>if b=x then c else g b)/\w.grownBy d (some n):=by
 obtain⟨y,j,i,l⟩:=h;obtain⟨d,r,q,p⟩:=j.update a.K s (by unfold maxLen;omega) (a.key x u) (plainElem_int underlying3 (z8 o));refine⟨d,r,⟨_,q,?_,λb=>?_⟩,p⟩;.obtain⟨z,rfl⟩:=i;exact⟨_,rfl⟩
 .show _=DataW.lit (.int .i64 (if b=x then c else g b));by_cases f:b=x;(.subst f;rw[ba rfl,Maps.atKey_put_same i (a.isk _)]);.rw[VU f,Maps.atKey_put_other (λv=>f (a.inj _ _ v)),l b]
theorem cW{e:Array Oper}{rest:List Oper}{b:Oper}{a:Act}{c:Exit->Act->World->Prop}(m:b.guard=none)(d x g:Operand)(f:TypeId)(o:b.op=Op.mapUpdate f d x g)(i k j:Value)(n:a.eval d=i)(r:a.eval x=k)(q:a.eval g=j) (p:(Instr.mapUpdate f i k j).run prog w=.ok () W) (h:wpList prog e c rest (a.put b.dst undef) W):wpList prog e c (b::rest) a w:=by refine wpList_plain m λs l=>?_;unfold Oper.wp;simp[execOp,o,n,r,q,p,Result.andThen];exact l _ _ h
theorem b9{e:Array Oper}{rest:List Oper}{b:Oper}{a:Act}{c:Exit->Act->World->Prop}(k:b.guard=none)(d x:Operand)(f:TypeId)(m:b.op=Op.lookup f d x false)(g i:Value)(l:a.eval d=g)(o:a.eval x=i) (n:(Instr.lookup f g i false).run prog w=.ok v w) (h:wpList prog e c rest (a.put b.dst v) w):wpList prog e c (b::rest) a w:=by refine wpList_plain k λp j=>?_;unfold Oper.wp;simp[execOp,m,l,o,n,Result.andThen];exact j _ _ h
theorem j3{row:Option Nat}(a:w.grownBy W row)(f:n<=w.heap.size)(e:∀b,row=some b->n<=b):Below n w W:=
 ⟨a.os,a.tape,a.output,a.size,λc g=>a.block c (by omega) (λd=>by have:=e c d.symm;omega)⟩
theorem bP.getP{x:Int}(h:bP w a C)(d:C[n]?=some x):∃b c,a=some ⟨b,c,none⟩/\w.cell? ⟨b,c+n,none⟩=some (.int .i64 x):=by
 rcases h with h|⟨b,c,e,h⟩;.rw[h] at d;simp at d
 .exact⟨b,c,e,h n x d⟩
def hk(g:World)(f:Option Addr)(c:List ByteArray):Prop:=c=[]∨∃a d,f=some ⟨a,d,none⟩/\∀b e,c[b]?=some e->g.cell? ⟨a,d+b,none⟩=some (.string e)
theorem hk.aa{b:List ByteArray}(h:hk w a b)(e:Bw w W):hk W a b:=by
 rcases h with h|⟨c,i,d,h⟩;.exact .inl h
 .exact .inr ⟨c,i,d,λg j f=>ae (h g j f) e⟩
theorem hk.get{e:List ByteArray}{i:Nat}{x:ByteArray}(h:hk w a e)(d:e[i]?=some x):∃b c,a=some ⟨b,c,none⟩/\w.cell? ⟨b,c+i,none⟩=some (.string x):=by
 rcases h with h|⟨b,c,f,h⟩;.rw[h] at d;simp at d
 .exact⟨b,c,f,h i x d⟩
def hD{a:Type}[DecidableEq a](c:List a)(b:Nat)(x:a):Int:=((c.take b).count x:Int)
theorem o5{d:Type}[DecidableEq d]{a:List d}{x:d}(h:a[n]?=some x):(λb=>if b=x then hD a n x+1 else hD a n b)=hD a (n+1):=by
 funext b;obtain⟨e,rfl⟩:=bD h;unfold hD;rw[List.take_succ_eq_append_getElem e,List.count_append];by_cases c:b=a[n];.subst c;rw[ba rfl];simp
 .rw[VU c];(have:List.count b [a[n]]=0:=by rw[List.count_eq_zero];simpa using c);rw[this];simp
theorem mz{b:Type}[DecidableEq b]{a:List b}{x:b}(h:a[n]?=some x)(k:(a.take n).Nodup):(hD a n x=0->(a.take (n+1)).Nodup)/\(¬hD a n x=0->¬a.Nodup):=by
 obtain⟨c,rfl⟩:=bD h;unfold hD;refine⟨λg=>?_,λg l=>?_⟩;.rw[List.take_succ_eq_append_getElem c,List.nodup_append];(have:a[n] ∉ a.take n:=by rw[<-List.count_eq_zero];omega);refine⟨k,by simp,λm i o e f=>?_⟩;simp at e;subst e;subst f;exact this i
 .have j:a[n]∈a.take n:=by
   rw[<-List.count_pos_iff]
   omega
  have d:(a.take (n+1)).Nodup:=l.sublist (List.take_sublist _ _)
  rw[List.take_succ_eq_append_getElem c,List.nodup_append] at d
  exact d.2.2 _ j _ (by simp) rfl
theorem Sc{d:Type}[DecidableEq d](c:List d)(b:Nat)(x:d):0<=hD c b x/\hD c b x<=b:=by unfold hD;have:=List.count_le_length (l:=c.take b) (a:=x);rw[List.length_take] at this;omega
theorem oH{t c b:TypeId}(h:Tryz.prog.underlying t=some (.map c b))(d:Int)(a:World):(Instr.makeMap t (some (.int .i64 d))).run prog a=.ok (.map (some a.heap.size)) (a.alloc (.map #[] 0)):=by simp[Instr.makeMap,run_underlying h,asInt,asIntOf,Result.andThen]
theorem qN(a:List Int)(D:Option Addr)(E:Nat)(c:World)(VX:a.length<=140737488355328)(d:∀x∈a,bY x)(G:bP c D a):Calls prog 195 #[.slice D a.length E] c λT V=>T=.returned (.bool (decide a.Nodup))/\Bw c V:=by
 have P:=H d;have N:=H G;obtain⟨C,q⟩:=bn (decide a.Nodup);rw[<-q];have B:=H q;have z:=H (k8.made DF c);have w:=H (am (VT _ c) (.map #[] 0));clear d G q;have S:=oH (t:=233) underlying233;go_enter func195,ntmps195;go_wp2_with fail;go_loopw[11] (λu wr=>∃(b:Nat),b<=a.length/\u=.int .i64 (b:Int)/\Hid (k8 DF wr c.heap.size b (hD a b))/\Hid ((a.take b).Nodup)/\Hid (Bw c wr)) (λu _=>a.length-(intOf u).toNat);case atStart=>exact⟨0,bt,rfl,by have:=U z;have o:(λ_=>(0:Int))=hD a 0:=(by funext V0;simp[hD]);rw[o] at this;exact this,by show (a.take 0).Nodup;simp,U w⟩
 case round=>
  clear z w S;obtain⟨b,VW,rfl,g,i,e⟩:=hrel;by_cases R:b<a.length
  ·(have Q:(b:Int)<(a.length:Int):=by omega);obtain⟨x,d⟩:∃x,a[b]?=some x:=⟨_,VR R⟩;have s:=U P x (VQ d);obtain⟨W,VZ,rfl,X⟩:=((U N).aa (U e)).getP d;have VY:=Sc a b x;have K:=(U g).look (t:=233) underlying233 (x:=x) s;obtain⟨v,M,j,J⟩:=(U g).put (t:=233) underlying233 (by omega) (x:=x) s (c:=hD a b x+1) ⟨by omega,by omega⟩;have r:=j.look (t:=233) underlying233 (x:=x) s;rw[ba rfl] at r;rw[o5 d] at j;have L:=mz d (U i);have I:=(U e).trans (j3 J (U e).size (λY o=>by cases o;exact bi));have k:=H K;have m:=H M;have l:=H r;have O:=H j;have y:=H I;have A:=H L;generalize hD a b x=f at *;clear d K M r j I J L g i e;change Hid ((Instr.lookup 233 (.map (some c.heap.size)) (.int .i64 x) false).run prog wr=.ok (.int .i64 f) wr) at k;change Hid ((Instr.lookup 233 (.map (some c.heap.size)) (.int .i64 x) false).run prog v=.ok (.int .i64 (f+1)) v) at l;change Hid ((Instr.mapUpdate 233 (.map (some c.heap.size)) (.int .i64 x) (.int .i64 (f+1))).run prog wr=.ok () v) at m;by_cases p:f=0
   .subst p
    go_wp2_with (first
     | (at_lookup;refine b9 rfl (.tmp 15) (.tmp 16) 233 rfl _ _ rfl rfl (U k) ?_)
     | (at_mapUpdate;refine cW rfl (.tmp 15) (.tmp 16) (.tmp 18) 233 rfl _ _ _ rfl rfl rfl (U m) ?_)
     | (at_lookup;refine b9 rfl (.tmp 19) (.tmp 20) 233 rfl _ _ rfl rfl (U l) ?_))
    exact⟨⟨b+1,by omega,by go_num,U O,(U A).1 rfl,U y⟩,by simp[intOf];omega⟩
   ·(have Z:(1:Int)<f+1:=by omega);(have n:Hid (C=false):=by rw[U B];show _=_;simpa using(U A).2 p);clear p
    go_wp2_with (first
     | (at_lookup;refine b9 rfl (.tmp 15) (.tmp 16) 233 rfl _ _ rfl rfl (U k) ?_)
     | (at_mapUpdate;refine cW rfl (.tmp 15) (.tmp 16) (.tmp 18) 233 rfl _ _ _ rfl rfl rfl (U m) ?_)
     | (at_lookup;refine b9 rfl (.tmp 19) (.tmp 20) 233 rfl _ _ rfl rfl (U l) ?_))
    go_ret;exact⟨by rw[U n];rfl,U y⟩
  ·(have Q:¬(b:Int)<(a.length:Int):=by omega);(have n:Hid (C=true):=by have F:=U i;rw[fz (by omega)] at F;rw[U B];show _=_;simpa using F);clear g i;go_wp2;go_ret;exact⟨by rw[U n];rfl,U e⟩
theorem qL(a:List ByteArray)(D:Option Addr)(E:Nat)(c:World)(VX:a.length<=140737488355328)(d:∀x∈a,x.size<=140737488355328)(G:hk c D a):Calls prog 91 #[.slice D a.length E] c λT V=>T=.returned (.bool (decide a.Nodup))/\Bw c V:=by
 have P:=H d;have N:=H G;obtain⟨C,q⟩:=bn (decide a.Nodup);rw[<-q];have B:=H q;have z:=H (k8.made cJ c);have w:=H (am (VT _ c) (.map #[] 0));clear d G q;have S:=oH (t:=50) underlying50;go_enter func91,ntmps91;go_wp2_with fail;go_loopw[11] (λu wr=>∃(b:Nat),b<=a.length/\u=.int .i64 (b:Int)/\Hid (k8 cJ wr c.heap.size b (hD a b))/\Hid ((a.take b).Nodup)/\Hid (Bw c wr)) (λu _=>a.length-(intOf u).toNat);case atStart=>exact⟨0,bt,rfl,by have:=U z;have o:(λ_=>(0:Int))=hD a 0:=(by funext V0;simp[hD]);rw[o] at this;exact this,by show (a.take 0).Nodup;simp,U w⟩
 case round=>
  clear z w S;obtain⟨b,VW,rfl,g,i,e⟩:=hrel;by_cases R:b<a.length
  ·(have Q:(b:Int)<(a.length:Int):=by omega);obtain⟨x,d⟩:∃x,a[b]?=some x:=⟨_,VR R⟩;have s:=U P x (VQ d);obtain⟨W,VZ,rfl,X⟩:=((U N).aa (U e)).get d;have VY:=Sc a b x;have K:=(U g).look (t:=50) underlying50 (x:=x) s;obtain⟨v,M,j,J⟩:=(U g).put (t:=50) underlying50 (by omega) (x:=x) s (c:=hD a b x+1) ⟨by omega,by omega⟩;have r:=j.look (t:=50) underlying50 (x:=x) s;rw[ba rfl] at r;rw[o5 d] at j;have L:=mz d (U i);have I:=(U e).trans (j3 J (U e).size (λY o=>by cases o;exact bi));have k:=H K;have m:=H M;have l:=H r;have O:=H j;have y:=H I;have A:=H L;generalize hD a b x=f at *;clear d K M r j I J L g i e;change Hid ((Instr.lookup 50 (.map (some c.heap.size)) (.string x) false).run prog wr=.ok (.int .i64 f) wr) at k;change Hid ((Instr.lookup 50 (.map (some c.heap.size)) (.string x) false).run prog v=.ok (.int .i64 (f+1)) v) at l;change Hid ((Instr.mapUpdate 50 (.map (some c.heap.size)) (.string x) (.int .i64 (f+1))).run prog wr=.ok () v) at m;by_cases p:f=0
   .subst p
    go_wp2_with (first
     | (at_lookup;refine b9 rfl (.tmp 15) (.tmp 16) 50 rfl _ _ rfl rfl (U k) ?_)
     | (at_mapUpdate;refine cW rfl (.tmp 15) (.tmp 16) (.tmp 18) 50 rfl _ _ _ rfl rfl rfl (U m) ?_)
     | (at_lookup;refine b9 rfl (.tmp 19) (.tmp 20) 50 rfl _ _ rfl rfl (U l) ?_))
    exact⟨⟨b+1,by omega,by go_num,U O,(U A).1 rfl,U y⟩,by simp[intOf];omega⟩
   ·(have Z:(1:Int)<f+1:=by omega);(have n:Hid (C=false):=by rw[U B];show _=_;simpa using(U A).2 p);clear p
    go_wp2_with (first
     | (at_lookup;refine b9 rfl (.tmp 15) (.tmp 16) 50 rfl _ _ rfl rfl (U k) ?_)
     | (at_mapUpdate;refine cW rfl (.tmp 15) (.tmp 16) (.tmp 18) 50 rfl _ _ _ rfl rfl rfl (U m) ?_)
     | (at_lookup;refine b9 rfl (.tmp 19) (.tmp 20) 50 rfl _ _ rfl rfl (U l) ?_))
    go_ret;exact⟨by rw[U n];rfl,U y⟩
  ·(have Q:¬(b:Int)<(a.length:Int):=by omega);(have n:Hid (C=true):=by have F:=U i;rw[fz (by omega)] at F;rw[U B];show _=_;simpa using F);clear g i;go_wp2;go_ret;exact⟨by rw[U n];rfl,U e⟩
def qt(a:World)(e:Value)(i:List Value)(f:List Bool):Prop:=∃b d,e=.func (.func b) #[] d/\(∀args a,(callFunc b args).run prog a=.ok (.enter b args) a)/\∀(c:Nat) v bb W,i[c]?=some v->f[c]?=some bb->Bw a W->Calls prog b (#[v]++d) W λg j=>g=.returned (.bool bb)/\Bw W j
theorem qt.aa{a:List Bool}(h:qt w v D a)(k:Bw w W):qt W v D a:=by obtain⟨n,m,g,i,j⟩:=h;exact⟨n,m,g,i,λl o c b d e f=>j l o c b d e (ac k f)⟩
def di(d:List Bool)(e:Int):Prop:=(∃c:Nat,e=c/\d[c]?=some true/\∀b:Nat,b<c->∀a,d[b]?=some a->a=false)∨(e=-1/\∀(b:Nat) a,d[b]?=some a->a=false)
theorem ev{a:List Bool}(h:di a I):decide (0<=I)=a.any id:=by
 rcases h with ⟨f,rfl,c,_⟩|⟨rfl,h⟩
 .have:a.any id=true:=List.any_eq_true.2 ⟨true,VQ c,rfl⟩;rw[this];simp
 .have:a.any id=false:=by
   rw[List.any_eq_false]
   intro g d
   obtain⟨e,b,rfl⟩:=List.getElem_of_mem d
   have:=h e _ (VR b)
   simp[this]
  rw[this];rfl
theorem fX{d:List Bool}(h:∀b:Nat,b<n->∀a,d[b]?=some a->a=false)(g:d[n]?=some false):∀b:Nat,b<n+1->∀a,d[b]?=some a->a=false:=by
 intro b f a c;rcases Nat.lt_or_eq_of_le (Nat.le_of_lt_succ f) with e|rfl;.exact h b e a c
 .rw[g] at c;injection c with c;exact c.symm
def Sl(f:World)(g:Option Addr)(e:List Value):Prop:=e=[]∨∃b d,g=some ⟨b,d,none⟩/\∀(c:Nat) v,e[c]?=some v->∀a,Bw f a->(Instr.loadAt 63 (.pointer (some ⟨b,d+c*3,none⟩))).run prog a=.ok v a
theorem Sl.aa(h:Sl w a D)(f:Bw w W):Sl W a D:=by
 rcases h with h|⟨c,j,d,h⟩;.exact .inl h
 .exact .inr ⟨c,j,d,λi k g b e=>h i k g b (ac f e)⟩
theorem yP(b:List Value)(d:List Bool)(C:d.length=b.length)(y:Option Addr)(E:Nat)(s:Value)(e:World)(M:b.length<=140737488355328)(z:Sl e y b)(hF:qt e s b d):Calls prog 37 #[.slice y b.length E,s] e λo I=>∃m,o=.returned (.int .i64 m)/\di d m/\Bw e I:=by
 have t:=H z;have w:=H C;obtain⟨O,N,rfl,K,v⟩:=hF;have D:=H v;clear z v C;go_enter func37,ntmps37;go_wp2_with fail;go_loopw[8] (λc wr=>∃a:Nat,a<=b.length/\c=.int .i64 (a:Int)/\Hid (∀c:Nat,c<a->∀k,d[c]?=some k->k=false)/\Hid (Bw e wr)) (λc _=>b.length-(intOf c).toNat);case atStart=>exact⟨0,bt,rfl,λc G=>absurd G (by omega),VS⟩
 case round=>
  obtain⟨a,L,rfl,f,g⟩:=hrel;by_cases q:a<b.length
  ·(have F:(a:Int)<(b.length:Int):=by omega);obtain⟨n,r⟩:∃n,b[a]?=some n:=⟨_,VR q⟩;obtain⟨l,j⟩:∃l,d[a]?=some l:=⟨_,VR (by rw[U w];exact q)⟩;rcases U t with o|⟨P,Q,rfl,B⟩;(.subst o;simp at q);have u:=H (B a n r wr (U g));have x:=H (U D a n l wr r j (U g));clear B r t;cases l
   .have i:=H (fX (U f) j);clear f j
    go_wp2_with (first
     | (refine a1 ?_ 63 (.tmp 14) rfl _ (by simp[Act.eval]) _ (U u) ?_;. simp[Region.wanted,yielded])
     | (refine(U x).mono ?_;rintro m J ⟨rfl,p⟩))
    exact⟨⟨a+1,by omega,by go_num,U i,ac (U g) p⟩,by simp[intOf];omega⟩
   .have i:Hid (di d (a:Int)):=Or.inl ⟨a,rfl,j,U f⟩;clear f j
    go_wp2_with (first
     | (refine a1 ?_ 63 (.tmp 14) rfl _ (by simp[Act.eval]) _ (U u) ?_;. simp[Region.wanted,yielded])
     | (refine(U x).mono ?_;rintro m J ⟨rfl,p⟩))
    go_ret;exact⟨_,rfl,U i,ac (U g) p⟩
  ·(have F:¬(a:Int)<(b.length:Int):=by omega);have i:Hid (di d (-1)):=Or.inr ⟨rfl,λc k A=>U f c (by have:=(bD A).1;rw[U w] at this;omega) k A⟩;clear f;go_wp2;go_ret;exact⟨_,rfl,U i,U g⟩
theorem wQ(b:List Value)(c:List Bool)(r:c.length=b.length)(g:Option Addr)(j:Nat)(f:Value)(a:World)(q:b.length<=140737488355328)(k:Sl a g b)(hF:qt a f b c):Calls prog 33 #[.slice g b.length j,f] a λd i=>d=.returned (.bool (c.any id))/\Bw a i:=by have l:Hid (Calls prog 37 #[.slice g b.length j,f] a λd i=>∃e,d=.returned (.int .i64 e)/\decide (0<=e)=c.any id/\Bw a i):=(yP b c r g j f a q k hF).mono λd i ⟨e,m,n,o⟩=>⟨e,m,ev n,o⟩;clear k hF;generalize c.any id=e at *;go_enter func33,ntmps33;go_wp2_with (go_at_call 37;refine(U l).mono ?_;rintro d u ⟨t,rfl,s,p⟩);go_ret;exact⟨rfl,p⟩
def Sm(f:World)(g:Option Addr)(e:List Value):Prop:=e=[]∨∃b d,g=some ⟨b,d,none⟩/\∀(c:Nat) v,e[c]?=some v->∀a,Bw f a->(Instr.loadAt 40 (.pointer (some ⟨b,d+c,none⟩))).run prog a=.ok v a
theorem Sm.aa(h:Sm w a D)(f:Bw w W):Sm W a D:=by
 rcases h with h|⟨c,j,d,h⟩;.exact .inl h
 .exact .inr ⟨c,j,d,λi k g b e=>h i k g b (ac f e)⟩
theorem CD(b:List Value)(d:List Bool)(C:d.length=b.length)(y:Option Addr)(E:Nat)(s:Value)(e:World)(M:b.length<=140737488355328)(z:Sm e y b)(hF:qt e s b d):Calls prog 107 #[.slice y b.length E,s] e λo I=>∃m,o=.returned (.int .i64 m)/\di d m/\Bw e I:=by
 have t:=H z;have w:=H C;obtain⟨O,N,rfl,K,v⟩:=hF;have D:=H v;clear z v C;go_enter func107,ntmps107;go_wp2_with fail;go_loopw[8] (λc wr=>∃a:Nat,a<=b.length/\c=.int .i64 (a:Int)/\Hid (∀c:Nat,c<a->∀k,d[c]?=some k->k=false)/\Hid (Bw e wr)) (λc _=>b.length-(intOf c).toNat);case atStart=>exact⟨0,bt,rfl,λc G=>absurd G (by omega),VS⟩
 case round=>
  obtain⟨a,L,rfl,f,g⟩:=hrel;by_cases q:a<b.length
  ·(have F:(a:Int)<(b.length:Int):=by omega);obtain⟨n,r⟩:∃n,b[a]?=some n:=⟨_,VR q⟩;obtain⟨l,j⟩:∃l,d[a]?=some l:=⟨_,VR (by rw[U w];exact q)⟩;rcases U t with o|⟨P,Q,rfl,B⟩;(.subst o;simp at q);have u:=H (B a n r wr (U g));have x:=H (U D a n l wr r j (U g));clear B r t;cases l
   .have i:=H (fX (U f) j);clear f j
    go_wp2_with (first
     | (refine a1 ?_ 40 (.tmp 14) rfl _ (by simp[Act.eval]) _ (U u) ?_;. simp[Region.wanted,yielded])
     | (refine(U x).mono ?_;rintro m J ⟨rfl,p⟩))
    exact⟨⟨a+1,by omega,by go_num,U i,ac (U g) p⟩,by simp[intOf];omega⟩
   .have i:Hid (di d (a:Int)):=Or.inl ⟨a,rfl,j,U f⟩;clear f j
    go_wp2_with (first
     | (refine a1 ?_ 40 (.tmp 14) rfl _ (by simp[Act.eval]) _ (U u) ?_;. simp[Region.wanted,yielded])
     | (refine(U x).mono ?_;rintro m J ⟨rfl,p⟩))
    go_ret;exact⟨_,rfl,U i,ac (U g) p⟩
  ·(have F:¬(a:Int)<(b.length:Int):=by omega);have i:Hid (di d (-1)):=Or.inr ⟨rfl,λc k A=>U f c (by have:=(bD A).1;rw[U w] at this;omega) k A⟩;clear f;go_wp2;go_ret;exact⟨_,rfl,U i,U g⟩
theorem wS(b:List Value)(c:List Bool)(r:c.length=b.length)(g:Option Addr)(j:Nat)(f:Value)(a:World)(q:b.length<=140737488355328)(k:Sm a g b)(hF:qt a f b c):Calls prog 56 #[.slice g b.length j,f] a λd i=>d=.returned (.bool (c.any id))/\Bw a i:=by have l:Hid (Calls prog 107 #[.slice g b.length j,f] a λd i=>∃e,d=.returned (.int .i64 e)/\decide (0<=e)=c.any id/\Bw a i):=(CD b c r g j f a q k hF).mono λd i ⟨e,m,n,o⟩=>⟨e,m,ev n,o⟩;clear k hF;generalize c.any id=e at *;go_enter func56,ntmps56;go_wp2_with (go_at_call 107;refine(U l).mono ?_;rintro d u ⟨t,rfl,s,p⟩);go_ret;exact⟨rfl,p⟩
def xc(f:World)(g:Option Addr)(e:List Value):Prop:=e=[]∨∃b d,g=some ⟨b,d,none⟩/\∀(c:Nat) v,e[c]?=some v->∀a,Bw f a->(Instr.loadAt 45 (.pointer (some ⟨b,d+c*6,none⟩))).run prog a=.ok v a
theorem xc.aa(h:xc w a D)(f:Bw w W):xc W a D:=by
 rcases h with h|⟨c,j,d,h⟩;.exact .inl h
 .exact .inr ⟨c,j,d,λi k g b e=>h i k g b (ac f e)⟩
theorem CH(b:List Value)(d:List Bool)(C:d.length=b.length)(y:Option Addr)(E:Nat)(s:Value)(e:World)(M:b.length<=140737488355328)(z:xc e y b)(hF:qt e s b d):Calls prog 112 #[.slice y b.length E,s] e λo I=>∃m,o=.returned (.int .i64 m)/\di d m/\Bw e I:=by
 have t:=H z;have w:=H C;obtain⟨O,N,rfl,K,v⟩:=hF;have D:=H v;clear z v C;go_enter func112,ntmps112;go_wp2_with fail;go_loopw[8] (λc wr=>∃a:Nat,a<=b.length/\c=.int .i64 (a:Int)/\Hid (∀c:Nat,c<a->∀k,d[c]?=some k->k=false)/\Hid (Bw e wr)) (λc _=>b.length-(intOf c).toNat);case atStart=>exact⟨0,bt,rfl,λc G=>absurd G (by omega),VS⟩
 case round=>
  obtain⟨a,L,rfl,f,g⟩:=hrel;by_cases q:a<b.length
  ·(have F:(a:Int)<(b.length:Int):=by omega);obtain⟨n,r⟩:∃n,b[a]?=some n:=⟨_,VR q⟩;obtain⟨l,j⟩:∃l,d[a]?=some l:=⟨_,VR (by rw[U w];exact q)⟩;rcases U t with o|⟨P,Q,rfl,B⟩;(.subst o;simp at q);have u:=H (B a n r wr (U g));have x:=H (U D a n l wr r j (U g));clear B r t;cases l
   .have i:=H (fX (U f) j);clear f j
    go_wp2_with (first
     | (refine a1 ?_ 45 (.tmp 14) rfl _ (by simp[Act.eval]) _ (U u) ?_;. simp[Region.wanted,yielded])
     | (refine(U x).mono ?_;rintro m J ⟨rfl,p⟩))
    exact⟨⟨a+1,by omega,by go_num,U i,ac (U g) p⟩,by simp[intOf];omega⟩
   .have i:Hid (di d (a:Int)):=Or.inl ⟨a,rfl,j,U f⟩;clear f j
    go_wp2_with (first
     | (refine a1 ?_ 45 (.tmp 14) rfl _ (by simp[Act.eval]) _ (U u) ?_;. simp[Region.wanted,yielded])
     | (refine(U x).mono ?_;rintro m J ⟨rfl,p⟩))
    go_ret;exact⟨_,rfl,U i,ac (U g) p⟩
  ·(have F:¬(a:Int)<(b.length:Int):=by omega);have i:Hid (di d (-1)):=Or.inr ⟨rfl,λc k A=>U f c (by have:=(bD A).1;rw[U w] at this;omega) k A⟩;clear f;go_wp2;go_ret;exact⟨_,rfl,U i,U g⟩
theorem U4(b:List Value)(c:List Bool)(r:c.length=b.length)(g:Option Addr)(j:Nat)(f:Value)(a:World)(q:b.length<=140737488355328)(k:xc a g b)(hF:qt a f b c):Calls prog 61 #[.slice g b.length j,f] a λd i=>d=.returned (.bool (c.any id))/\Bw a i:=by have l:Hid (Calls prog 112 #[.slice g b.length j,f] a λd i=>∃e,d=.returned (.int .i64 e)/\decide (0<=e)=c.any id/\Bw a i):=(CH b c r g j f a q k hF).mono λd i ⟨e,m,n,o⟩=>⟨e,m,ev n,o⟩;clear k hF;generalize c.any id=e at *;go_enter func61,ntmps61;go_wp2_with (go_at_call 112;refine(U l).mono ?_;rintro d u ⟨t,rfl,s,p⟩);go_ret;exact⟨rfl,p⟩
def UA(f:World)(g:Option Addr)(e:List Value):Prop:=e=[]∨∃b d,g=some ⟨b,d,none⟩/\∀(c:Nat) v,e[c]?=some v->∀a,Bw f a->(Instr.loadAt 28 (.pointer (some ⟨b,d+c*11,none⟩))).run prog a=.ok v a
theorem UA.aa(h:UA w a D)(f:Bw w W):UA W a D:=by
 rcases h with h|⟨c,j,d,h⟩;.exact .inl h
 .exact .inr ⟨c,j,d,λi k g b e=>h i k g b (ac f e)⟩
theorem CE(b:List Value)(d:List Bool)(C:d.length=b.length)(y:Option Addr)(E:Nat)(s:Value)(e:World)(M:b.length<=140737488355328)(z:UA e y b)(hF:qt e s b d):Calls prog 114 #[.slice y b.length E,s] e λo I=>∃m,o=.returned (.int .i64 m)/\di d m/\Bw e I:=by
 have t:=H z;have w:=H C;obtain⟨O,N,rfl,K,v⟩:=hF;have D:=H v;clear z v C;go_enter func114,ntmps114;go_wp2_with fail;go_loopw[8] (λc wr=>∃a:Nat,a<=b.length/\c=.int .i64 (a:Int)/\Hid (∀c:Nat,c<a->∀k,d[c]?=some k->k=false)/\Hid (Bw e wr)) (λc _=>b.length-(intOf c).toNat);case atStart=>exact⟨0,bt,rfl,λc G=>absurd G (by omega),VS⟩
 case round=>
  obtain⟨a,L,rfl,f,g⟩:=hrel;by_cases q:a<b.length
  ·(have F:(a:Int)<(b.length:Int):=by omega);obtain⟨n,r⟩:∃n,b[a]?=some n:=⟨_,VR q⟩;obtain⟨l,j⟩:∃l,d[a]?=some l:=⟨_,VR (by rw[U w];exact q)⟩;rcases U t with o|⟨P,Q,rfl,B⟩;(.subst o;simp at q);have u:=H (B a n r wr (U g));have x:=H (U D a n l wr r j (U g));clear B r t;cases l
   .have i:=H (fX (U f) j);clear f j
    go_wp2_with (first
     | (refine a1 ?_ 28 (.tmp 14) rfl _ (by simp[Act.eval]) _ (U u) ?_;. simp[Region.wanted,yielded])
     | (refine(U x).mono ?_;rintro m J ⟨rfl,p⟩))
    exact⟨⟨a+1,by omega,by go_num,U i,ac (U g) p⟩,by simp[intOf];omega⟩
   .have i:Hid (di d (a:Int)):=Or.inl ⟨a,rfl,j,U f⟩;clear f j
    go_wp2_with (first
     | (refine a1 ?_ 28 (.tmp 14) rfl _ (by simp[Act.eval]) _ (U u) ?_;. simp[Region.wanted,yielded])
     | (refine(U x).mono ?_;rintro m J ⟨rfl,p⟩))
    go_ret;exact⟨_,rfl,U i,ac (U g) p⟩
  ·(have F:¬(a:Int)<(b.length:Int):=by omega);have i:Hid (di d (-1)):=Or.inr ⟨rfl,λc k A=>U f c (by have:=(bD A).1;rw[U w] at this;omega) k A⟩;clear f;go_wp2;go_ret;exact⟨_,rfl,U i,U g⟩
theorem wT(b:List Value)(c:List Bool)(r:c.length=b.length)(g:Option Addr)(j:Nat)(f:Value)(a:World)(q:b.length<=140737488355328)(k:UA a g b)(hF:qt a f b c):Calls prog 63 #[.slice g b.length j,f] a λd i=>d=.returned (.bool (c.any id))/\Bw a i:=by have l:Hid (Calls prog 114 #[.slice g b.length j,f] a λd i=>∃e,d=.returned (.int .i64 e)/\decide (0<=e)=c.any id/\Bw a i):=(CE b c r g j f a q k hF).mono λd i ⟨e,m,n,o⟩=>⟨e,m,ev n,o⟩;clear k hF;generalize c.any id=e at *;go_enter func63,ntmps63;go_wp2_with (go_at_call 114;refine(U l).mono ?_;rintro d u ⟨t,rfl,s,p⟩);go_ret;exact⟨rfl,p⟩
def UB(f:World)(g:Option Addr)(e:List Value):Prop:=e=[]∨∃b d,g=some ⟨b,d,none⟩/\∀(c:Nat) v,e[c]?=some v->∀a,Bw f a->(Instr.loadAt 9 (.pointer (some ⟨b,d+c,none⟩))).run prog a=.ok v a
theorem UB.aa(h:UB w a D)(f:Bw w W):UB W a D:=by
 rcases h with h|⟨c,j,d,h⟩;.exact .inl h
 .exact .inr ⟨c,j,d,λi k g b e=>h i k g b (ac f e)⟩
theorem CC(b:List Value)(d:List Bool)(C:d.length=b.length)(y:Option Addr)(E:Nat)(s:Value)(e:World)(M:b.length<=140737488355328)(z:UB e y b)(hF:qt e s b d):Calls prog 147 #[.slice y b.length E,s] e λo I=>∃m,o=.returned (.int .i64 m)/\di d m/\Bw e I:=by
 have t:=H z;have w:=H C;obtain⟨O,N,rfl,K,v⟩:=hF;have D:=H v;clear z v C;go_enter func147,ntmps147;go_wp2_with fail;go_loopw[8] (λc wr=>∃a:Nat,a<=b.length/\c=.int .i64 (a:Int)/\Hid (∀c:Nat,c<a->∀k,d[c]?=some k->k=false)/\Hid (Bw e wr)) (λc _=>b.length-(intOf c).toNat);case atStart=>exact⟨0,bt,rfl,λc G=>absurd G (by omega),VS⟩
 case round=>
  obtain⟨a,L,rfl,f,g⟩:=hrel;by_cases q:a<b.length
  ·(have F:(a:Int)<(b.length:Int):=by omega);obtain⟨n,r⟩:∃n,b[a]?=some n:=⟨_,VR q⟩;obtain⟨l,j⟩:∃l,d[a]?=some l:=⟨_,VR (by rw[U w];exact q)⟩;rcases U t with o|⟨P,Q,rfl,B⟩;(.subst o;simp at q);have u:=H (B a n r wr (U g));have x:=H (U D a n l wr r j (U g));clear B r t;cases l
   .have i:=H (fX (U f) j);clear f j
    go_wp2_with (first
     | (refine a1 ?_ 9 (.tmp 14) rfl _ (by simp[Act.eval]) _ (U u) ?_;. simp[Region.wanted,yielded])
     | (refine(U x).mono ?_;rintro m J ⟨rfl,p⟩))
    exact⟨⟨a+1,by omega,by go_num,U i,ac (U g) p⟩,by simp[intOf];omega⟩
   .have i:Hid (di d (a:Int)):=Or.inl ⟨a,rfl,j,U f⟩;clear f j
    go_wp2_with (first
     | (refine a1 ?_ 9 (.tmp 14) rfl _ (by simp[Act.eval]) _ (U u) ?_;. simp[Region.wanted,yielded])
     | (refine(U x).mono ?_;rintro m J ⟨rfl,p⟩))
    go_ret;exact⟨_,rfl,U i,ac (U g) p⟩
  ·(have F:¬(a:Int)<(b.length:Int):=by omega);have i:Hid (di d (-1)):=Or.inr ⟨rfl,λc k A=>U f c (by have:=(bD A).1;rw[U w] at this;omega) k A⟩;clear f;go_wp2;go_ret;exact⟨_,rfl,U i,U g⟩
theorem wR(b:List Value)(c:List Bool)(r:c.length=b.length)(g:Option Addr)(j:Nat)(f:Value)(a:World)(q:b.length<=140737488355328)(k:UB a g b)(hF:qt a f b c):Calls prog 89 #[.slice g b.length j,f] a λd i=>d=.returned (.bool (c.any id))/\Bw a i:=by have l:Hid (Calls prog 147 #[.slice g b.length j,f] a λd i=>∃e,d=.returned (.int .i64 e)/\decide (0<=e)=c.any id/\Bw a i):=(CC b c r g j f a q k hF).mono λd i ⟨e,m,n,o⟩=>⟨e,m,ev n,o⟩;clear k hF;generalize c.any id=e at *;go_enter func89,ntmps89;go_wp2_with (go_at_call 147;refine(U l).mono ?_;rintro d u ⟨t,rfl,s,p⟩);go_ret;exact⟨rfl,p⟩
def xb(f:World)(g:Option Addr)(e:List Value):Prop:=e=[]∨∃b d,g=some ⟨b,d,none⟩/\∀(c:Nat) v,e[c]?=some v->∀a,Bw f a->(Instr.loadAt 3 (.pointer (some ⟨b,d+c,none⟩))).run prog a=.ok v a
theorem xb.aa(h:xb w a D)(f:Bw w W):xb W a D:=by
 rcases h with h|⟨c,j,d,h⟩;.exact .inl h
 .exact .inr ⟨c,j,d,λi k g b e=>h i k g b (ac f e)⟩
theorem CG(b:List Value)(d:List Bool)(C:d.length=b.length)(y:Option Addr)(E:Nat)(s:Value)(e:World)(M:b.length<=140737488355328)(z:xb e y b)(hF:qt e s b d):Calls prog 117 #[.slice y b.length E,s] e λo I=>∃m,o=.returned (.int .i64 m)/\di d m/\Bw e I:=by
 have t:=H z;have w:=H C;obtain⟨O,N,rfl,K,v⟩:=hF;have D:=H v;clear z v C;go_enter func117,ntmps117;go_wp2_with fail;go_loopw[8] (λc wr=>∃a:Nat,a<=b.length/\c=.int .i64 (a:Int)/\Hid (∀c:Nat,c<a->∀k,d[c]?=some k->k=false)/\Hid (Bw e wr)) (λc _=>b.length-(intOf c).toNat);case atStart=>exact⟨0,bt,rfl,λc G=>absurd G (by omega),VS⟩
 case round=>
  obtain⟨a,L,rfl,f,g⟩:=hrel;by_cases q:a<b.length
  ·(have F:(a:Int)<(b.length:Int):=by omega);obtain⟨n,r⟩:∃n,b[a]?=some n:=⟨_,VR q⟩;obtain⟨l,j⟩:∃l,d[a]?=some l:=⟨_,VR (by rw[U w];exact q)⟩;rcases U t with o|⟨P,Q,rfl,B⟩;(.subst o;simp at q);have u:=H (B a n r wr (U g));have x:=H (U D a n l wr r j (U g));clear B r t;cases l
   .have i:=H (fX (U f) j);clear f j
    go_wp2_with (first
     | (refine a1 ?_ 3 (.tmp 14) rfl _ (by simp[Act.eval]) _ (U u) ?_;. simp[Region.wanted,yielded])
     | (refine(U x).mono ?_;rintro m J ⟨rfl,p⟩))
    exact⟨⟨a+1,by omega,by go_num,U i,ac (U g) p⟩,by simp[intOf];omega⟩
   .have i:Hid (di d (a:Int)):=Or.inl ⟨a,rfl,j,U f⟩;clear f j
    go_wp2_with (first
     | (refine a1 ?_ 3 (.tmp 14) rfl _ (by simp[Act.eval]) _ (U u) ?_;. simp[Region.wanted,yielded])
     | (refine(U x).mono ?_;rintro m J ⟨rfl,p⟩))
    go_ret;exact⟨_,rfl,U i,ac (U g) p⟩
  ·(have F:¬(a:Int)<(b.length:Int):=by omega);have i:Hid (di d (-1)):=Or.inr ⟨rfl,λc k A=>U f c (by have:=(bD A).1;rw[U w] at this;omega) k A⟩;clear f;go_wp2;go_ret;exact⟨_,rfl,U i,U g⟩
theorem o1(b:List Value)(c:List Bool)(r:c.length=b.length)(g:Option Addr)(j:Nat)(f:Value)(a:World)(q:b.length<=140737488355328)(k:xb a g b)(hF:qt a f b c):Calls prog 66 #[.slice g b.length j,f] a λd i=>d=.returned (.bool (c.any id))/\Bw a i:=by have l:Hid (Calls prog 117 #[.slice g b.length j,f] a λd i=>∃e,d=.returned (.int .i64 e)/\decide (0<=e)=c.any id/\Bw a i):=(CG b c r g j f a q k hF).mono λd i ⟨e,m,n,o⟩=>⟨e,m,ev n,o⟩;clear k hF;generalize c.any id=e at *;go_enter func66,ntmps66;go_wp2_with (go_at_call 117;refine(U l).mono ?_;rintro d u ⟨t,rfl,s,p⟩);go_ret;exact⟨rfl,p⟩
def xd(f:World)(g:Option Addr)(e:List Value):Prop:=e=[]∨∃b d,g=some ⟨b,d,none⟩/\∀(c:Nat) v,e[c]?=some v->∀a,Bw f a->(Instr.loadAt 149 (.pointer (some ⟨b,d+c*2,none⟩))).run prog a=.ok v a
theorem xd.aa(h:xd w a D)(f:Bw w W):xd W a D:=by
 rcases h with h|⟨c,j,d,h⟩;.exact .inl h
 .exact .inr ⟨c,j,d,λi k g b e=>h i k g b (ac f e)⟩
theorem CI(b:List Value)(d:List Bool)(C:d.length=b.length)(y:Option Addr)(E:Nat)(s:Value)(e:World)(M:b.length<=140737488355328)(z:xd e y b)(hF:qt e s b d):Calls prog 176 #[.slice y b.length E,s] e λo I=>∃m,o=.returned (.int .i64 m)/\di d m/\Bw e I:=by
 have t:=H z;have w:=H C;obtain⟨O,N,rfl,K,v⟩:=hF;have D:=H v;clear z v C;go_enter func176,ntmps176;go_wp2_with fail;go_loopw[8] (λc wr=>∃a:Nat,a<=b.length/\c=.int .i64 (a:Int)/\Hid (∀c:Nat,c<a->∀k,d[c]?=some k->k=false)/\Hid (Bw e wr)) (λc _=>b.length-(intOf c).toNat);case atStart=>exact⟨0,bt,rfl,λc G=>absurd G (by omega),VS⟩
 case round=>
  obtain⟨a,L,rfl,f,g⟩:=hrel;by_cases q:a<b.length
  ·(have F:(a:Int)<(b.length:Int):=by omega);obtain⟨n,r⟩:∃n,b[a]?=some n:=⟨_,VR q⟩;obtain⟨l,j⟩:∃l,d[a]?=some l:=⟨_,VR (by rw[U w];exact q)⟩;rcases U t with o|⟨P,Q,rfl,B⟩;(.subst o;simp at q);have u:=H (B a n r wr (U g));have x:=H (U D a n l wr r j (U g));clear B r t;cases l
   .have i:=H (fX (U f) j);clear f j
    go_wp2_with (first
     | (refine a1 ?_ 149 (.tmp 14) rfl _ (by simp[Act.eval]) _ (U u) ?_;. simp[Region.wanted,yielded])
     | (refine(U x).mono ?_;rintro m J ⟨rfl,p⟩))
    exact⟨⟨a+1,by omega,by go_num,U i,ac (U g) p⟩,by simp[intOf];omega⟩
   .have i:Hid (di d (a:Int)):=Or.inl ⟨a,rfl,j,U f⟩;clear f j
    go_wp2_with (first
     | (refine a1 ?_ 149 (.tmp 14) rfl _ (by simp[Act.eval]) _ (U u) ?_;. simp[Region.wanted,yielded])
     | (refine(U x).mono ?_;rintro m J ⟨rfl,p⟩))
    go_ret;exact⟨_,rfl,U i,ac (U g) p⟩
  ·(have F:¬(a:Int)<(b.length:Int):=by omega);have i:Hid (di d (-1)):=Or.inr ⟨rfl,λc k A=>U f c (by have:=(bD A).1;rw[U w] at this;omega) k A⟩;clear f;go_wp2;go_ret;exact⟨_,rfl,U i,U g⟩
theorem o3(b:List Value)(c:List Bool)(r:c.length=b.length)(g:Option Addr)(j:Nat)(f:Value)(a:World)(q:b.length<=140737488355328)(k:xd a g b)(hF:qt a f b c):Calls prog 125 #[.slice g b.length j,f] a λd i=>d=.returned (.bool (c.any id))/\Bw a i:=by have l:Hid (Calls prog 176 #[.slice g b.length j,f] a λd i=>∃e,d=.returned (.int .i64 e)/\decide (0<=e)=c.any id/\Bw a i):=(CI b c r g j f a q k hF).mono λd i ⟨e,m,n,o⟩=>⟨e,m,ev n,o⟩;clear k hF;generalize c.any id=e at *;go_enter func125,ntmps125;go_wp2_with (go_at_call 176;refine(U l).mono ?_;rintro d u ⟨t,rfl,s,p⟩);go_ret;exact⟨rfl,p⟩
def xa(f:World)(g:Option Addr)(e:List Value):Prop:=e=[]∨∃b d,g=some ⟨b,d,none⟩/\∀(c:Nat) v,e[c]?=some v->∀a,Bw f a->(Instr.loadAt 66 (.pointer (some ⟨b,d+c*16,none⟩))).run prog a=.ok v a
theorem xa.aa(h:xa w a D)(f:Bw w W):xa W a D:=by
 rcases h with h|⟨c,j,d,h⟩;.exact .inl h
 .exact .inr ⟨c,j,d,λi k g b e=>h i k g b (ac f e)⟩
theorem CF(b:List Value)(d:List Bool)(C:d.length=b.length)(y:Option Addr)(E:Nat)(s:Value)(e:World)(M:b.length<=140737488355328)(z:xa e y b)(hF:qt e s b d):Calls prog 177 #[.slice y b.length E,s] e λo I=>∃m,o=.returned (.int .i64 m)/\di d m/\Bw e I:=by
 have t:=H z;have w:=H C;obtain⟨O,N,rfl,K,v⟩:=hF;have D:=H v;clear z v C;go_enter func177,ntmps177;go_wp2_with fail;go_loopw[8] (λc wr=>∃a:Nat,a<=b.length/\c=.int .i64 (a:Int)/\Hid (∀c:Nat,c<a->∀k,d[c]?=some k->k=false)/\Hid (Bw e wr)) (λc _=>b.length-(intOf c).toNat);case atStart=>exact⟨0,bt,rfl,λc G=>absurd G (by omega),VS⟩
 case round=>
  obtain⟨a,L,rfl,f,g⟩:=hrel;by_cases q:a<b.length
  ·(have F:(a:Int)<(b.length:Int):=by omega);obtain⟨n,r⟩:∃n,b[a]?=some n:=⟨_,VR q⟩;obtain⟨l,j⟩:∃l,d[a]?=some l:=⟨_,VR (by rw[U w];exact q)⟩;rcases U t with o|⟨P,Q,rfl,B⟩;(.subst o;simp at q);have u:=H (B a n r wr (U g));have x:=H (U D a n l wr r j (U g));clear B r t;cases l
   .have i:=H (fX (U f) j);clear f j
    go_wp2_with (first
     | (refine a1 ?_ 66 (.tmp 14) rfl _ (by simp[Act.eval]) _ (U u) ?_;. simp[Region.wanted,yielded])
     | (refine(U x).mono ?_;rintro m J ⟨rfl,p⟩))
    exact⟨⟨a+1,by omega,by go_num,U i,ac (U g) p⟩,by simp[intOf];omega⟩
   .have i:Hid (di d (a:Int)):=Or.inl ⟨a,rfl,j,U f⟩;clear f j
    go_wp2_with (first
     | (refine a1 ?_ 66 (.tmp 14) rfl _ (by simp[Act.eval]) _ (U u) ?_;. simp[Region.wanted,yielded])
     | (refine(U x).mono ?_;rintro m J ⟨rfl,p⟩))
    go_ret;exact⟨_,rfl,U i,ac (U g) p⟩
  ·(have F:¬(a:Int)<(b.length:Int):=by omega);have i:Hid (di d (-1)):=Or.inr ⟨rfl,λc k A=>U f c (by have:=(bD A).1;rw[U w] at this;omega) k A⟩;clear f;go_wp2;go_ret;exact⟨_,rfl,U i,U g⟩
theorem wU(b:List Value)(c:List Bool)(r:c.length=b.length)(g:Option Addr)(j:Nat)(f:Value)(a:World)(q:b.length<=140737488355328)(k:xa a g b)(hF:qt a f b c):Calls prog 127 #[.slice g b.length j,f] a λd i=>d=.returned (.bool (c.any id))/\Bw a i:=by have l:Hid (Calls prog 177 #[.slice g b.length j,f] a λd i=>∃e,d=.returned (.int .i64 e)/\decide (0<=e)=c.any id/\Bw a i):=(CF b c r g j f a q k hF).mono λd i ⟨e,m,n,o⟩=>⟨e,m,ev n,o⟩;clear k hF;generalize c.any id=e at *;go_enter func127,ntmps127;go_wp2_with (go_at_call 177;refine(U l).mono ?_;rintro d u ⟨t,rfl,s,p⟩);go_ret;exact⟨rfl,p⟩
def qp(b:ByteArray)(a:Nat):Int:=((b.data.toList.getD a 0).toNat:Int)
theorem DK(b:ByteArray)(a:Nat)(h:a<b.size)(c:World):(Instr.index 9 (.string b) (.int .i64 (a:Int))).run prog c=.ok (.int .u8 (qp b a)) c:=by
 rw[run_index_string c 9 b .i64 a underlying9,dif_pos ⟨by omega,by omega⟩];have d:a<b.data.size:=h;have:qp b a=((b[((a:Int)).toNat]'(by simpa using h)).toNat:Int):=by unfold qp;(have e:a<b.data.toList.length:=by simpa using d);rw[cQ,VR e,Option.getD_some,Array.getElem_toList];rfl
 rw[this]
def UH(a:Int):Bool:=decide (97<=a) && decide (a<=122)
def CX(a:Int):Bool:=(decide (48<=a) && decide (a<=57)) || a == 95
def nM(a:Int):Bool:=UH a || CX a
def Vo(a:ByteArray):Bool:=decide (1<=a.size) && decide (a.size<=40) && UH (qp a 0) && (List.range a.size).all (λb=>nM (qp a b))
theorem mM(a:Int)(c:World):Calls prog 188 #[.int .u8 a] c λe f=>e=.returned (.bool (UH a))/\Bw c f:=by
 unfold UH;by_cases b:97<=a;.by_cases d:a<=122;(.go_enter func188,ntmps188;go_wp2;go_ret;exact⟨by simp[b,d],VS⟩);.go_enter func188,ntmps188;go_wp2;go_ret;exact⟨by simp[b,d],VS⟩
 .go_enter func188,ntmps188;go_wp2;go_ret;exact⟨by simp[b];intros;omega,VS⟩
theorem pN(a:Int)(k:World):Calls prog 189 #[.int .u8 a] k λd m=>d=.returned (.bool (nM a))/\Bw k m:=by
 have c:=H (mM a);unfold nM;cases g:UH a;.rw[g] at c;have e:Hid (CX a=((decide (48<=a) && decide (a<=57)) || a == 95)):=rfl;generalize CX a=n at *;rw[Bool.false_or];clear g;by_cases j:48<=a;(.by_cases l:a<=57;(.go_enter func189,ntmps189;go_wp2_with (go_at_call 188;refine(U c _).mono ?_;rintro d i ⟨rfl,b⟩);go_ret;exact⟨by rw[U e];simp[j,l],b⟩);.by_cases f:a=95;(.subst f;go_enter func189,ntmps189;go_wp2_with (go_at_call 188;refine(U c _).mono ?_;rintro d i ⟨rfl,b⟩);go_ret;exact⟨by rw[U e];rfl,b⟩);.go_enter func189,ntmps189;go_wp2_with (go_at_call 188;refine(U c _).mono ?_;rintro d i ⟨rfl,b⟩);go_ret;exact⟨by rw[U e];simp[j,l,f],b⟩);·(have f:¬a=95:=by omega);go_enter func189,ntmps189;go_wp2_with (go_at_call 188;refine(U c _).mono ?_;rintro d i ⟨rfl,b⟩);go_ret;exact⟨by rw[U e];simp[j,f];intros;omega,b⟩
 .rw[g] at c;clear g;go_enter func189,ntmps189;go_wp2_with (go_at_call 188;refine(U c _).mono ?_;rintro d i ⟨rfl,b⟩);go_ret;exact⟨rfl,b⟩
theorem yv{b:ByteArray}(h:∀a,a<n->nM (qp b a)=true)(d:n=b.size):(List.range b.size).all (λa=>nM (qp b a))=true:=by rw[List.all_eq_true];intro a c;exact h a (by rw[d];exact List.mem_range.1 c)
theorem yu{a:ByteArray}(b:n<a.size)(h:nM (qp a n)=false):(List.range a.size).all (λc=>nM (qp a c))=false:=by rw[List.all_eq_false];exact⟨n,List.mem_range.2 b,by simp[h]⟩
theorem mV(a:ByteArray)(N:a.size<=140737488355328)(t:World):Calls prog 148 #[.string a] t λm F=>m=.returned (.bool (Vo a))/\Bw t F:=by
 obtain⟨k,n⟩:=bn (Vo a);rw[<-n];unfold Vo at n;have d:=H n;clear n;by_cases K:a.size<1;·(have e:Hid (k=false):=by rw[U d];show _=_;simp;omega);(have z:(a.size:Int)<1:=by omega);go_enter func148,ntmps148;go_wp2;go_ret;exact⟨by rw[U e];rfl,VS⟩
 by_cases L:40<a.size;·(have e:Hid (k=false):=by rw[U d];show _=_;simp;omega);(have z:¬(a.size:Int)<1:=by omega);(have E:(40:Int)<(a.size:Int):=by omega);go_enter func148,ntmps148;go_wp2;go_ret;exact⟨by rw[U e];rfl,VS⟩
 have z:¬(a.size:Int)<1:=by omega
 have E:¬(40:Int)<(a.size:Int):=by omega
 have w:decide (1<=a.size)=true:=by simp;omega
 have x:decide (a.size<=40)=true:=by simp;omega
 rw[w,x,Bool.true_and,Bool.true_and] at d;clear w x;have s:=DK a 0 (by omega);have i:=H (mM (qp a 0));cases l:UH (qp a 0);.rw[l] at i d;have e:Hid (k=false):=U d;rw[Int.natCast_zero] at s;generalize qp a 0=I at *;clear l d;go_enter func148,ntmps148;go_wp2_with (go_at_call 188;refine(U i _).mono ?_;rintro m u ⟨rfl,o⟩);go_ret;exact⟨by rw[U e];rfl,o⟩
 .rw[l] at i;rw[l,Bool.true_and] at d;rw[Int.natCast_zero] at s;generalize qp a 0=I at *;clear l;go_enter func148,ntmps148;go_wp2_with (go_at_call 188;refine(U i _).mono ?_;rintro m u ⟨rfl,o⟩);have v:=H o;clear o s i;go_loopw[20] (λc wr=>∃b:Nat,b<=a.size/\c=.int .i64 (b:Int)/\Hid (∀c,c<b->nM (qp a c)=true)/\Hid (Bw u wr)) (λc _=>a.size-(intOf c).toNat);case atStart=>exact⟨0,bt,rfl,λc r=>absurd r (by omega),VS⟩
  case round=>
   obtain⟨b,M,rfl,j,p⟩:=hrel;by_cases y:b<a.size
   ·(have B:(b:Int)<(a.size:Int):=by omega);have C:=DK a b y;have g:=H (pN (qp a b));cases f:nM (qp a b);·(have e:Hid (k=false):=by rw[U d];exact yu y f);rw[f] at g;generalize qp a b=J at *;clear f j;go_wp2_with (go_at_call 189;refine(U g _).mono ?_;rintro m G ⟨rfl,q⟩);go_ret;exact⟨by rw[U e];rfl,ac (ac (U v) (U p)) q⟩
    .have A:Hid (∀c,c<b+1->nM (qp a c)=true):=λc r=>by
      rcases Nat.lt_or_eq_of_le (Nat.le_of_lt_succ r) with h|rfl
      .exact U j c h
      .exact f
     rw[f] at g
     generalize D:qp a b=J at C g
     clear f j D
     go_wp2_with (go_at_call 189;refine(U g _).mono ?_;rintro m G ⟨rfl,q⟩)
     exact⟨⟨b+1,by omega,by go_num,U A,ac (U p) q⟩,by simp[intOf];omega⟩
   ·(have B:¬(b:Int)<(a.size:Int):=by omega);(have e:Hid (k=true):=by rw[U d];exact yv (U j) (by omega));clear j;go_wp2;go_ret;exact⟨by rw[U e];rfl,ac (U v) (U p)⟩
end Go.Proofs.YtklgoolblpmmlaaGreat
