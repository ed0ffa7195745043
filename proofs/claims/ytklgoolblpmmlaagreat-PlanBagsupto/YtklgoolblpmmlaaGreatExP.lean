import Derived.Test.YtklgoolblpmmlaaGreatAnyG
import Derived.Test.YtklgoolblpmmlaaGreatExO
set_option linter.all false
set_option maxHeartbeats 400000
namespace Go.Proofs.YtklgoolblpmmlaaGreat
open Go.RowKit Go.Sort Go.Proofs.Tryz
variable{m n:Nat}{W w:World}{v:Value}{c:aH}
theorem dC.kept{N:List Nat}(h:dC w m v)(c:ce n N w W)(a:n<=m)(b:m ∉ N):dC W m v:=ce.cell h c a b
theorem eB.kept{N:List Nat}(h:eB w m c)(d:ce n N w W)(a:n<=m)(b:m ∉ N):eB W m c:=⟨ce.cell h.1 d a b,ce.cell h.2.1 d a b,ce.cell h.2.2 d a b⟩
def fB(j:Nat)(N:List Nat)(g:World)(f:Value)(i:aH->aH->aH):Prop:=∃b e,f=.func (.func b) #[] e/\cr b/\∀a c d,ce j N g a->gW c->gW d->Calls prog b (#[c.v,d.v]++e) a λk l=>k=.returned (i c d).v/\Bw a l
def dG(j:Nat)(N:List Nat)(f:World)(e:Value)(i:Ex):Prop:=∃b d,e=.func (.func b) #[] d/\cr b/\∀a c g row,ce j N f a->bX a c row->(∀m∈row,gW m)->row.length<=140737488355328->Calls prog b (#[.slice c row.length g]++d) a λk l=>k=.returned (co row i).v/\Bw a l
theorem fB.of{N:List Nat}{a b:aH->aH->aH}(h:fB n N w v a)(c:a=b):fB n N w v b:=c ▸ h
theorem fB.on{N:List Nat}{a:aH->aH->aH}(h:fB n N w v a)(i:ce n N w W):fB n N W v a:=by obtain⟨k,j,rfl,d,b⟩:=h;exact⟨k,j,rfl,d,λc l m e f g=>b c l m (i.trans e) f g⟩
theorem dG.on{N:List Nat}{x:Ex}(h:dG n N w v x)(k:ce n N w W):dG n N W v x:=by obtain⟨m,l,rfl,e,a⟩:=h;exact⟨m,l,rfl,e,λb c d row f g i j=>a b c d row (k.trans f) g i j⟩
theorem fB.more{N N':List Nat}{b:aH->aH->aH}(h:fB n N w v b)(k:m<=n)(j:∀a∈N',a∈N∨a<n∨w.heap.size<=a):fB m N' w v b:=by obtain⟨o,l,rfl,e,c⟩:=h;exact⟨o,l,rfl,e,λd p q f g i=>c d p q (f.more k j) g i⟩
theorem dG.more{N N':List Nat}{x:Ex}(h:dG n N w v x)(o:m<=n)(l:∀a∈N',a∈N∨a<n∨w.heap.size<=a):dG m N' w v x:=by obtain⟨q,p,rfl,f,b⟩:=h;exact⟨q,p,rfl,f,λc d e row g i j k=>b c d e row (g.more o l) i j k⟩
theorem fB.fun2{N:List Nat}{a:aH->aH->aH}(h:fB n N w v a):sA w v a:=by obtain⟨j,i,rfl,d,b⟩:=h;exact⟨j,i,rfl,d,λc k l e f g=>b c k l (ce.ab _ _ e) f g⟩
theorem dG.work{N:List Nat}{x:Ex}(h:dG n N w v x):nX w v x:=by obtain⟨l,k,rfl,e,a⟩:=h;exact⟨l,k,rfl,e,λb c d row f g i j=>a b c d row (ce.ab _ _ f) g i j⟩
theorem xO(b:Int)(l:World):Calls prog 102 #[.int .i64 b] l λn r=>(∃j,n=.returned j/\∀d,lL d j (jk b))/\r=l:=by
 by_cases f:b=3;.subst f;go_enter func102,ntmps102;go_wp2;go_ret;exact⟨⟨_,rfl,λd=>⟨153,#[],rfl,DW,λc a _ e=>AW a c e⟩⟩,rfl⟩
 by_cases g:b=4;.subst g;go_enter func102,ntmps102;go_wp2;go_ret;exact⟨⟨_,rfl,λd=>⟨156,#[],rfl,DV,λc a _ e=>AU a c⟩⟩,rfl⟩
 by_cases i:b=5;.subst i;go_enter func102,ntmps102;go_wp2;go_ret;exact⟨⟨_,rfl,λd=>⟨157,#[],rfl,DU,λc a _ e=>tx a c⟩⟩,rfl⟩
 have o:(b == 3)=false:=by simpa using f
 have p:(b == 4)=false:=by simpa using g
 have q:(b == 5)=false:=by simpa using i
 have k:(λa:aH=>if a.k == 2 then aH.num a.s.size else aH.null)=jk b:=by funext a;unfold jk;rw[o,p,q];rfl
 have m:=H k;clear f g i k;go_enter func102,ntmps102;go_wp2;go_ret;exact⟨⟨_,rfl,λd=>lL.of ⟨158,#[],rfl,DT,λc a _ e=>tn a c e.2⟩ (U m)⟩,rfl⟩
theorem zk(a:Int)(b:World):Calls prog 104 #[.int .i64 a] b λu t=>∃p,u=.returned p/\fB b.heap.size [] t p (Vz a)/\Bw b t:=by
 have w:∀(r:Fn) (first q:Array Value) (b:World),(Instr.makeFunc r first q).run prog b=.ok (.func r first q) b:=λ_ _ _ _=>rfl;have l:=H (am (VT _ b) (.cells #[.int .i64 a] 3));have m:Hid (dC (b.alloc (.cells #[.int .i64 a] 3)) b.heap.size (.int .i64 a)):=by show dC _ _ _;unfold dC;simp[go_sem]
 by_cases n:a<=11;·(have e:eJ a=Vz a:=by funext c d;unfold Vz;simp[n]);have k:=H e;clear e;go_enter func104,ntmps104;go_wp2;go_ret;exact⟨_,rfl,fB.of ⟨159,_,rfl,DS,λf c d j g i=>wN a b.heap.size c d f ((U m).kept j bi (by simp)) g i⟩ (U k),U l⟩
 by_cases s:a<=17;·(have e:gh a=Vz a:=by funext c d;unfold Vz;simp[n,s]);have k:=H e;clear e;go_enter func104,ntmps104;go_wp2;go_ret;exact⟨_,rfl,fB.of ⟨160,_,rfl,DR,λf c d j g i=>wM a b.heap.size c d f ((U m).kept j bi (by simp)) g i⟩ (U k),U l⟩
 by_cases o:a=18;.subst o;go_enter func104,ntmps104;go_wp2;go_ret;exact⟨_,rfl,⟨162,_,rfl,DQ,λf c d j g i=>Bz c d f g.2 i.2⟩,U l⟩
 have v:(a == 18)=false:=by simpa using o
 have e:dW a=Vz a:=by funext c d;unfold Vz;simp[n,s,v]
 have k:=H e;clear e o;go_enter func104,ntmps104;go_wp2;go_ret;exact⟨_,rfl,fB.of ⟨163,_,rfl,DP,λf c d j g i=>wL a b.heap.size c d f ((U m).kept j bi (by simp)) g i⟩ (U k),U l⟩
theorem Ct(a:Ex)(p:dE a)(f:a.args=[])(c:Option Addr)(d:Nat)(b:World):Calls prog 101 #[a.val c d] b λA B=>∃r,A=.returned r/\dG b.heap.size [] B r a/\Bw b B:=by
 have N:∀(u:Fn) (first t:Array Value) (b:World),(Instr.makeFunc u first t).run prog b=.ok (.func u first t) b:=λ_ _ _ _=>rfl;have n:=am (VT _ b) (a.box c d);have C:=H n;obtain⟨I,J,K,c3,L,M⟩:ee (b.alloc (a.box c d)) b.heap.size a c d:=ee.new b a c d;have s:Hid (∀row,co row a=fW a.op a.n a.v row []):=λrow=>by rw[fZ,f,VM]
 have g:=H (ec a.v);rw[aH.open_] at g;rw[Ex.ad];rcases jQ p f with ⟨v,F⟩|w
 ·(have m:(a.op == 2)=false:=by rw[v];rfl);(have i:Hid (∀row,co row a=if decide ((row.length:Int)<=a.n) then aH.null else bk (row.getD a.n.toNat .null)):=λrow=>by rw[U s row];show (if a.op == 2 then _ else _)=_;rw[m];rfl);(have D:Hid (dC ((b.alloc (a.box c d)).alloc (.cells #[.int .i64 a.n] 3)) (b.heap.size+1) (.int .i64 a.n)):=by show dC _ _ _;unfold dC;simp[go_sem]);clear f p n v g;go_enter func101,ntmps101;go_wp2;go_ret;refine⟨_,rfl,⟨152,_,rfl,DX,λj k l row o z G y=>?_⟩,am (U C) _⟩;rw[U i row];exact UG a.n (b.heap.size+1) k l row j F y ((U D).kept o (by omega) (by simp)) z
 ·(have m:(a.op == 2)=true:=by rw[w];rfl);(have i:Hid (∀row,co row a=bk a.v):=λrow=>by rw[U s row];show (if a.op == 2 then _ else _)=_;rw[m];rfl);generalize bk a.v=e at *;clear f p n w;go_enter func101,ntmps101;go_wp2_with (go_at_call 47;refine(U g _).mono ?_;rintro A q ⟨rfl,x⟩;rw[aH.open_]);go_ret;(have E:eB (q.alloc (.cells #[.int .i64 e.k,.int .i64 e.n,.string e.s] 43)) q.heap.size e:=by refine⟨?_,?_,?_⟩<;>simp[go_sem]);refine⟨_,rfl,⟨151,_,rfl,DY,λj k l row o z G y=>?_⟩,am (ch x) _⟩;rw[U i row];exact wb e q.heap.size k row.length l j (E.kept o (ch x).size (by simp))
theorem UV{k:Program}{f:Array Oper}{l:Exit->Act->World->Prop}{j:Region.Mode}{m:World->Prop}{r:Nat}(g:Nat->Array Bool->Act->World->Prop)
  (h:∀c a b w,g c a b w->eq k j f l m r c a b w∨∃e,c=e+1/\Region.ready j f a≠[]/\∀i∈Region.ready j f a,wpOp k f l i (λn w'=>m w'/\g e (a.setIfInBounds i true) n w') b w) :
  ∀c a b w,g c a b w->eq k j f l m r c a b w
 | 0,a,b,w,p=>by
  rcases h 0 a b w p with h|⟨e,o,_⟩
  .exact h
  .omega
 | c+1,a,b,w,p=>by
  rcases h (c+1) a b w p with o|⟨e,o,s,t⟩
  .exact o
  .have:e=c:=by omega
   subst this
   exact ed _ rfl s λi v=>wpOp_mono (λn w' q=>⟨λ_=>q.1,UV g h e _ n w' q.2⟩) (t i v)
structure g3(R:Nat->List Nat->World->Value->Prop):Prop where
 on:∀{lo N w w' v},R lo N w v->ce lo N w w'->R lo N w' v
 more:∀{lo lo':Nat} {N N':List Nat} {w:World} {v:Value},R lo N w v->lo'<=lo->(∀b∈N',b∈N∨b<lo∨w.heap.size<=b)->R lo' N' w v
theorem gA(x:Ex):g3 (λlo N w e=>dG lo N w e x):=⟨λh c=>h.on c,λh a b=>h.more a b⟩
theorem wt(c:aH->aH->aH):g3 (λlo N w f=>fB lo N w f c):=⟨λh e=>h.on e,λh a b=>h.more a b⟩
theorem wu(b:aH->aH):g3 (λ_ _ _ c=>∀a,lL a c b):=⟨λh _=>h,λh _ _=>h⟩
theorem ws:g3 (λ_ _ _ _=>True):=⟨λh _=>h,λh _ _=>h⟩
def h7(w:World)(N:List Nat)(b:Value):Prop:=∃a∈N,b=.pointer (some ⟨a,0,none⟩)/\dC w a .nilFunc/\w.frozen? ⟨a,0,none⟩=false
structure qB(R0 R1 R2:Nat->List Nat->World->Value->Prop)(u:Bool)(lo:Nat)(wa:World)(d:Nat)(b0 b1 b2:Bool)(t0 t1 t2 p0 p1 p2:Value)(N:List Nat)(w:World):Prop where
 bel:Bw wa w
 low:lo<=wa.heap.size
 new:∀b∈N,wa.heap.size<=b/\b<w.heap.size
 r0:1<=d->R0 lo N w t0
 r1:2<=d->R1 lo N w t1
 r2:3<=d->R2 lo N w t2
 q0:b0=true->h7 w N p0
 q1:b1=true->h7 w N p1
 q2:b2=true->u=true->h7 w N p2
 n01:b0=true->b1=true->p0≠p1
 n02:b0=true->b2=true->u=true->p0≠p2
 n12:b1=true->b2=true->u=true->p1≠p2
section
variable {R0 R1 R2:Nat->List Nat->World->Value->Prop}{u:Bool}{lo:Nat}{wa:World}{d:Nat}{b0 b1 b2:Bool}{t0 t1 t2 p0 p1 p2:Value}{N:List Nat}{w w':World}
theorem h7.aa(h:h7 w N v)(b:Bw w w'):h7 w' N v:=by obtain⟨c,e,f,a,g⟩:=h;exact⟨c,e,f,a.aa b,by rw[(cO b).2 _ _ (ck w _ a)];exact g⟩
theorem h7.cons(a:Nat)(h:h7 w N v):h7 w (a::N) v:=by obtain⟨b,c,e,f⟩:=h;exact⟨b,List.mem_cons_of_mem _ c,e,f⟩
theorem h7.ne(h:h7 w N v)(g:∀c∈N,c<w.heap.size):v≠.pointer (some ⟨w.heap.size,0,none⟩):=by obtain⟨b,e,f,i⟩:=h;have:=g b e;rw[f];intro a;injection a with a;injection a with a;injection a with a;omega
theorem qB.call(g0:g3 R0)(j:g3 R1)(k:g3 R2)(h:qB R0 R1 R2 u lo wa d b0 b1 b2 t0 t1 t2 p0 p1 p2 N w)(b:Bw w w'){t0' t1' t2':Value} (o:d≠0->t0'=t0) (p:d≠1->t1'=t1) (q:d≠2->t2'=t2) (r:d=0->R0 w.heap.size [] w' t0') (s:d=1->R1 w.heap.size [] w' t1') (t:d=2->R2 w.heap.size [] w' t2'):qB R0 R1 R2 u lo wa (d+1) b0 b1 b2 t0' t1' t2' p0 p1 p2 N w':=by
 have i:lo<=w.heap.size:=cw h.low h.bel.size;have f:∀a∈N,a∈([]:List Nat)∨a<w.heap.size∨w'.heap.size<=a:=λa b=>.inr (.inl (h.new a b).2);have g:=ce.ab lo N b;refine⟨ac h.bel b,h.low,λa l=>⟨(h.new a l).1,cN (h.new a l).2 b.size⟩,λm=>?_,λm=>?_,λm=>?_,λe=>(h.q0 e).aa b,λe=>(h.q1 e).aa b,λe n=>(h.q2 e n).aa b,h.n01,h.n02,h.n12⟩;.by_cases c:d=0;(.exact g0.more (r c) i f);.rw[o c];exact g0.on (h.r0 (by omega)) g
 .by_cases c:d=1;(.exact j.more (s c) i f);.rw[p c];exact j.on (h.r1 (by omega)) g
 .by_cases c:d=2;(.exact k.more (t c) i f);.rw[q c];exact k.on (h.r2 (by omega)) g
theorem pz(w:World)(N:List Nat)(a:TypeId):h7 (w.alloc (.cells #[.nilFunc] a)) (w.heap.size::N) (.pointer (some ⟨w.heap.size,0,none⟩)):=
 ⟨_,List.mem_cons_self,rfl,by unfold dC;simp[go_sem],by simp[go_sem]⟩
theorem qB.base(g0:g3 R0)(k:g3 R1)(l:g3 R2)(h:qB R0 R1 R2 u lo wa d b0 b1 b2 t0 t1 t2 p0 p1 p2 N w)(j:TypeId):qB R0 R1 R2 u lo wa d b0 b1 b2 t0 t1 t2 p0 p1 p2 (w.heap.size::N) (w.alloc (.cells #[.nilFunc] j)):=by
 have b:=am (VT _ w) (.cells #[.nilFunc] j);have g:∀a∈w.heap.size::N,a∈N∨a<lo∨w.heap.size<=a:=λa b=>by rcases dr b with h|h;(.exact .inr (.inr (by omega)));.exact .inl h
 have i:=ce.ab lo (w.heap.size::N) b;have m:w.heap.size<(w.alloc (.cells #[.nilFunc] j)).heap.size:=by simp[go_sem]
 refine⟨ac h.bel b,h.low,λa o=>?_,λe=>g0.on (g0.more (h.r0 e) bi g) i,λe=>k.on (k.more (h.r1 e) bi g) i,λe=>l.on (l.more (h.r2 e) bi g) i,λc=>((h.q0 c).aa b).cons _,λc=>((h.q1 c).aa b).cons _,λc n=>((h.q2 c n).aa b).cons _,h.n01,h.n02,h.n12⟩;rcases dr o with f | f;.rw[f];exact⟨h.bel.size,m⟩
 .exact⟨(h.new a f).1,Nat.lt_trans (h.new a f).2 m⟩
theorem qB.alloc0(g0:g3 R0)(i:g3 R1)(j:g3 R2)(h:qB R0 R1 R2 u lo wa d false b1 b2 t0 t1 t2 p0 p1 p2 N w)(e:TypeId):qB R0 R1 R2 u lo wa d true b1 b2 t0 t1 t2 (.pointer (some ⟨w.heap.size,0,none⟩)) p1 p2 (w.heap.size::N) (w.alloc (.cells #[.nilFunc] e)):=by have f:∀b∈N,b<w.heap.size:=λb k=>(h.new b k).2;have a:=h.base g0 i j e;exact⟨a.bel,a.low,a.new,a.r0,a.r1,a.r2,λ_=>pz w N e,a.q1,a.q2,λ_ c=>((h.q1 c).ne f).symm,λ_ c g=>((h.q2 c g).ne f).symm,a.n12⟩
theorem qB.alloc1(g0:g3 R0)(i:g3 R1)(j:g3 R2)(h:qB R0 R1 R2 u lo wa d b0 false b2 t0 t1 t2 p0 p1 p2 N w)(e:TypeId):qB R0 R1 R2 u lo wa d b0 true b2 t0 t1 t2 p0 (.pointer (some ⟨w.heap.size,0,none⟩)) p2 (w.heap.size::N) (w.alloc (.cells #[.nilFunc] e)):=by have f:∀b∈N,b<w.heap.size:=λb k=>(h.new b k).2;have a:=h.base g0 i j e;exact⟨a.bel,a.low,a.new,a.r0,a.r1,a.r2,a.q0,λ_=>pz w N e,a.q2,λc _=>(h.q0 c).ne f,a.n02,λ_ c g=>((h.q2 c g).ne f).symm⟩
theorem qB.alloc2(g0:g3 R0)(g:g3 R1)(i:g3 R2)(h:qB R0 R1 R2 u lo wa d b0 b1 false t0 t1 t2 p0 p1 p2 N w)(e:TypeId):qB R0 R1 R2 u lo wa d b0 b1 true t0 t1 t2 p0 p1 (.pointer (some ⟨w.heap.size,0,none⟩)) (w.heap.size::N) (w.alloc (.cells #[.nilFunc] e)):=by have f:∀b∈N,b<w.heap.size:=λb j=>(h.new b j).2;have a:=h.base g0 g i e;exact⟨a.bel,a.low,a.new,a.r0,a.r1,a.r2,a.q0,a.q1,λ_ _=>pz w N e,a.n01,λc _ _=>(h.q0 c).ne f,λc _ _=>(h.q1 c).ne f⟩
end
def xI(e:Region.Mode)(f:Array Oper)(a:Nat->Bool->Bool->Bool->Array Bool)(b:Nat->Bool->Bool->Bool->Nat)(k:Nat->Nat)(g i j:Nat)(d:Nat)(b0 b1 b2:Bool):Bool:=
 !(Region.ready e f (a d b0 b1 b2)).isEmpty && (Region.ready e f (a d b0 b1 b2)).all λc=>
  (decide (d<3) && c == k d && (a d b0 b1 b2).setIfInBounds c true == a (d+1) b0 b1 b2 && b d b0 b1 b2 == b (d+1) b0 b1 b2+1) ||
  (!b0 && c == g && (a d b0 b1 b2).setIfInBounds c true == a d true b1 b2 && b d b0 b1 b2 == b d true b1 b2+1) ||
  (!b1 && c == i && (a d b0 b1 b2).setIfInBounds c true == a d b0 true b2 && b d b0 b1 b2 == b d b0 true b2+1) ||
  (!b2 && c == j && (a d b0 b1 b2).setIfInBounds c true == a d b0 b1 true && b d b0 b1 b2 == b d b0 b1 true+1)
theorem pP{k:Array Oper}{l:Exit->Act->World->Prop}{J:Region.Mode}{K:World->Prop}{R0 R1 R2:Nat->List Nat->World->Value->Prop}(g0:g3 R0)(x:g3 R1)(y:g3 R2)(s:Bool)(S:Nat)(i:World)(F:Nat) (f:Value->Value->Value->Value->Value->Value->Array Value) (D:Nat->Bool->Bool->Bool->Array Bool) (v:Nat->Bool->Bool->Bool->Nat) (E:Nat->Nat) (T V W:Nat) (VW VX VY:TypeId) (A:∀a,Bw i a->K a) (ok:∀d b0 b1 b2,F<=d->d<=3->(s || b2)=true->(d == 3 && b0 && b1 && b2)=false->xI J k D v E T V W d b0 b1 b2=true) (V2:F=0->∀t0 t1 t2 p0 p1 p2 a c,Bw i a->(∀b g,Bw a g->R0 a.heap.size [] g b->c ⟨f b t1 t2 p0 p1 p2,[]⟩ g)->wpOp prog k l (E 0) c ⟨f t0 t1 t2 p0 p1 p2,[]⟩ a) (V3:∀t0 t1 t2 p0 p1 p2 a c,Bw i a->(∀b g,Bw a g->R1 a.heap.size [] g b->c ⟨f t0 b t2 p0 p1 p2,[]⟩ g)->wpOp prog k l (E 1) c ⟨f t0 t1 t2 p0 p1 p2,[]⟩ a) (V4:∀t0 t1 t2 p0 p1 p2 a c,Bw i a->(∀b g,Bw a g->R2 a.heap.size [] g b->c ⟨f t0 t1 b p0 p1 p2,[]⟩ g)->wpOp prog k l (E 2) c ⟨f t0 t1 t2 p0 p1 p2,[]⟩ a) (VZ:∀t0 t1 t2 p0 p1 p2 a c,c ⟨f t0 t1 t2 (.pointer (some ⟨a.heap.size,0,none⟩)) p1 p2,[]⟩ (a.alloc (.cells #[.nilFunc] VW))->wpOp prog k l T c ⟨f t0 t1 t2 p0 p1 p2,[]⟩ a) (V0:∀t0 t1 t2 p0 p1 p2 a c,c ⟨f t0 t1 t2 p0 (.pointer (some ⟨a.heap.size,0,none⟩)) p2,[]⟩ (a.alloc (.cells #[.nilFunc] VX))->wpOp prog k l V c ⟨f t0 t1 t2 p0 p1 p2,[]⟩ a) (V1:s=true->∀t0 t1 t2 p0 p1 p2 a c,c ⟨f t0 t1 t2 p0 p1 (.pointer (some ⟨a.heap.size,0,none⟩)),[]⟩ (a.alloc (.cells #[.nilFunc] VY))->wpOp prog k l W c ⟨f t0 t1 t2 p0 p1 p2,[]⟩ a) (fin:∀t0 t1 t2 p0 p1 p2 N a,qB R0 R1 R2 s S i 3 true true true t0 t1 t2 p0 p1 p2 N a->eq prog J k l K n (v 3 true true true) (D 3 true true true) ⟨f t0 t1 t2 p0 p1 p2,[]⟩ a) {d:Nat} {b0 b1 b2:Bool} {t0 t1 t2 p0 p1 p2:Value} {N:List Nat}  (r:F<=d) (q:d<=3) (j:(s || b2)=true) (h:qB R0 R1 R2 s S i d b0 b1 b2 t0 t1 t2 p0 p1 p2 N w) {t:Array Bool} {u:Act} (Z:m=v d b0 b1 b2) (X:t=D d b0 b1 b2) (Y:u=⟨f t0 t1 t2 p0 p1 p2,[]⟩):eq prog J k l K n m t u w:=by
 refine UV (λm t u w=>∃d b0 b1 b2 t0 t1 t2 p0 p1 p2 N,F<=d/\d<=3/\(s || b2)=true/\m=v d b0 b1 b2/\t=D d b0 b1 b2/\u=⟨f t0 t1 t2 p0 p1 p2,[]⟩/\qB R0 R1 R2 s S i d b0 b1 b2 t0 t1 t2 p0 p1 p2 N w) ?_ m t u w ⟨d,b0,b1,b2,t0,t1,t2,p0,p1,p2,N,r,q,j,Z,X,Y,h⟩;clear r q j h Z X Y;rintro m t u w ⟨d,b0,b1,b2,t0,t1,t2,p0,p1,p2,N,r,q,j,rfl,rfl,rfl,h⟩;cases M:(d == 3 && b0 && b1 && b2) with
 | true=>simp only[cc,beq_iff_eq] at M;obtain⟨⟨⟨rfl,rfl⟩,rfl⟩,rfl⟩:=M;exact .inl (fin _ _ _ _ _ _ _ _ h)
 | false=>
  right;have P:=ok d b0 b1 b2 r q j M;unfold xI at P;rw[cc,List.all_eq_true] at P;obtain⟨C,I⟩:=P
  have V9:∃G,v d b0 b1 b2=G+1:=by
   match Wa:Region.ready J k (D d b0 b1 b2),C,I with
   | [],C,_=>simp at C
   | R::Wb,_,I=>
    have:=I R List.mem_cons_self
    simp only[Bool.or_eq_true,cc,beq_iff_eq] at this
    rcases this with ((h|h)|h)|h<;>exact⟨_,h.2⟩
  obtain⟨G,V7⟩:=V9;refine⟨G,V7,λV5=>?_,λR V8=>?_⟩;.rw[V5] at C;simp at C
  have:=I R V8;simp only[Bool.or_eq_true,cc,beq_iff_eq,cF,Bool.not_eq_true'] at this;rcases this with ((⟨⟨⟨z,o⟩,p⟩,L⟩|⟨⟨⟨z,o⟩,p⟩,L⟩)|⟨⟨⟨z,o⟩,p⟩,L⟩)|⟨⟨⟨z,o⟩,p⟩,L⟩
  .rw[p];subst o;(have O:G=v (d+1) b0 b1 b2:=by omega);(have V6:d=0∨d=1∨d=2:=by omega);rcases V6 with Q|Q|Q<;>subst Q;(.refine V2 (by omega) _ _ _ _ _ _ _ _ h.bel λb g B hF=>?_;have e:=h.call g0 x y B (t0':=b) (t1':=t1) (t2':=t2) (λh=>absurd rfl h) (λ_=>rfl) (λ_=>rfl) (λ_=>hF) (λh=>absurd h (by decide)) (λh=>absurd h (by decide));exact⟨A _ e.bel,1,b0,b1,b2,b,t1,t2,p0,p1,p2,N,by omega,by decide,j,O,rfl,rfl,e⟩);(.refine V3 _ _ _ _ _ _ _ _ h.bel λb g B hF=>?_;have e:=h.call g0 x y B (t0':=t0) (t1':=b) (t2':=t2) (λ_=>rfl) (λh=>absurd rfl h) (λ_=>rfl) (λh=>absurd h (by decide)) (λ_=>hF) (λh=>absurd h (by decide));exact⟨A _ e.bel,2,b0,b1,b2,t0,b,t2,p0,p1,p2,N,by omega,by decide,j,O,rfl,rfl,e⟩);.refine V4 _ _ _ _ _ _ _ _ h.bel λb g B hF=>?_;have e:=h.call g0 x y B (t0':=t0) (t1':=t1) (t2':=b) (λ_=>rfl) (λ_=>rfl) (λh=>absurd rfl h) (λh=>absurd h (by decide)) (λh=>absurd h (by decide)) (λ_=>hF);exact⟨A _ e.bel,3,b0,b1,b2,t0,t1,b,p0,p1,p2,N,by omega,by decide,j,O,rfl,rfl,e⟩
  .rw[p];subst z o;have e:=h.alloc0 g0 x y VW;exact VZ _ _ _ _ _ _ _ _ ⟨A _ e.bel,d,true,b1,b2,_,_,_,_,_,_,_,r,q,j,by omega,rfl,rfl,e⟩
  .rw[p];subst z o;have e:=h.alloc1 g0 x y VX;exact V0 _ _ _ _ _ _ _ _ ⟨A _ e.bel,d,b0,true,b2,_,_,_,_,_,_,_,r,q,j,by omega,rfl,rfl,e⟩
  .rw[p];subst z o;have e:=h.alloc2 g0 x y VY;exact V1 (by simpa using j) _ _ _ _ _ _ _ _ ⟨A _ e.bel,d,b0,b1,true,_,_,_,_,_,_,_,r,q,by simp,by omega,rfl,rfl,e⟩
end Go.Proofs.YtklgoolblpmmlaaGreat
