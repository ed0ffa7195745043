import Derived.Test.YtklgoolblpmmlaaGreatExS
import Derived.Test.YtklgoolblpmmlaaGreatPaF
set_option linter.all false
set_option maxHeartbeats 4000000
set_option maxRecDepth 100000
namespace Go.Proofs.YtklgoolblpmmlaaGreat
open Go.RowKit Go.Sort Go.Proofs.Tryz
mutual
def Ex.high:Ex->Nat
 | .mk _ _ _ a=>Ex.aU a+1
def Ex.aU:List Ex->Nat
 | []=>0
 | a::b=>max a.high (Ex.aU b)
end
mutual
theorem uz:∀(e:Ex) (c b:Int) {d h:Int},cu bW e c b=(d,h,true)->d=(e.size:Int)/\h=(e.high:Int)
 | .mk m l n i,c,b,d,h,a=>by
  rw[cu] at a;split at a;.injection a with _ a;injection a with _ a;cases a
  .cases f:cx bW i c b 1 0 with
   | none=>rw[f] at a;simp only at a;injection a with _ a;injection a with _ a;cases a
   | some j=>
    rw[f] at a
    simp only at a
    injection a with k g
    injection g with g _
    have:=rx i c b 1 0 (c':=j.1) (h':=j.2) f
    rw[Ex.size,Ex.high]
    omega
theorem rx:∀(e:List Ex) (c b d h:Int) {c' h':Int},cx bW e c b d h=some (c',h')->c'=d+(Ex.aB e:Int)/\(0<=h->h'=max h (Ex.aU e:Int))
 | [],c,b,d,h,c',h',a=>by rw[cx] at a;injection a with a;injection a with m n;rw[Ex.aB,Ex.aU];constructor;(.omega);.intro k;omega
 | i::e,c,b,d,h,c',h',a=>by rw[cx] at a;split at a;(.rename_i f;obtain⟨g,p,ok,j⟩:∃g l ok,cu bW i (c-d) (b-1)=(g,l,ok):=⟨_,_,_,rfl⟩;rw[j] at a f;simp only at a f;subst f;have o:=uz i (c-d) (b-1) j;have:=rx e c b _ _ a;rw[Ex.aB,Ex.aU];constructor;(.omega);.intro k;have:=this.2 (by omega);omega);.cases a
end
variable{E e:Ex}{k m n:Nat}{I J:Int}{W X Y Z w:World}{v:Value}{C K:List Int}{a:Option Addr}{x y:List aH}{c:aH}
theorem ju(h:bJ e=true):cu bW e 400 40=((e.size:Int),(e.high:Int),true):=by obtain⟨c,a,ok,b⟩:∃c a ok,cu bW e 400 40=(c,a,ok):=⟨_,_,_,rfl⟩;unfold bJ at h;rw[b] at h;simp only at h;subst h;obtain⟨d,a⟩:=uz e 400 40 b;rw[b,d,a]
theorem fs(h:bJ e=true):e.size<=400/\e.high<=40:=by have:=gs bW e 400 40 (ju h);omega
def g6(a:Ex):Int×Int:=if bJ a then ((a.size:Int),(a.high:Int)) else (401,41)
mutual
def dj:Ex->List Int
 | .mk c b _ a=>(if c == 1 then [b] else [])++cZ a
def cZ:List Ex->List Int
 | []=>[]
 | a::b=>dj a++cZ b
end
theorem Vi(a:Ex):dj a=(if a.op == 1 then [a.n] else [])++cZ a.args:=by cases a;rw[dj];rfl
theorem r6:∀{a:List Ex} {c:Ex} {b:Int},c∈a->b∈dj c->b∈cZ a
 | [],_,_,h,_=>by cases h
 | e::a,c,b,h,d=>by rw[cZ,List.mem_append];rcases dr h with rfl|h;(.exact .inl d);.exact .inr (r6 h d)
def gg(b:Ex)(c:Int):Bool:=(dj b).all λa=>decide (a<c)
theorem xt{x:Ex}(h:gg e I=true)(c:e.args[n]?=some x):gg x I=true:=by unfold gg at h ⊢;rw[List.all_eq_true] at h ⊢;intro a b;exact h a (by rw[Vi,List.mem_append];exact .inr (r6 (VQ c) b))
theorem Uz(h:gg e I=true)(a:e.op=1):e.n<I:=by unfold gg at h;rw[List.all_eq_true] at h;have:=h e.n (by rw[Vi,a];simp);simpa using this
theorem ni{x:Ex}(b:dE x)(a:x.op=1):x.args=[]:=by have c:=fC (dJ b).1;rw[a,show Vk 1=0 by decide] at c;exact dF (by omega)
theorem Bp{x:Ex}(b:dE x)(a:x.op=1):0<=x.n:=by
 rcases jQ b (ni b a) with ⟨_,h⟩|h
 .exact h
 .rw[a] at h;cases h
theorem m2:(Tryz.prog.info? 3).map (λa=>(a.zero,a.size,a.bytes))=some (some (.int .i64 0),1,8):=by kernel_rfl
def cm(c:World)(base:Nat)(b:Value)(a:List Int):Prop:=c.ownsRow base 3 1 b a.length (a.map (.int .i64))
theorem cm.aa{w1:World}{base:Nat}(h:cm w base v C)(a:Below w.heap.size w w1):cm w1 base v C:=hz h a
theorem cm.slice{base:Nat}(h:cm w base v C):∃b a,v=.slice b C.length a:=by
 rcases h.2 with ⟨rfl,c⟩|⟨e,a,d,rfl,_⟩
 .have:C=[]:=dF c;subst this;exact⟨none,0,rfl⟩
 .exact⟨_,a,rfl⟩
theorem cm.ints{base:Nat}(h:cm w base (.slice a n m) C):bP w a C:=by
 rcases h.2 with ⟨d,j⟩|⟨c,o,p,d,_⟩
 .have:C=[]:=dF j;exact .inl this
 .injection d with f q g;subst f;refine .inr ⟨c,0,rfl,λb l k=>?_⟩;subst g;have e:=World.ownsRow.cells h rfl b (.int .i64 l) (by rw[bL,k];rfl);(have i:(⟨c,0,none⟩:Addr).add b=⟨c,0+b,none⟩:=by by_cases h:b=0<;>simp[Addr.add,h]);rw[i] at e;exact e
theorem j1(c:List Int):∀a∈c.map (Value.int .i64),a.oneCell'=true:=by intro a b;obtain⟨d,_,rfl⟩:=b6 b;rfl
theorem cm.ax{base base':Nat}(h:cm w base v C)(i:base'<=base):cm w base' v C:=by
 obtain⟨e,a⟩:=h;refine⟨e,?_⟩;rcases a with a|⟨d,b,c,f,j,g⟩;.exact .inl a
 .exact .inr ⟨d,b,c,f,by omega,g⟩
mutual
theorem gB:∀a:Ex,(dj a).length<=a.size
 | .mk d c e b=>by have:=nh b;rw[dj,bG,Ex.size];split;(.show 1+_<=_;omega);.show 0+_<=_;omega
theorem nh:∀a:List Ex,(cZ a).length<=Ex.aB a
 | []=>by rw[cZ];exact bt
 | b::a=>by have c:=gB b;have d:=nh a;rw[cZ,bG,Ex.aB];omega
end
theorem pB{base:Nat}(h:cm w base v C):∀a,v.ownBlock=some a->base<=a:=by
 intro a b;rcases h.2 with ⟨rfl,_⟩|⟨e,c,d,rfl,f,_⟩
 .cases b
 .simp[Value.ownBlock] at b;omega
theorem gD{u:Array Oper}{rest:List Oper}{i:Oper}{f:Act}{l:Exit->Act->World->Prop}(b:World)(n:i.guard=none)(j x:Operand)(p:i.op=.call { callee:=.builtin .append,args:=#[j,x],argTypes:=#[23,23] }) (base w:Nat) (d v:Value) (c a:List Int) (r:f.eval j=d) (g:cm b base d c) (s:f.eval x=v) (q:cm b w v a) (I:c.length+a.length<=1000000) (m:base<=b.heap.size) (h:∀k e,cm e base k (c++a)->Below base b e->wpList prog u l rest (f.put i.dst k) e):wpList prog u l (i::rest) f b:=by
 obtain⟨t,o,D,E,F⟩:=info_parts m2;rcases q.2 with ⟨rfl,A⟩|⟨z,y,G,rfl,_⟩
 .have:a=[]:=dF A;subst this;exact wpList_append_own_none n j x 23 p base 3 t 1 underlying23 o d c.length _ r g s (h d b (by rw[VI];exact g) VS)
 .refine wpList_append_own_at b n j x 23 p base 3 t (.int .i64 0) 1 8 underlying23 o D E F rfl (by decide) d c.length (c.map (.int .i64)) r g ⟨z,0,none⟩ a.length y (a.map (.int .i64)) s (by simp) (World.ownsRow.cells q rfl) (j1 a) (by unfold maxLen;omega) (by omega) m ?_;intro k e B C _ _;refine h k e ?_ (bB C m (pB g));unfold cm;rw[bG,ep];exact B
theorem gr(a:World)(base:Nat):cm a base (.slice none 0 0) []:=World.ownsRow_nil _ _ _ _
variable{L:List Ex}
theorem ng{x:Ex}(h:L[n]?=some x):cZ (L.take (n+1))=cZ (L.take n)++dj x:=by
 have key:∀(L a:List Ex),cZ (L++a)=cZ L++cZ a:=by
  intro L a
  induction L with
  | nil=>rw[dK,cZ,dK]
  | cons c L b=>rw[eL,cZ,cZ,b,cI]
 rw[List.take_add_one,h,key];show _++cZ [x]=_;rw[cZ,cZ,VI]
theorem nU(b:List Ex)(a:Nat):(cZ (b.take a)).length<=Ex.aB b:=by
 induction b generalizing a with
 | nil=>simp[cZ]
 | cons d b c=>
  cases a with
  | zero=>simp[cZ]
  | succ a=>
   rw[List.take_succ_cons,cZ,bG,Ex.aB]
   have:=c a
   have:=gB d
   omega
theorem eV(a:World)(base:Nat)(c:base<=a.heap.size)(b:Int):cm (a.alloc (.cells #[.int .i64 b] 3)) base (.slice (some ⟨a.heap.size,0,none⟩) 1 1) [b]:=
 ⟨rfl,.inr ⟨a.heap.size,1,_,rfl,c,Go.Deep.blk_alloc_new _ _,bi,by unfold maxLen;omega,rfl,rfl⟩⟩
theorem qj(a:Ex)(W:dE a)(Wb:a.fin)(Wd:a.size<=400)(d:Option Addr)(e:Nat)(b:World)(R:Ex.all b d a.args) (M:∀(f:Nat) (x:Ex),a.args[f]?=some x->∀(g:Option Addr) (l:Nat) (k:World),Ex.all k g x.args->Calls prog 170 #[x.val g l] k λy t=>∃s,y=.returned s/\cm t k.heap.size s (dj x)/\Below k.heap.size k t):Calls prog 170 #[a.val d e] b λy t=>∃s,y=.returned s/\cm t b.heap.size s (dj a)/\Below b.heap.size b t:=by
 have V0:=H M;have X:=H R;have n:=am (VT _ b) (.cells #[.int .i64 a.op,.int .i64 a.n,.int .i64 a.v.k,.int .i64 a.v.n,.string a.v.s,.slice d a.args.length e] 45);have u:=H (Vi a);have V1:Hid (Ex.aB a.args<=399):=by show _<=_;rw[Ex.ak] at Wd;omega
 have Wp:=(Ex.an Wb).1.1;rw[Ex.ad];clear M R;by_cases i:a.op=1;·(have E:a.args.length=0:=by rw[ni W i];rfl);(have V:dj a=[a.n]:=by rw[Vi,i,ni W i,cZ];rfl);have VY:=H V;rw[i,E];rw[i,E] at n;have K:=H (eV (b.alloc (.cells #[.int .i64 1,.int .i64 a.n,.int .i64 a.v.k,.int .i64 a.v.n,.string a.v.s,.slice d 0 e] 45)) b.heap.size n.size a.n);rw[show (b.alloc (.cells #[.int .i64 1,.int .i64 a.n,.int .i64 a.v.k,.int .i64 a.v.n,.string a.v.s,.slice d 0 e] 45)).heap.size=b.heap.size+1 by simp[go_sem]] at K;have Y:=H (am n (.cells #[.int .i64 a.n] 3));(have V4:Hid (((b.alloc (.cells #[.int .i64 1,.int .i64 a.n,.int .i64 a.v.k,.int .i64 a.v.n,.string a.v.s,.slice d 0 e] 45)).alloc (.cells #[.int .i64 a.n] 3)).cell? ⟨b.heap.size,5,none⟩=some (.slice d 0 e)):=by show _=_;simp[go_sem]);clear V u E;go_enter func170,ntmps170;go_wp2_with (at_builtin;go_loud (refine gD _ rfl (.tmp 9) (.tmp 12) rfl (b.heap.size+1) b.heap.size (.slice none 0 0) (.slice (some ⟨b.heap.size+1,0,none⟩) 1 1) [] [a.n] rfl (gr _ _) rfl (U K) (by simp) (by simp[go_sem]) ?_);intro I A q r;have Wg:A.cell? ⟨b.heap.size,5,none⟩=some (.slice d 0 e):=by rw[r.cell (p:=⟨b.heap.size,5,none⟩) (by show b.heap.size<b.heap.size+1;omega)];exact U V4);have v:Hid (cm A b.heap.size I [a.n]):=q.ax (base':=b.heap.size) (by omega);have Z:=H ((U Y).trans (r.mono (by omega:b.heap.size<=b.heap.size+1)));clear q r;obtain⟨V5,V6,rfl⟩:=(U v).slice;go_loopw[3,17] (λG f wr=>G=.slice V5 [a.n].length V6/\f=.int .i64 0/\wr=A) (λ_ _ _=>0);(case atStart=>exact⟨rfl,rfl,rfl⟩);case round=>obtain⟨rfl,rfl,rfl⟩:=hrel;go_wp2;go_ret;exact⟨_,rfl,by rw[U VY];exact U v,U Z⟩
 .have P:(a.op == 1)=false:=by simpa using i
  rw[P] at u;simp only[Bool.false_eq_true,if_false,dK] at u;have VZ:=H P;obtain⟨Wf,F⟩:=bn (b.alloc (.cells #[.int .i64 a.op,.int .i64 a.n,.int .i64 a.v.k,.int .i64 a.v.n,.string a.v.s,.slice d a.args.length e] 45));have VW:Hid (Below b.heap.size b Wf):=by rw[F];exact n
  go_enter func170,ntmps170;go_wp2;rw[<-F];try rw[U VZ]
  clear n F;go_loopw[3,17] (λG f wr=>∃(c:Nat) (z:Value),c<=a.args.length/\f=.int .i64 (c:Int)/\G=z/\Hid (cm wr b.heap.size z (cZ (a.args.take c))/\Below b.heap.size b wr)) (λ_ f _=>a.args.length-(intOf f).toNat);case atStart=>exact⟨0,_,bt,rfl,rfl,by show cm _ _ _ (cZ []);rw[cZ];exact gr _ _,U VW⟩
  case round=>
   obtain⟨c,Wq,Wn,rfl,rfl,B⟩:=hrel;obtain⟨o,m⟩:=U B;obtain⟨N,O,rfl⟩:=o.slice;by_cases Wc:c<a.args.length
   ·(have V8:(c:Int)<(a.args.length:Int):=by omega);obtain⟨x,w⟩:∃x,a.args[c]?=some x:=⟨_,VR Wc⟩;obtain⟨Wr,Ws,V7,T⟩:=Ex.ag (Ex.af _ (U X) m) w;obtain⟨g,l,⟨Wh,Wi,Wj,Wk,Wl,Wm⟩,S⟩:=Ex.ah T;have J:=H (U V0 c x w g l (wr.alloc (.cells #[.int .i64 x.op,.int .i64 x.n,.int .i64 x.v.k,.int .i64 x.v.n,.string x.v.s,.slice g x.args.length l] 45)) (Ex.af _ S (am VS _)));rw[Ex.ad] at J;have L:=H (ng w);have Wa:(cZ (a.args.take (c+1))).length<=399:=cw (nU _ _) (U V1);rw[U L,bG] at Wa;have VX:=H (am (VT _ wr) (.cells #[.int .i64 x.op,.int .i64 x.n,.int .i64 x.v.k,.int .i64 x.v.n,.string x.v.s,.slice g x.args.length l] 45));have j:=H m;have C:=H o;subst V7;clear w T S o m B
    go_wp2_with (first
     | (go_at_call 170;refine(U J).mono ?_;rintro y We ⟨z,rfl,Q,V9⟩;have D:=ac (U VX) V9;have V3:=H Q;have V2:=H ((U C).aa D);clear Q)
     | (at_builtin;refine gD We rfl (.tmp 21) (.tmp 23) rfl b.heap.size _ (.slice N (cZ (a.args.take c)).length O) z _ _ rfl (U V2) rfl (U V3) (by omega) (ac (U j) D).size ?_;intro I A q r;have v:=H q;clear q))
    refine⟨⟨c+1,I,by omega,by go_num,rfl,?_,(U j).trans ((D.mono (U j).size).trans r)⟩,by simp[intOf];omega⟩;rw[U L];exact U v
   ·(have V8:¬(c:Int)<(a.args.length:Int):=by omega);(have C:Hid (cm wr b.heap.size (.slice N (cZ (a.args.take c)).length O) (dj a)):=by show cm _ _ _ _;rw[U u,show cZ a.args=cZ (a.args.take c) by rw[fz (by omega)]];exact o);have j:=H m;clear o m B;go_wp2;go_ret;exact⟨_,rfl,U C,U j⟩
theorem iI:∀(f:Nat) (a:Ex),a.size<=f->dE a->a.fin->a.size<=400->∀(c:Option Addr) (e:Nat) (b:World),Ex.all b c a.args->Calls prog 170 #[a.val c e] b λs l=>∃k,s=.returned k/\cm l b.heap.size k (dj a)/\Below b.heap.size b l
 | 0,a,j,_,_,_,_,_,_,_=>by rw[Ex.ak] at j;omega
 | f+1,a,j,i,g,p,c,e,b,r=>qj a i g p c e b r λu t d n o m q=>
  iI f t (by have:=Ex.ar d;omega) (m4 i d) (Ex.aq g d) (by have:=Ex.ar d;omega) n o m q
theorem zP{a:Int->Bool}{x:Int}(b:C[n]?=some x):(C.drop n).all a=(a x && (C.drop (n+1)).all a):=by obtain⟨c,d⟩:=bD b;rw[gP c,List.all_cons,d]
theorem xu(a:Ex)(E:dE a)(D:a.fin)(u:a.size<=400)(c:Int)(j:Option Addr)(e:Nat)(f:World)(s:Ex.all f j a.args):Calls prog 174 #[a.val j e,.int .i64 c] f λw G=>w=.returned (.bool (gg a c))/\Bw f G:=by
 have k:=H (λ(r:World) (B:Bw f r)=>iI a.size a bi E D u j e r (Ex.af _ s B));have p:=H (am (VT _ f) (a.box j e));have C:(dj a).length<=400:=cw (gB a) u;obtain⟨cols,m⟩:=bn (dj a);have y:Hid (gg a c=cols.all λe=>decide (e<c)):=by rw[m];rfl
 rw[<-m] at k C;rw[Ex.ad] at k ⊢;generalize gg a c=z at *;clear s m;go_enter func174,ntmps174;go_wp2_with (go_at_call 170;refine(U k _ (U p)).mono ?_;rintro w I ⟨P,rfl,l,t⟩;obtain⟨J,M,rfl⟩:=l.slice);have x:=H l.ints;have q:=H (ac (U p) t);clear l t;go_loopw[10] (λo wr=>∃b:Nat,b<=cols.length/\o=.int .i64 (b:Int)/\Hid (z=(cols.drop b).all λe=>decide (e<c))/\wr=I) (λo _=>cols.length-(intOf o).toNat);case atStart=>exact⟨0,bt,rfl,U y,rfl⟩
 case round=>obtain⟨b,N,rfl,d,rfl⟩:=hrel;by_cases F:b<cols.length;(·(have A:(b:Int)<(cols.length:Int):=by omega);obtain⟨i,n⟩:∃i,cols[b]?=some i:=⟨_,VR F⟩;obtain⟨K,O,rfl,L⟩:=(U x).get n;rw[zP n] at d;clear n;by_cases v:i<c;(·(have g:decide (i<c)=true:=by simpa using v);rw[g,Bool.true_and] at d;clear g;go_wp2;exact⟨⟨b+1,by omega,by go_num,d,by trivial⟩,by simp[intOf];omega⟩);·(have g:decide (i<c)=false:=by simpa using v);rw[g,Bool.false_and] at d;clear g;go_wp2;go_ret;exact⟨by rw[U d];rfl,U q⟩);·(have A:¬(b:Int)<(cols.length:Int):=by omega);rw[gl (by omega),List.all_nil] at d;go_wp2;go_ret;exact⟨by rw[U d];rfl,U q⟩
def ob(b:Value):List Nat:=match b.ownBlock with|some a=>[a] | none=>[]
theorem bo(g:World)(a c b d:Nat)(j:Value)(h:(⟨a,b,none⟩:Addr)≠⟨c,d,none⟩):(g.setCell ⟨c,d,none⟩ j).cell? ⟨a,b,none⟩=g.cell? ⟨a,b,none⟩:=by
 by_cases e:a=c;.subst e;have f:b≠d:=λi=>h (by rw[i]);simp[go_sem,f,Ne.symm f]
 .exact World.cell?_of_block (Below.heap_setCell _ _ _ _ e)
theorem bN(b:World)(c a:Addr)(d:Value):(b.setCell c d).frozen? a=b.frozen? a:=by simp[go_sem]
theorem tT{a:Program}{e:Code}{b:Exit->Act->World->Prop}{d:Act}(c:World->Prop)(h:c w)(g:∀f,Hid (c f)->e.wp a b d f):e.wp a b d w:=g w h
theorem At(h:ee w n e a m)(c d:Nat)(q:Value)(g:n≠c):ee (w.setCell ⟨c,d,none⟩ q) n e a m:=by
 obtain⟨i,j,k,l,o,p⟩:=h;have b:∀f,(⟨n,f,none⟩:Addr)≠⟨c,d,none⟩:=λf h=>by injection h with h;exact g h
 exact⟨by rw[bo _ _ _ _ _ _ (b _)];exact i,by rw[bo _ _ _ _ _ _ (b _)];exact j,by rw[bo _ _ _ _ _ _ (b _)];exact k,by rw[bo _ _ _ _ _ _ (b _)];exact l,by rw[bo _ _ _ _ _ _ (b _)];exact o,by rw[bo _ _ _ _ _ _ (b _)];exact p⟩
theorem b5{u:Value}(h:w.cell? ⟨n,m,none⟩=some v):(w.setCell ⟨n,m,none⟩ u).cell? ⟨n,m,none⟩=some u:=by simp[go_sem,h]
theorem Sj(a:Addr):a.add 0=a:=by simp[Addr.add]
theorem UY(a:Option Addr)(j c b:Nat)(d:World)(l:c<=b):(Instr.slice 23 (.slice a j b) none (some (.int .i64 (c:Int))) none).run prog d=.ok (.slice a c b) d:=by
 obtain⟨m,f,_,i,_⟩:=info_parts m2;have g:(c:Int)<=(b:Int):=by omega
 have e:a.map (λk:Addr=>k.add 0)=a:=by cases a with|none=>rfl|some a=>simp[Sj]
 simp[Instr.slice,run_underlying underlying23,Instr.sliceBounds,Instr.sliceBound,asIntOf,sizeOf,typeInfo,f,i,g,e];intro h;omega
theorem cm.take{base:Nat}(h:cm w base (.slice a C.length m) C)(s:n<=C.length):cm w base (.slice a n m) (C.take n):=by
 have e:(C.take n).length=n:=by rw[List.length_take];omega
 unfold cm;rw[e];rcases h.2 with ⟨b,r⟩|⟨i,q,f,b,j,k,t,l,o,p⟩
 .injection b with c g d;subst c d;(obtain rfl:n=0:=by omega);exact⟨by simp,.inl ⟨rfl,rfl⟩⟩
 .injection b with c g d;subst c d;refine⟨by rw[bQ,e];omega,.inr ⟨i,m,f,rfl,j,k,by omega,l,o,?_⟩⟩;rw[List.map_take,<-p,List.take_take];congr 1;omega
def Sd(a b:List Int):Prop:=a.Pairwise (· < ·)/\(∀c,c∈a ↔ c∈b)/\a.length<=b.length
theorem Sd.nil:Sd [] []:=⟨.nil,λ_=>Iff.rfl,bi⟩
theorem Sd.ins(h:Sd C K)(q:∀d a,d<n->C[d]?=some a->a<I)(r:∀a,C[n]?=some a->I<a)(y:n<=C.length):Sd (C.take n++(I::C.drop n)) (K++[I]):=by
 obtain⟨u,s,z⟩:=h;have m:∀a∈C.take n,a<I:=λa b=>by obtain⟨d,c⟩:=List.mem_iff_getElem?.1 b;rw[List.getElem?_take] at c;split at c;(.exact q d a (by omega) c);.cases c
 have o:(C.take n++C.drop n).Pairwise (· < ·):=by rw[List.take_append_drop];exact u
 rw[List.pairwise_append] at o;obtain⟨v,g,A⟩:=o
 have l:∀a∈C.drop n,I<a:=λa b=>by
  cases f:C.drop n with
  | nil=>rw[f] at b;cases b
  | cons i B=>
   have w:C[n]?=some i:=by
    have:(C.drop n)[0]?=some i:=by rw[f];rfl
    rw[List.getElem?_drop] at this
    simpa using this
   have t:=r i w
   rw[f] at b g
   rcases dr b with rfl|b
   .exact t
   .have:=(List.pairwise_cons.1 g).1 a b
    omega
 refine⟨?_,λx=>?_,?_⟩;.rw[List.pairwise_append];refine⟨v,List.pairwise_cons.2 ⟨l,g⟩,λj k p e=>?_⟩;rcases dr e with rfl|e;(.exact m j k);.have:=m j k;have:=l p e;omega
 .rw[List.mem_append,List.mem_cons,List.mem_append,List.mem_singleton,<-s x];constructor;(.rintro(h|h|h);(.exact .inl (List.mem_of_mem_take h));(.exact .inr h);.exact .inl (List.mem_of_mem_drop h));.rintro(h|h);(.rw[<-List.take_append_drop n C,List.mem_append] at h;rcases h with h|h;(.exact .inl h);.exact .inr (.inr h));.exact .inr (.inl h)
 .rw[bG,dY,bG,List.length_take,List.length_drop];simp;omega
theorem q5(a:Ex)(p:a.fin)(f:Option Addr)(l:Nat)(e:World)(m:Ex.all e f a.args):Calls prog 108 #[a.val f l] e λk q=>k=.returned (.tuple #[.int .i64 (g6 a).1,.int .i64 (g6 a).2])/\Bw e q:=by
 have c:=H (λn=>hR a.size a bi p 400 40 f l (e.alloc n) (by omega) (by omega) (by omega) (by omega) (Ex.af _ m (am VS n)));rw[Ex.ad] at c ⊢;clear m;cases b:bJ a with
 | true=>(have d:g6 a=((a.size:Int),(a.high:Int)):=by unfold g6;rw[ba b]);rw[ju b] at c;rw[d];clear b d;go_enter func108,ntmps108;go_wp2_with (go_at_call 99;refine(U c _).mono ?_;rintro k r ⟨rfl,g⟩);refine bs (v:=.tuple #[.int .i64 (a.size:Int),.int .i64 (a.high:Int)]) (by simp[results,results108,go_sem]) rfl ⟨rfl,ch g⟩
 | false=>(have d:g6 a=(401,41):=by unfold g6;rw[b];rfl);obtain⟨o,j⟩:=bj (cu bW a 400 40);(have i:bJ a=o.2.2:=by rw[<-j];rfl);rw[b] at i;rw[j] at c;obtain⟨s,t,ok⟩:=o;simp only at i;subst i;rw[d];clear b d j;go_enter func108,ntmps108;go_wp2_with (go_at_call 99;refine(U c _).mono ?_;rintro k r ⟨rfl,g⟩);refine bs (v:=.tuple #[.int .i64 401,.int .i64 41]) (by simp[results,results108,go_sem]) rfl ⟨rfl,ch g⟩
def jP(a:Ex):Int:=if bJ a then (a.size:Int) else 1
theorem lU(a:Ex):1<=jP a/\jP a<=400:=by
 unfold jP;split;.rename_i h;obtain⟨b,c,_,_⟩:=gs bW a 400 40 (ju h);omega
 .omega
def kZ:List Ex->Int->Int->Option Int
 | [],_,a=>some a
 | c::d,b,a=>if b<a+jP c then none else kZ d b (a+jP c)
mutual
def k1:Pl->Int->Int->Option Int
 | .mk _ _ d _ _ _ _ _ _ _ e,a,b=>if decide (a<1) || decide (b<1) then none else match kZ d a 1 with
  | none=>none
  | some c=>k2 e a b c
def k2:List Pl->Int->Int->Int->Option Int
 | [],_,_,a=>some a
 | f::e,c,b,a=>match k1 f (c-a) (b-1) with
  | none=>none
  | some d=>k2 e c b (a+d)
end
theorem Br(a:Pl)(N b:Int):k1 a N b=if decide (N<1) || decide (b<1) then none else match kZ a.ex N 1 with
  | none=>none
  | some c=>k2 a.args N b c:=by cases a;rw[k1];rfl
theorem uZ:∀(d:List Ex) (a b:Int) {c:Int},b<=a->kZ d a b=some c->b<=c/\c<=a
 | [],a,b,c,f,h=>by rw[kZ] at h;injection h with h;omega
 | e::d,a,b,c,f,h=>by rw[kZ] at h;split at h;(.cases h);.have:=lU e;have:=uZ d a (b+jP e) (by omega) h;omega
mutual
theorem Sa:∀(j:Pl) (a c:Int) {b:Int},k1 j a c=some b->1<=b/\b<=a
 | .mk r s e cols o k m l p q i,a,c,b,h=>by
  rw[k1] at h;split at h;.cases h
  .rename_i g
   simp only[Bool.or_eq_true,cF,not_or] at g
   cases d:kZ e a 1 with
   | none=>rw[d] at h;cases h
   | some f=>
    rw[d] at h
    simp only at h
    have n:=uZ e a 1 (by omega) d
    have:=Sb i a c f (by omega) h
    omega
theorem Sb:∀(f:List Pl) (a c b:Int) {d:Int},b<=a->k2 f a c b=some d->b<=d/\d<=a
 | [],a,c,b,d,i,h=>by rw[k2] at h;injection h with h;omega
 | g::f,a,c,b,d,i,h=>by
  rw[k2] at h
  cases e:k1 g (a-b) (c-1) with
  | none=>rw[e] at h;cases h
  | some j=>
   rw[e] at h
   simp only at h
   have:=Sa g (a-b) (c-1) e
   have:=Sb f a c (b+j) (by omega) h
   omega
end
theorem vU(a:Ex)(o:a.fin)(g:Option Addr)(l:Nat)(f:World)(m:Ex.all f g a.args):Calls prog 59 #[a.val g l] f λk p=>k=.returned (.int .i64 (jP a))/\Bw f p:=by
 have c:=H (λn=>q5 a o g l (f.alloc n) (Ex.af _ m (am VS n)));have j:=lU a;rw[Ex.ad] at c ⊢;clear m;cases b:bJ a with
 | true=>(have e:g6 a=((a.size:Int),(a.high:Int)):=by unfold g6;rw[ba b]);(have d:jP a=(a.size:Int):=by unfold jP;rw[ba b]);rw[e] at c;rw[d] at j ⊢;(have r:¬(400:Int)<(a.size:Int):=by omega);clear b e d j;go_enter func59,ntmps59;go_wp2_with (go_at_call 108;refine(U c _).mono ?_;rintro k q ⟨rfl,i⟩);go_ret;exact⟨rfl,ch i⟩
 | false=>(have e:g6 a=(401,41):=by unfold g6;rw[VU (by rw[b];decide)]);(have d:jP a=1:=by unfold jP;rw[VU (by rw[b];decide)]);rw[e] at c;rw[d];clear b e d j;go_enter func59,ntmps59;go_wp2_with (go_at_call 108;refine(U c _).mono ?_;rintro k q ⟨rfl,i⟩);go_ret;exact⟨rfl,ch i⟩
abbrev C2 (a:Option Int):Ending:=.returned (.tuple #[.int .i64 (a.getD 0),.bool a.isSome])
theorem qe(a:Pl)(V8:a.fin)(N d:Int)(q:Pm)(l:World)(WI:-1000<=N)(WH:N<=400)(WG:0<=d)(WF:d<=40)(V6:hI l a q) (V2:∀(k:Nat) (x:Pl),a.args[k]?=some x->∀(G C:Int) (r:Pm) (I:World),-1000<=G->G<=400->0<=C->C<=40->hI I x r->Calls prog 35 #[x.val r,.int .i64 G,.int .i64 C] I λs VX=>s=C2 (k1 x G C)/\Bw I VX):Calls prog 35 #[a.val q,.int .i64 N,.int .i64 d] l λs VX=>s=C2 (k1 a N d)/\Bw l VX:=by
 obtain⟨⟨Wy,Wz,WA,WB,WC,WD,WE,_⟩,V9,_⟩:=Pl.an V8;have V0:=H V9;obtain⟨m,T⟩:=bn (k1 a N d)
 have E:Hid (m=if decide (N<1) || decide (d<1) then none else match kZ a.ex N 1 with
  | none=>none
  | some P=>k2 a.args N d P):=by rw[T];exact Br a N d
 rw[<-T];have V:=am (VT _ l) (a.box q);have w:Hid (dL (l.alloc (a.box q)) l.heap.size 0 a q):=dL.new l a q;have u:=H (V6.aa V);have n:=H V;have Wk:=H V2;rw[Pl.ad];unfold Pl.box at w n u;clear T V6 V2 V V8 V9;by_cases g:N<1;.go_enter func35,ntmps35;go_wp2;exact bs (v:=.tuple #[.int .i64 0,.bool false]) (by simp[results,results35,go_sem]) rfl ⟨by rw[U E];simp[g],U n⟩
 by_cases o:d<1;.go_enter func35,ntmps35;go_wp2;exact bs (v:=.tuple #[.int .i64 0,.bool false]) (by simp[results,results35,go_sem]) rfl ⟨by rw[U E];simp[o],U n⟩
 have F:Hid (m=match kZ a.ex N 1 with
  | none=>none
  | some P=>k2 a.args N d P):=by have:=U E;show _=_;rw[VU (by simp;omega)] at this;exact this
 clear E;go_enter func35,ntmps35;go_upto_region 3 with fail;obtain⟨Wf,Wc⟩:=bn (l.alloc (a.box q));rw[<-Wc] at w n u ⊢;clear Wc;have V4:=(U w).c2;simp only[bI] at V4;go_wp2_with fail;go_loopw[8,24] (λVW k wr=>∃(b:Nat) (c:Int),b<=a.ex.length/\k=.int .i64 (b:Int)/\VW=.int .i64 c/\1<=c/\c<=N/\Hid (kZ a.ex N 1=kZ (a.ex.drop b) N c)/\Hid (Bw Wf wr)) (λ_ k _=>a.ex.length-(intOf k).toNat);case atStart=>exact⟨0,1,bt,rfl,rfl,by omega,by omega,rfl,VS⟩
 case round=>
  clear V4;obtain⟨b,c,Wa,rfl,rfl,Wm,Wn,e,f⟩:=hrel;by_cases J:b<a.ex.length
  ·(have S:(b:Int)<(a.ex.length:Int):=by omega);obtain⟨x,j⟩:∃x,a.ex[b]?=some x:=⟨_,VR J⟩;(have B:a.ex.drop b=x::a.ex.drop (b+1):=by obtain⟨Y,Z⟩:=bD j;rw[gP Y,Z]);obtain⟨Wq,Wr,R,A⟩:=Ex.ag (Ex.af _ (U u).o.e (U f)) j;obtain⟨O,Q,⟨Ws,Wt,Wu,Wv,Ww,Wx⟩,z⟩:=Ex.ah A;have Wd:=Ex.av (U V0) (VQ j);have i:=H (vU x Wd O Q (wr.alloc (x.box O Q)) (Ex.af _ z (am VS _)));have t:=H (am (U f) (x.box O Q));rw[Ex.ad] at i;rw[B,kZ] at e;have WJ:=lU x;generalize jP x=We at *;rw[R];clear j B A z Wd f;by_cases Wb:N<c+We
   .have y:Hid (m=none):=by
     have g:=U e
     rw[ba Wb] at g
     have o:=U F
     rw[g] at o
     exact o
    clear e F
    go_wp2_with (go_at_call 59;refine(U i).mono ?_;rintro s VY ⟨rfl,p⟩)
    exact bs (v:=.tuple #[.int .i64 0,.bool false]) (by simp[results,results35,go_sem]) rfl ⟨by rw[U y];rfl,ac (U n) (ac (U t) p)⟩
   .rw[VU Wb] at e;go_wp2_with (go_at_call 59;refine(U i).mono ?_;rintro s VY ⟨rfl,p⟩);exact⟨⟨b+1,c+We,by omega,by go_num,rfl,by omega,by omega,U e,ac (U t) p⟩,by simp[intOf];omega⟩
  ·(have S:¬(b:Int)<(a.ex.length:Int):=by omega);(have V1:Hid (m=k2 a.args N d c):=by have g:=U e;have o:=U F;rw[gl (by omega),kZ] at g;rw[g] at o;exact o);have VZ:=H (ac (U n) (U f));have Wj:=H ((U w).aa (U f));have Wh:=H ((U u).aa (U f));have V3:=(U Wj).c10;simp only[bI] at V3;clear e F f n w u V0 J Wa;obtain⟨Wg,Wp⟩:=bn wr;subst Wp;go_wp2_with fail;go_loopw[8,39] (λVW k wr=>∃(b:Nat) (c:Int),b<=a.args.length/\k=.int .i64 (b:Int)/\VW=.int .i64 c/\1<=c/\c<=N/\Hid (m=k2 (a.args.drop b) N d c)/\Hid (Bw Wg wr)) (λ_ k _=>a.args.length-(intOf k).toNat);case atStart=>exact⟨0,c,bt,rfl,rfl,by omega,by omega,U V1,VS⟩
   case round=>
    clear V3 V1;obtain⟨b,c,Wa,rfl,rfl,Wm,Wn,e,f⟩:=hrel;by_cases J:b<a.args.length
    .have S:(b:Int)<(a.args.length:Int):=by omega
     obtain⟨x,j⟩:∃x,a.args[b]?=some x:=⟨_,VR J⟩
     have B:a.args.drop b=x::a.args.drop (b+1):=by
      obtain⟨Y,Z⟩:=bD j
      rw[gP Y,Z]
     obtain⟨Wq,Wr,R,A⟩:=Pl.ag (Pl.af _ (U Wh).p (U f)) j
     obtain⟨r,V7,V5,z⟩:=Pl.ah A
     have W:=am (VT _ wr) (x.box r)
     have i:=H (U Wk b x j (N-c) (d-1) r (wr.alloc (x.box r)) (by omega) (by omega) (by omega) (by omega) ((hI.mk V5 z).aa W))
     have t:=H (ac (U f) W)
     have L:=H V7.load
     have D:=H (dL.new wr x r).load
     rw[Pl.ad] at i L D
     unfold Pl.box at i t D
     rw[B,k2] at e
     obtain⟨K,X⟩:=bj (k1 x (N-c) (d-1))
     rw[X] at i e
     have M:=H X
     rw[R]
     clear j B A z X W V7 V5 f
     cases K with
     | none=>
      have y:Hid (m=none):=U e
      clear e M
      go_wp2_with (first
       | (refine a1 ?_ 28 (.tmp 41) rfl _ (by simp[Act.eval]) _ (U L) ?_;. simp[Region.wanted,yielded])
       | (refine a1 ?_ 28 (.tmp 12) rfl _ (by simp[Act.eval]) _ (U D) ?_;. simp[Region.wanted,yielded])
       | (go_at_call 35;refine(U i).mono ?_;rintro s VY ⟨rfl,p⟩))
      exact bs (v:=.tuple #[.int .i64 0,.bool false]) (by simp[results,results35,go_sem]) rfl ⟨by rw[U y];rfl,ac (U VZ) (ac (U t) p)⟩
     | some K=>
      obtain⟨WK,WL⟩:=Sa x (N-c) (d-1) (U M)
      have Wl:Hid (m=k2 (a.args.drop (b+1)) N d (c+K)):=U e
      clear e M
      go_wp2_with (first
       | (refine a1 ?_ 28 (.tmp 41) rfl _ (by simp[Act.eval]) _ (U L) ?_;. simp[Region.wanted,yielded])
       | (refine a1 ?_ 28 (.tmp 12) rfl _ (by simp[Act.eval]) _ (U D) ?_;. simp[Region.wanted,yielded])
       | (go_at_call 35;refine(U i).mono ?_;rintro s VY ⟨rfl,p⟩))
      exact⟨⟨b+1,c+K,by omega,by go_num,rfl,by omega,by omega,U Wl,ac (U t) p⟩,by simp[intOf];omega⟩
    ·(have S:¬(b:Int)<(a.args.length:Int):=by omega);(have y:Hid (m=some c):=by have g:=U e;rw[gl (by omega),k2] at g;exact g);have Wi:=H (ac (U VZ) (U f));clear e f;go_wp2;exact bs (v:=.tuple #[.int .i64 c,.bool true]) (by simp[results,results35,go_sem]) rfl ⟨by rw[U y];rfl,U Wi⟩
theorem lx:∀(f:Nat) (a:Pl),a.size<=f->a.fin->∀(c b:Int) (e:Pm) (d:World),-1000<=c->c<=400->0<=b->b<=40->hI d a e->Calls prog 35 #[a.val e,.int .i64 c,.int .i64 b] d λy z=>y=C2 (k1 a c b)/\Bw d z
 | 0,a,i,_,_,_,_,_,_,_,_,_,_=>by rw[Pl.ak] at i;omega
 | f+1,a,i,g,c,b,e,d,r,s,t,u,w=>qe a g c b e d r s t u w λB A j l k x m n o p q v=>
  lx f A (by have:=Pl.ar j;omega) (Pl.aq g j) l k x m n o p q v
def e2(a:aH):Prop:=bk a=a/\(a.k≠2->a.s=⟨#[]⟩)
theorem ql(a:Int):e2 (.num a):=⟨by simp[bk,aH.num],λ_=>rfl⟩
theorem fP:e2 .null:=⟨by simp[bk,aH.null],λ_=>rfl⟩
theorem zq(a:ByteArray):e2 (.str a):=⟨by simp[bk,aH.str],λh=>absurd rfl h⟩
theorem zr(a:aH):e2 (bk a):=by
 unfold bk;split;.exact ql _
 .split;(.exact zq _);.exact fP
theorem np(a:Bool):e2 (dD a):=ql _
theorem UP(c:Int)(a b:aH):e2 (eJ c a b):=by
 unfold eJ;split
 .cases dA c a.n b.n with
  | none=>exact fP
  | some d=>exact ql _
 .exact fP
theorem C3(a:aH):e2 (ib a):=by unfold ib;split;exact np _;exact fP
theorem Bu(c:Int)(a b:aH):e2 (gh c a b):=by
 unfold gh;split;.exact fP
 .unfold Vf
  cases g5 c (dk a b) with
  | none=>exact fP
  | some d=>exact np _
theorem C4(a b:aH):e2 (ie a b):=by unfold ie;split;exact zq _;exact fP
theorem Bv(c:Int)(a b:aH):e2 (dW c a b):=by
 unfold dW;repeat' split
 all_goals first|exact np _|exact fP
theorem C1(a:Int)(x:aH):e2 (jk a x):=by
 unfold jk;repeat' split
 all_goals first|exact UP _ _ _|exact C3 _|exact ql _|exact fP
theorem C0(a:Int)(x b:aH):e2 (Vz a x b):=by
 unfold Vz;repeat' split
 all_goals first|exact UP _ _ _|exact Bu _ _ _|exact C4 _ _|exact Bv _ _ _
mutual
theorem gK(row:List aH):∀(g:Ex),e2 (co row g)
 | .mk d k l c=>by
  have b:=ls row c
  rw[co]
  cases i:VM row c with
  | nil=>
   simp only[fW]
   repeat' split
   all_goals first|exact zr _|exact fP
  | cons e a=>
   rw[i] at b
   cases a with
   | nil=>exact C1 d e
   | cons f a=>
    cases a with
    | nil=>exact C0 d e f
    | cons j a=>
     simp only[fW]
     split
     .exact b f (by simp)
     .exact b j (by simp)
theorem ls(row:List aH):∀(b:List Ex),∀a∈VM row b,e2 a
 | [],a,h=>by rw[VM] at h;cases h
 | c::b,a,h=>by rw[VM] at h;rcases dr h with rfl|h;(.exact gK row c);.exact ls row b a h
end
def gT(a:aH):Prop:=a.s.size<=1000
theorem Vb(a:Int):gT (.num a):=bt
theorem fL:gT .null:=bt
theorem ul(c:Int)(a b:aH):gT (eJ c a b):=by
 unfold eJ;split
 .cases dA c a.n b.n with
  | none=>exact fL
  | some d=>exact Vb _
 .exact fL
theorem B7(a:aH):gT (ib a):=by unfold ib;split;exact Vb _;exact fL
theorem Ar(c:Int)(a b:aH):gT (gh c a b):=by
 unfold gh;split;.exact fL
 .unfold Vf
  cases g5 c (dk a b) with
  | none=>exact fL
  | some d=>exact Vb _
theorem B8(a b:aH):gT (ie a b):=by
 unfold ie;split;.rename_i h;simp only[cc,cF] at h;show (a.s++b.s).size<=1000;rw[ByteArray.size_append];exact h.2
 .exact fL
theorem As(c:Int)(a b:aH):gT (dW c a b):=by
 unfold dW;repeat' split
 all_goals first|exact Vb _|exact fL
theorem B6(a:Int)(x:aH):gT (jk a x):=by
 unfold jk;repeat' split
 all_goals first|exact ul _ _ _|exact B7 _|exact Vb _|exact fL
theorem B5(a:Int)(x b:aH):gT (Vz a x b):=by
 unfold Vz;repeat' split
 all_goals first|exact ul _ _ _|exact Ar _ _ _|exact B8 _ _|exact As _ _ _
theorem se(x:aH):(bk x).s.size<=x.s.size:=by
 unfold bk;split;.show (⟨#[]⟩:ByteArray).size<=_;exact bt
 .split;(.exact bi);.show (⟨#[]⟩:ByteArray).size<=_;exact bt
mutual
theorem lr(row:List aH)(j:∀x∈row,gT x):∀(g:Ex),dE g->gT (co row g)
 | .mk f k l a,c=>by
  have d:=j7 row j a (dJ c).2
  have p:=jQ c
  have e:=(dJ c).1
  rw[co]
  cases a with
  | nil=>
   rw[VM]
   simp only[fW]
   split
   .rename_i b
    have b:f=2:=by simpa using b
    subst b
    unfold bW at e
    simp only[cc] at e
    have n:=e.2
    have i:(if (2:Int) == 1 then decide (0<=k) else if (2:Int) == 2 then decide ((bk l).s.size<=1000) else true)=true:=n
    rw[VU (by decide),ba (by decide)] at i
    show (bk l).s.size<=1000
    exact of_decide_eq_true i
   .rename_i b
    split
    .exact fL
    .refine cw (se _) ?_
     rw[cQ]
     cases o:row[k.toNat]? with
     | none=>exact fL
     | some m=>exact j m (VQ o)
  | cons x a=>
   cases a with
   | nil=>rw[VM,VM];exact B6 f _
   | cons m a=>
    cases a with
    | nil=>rw[VM,VM,VM];exact B5 f _ _
    | cons q a=>
     rw[VM,VM,VM] at d ⊢
     simp only[fW]
     split
     .exact d _ (by simp)
     .exact d _ (by simp)
theorem j7(row:List aH)(d:∀x∈row,gT x):∀(a:List Ex),Vn a->∀b∈VM row a,gT b
 | [],_,b,h=>by rw[VM] at h;cases h
 | e::a,c,b,h=>by rw[Vn] at c;rw[VM] at h;rcases dr h with rfl|h;(.exact lr row d e c.1);.exact j7 row d a c.2 b h
end
theorem iD(b:∀x∈y,eO x)(d:e.fin):eO (bZ y e):=by
 unfold bZ;split;.rename_i c;exact⟨(j6 (λx a=>(b x a).vok) e d).1,lr y (λx a=>(b x a).2.1) e (da c),(gK y e).1⟩
 .exact⟨⟨by show -9223372036854775808<=(0:Int);decide,by show (0:Int)<=9223372036854775807;decide⟩,bt,by simp[bk,aH.null]⟩
theorem yq{row row':List aH}(h:0<x.length):fW I J c row x=fW I J c row' x:=by
 match x,h with
 | [_],_=>rfl
 | [_,_],_=>rfl
 | _::_::_::_,_=>rfl
theorem oY(row:List aH):∀a:List Ex,(VM row a).length=a.length
 | []=>by rw[VM];rfl
 | b::a=>by rw[VM,dY,oY row a];rfl
theorem rR(b:Ex->Prop)(h:∀a,dE a->(∀x∈a.args,dE x/\b x)->b a):∀a,dE a->b a:=by
 suffices i:∀(d:Nat) (a:Ex),a.size<=d->dE a->b a from λa c=>i a.size a bi c
 intro d;induction d with
 | zero=>intro a e;rw[Ex.ak] at e;omega
 | succ d j=>intro a e c;refine h a c λx g=>?_;have f:=kS (dJ c).2 g;refine⟨f,j x ?_ f⟩;have:=Ex.az g;rw[Ex.ak] at e;omega
theorem zn{x:Ex}(n:e.op≠1)(s:x∈e.args):∀c∈dj x,c∈dj e:=by
 intro c a;cases e with
 | mk g l m b=>
  rw[dj];obtain⟨f,r⟩:=List.mem_iff_getElem?.1 s;have j:=ng r;have p:c∈cZ (b.take (f+1)):=by have:cZ ((Ex.mk g l m b).args.take (f+1))=_:=j;rw[show b.take (f+1)=(Ex.mk g l m b).args.take (f+1) from rfl,j];exact List.mem_append.2 (.inr a)
  have q:∀(b:List Ex) (d:Nat),∀c∈cZ (b.take d),c∈cZ b:=by
   intro b
   induction b with
   | nil=>intro d c a;simpa using a
   | cons u b t=>
    intro d c a
    cases d with
    | zero=>rw[List.take_zero,cZ] at a;cases a
    | succ d=>
     rw[List.take_succ_cons,cZ] at a
     rw[cZ]
     rcases cM a with a|a
     .exact List.mem_append.2 (.inl a)
     .exact List.mem_append.2 (.inr (t d c a))
  have k:=q b _ c p;have o:g≠1:=n;have i:(g == 1)=false:=by simpa using o
  first
   | (rw[i];simpa using k)
   | simpa [i] using k
theorem tR(e c:List aH)(q:e.length=c.length):∀a,dE a->(∀d∈dj a,e[d.toNat]?=c[d.toNat]?)->co e a=co c a:=rR _ λa l w k=>by
 rw[fZ,fZ c a]
 by_cases i:a.args=[]
 .rw[i,VM,VM]
  rcases jQ l i with ⟨j,m⟩|o
  .have r:a.n∈dj a:=by
    cases a with
    | mk y d A b=>
     have n:y=1:=j
     subst n
     rw[dj]
     simp[Ex.n]
   have t:=k a.n r
   rw[j]
   simp only[fW,q,cQ,t]
  .rw[o];rfl
 .have s:0<(VM e a.args).length:=by rw[oY];exact List.length_pos_iff.2 i
  have p:VM e a.args=VM c a.args:=by
   have j:a.op≠1:=by
    intro h
    have u:=fC (dJ l).1
    rw[h,show Vk 1=0 by decide] at u
    exact i (dF (by omega))
   have key:∀b:List Ex,(∀f∈b,f∈a.args)->VM e b=VM c b:=by
    intro b
    induction b with
    | nil=>intro _;rw[VM,VM]
    | cons f b x=>
     intro g
     rw[VM,VM,(w f (g f (by simp))).2 λd m=>k d (zn j (g f (by simp)) d m),x λz v=>g z (by simp[v])]
   exact key a.args λf g=>g
  rw[yq s (row':=c),p]
theorem US(x:aH):(bk x).s.size<=x.s.size:=by
 unfold bk;split;.show (⟨#[]⟩:ByteArray).size<=_;exact bt
 .split;(.exact bi);.show (⟨#[]⟩:ByteArray).size<=_;exact bt
theorem iW:bY 0:=⟨by decide,by decide⟩
theorem sf(a:aH)(h:bY a.n):bY (bk a).n:=by
 unfold bk;split;.exact h
 .split;(.exact iW);.exact iW
mutual
theorem rZ:∀(a:Ex),a.fin->(dV a).fin
 | .mk k j b i,h=>by rw[Ex.fin] at h;rw[dV,Ex.fin];obtain⟨⟨c,d,e,f⟩,g⟩:=h;refine⟨⟨by rw[kW,bQ];exact c,?_,?_,?_⟩,o0 i g⟩;(.split;(.exact cw (US b) d);.exact bt);(.split;(.exact sf b e);.exact iW);.split;(.exact f);.exact iW
theorem o0:∀(a:List Ex),Ex.ay a->Ex.ay (f5 a)
 | [],_=>by rw[f5,Ex.ay];trivial
 | b::a,h=>by rw[Ex.ay] at h;rw[f5,Ex.ay];exact⟨rZ b h.1,o0 a h.2⟩
end
theorem wP(h:e.fin):(dn e).fin:=by
 unfold dn;split;.exact rZ e h
 .exact h
mutual
def cH:Ex->List Ex
 | .mk b c d a=>if b == 19 && bJ (.mk b c d a) then d0 a else [dn (.mk b c d a)]
def d0:List Ex->List Ex
 | []=>[]
 | a::b=>cH a++d0 b
end
theorem fG(a:Ex):cH a=if a.op == 19 && bJ a then d0 a.args else [dn a]:=by cases a;rw[cH];rfl
mutual
theorem rj:∀(f:Ex) (c b:Int) {d h:Int},cu bW f c b=(d,h,true)->((cH f).length:Int)<=d
 | .mk o n p g,c,b,d,h,a=>by
  have m:=gs bW _ c b a;rw[cH];split
  .rw[cu] at a;split at a;.injection a with _ a;injection a with _ a;cases a
   .rename_i j
    simp only[Bool.or_eq_true,cF,not_or] at j
    cases e:cx bW g c b 1 0 with
    | none=>rw[e] at a;simp only at a;injection a with _ a;injection a with _ a;cases a
    | some i=>
     rw[e] at a
     simp only at a
     injection a with k l
     have:=ox g c b 1 0 (c':=i.1) (h':=i.2) e
     omega
  .show ((1:Nat):Int)<=d;omega
theorem ox:∀(e:List Ex) (d c b h:Int) {c' h':Int},cx bW e d c b h=some (c',h')->b+((d0 e).length:Int)<=c'
 | [],d,c,b,h,c',h',a=>by rw[cx] at a;injection a with a;injection a with l m;rw[d0];show b+((0:Nat):Int)<=c';omega
 | i::e,d,c,b,h,c',h',a=>by rw[cx] at a;split at a;(.rename_i f;obtain⟨g,o,ok,j⟩:∃g k ok,cu bW i (d-b) (c-1)=(g,k,ok):=⟨_,_,_,rfl⟩;rw[j] at a f;simp only at a f;subst f;have n:=rj i (d-b) (c-1) j;have:=ox e d c _ _ a;rw[d0,bG];omega);.cases a
end
mutual
theorem rv(f:Ex->Bool):∀(g:Ex) (c b:Int) {d h:Int},cu f g c b=(d,h,true)->cu f8 g c b=(d,h,true)
 | .mk l k n j,c,b,d,h,a=>by
  rw[cu] at a ⊢;split at a;.injection a with _ a;injection a with _ a;cases a
  .rename_i i
   simp only[Bool.or_eq_true,cF,not_or,Bool.not_eq_true'] at i
   rw[VU (by simp only[Bool.or_eq_true,cF,not_or,Bool.not_eq_true'];exact⟨i.1,by simp[f8]⟩)]
   cases e:cx f j c b 1 0 with
   | none=>rw[e] at a;simp only at a;injection a with _ a;injection a with _ a;cases a
   | some m=>
    rw[e] at a
    rw[oF f j c b 1 0 (by rw[e])]
    exact a
theorem oF(f:Ex->Bool):∀(e:List Ex) (c b d h:Int) {g:Int×Int},cx f e c b d h=some g->cx f8 e c b d h=some g
 | [],c,b,d,h,g,a=>by rw[cx] at a ⊢;exact a
 | k::e,c,b,d,h,g,a=>by rw[cx] at a ⊢;split at a;(.rename_i i;obtain⟨j,n,ok,l⟩:∃j m ok,cu f k (c-d) (b-1)=(j,m,ok):=⟨_,_,_,rfl⟩;rw[l] at a i;simp only at a i;subst i;rw[rv f k (c-d) (b-1) l];simp only[if_true];exact oF f e c b _ _ a);.cases a
end
theorem UR{e:Ex}(h:bJ e=true):(cu f8 e 33554432 131072).2.2=true:=by obtain⟨a,b,ok,c⟩:∃a b ok,cu bW e 400 40=(a,b,ok):=⟨_,_,_,rfl⟩;unfold bJ at h;rw[c] at h;simp only at h;subst h;rw[kN f8 e 400 40 33554432 131072 (rv bW e 400 40 c) (by omega) (by omega)]
theorem kH(h:bJ e=true):(cH e).length<=400:=by obtain⟨b,c,ok,a⟩:∃b c ok,cu bW e 400 40=(b,c,ok):=⟨_,_,_,rfl⟩;unfold bJ at h;rw[a] at h;simp only at h;subst h;have d:=gs bW e 400 40 a;have f:=rj e 400 40 a;omega
theorem kG(a:Ex):0<(cH a).length:=by
 suffices f:∀(b:Nat) (a:Ex),a.size<=b->0<(cH a).length from f a.size a bi
 intro b;induction b with
 | zero=>intro a d;rw[Ex.ak] at d;omega
 | succ b g=>intro a d;rw[fG];split;(.rename_i h;simp only[cc,beq_iff_eq] at h;obtain⟨c,j,e⟩:=Vv (da h.2) (by rw[h.1];decide);rw[e,d0,bG];have:=g c (by have:=Ex.ar (e:=a) (i:=0) (x:=c) (by rw[e];rfl);omega);omega);.exact Nat.zero_lt_one
theorem oy:∀(c:Nat) (b:Ex),b.size<=c->b.fin->∀d∈cH b,d.fin:=by
 intro c;induction c with
 | zero=>intro b j;rw[Ex.ak] at j;omega
 | succ c k=>intro b j e d a;rw[fG] at a;split at a;(.rename_i h;simp only[cc,beq_iff_eq] at h;obtain⟨l,m,f⟩:=Vv (da h.2) (by rw[h.1];decide);rw[f,d0,d0,d0,VI,List.mem_append] at a;(have g:b.args[0]?=some l:=by rw[f];rfl);(have i:b.args[1]?=some m:=by rw[f];rfl);have:=Ex.ar g;have:=Ex.ar i;rcases a with a|a;(.exact k l (by omega) (Ex.aq e g) d a);.exact k m (by omega) (Ex.aq e i) d a);.rw[List.mem_singleton] at a;subst a;exact wP e
def BJ(d:Nat)(N:List Nat)(e:World)(b:Option Addr)(c:List Ex):Prop:=∀a,ce d N e a->Ex.all a b c
def zT(c:World)(g:Ex)(f:Nat->World->Nd->Prop)(j:Ending)(d:World):Prop:=∃(b e:Nat) (a:List Nd),j=.returned (.slice (some ⟨b,0,none⟩) a.length e)/\eS d c.heap.size (.slice (some ⟨b,0,none⟩) a.length e) a/\a.map (·.1)=cH g/\(∀i∈a,f b d i)/\Below c.heap.size c d
def Vd(b:World)(c:Ex):Ending->World->Prop:=zT b c λd e a=>EB b [d] e a.2.1 a.1.args
def Vy(b:World)(c:Ex):Ending->World->Prop:=zT b c λd e a=>BJ b.heap.size [d] e a.2.1 a.1.args
theorem Vy.ok{a:Ending}(h:Vy w e a W):Vd w e a W:=by obtain⟨f,d,b,g,i,j,k,l⟩:=h;exact⟨f,d,b,g,i,j,λo n c _ m=>k o n c m,l⟩
theorem nV{N:List Nat}(b:Below w.heap.size w W)(d:Below W.heap.size W X)(c:Below w.heap.size w Y)(e:ce w.heap.size N X Y)(i:∀a∈N,W.heap.size<=a):Below W.heap.size W Y:=by
 refine⟨by rw[c.os,b.os],by rw[c.tape,b.tape],by rw[c.output,b.output],cw d.size e.size,λa f=>?_⟩;by_cases g:a<w.heap.size;.rw[c.block a g,b.block a g]
 .rw[e.block a (by omega) (cN f d.size) (λh=>by have:=i a h;omega),d.block a f]
theorem rl(b:World)(base:Nat)(c:base<=b.heap.size)(a:Nd):eS (b.alloc (.cells #[.int .i64 a.1.op,.int .i64 a.1.n,.int .i64 a.1.v.k,.int .i64 a.1.v.n,.string a.1.v.s,.slice a.2.1 a.1.args.length a.2.2] 45)) base (.slice (some ⟨b.heap.size,0,none⟩) 1 1) [a]:=
 ⟨rfl,.inr ⟨b.heap.size,1,_,rfl,c,Go.Deep.blk_alloc_new _ _,bi,by unfold maxLen;omega,rfl,rfl⟩⟩
theorem uC(b:Below w.heap.size w W)(d:Below W.heap.size W X)(k:EB W [] X a (dn e).args)(m:cH e=[dn e]):Vd w e (.returned (.slice (some ⟨X.heap.size,0,none⟩) 1 1)) (X.alloc (.cells #[.int .i64 (dn e).op,.int .i64 (dn e).n,.int .i64 (dn e).v.k,.int .i64 (dn e).v.n,.string (dn e).v.s,.slice a (dn e).args.length n] 45)):=by have p:=b.size;have q:=d.size;refine⟨X.heap.size,1,[(dn e,a,n)],rfl,rl X w.heap.size (by omega) (dn e,a,n),by rw[m];rfl,?_,am (ac b d) _⟩;intro r g i l c;rw[List.mem_singleton] at g;subst g;refine k i (nV b (am d _) l c (by simp;omega)) ?_;refine⟨cw (am (VT _ X) _).size c.size,λf o j _=>?_⟩;rw[c.block f (by omega) (by simp[go_sem];omega) (by simp;omega),(am (VT _ X) _).block f j]
theorem A2(c:Below w.heap.size w W)(f:Below W.heap.size W X)(k:qy W.heap.size X a (dn e).args)(l:cH e=[dn e]):Vy w e (.returned (.slice (some ⟨X.heap.size,0,none⟩) 1 1)) (X.alloc (.cells #[.int .i64 (dn e).op,.int .i64 (dn e).n,.int .i64 (dn e).v.k,.int .i64 (dn e).v.n,.string (dn e).v.s,.slice a (dn e).args.length n] 45)):=by have o:=c.size;have p:=f.size;refine⟨X.heap.size,1,[(dn e,a,n)],rfl,rl X w.heap.size (by omega) (dn e,a,n),by rw[l];rfl,?_,am (ac c f) _⟩;intro q g i d;rw[List.mem_singleton] at g;subst g;refine k i ⟨cw (am (VT _ X) _).size d.size,λb m j _=>?_⟩;rw[d.block b (by omega) (by simp[go_sem];omega) (by simp;omega),(am (VT _ X) _).block b j]
theorem mn(a:Ex)(y:a.fin)(z:cH a=[dn a])(s:a.op≠19∨bJ a=false)(c:Option Addr)(d:Nat)(b:World)(q:Ex.all b c a.args):Calls prog 198 #[a.val c d] b λj A=>Vd b a j A/\(bJ a=true->Vy b a j A):=by
 have k:=H (λ(f:World) (p:Below b.heap.size b f)=>hG a y c d f (Ex.af _ q p));have l:=H (λ(f:World) (p:Below b.heap.size b f)=>tW a y c d f (Ex.af _ q p));have e:=H (am (VT _ b) (.cells #[.int .i64 a.op,.int .i64 a.n,.int .i64 a.v.k,.int .i64 a.v.n,.string a.v.s,.slice c a.args.length d] 45));have t:Hid (ee (b.alloc (.cells #[.int .i64 a.op,.int .i64 a.n,.int .i64 a.v.k,.int .i64 a.v.n,.string a.v.s,.slice c a.args.length d] 45)) b.heap.size a c d):=ee.new b a c d;have o:=H z;have B:=H (UR (e:=a));rw[Ex.ad] at k l ⊢;clear q z;by_cases v:a.op=19
 .have r:bJ a=false:=by rcases s with h|h;exact absurd v h;exact h
  rw[r] at k;rw[v] at k l e t ⊢;have C:=H r;clear s r;go_enter func198,ntmps198
  go_wp2_with (first
   | (go_at_call 53;refine(U k _ (U e)).mono ?_;rintro j N ⟨rfl,x⟩;have w:=ac (U e) x;obtain⟨G,I,J,K,L,M⟩:=(U t).aa x)
   | (go_at_call 218;refine(U l _ w).mono ?_;rintro j F ⟨D,E,rfl,g,i,m⟩;have u:=H g;have n:=H i;clear g i;rw[Ex.ad]))
  go_ret;exact⟨uC w m (U n) (U o),λh=>by rw[U C] at h;cases h⟩
 .clear s;go_enter func198,ntmps198;go_wp2_with (go_at_call 218;refine(U l _ (U e)).mono ?_;rintro j F ⟨D,E,rfl,g,i,m⟩;have u:=H g;have n:=H i;clear g i;rw[Ex.ad]);go_ret;exact⟨uC (U e) m (U n) (U o),λh=>A2 (U e) m (U u (U B h)) (U o)⟩
theorem lE{g:Oper}{f:Act}{k:Act->World->Prop}{m:Exit->Act->World->Prop}(l x:Operand)(t:g.op=.call { callee:=.builtin .append,args:=#[l,x],argTypes:=#[22,22] }) (base n:Nat) (d:Value) (c a:List Nd) (z:f.eval l=d) (u:eS w base d c) (j i:Nat) (A:f.eval x=.slice (some ⟨j,0,none⟩) a.length i) (v:eS w n (.slice (some ⟨j,0,none⟩) a.length i) a) (G:c.length+a.length<=1000000000) (r:base<=w.heap.size) (h:∀b e,eS e base b (c++a)->w.grownBy e d.ownBlock->(b.ownBlock=d.ownBlock∨b.ownBlock=some w.heap.size)->k (f.put g.dst b) e):g.wp prog f w k m:=by obtain⟨B,s,C,D,E⟩:=info_parts tB;obtain⟨b,e,y,o,p,F,q⟩:=run_append_own_at (P:=prog) w base 22 g.type 45 B (.agg #[.int .i64 0,.int .i64 0,.int .i64 0,.int .i64 0,.string ⟨#[]⟩,.slice none 0 0]) 6 72 underlying22 s C D E rfl (by decide) d c.length (c.flatMap sh) u ⟨j,0,none⟩ a.length i (a.flatMap sh) (sN a) (World.ownsRow.cells v rfl) (xQ a) (by unfold maxLen;omega) (by omega) r;unfold Oper.wp execOp;simp only[t,resolve,invoke,builtin,Sem.run_bind,Sem.run_pure,Result.andThen_ok,List.map_toArray,dX,List.map_nil,z,A,y];refine h b e ?_ p q;unfold eS;rw[bG,List.flatMap_append];exact o
theorem wj{w3:World}{x:Ex}{v':Value}{b g:List Nd}(y:Below w.heap.size w W)(F:cH e=cH x++cH E) (z:b.map (·.1)=cH x) (I:∀a∈b,BJ W.heap.size [n] X a.2.1 a.1.args) (b1:Below W.heap.size W X) (L:eS X W.heap.size (.slice (some ⟨n,0,none⟩) b.length m) b) (r:Below X.heap.size X Y) (K:g.map (·.1)=cH E) (J:∀a∈g,BJ Y.heap.size [k] Z a.2.1 a.1.args) (b2:Below Y.heap.size Y Z) (t:eS w3 W.heap.size v' (b++g)) (d:Z.grownBy w3 (some n)) (s:v'.ownBlock=some n∨v'.ownBlock=some Z.heap.size) (G:0<(b++g).length):Vy w e (.returned v') w3:=by
 obtain⟨P,i,Q,R⟩:=L.some (by have:0<(cH x).length:=kG x;rw[<-z,bQ] at this;exact this);injection i with i;injection i with i _;subst i;obtain⟨O,B,rfl⟩:=t.slice;obtain⟨o,rfl,S,_⟩:=t.some G;have V:=y.size;have VW:=b1.size;have VX:=r.size;have VY:=b2.size;have s:o=n∨o=Z.heap.size:=by simp only[Value.ownBlock,Option.some.injEq] at s;exact s
 have D:Below W.heap.size W w3:=(ac (ac b1 r) b2).trans (bB d (by omega) (λv h=>by injection h with h;omega));refine⟨o,B,b++g,rfl,?_,by rw[ep,z,K,F],?_,ac y D⟩;.obtain⟨p,f⟩:=t;refine⟨p,?_⟩;rcases f with f|⟨v,A,C,M,T,N⟩;(.exact .inl f);.exact .inr ⟨v,A,C,M,by omega,N⟩
 .intro a j u l;rcases cM j with j|j;(.refine I a j u ⟨by have:=l.size;have:=d.size;omega,λc p f q=>?_⟩;rw[List.mem_singleton] at q;rw[l.block c (by omega) (by have:=d.size;omega) (by rw[List.mem_singleton];omega),d.block c (by omega) (by simp;exact q),b2.block c (by omega),r.block c f]);.refine J a j u ⟨by have:=l.size;have:=d.size;omega,λc p f q=>?_⟩;rw[l.block c (by omega) (by have:=d.size;omega) (by rw[List.mem_singleton];omega),d.block c f (by simp;omega)]
theorem vG(a:Ex)(Wi:a.fin)(Wf:a.op=19)(B:bJ a=true)(x f:Ex)(r:a.args=[x,f])(l:Option Addr)(j:Nat)(d:World)(A:Ex.all d l a.args) (V8:∀(o:Option Addr) (L:Nat) (e:World),Ex.all e o x.args->Calls prog 198 #[x.val o L] e (Vy e x)) (V9:∀(o:Option Addr) (L:Nat) (e:World),Ex.all e o f.args->Calls prog 198 #[f.val o L] e (Vy e f)):Calls prog 198 #[a.val l j] d (Vy d a):=by
 have n:=H (λ(e:World) (q:Below d.heap.size d e)=>hG a Wi l j e (Ex.af _ A q));have t:=H (am (VT _ d) (.cells #[.int .i64 a.op,.int .i64 a.n,.int .i64 a.v.k,.int .i64 a.v.n,.string a.v.s,.slice l a.args.length j] 45));have F:Hid (ee (d.alloc (.cells #[.int .i64 a.op,.int .i64 a.n,.int .i64 a.v.k,.int .i64 a.v.n,.string a.v.s,.slice l a.args.length j] 45)) d.heap.size a l j):=ee.new d a l j;obtain⟨C,D,rfl,Wm⟩:=Ex.ag A (i:=0) (e:=x) (by rw[r];rfl);obtain⟨Xb,Xc,M,Wn⟩:=Ex.ag A (i:=1) (e:=f) (by rw[r];rfl);injection M with M;injection M with WJ WK;subst WJ WK;have V6:=H (λ(e:World) (q:Below d.heap.size d e)=>Ex.ah (Ex.aI _ Wm q));have V7:=H (λ(e:World) (q:Below d.heap.size d e)=>Ex.ah (Ex.aI _ Wn q));have Q:a.args.length=2:=by rw[r];rfl
 have V5:Hid (cH a=cH x++cH f):=by show _=_;rw[fG,Wf,B,r,d0,d0,d0,VI];rfl
 have WQ:=kH B;rw[U V5,bG] at WQ;have Wz:=H V8;have WA:=H V9;rw[Ex.ad] at n ⊢;rw[B] at n;rw[Wf,Q] at n t F ⊢;clear A V8 V9 Wm Wn r B Wi;go_enter func198,ntmps198;go_wp2_with (go_at_call 53;refine(U n _ (U t)).mono ?_;rintro Wt b ⟨rfl,P⟩;have y:=ac (U t) P;obtain⟨WC,WD,WE,WF,WG,v⟩:=(U F).aa P);obtain⟨Wa,Wc,⟨W,X,Y,Z,VW,VX⟩,Wg⟩:=U V6 b y;obtain⟨Wb,Wd,⟨VY,VZ,V0,V1,V2,V3⟩,Wh⟩:=U V7 b y;rw[Nat.zero_mul,Nat.add_zero] at W X Y Z VW VX;rw[Nat.one_mul] at VY VZ V0 V1 V2 V3;have Wu:=H Wg;have Wv:=H Wh;have Ww:=H y;rw[Q] at v;clear Wg Wh y P V6 V7 n F t Q;go_cut[2] (λWR WU=>Hid (Vy d a (.returned WR) WU));case first=>refine bH (λs:World=>Below b.heap.size b s) 11 ?_;refine ap 0 (.pointer (some ⟨d.heap.size,5,none⟩)) rfl ((VT _ b).drew) ?_;(refine ap 1 (.slice (some ⟨C,D,none⟩) 2 j) rfl ((VT _ b).drew) ?_ λs c=>by have WL:=ae v c;go_simp);refine ap 2 (.pointer (some ⟨C,D,none⟩)) rfl ((VT _ b).drew) ?_;(refine ap 3 (.agg #[.int .i64 x.op,.int .i64 x.n,.int .i64 x.v.k,.int .i64 x.v.n,.string x.v.s,.slice Wa x.args.length Wc]) rfl ((VT _ b).drew) ?_ λs c=>by have WV:=ae W c;have WW:=ae X c;have WZ:=ae Y c;have W0:=ae Z c;have W1:=ae VW c;have W2:=ae VX c;go_simp);refine ap 5 (.pointer (some ⟨d.heap.size,5,none⟩)) rfl ((VT _ b).drew) ?_;(refine ap 6 (.slice (some ⟨C,D,none⟩) 2 j) rfl ((VT _ b).drew) ?_ λs c=>by have WL:=ae v c;go_simp);refine ap 7 (.pointer (some ⟨C,D+6,none⟩)) rfl ((VT _ b).drew) ?_;(refine ap 8 (.agg #[.int .i64 f.op,.int .i64 f.n,.int .i64 f.v.k,.int .i64 f.v.n,.string f.v.s,.slice Wb f.args.length Wd]) rfl ((VT _ b).drew) ?_ λs c=>by have W3:=ae VY c;have W4:=ae VZ c;have W5:=ae V0 c;have W6:=ae V1 c;have WX:=ae V2 c;have WY:=ae V3 c;go_simp);clear WC WD WE WF WG v W X Y Z VW VX VY VZ V0 V1 V2 V3;have G:=H (U Wz Wa Wc _ (Ex.af _ (U Wu) ((VT _ b).drew)));rw[Ex.ad] at G;refine bh 4 rfl λk g=>?_;go_simp;refine(U G).mono ?_;rintro Wt E ⟨We,WH,m,rfl,T,R,Wp,K⟩;go_simp;have O:Below b.heap.size b E:=ac ((VT _ b).drew) K;(have Xa:b.heap.size<=We:=by obtain⟨W8,p,WN,_⟩:=T.some (by have:=kG x;rw[<-R,bQ] at this;exact this);injection p with p;injection p with p _;rw[p];exact WN);have V4:=H T;have J:=H R;have WB:=H Wp;have Wx:=H K;clear G T R Wp K;refine VP g O ?_;clear g k;have I:=H (U WA Wb Wd E (Ex.af _ (U Wv) O));rw[Ex.ad] at I;refine bh 9 rfl λk g=>?_;go_simp;refine(U I).mono ?_;rintro Wt WT ⟨WM,WI,u,rfl,Wr,S,Wq,w⟩;go_simp;have z:Below b.heap.size b WT:=ac O w;refine U g _ _ ⟨λ_=>z,?_⟩;clear g k I;(have Wj:m.length+u.length<=1000000000:=by(have WO:m.length=(cH x).length:=by rw[<-U J,bQ]);(have W9:u.length=(cH f).length:=by rw[<-S,bQ]);omega);(have Wk:0<(m++u).length:=by(have WO:m.length=(cH x).length:=by rw[<-U J,bQ]);have:=kG x;rw[bG];omega);refine bh 10 rfl λk g=>?_;refine lE (.tmp 18) (.tmp 23) rfl b.drew.heap.size E.heap.size (.slice (some ⟨We,0,none⟩) m.length WH) m u rfl ((U V4).aa w) WM WI rfl Wr Wj z.size ?_;intro WS V Ws N Wl;have WP:Below b.heap.size b V:=z.trans (bB N z.size (λW7 h=>by simp[Value.ownBlock] at h;omega));refine VP g WP ?_;clear g k;have Wy:=H (wj (w3:=V) (v':=WS) (ac (U Ww) ((VT _ b).drew)) (U V5) (U J) (U WB) (U Wx) (U V4) (VT _ E) S Wq w Ws N Wl Wk);clear Wr S Wq w Ws N Wl Wk Wj;(try simp only[p1,p2,p3,p4,p5]);refine bh 11 rfl λk g=>?_;go_simp;refine bE g ?_;clear g k;refine cf ?_;go_wp2;go_meet;exact Wy
 case rest=>go_wp2;go_ret;exact U hcut
theorem g8:∀(i:Nat) (a:Ex),a.size<=i->a.fin->bJ a=true->∀(c:Option Addr) (e:Nat) (b:World),Ex.all b c a.args->Calls prog 198 #[a.val c e] b (Vy b a)
 | 0,a,t,_,_,_,_,_,_=>by rw[Ex.ak] at t;omega
 | i+1,a,t,g,d,c,e,b,s=>by
  by_cases f:a.op=19;.obtain⟨q,r,p⟩:=Vv (da d) (by rw[f];decide);(have m:a.args[0]?=some q:=by rw[p];rfl);(have n:a.args[1]?=some r:=by rw[p];rfl);have w:=Ex.ar m;have x:=Ex.ar n;exact vG a g f d q r p c e b s (λk l j o=>g8 i q (by omega) (Ex.aq g m) (hE d m) k l j o) (λk l j o=>g8 i r (by omega) (Ex.aq g n) (hE d n) k l j o)
  .have u:cH a=[dn a]:=by
    rw[fG,VU]
    simp[f]
   exact(mn a g u (.inl f) c e b s).mono λv y h=>h.2 d
end Go.Proofs.YtklgoolblpmmlaaGreat
