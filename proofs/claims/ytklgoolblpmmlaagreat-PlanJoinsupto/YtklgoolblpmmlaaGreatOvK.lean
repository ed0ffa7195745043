import Derived.Test.YtklgoolblpmmlaaGreatKnA
import Derived.Test.YtklgoolblpmmlaaGreatPcS
set_option linter.all false
set_option maxHeartbeats 1000000
set_option maxRecDepth 100000
namespace Go.Proofs.YtklgoolblpmmlaaGreat
open Go.RowKit Go.Sort Go.Proofs.Tryz
mutual
def kE(c:List Int):Ex->Option Int
 | .mk a e f d=>if a == 1 then some (c.getD e.toNat 0) else if a == 2 then some (bk f).k else match kL c d with
  | some b=>if (mT a b).2 then some (mT a b).1 else none
  | none=>none
def kL(a:List Int):List Ex->Option (List Int)
 | []=>some []
 | c::e=>match kE a c with
  | some d=>(match kL a e with
   | some b=>some (d::b)
   | none=>none)
  | none=>none
end
theorem uI(b:List Int)(a:Ex):kE b a=if a.op == 1 then some (b.getD a.n.toNat 0) else if a.op == 2 then some (bk a.v).k else match kL b a.args with
  | some c=>if (mT a.op c).2 then some (mT a.op c).1 else none
  | none=>none:=by cases a;rw[kE];rfl
theorem uG(a:List Int):∀(b:List Ex) (c:Ex) {d:List Int} {e:Int},kL a b=some d->kE a c=some e->kL a (b++[c])=some (d++[e])
 | [],c,d,e,h,g=>by rw[kL] at h;injection h with h;subst h;rw[dK,kL,g,kL];rfl
 | j::b,c,d,e,h,g=>by
  rw[kL] at h
  rw[eL,kL]
  cases i:kE a j with
  | none=>rw[i] at h;cases h
  | some l=>
   rw[i] at h
   cases f:kL a b with
   | none=>rw[f] at h;cases h
   | some k=>
    rw[f] at h
    injection h with h
    subst h
    rw[uG a b c f g]
    rfl
theorem uH(a:List Int):∀{b:List Ex} {c:Ex},c∈b->kE a c=none->kL a b=none
 | e::b,c,h,d=>by rw[kL];rcases dr h with rfl|h;(.rw[d]);.rw[uH a h d];cases kE a e<;>rfl
def ve(b:Option Int)(c:World)(e:Ending)(f:World):Prop:=(∃(a:Int) (ok:Bool),e=.returned (.tuple #[.int .i64 a,.bool ok])/\ok=b.isSome/\∀d,b=some d->a=d)/\Below c.heap.size c f
variable{w:World}{k m n:Nat}{C:List Int}{e:Ex}{I:Int}{c:aH}
theorem cm.store{base N k:Nat}(h:cm w base (.slice (some ⟨n,0,none⟩) N m) C)(c:N=C.length)(a:Int):cm (w.setCell ⟨n,k,none⟩ (.int .i64 a)) base (.slice (some ⟨n,0,none⟩) N m) (C.set k a):=by subst c;have b:=(World.ownsRow.stored h k (.int .i64 a)).1;unfold cm;rw[List.length_set,List.map_set];exact b
theorem cm.at{base N:Nat}{x:Int}(h:cm w base (.slice (some ⟨n,0,none⟩) N m) C)(b:N=C.length)(a:C[k]?=some x):w.cell? ⟨n,k,none⟩=some (.int .i64 x)/\w.frozen? ⟨n,k,none⟩=false:=by subst b;have c:=(bD a).1;refine⟨?_,World.ownsRow.frozenAt h k⟩;rw[World.ownsRow.cellAt h k (by omega),bL,a];rfl
theorem q6(d:List Int)(a:Nat)(b:Int):(d++List.replicate (a+1) 0).set d.length b=(d++[b])++List.replicate a 0:=by rw[List.set_append,VU (by omega),Nat.sub_self,List.replicate_succ,List.set_cons_zero,cI];rfl
def BV(j:List Int)(a:Ex)(f:Option Addr)(g e:Nat)(c:World)(i:Value)(wr:World):Prop:=∃(b:Nat) (d:List Int),b<=a.args.length/\i=.int .i64 (b:Int)/\d.length=b/\Hid (kL j (a.args.take b)=some d)/\Hid (cm wr (c.heap.size+1) (.slice (some ⟨e,0,none⟩) a.args.length a.args.length) (d++List.replicate (a.args.length-b) 0))/\Hid (Below c.heap.size c wr)/\Hid (ee wr c.heap.size a f g)/\e<wr.heap.size
theorem tq(d:List Int)(WP:d.length<=140737488355328)(VW:Option Addr)(VY:Nat)(a:Ex)(E:dE a)(Wr:¬a.op=1)(Ws:¬a.op=2)(f:Option Addr)(g:Nat)(b:World)(V2:Ex.all b f a.args) (Y:∀(t:Nat) (x:Ex),a.args[t]?=some x->∀(o:Option Addr) (C:Nat) (B:World),Below b.heap.size b B->Ex.all B o x.args->Calls prog 175 #[x.val o C,.slice VW d.length VY] B (ve (kE d x) B)):Calls prog 175 #[a.val f g,.slice VW d.length VY] b (ve (kE d a) b):=by
 have Wj:=H Y;have Wg:=H V2;have q:=fC (dJ E).1;have Wv:Vk a.op<=3:=by unfold Vk;split;omega;split;omega;split;omega;split;omega;split<;>omega
 have WQ:a.args.length<=3:=by omega
 have Wn:(a.op == 1)=false:=by simpa using Wr
 have Wp:(a.op == 2)=false:=by simpa using Ws
 have y:Hid (kE d a=match kL d a.args with
  | some e=>if (mT a.op e).2 then some (mT a.op e).1 else none
  | none=>none):=by show _=_;rw[uI,Wn,Wp];rfl
 have Wh:=H q;obtain⟨WB,Wx,WC,WD,WE⟩:=info_parts m1;have R:=H (am (VT _ b) (.cells #[.int .i64 a.op,.int .i64 a.n,.int .i64 a.v.k,.int .i64 a.v.n,.string a.v.s,.slice f a.args.length g] 45));have P:=H (ee.new b a f g);have V6:(b.alloc (.cells #[.int .i64 a.op,.int .i64 a.n,.int .i64 a.v.k,.int .i64 a.v.n,.string a.v.s,.slice f a.args.length g] 45)).heap.size=b.heap.size+1:=by simp[go_sem]
 obtain⟨Z,V1⟩:=bn (kE d a);rw[<-V1] at y ⊢;rw[Ex.ad];clear Y V2 V1 q Wv E;go_enter func175,ntmps175;go_upto_region 7 with (at_make;refine wpList_make_full _ rfl (.tmp 28) (.tmp 28) 23 rfl (b.heap.size+1) 3 WB (.int .i64 0) 1 underlying23 Wx WC WD .i64 .i64 _ _ a.args.length rfl rfl rfl rfl (by rw[WE];omega) (by unfold maxLen;omega) (by rw[V6];exact bi) ?_;intro WW p V5);rw[V6] at p;have K:=bB V5 bi (λWL E=>by cases E);refine tT (λWf=>BV d a f g (b.heap.size+1) b (.int .i64 (0:Int)) Wf) ?_ ?_;.refine⟨0,[],bt,rfl,rfl,by rw[List.take_zero,kL];rfl,?_,ac (U R) K,(U P).aa K,?_⟩;(.show cm _ _ _ _;unfold cm;rw[dK,List.length_replicate,Nat.sub_zero,List.map_replicate];(have WA:(madeCells (Value.cells (.int .i64 0)) (a.args.length*1)).toList=List.replicate a.args.length (Value.int .i64 0):=by rw[Nat.mul_one];exact toList_madeCells_one _ _);rw[WA] at p;exact p);·(rcases p.2 with ⟨G,_⟩|⟨WM,_,_,G,_,Ww,_⟩);(.cases G);.simp only[Value.slice.injEq,Option.some.injEq,Addr.mk.injEq,and_true,true_and] at G;rw[G.1];exact(Array.getElem?_eq_some_iff.1 Ww).1
 intro Wf W;clear p V5 K R P;obtain⟨_,_,_,_,_,_,_,_,V,_⟩:=U W;obtain⟨V8,V9,Wa,Wb,Wc,Wd⟩:=U V;go_upto_region 8 with fail;clear V8 V9 Wa Wb Wc Wd V;go_loopw[33] (λt wr=>BV d a f g (b.heap.size+1) b t wr) (λt _=>a.args.length-(intOf t).toNat);case atStart=>exact U W
 case round=>
  obtain⟨c,e,WO,rfl,i,J,m,l,Q,WN⟩:=hrel;by_cases Wz:c<a.args.length
  .have Wt:(c:Int)<(a.args.length:Int):=by omega
   obtain⟨x,F⟩:∃x,a.args[c]?=some x:=⟨_,VR Wz⟩
   obtain⟨WU,WV,Wq,V3⟩:=Ex.ag (Ex.af _ (U Wg) (U l)) F
   obtain⟨o,C,⟨WF,WG,WH,WI,WJ,WK⟩,q⟩:=Ex.ah V3
   have w:=H (am (VT _ wr) (.cells #[.int .i64 x.op,.int .i64 x.n,.int .i64 x.v.k,.int .i64 x.v.n,.string x.v.s,.slice o x.args.length C] 45))
   have n:=H (U Wj c x F o C _ (ac (U l) (U w)) (Ex.af _ q (U w)))
   rw[Ex.ad] at n
   have X:=H F
   subst Wq
   clear F V3 q
   cases j:kE d x with
   | none=>
    rw[j] at n
    have T:Hid (Z=none):=by
     show _=_
     rw[U y,uH d (VQ (U X)) j]
    clear j
    go_wp2_with (go_at_call 175;refine(U n).mono ?_;rintro V7 We ⟨⟨O,ok,rfl,rfl,_⟩,s⟩)
    refine bs (v:=.tuple #[.int .i64 0,.bool false]) (by simp[results,results175,go_sem]) rfl ⟨⟨0,false,rfl,by rw[U T];rfl,λI k=>by rw[U T] at k;cases k⟩,ac (U l) (ac (U w) s)⟩
   | some I=>
    rw[j] at n
    have Wk:Hid (kL d (a.args.take (c+1))=some (e++[I])):=by
     show _=_
     rw[List.take_add_one,U X]
     exact uG d _ x (U J) j
    clear j
    obtain⟨u,N⟩:∃u,a.args.length-c=u+1:=⟨a.args.length-c-1,by omega⟩
    have Wl:=H N
    rw[N] at m
    have V0:a.args.length=(e++List.replicate (u+1) (0:Int)).length:=by rw[bG,List.length_replicate];omega
    have S:=H V0
    have V4:(e++List.replicate (u+1) (0:Int))[c]?=some 0:=by
     rw[ez (by omega),i,Nat.sub_self]
     rfl
    have Wi:=H V4
    clear N V0 V4
    go_wp2_with (go_at_call 175;refine(U n).mono ?_;rintro V7 We ⟨⟨O,ok,rfl,rfl,Wy⟩,s⟩;obtain rfl:=Wy I rfl;have r:=ac (U w) s;obtain⟨WS,WT⟩:=((U m).aa r).at (U S) (U Wi))
    have Wu:=(U m).aa r
    have WR:=r.size
    refine⟨⟨c+1,e++[O],by omega,by go_num,by simp[i],U Wk,?_,?_,?_,?_⟩,by simp[intOf];omega⟩
    .have h:=Wu.store (k:=c) (U S) O
     rw[<-i,q6,i] at h
     rw[show a.args.length-(c+1)=u by have:=U Wl;omega]
     exact h
    .exact(ac (U l) r).setCell (by show b.heap.size<=b.heap.size+1;omega) _
    .exact At ((U Q).aa r) _ _ _ (by omega)
    .simp only[World.setCell]
     simp
     omega
  ·(have Wt:¬(c:Int)<(a.args.length:Int):=by omega);(obtain rfl:c=a.args.length:=by omega);have L:=U J;rw[dy] at L;have M:=U m;rw[Nat.sub_self,List.replicate_zero,VI] at M;have z:=H (A4 a.op (some ⟨b.heap.size+1,0,none⟩) a.args.length e wr (by rw[i];exact U Wh) (by omega) M.ints);(have A:Hid (Z=if (mT a.op e).2 then some (mT a.op e).1 else none):=by show _=_;rw[U y,L]);rw[i] at z;obtain⟨Wm,VZ⟩:=bn (mT a.op e);rw[<-VZ] at z A;obtain⟨VX,D⟩:=Wm;simp only at z A;obtain⟨V8,V9,Wa,Wb,Wc,Wd⟩:=U Q;clear L M J m y VZ;go_wp2_with (go_at_call 197;refine(U z).mono ?_;rintro V7 We ⟨rfl,s⟩);refine bs (v:=.tuple #[.int .i64 VX,.bool D]) (by simp[results,results175,go_sem]) rfl ⟨⟨VX,D,rfl,?_,?_⟩,ac (U l) s⟩;.rw[U A];cases D<;>rfl
   .intro I k
    rw[U A] at k
    cases D with
    | false=>cases k
    | true=>injection k
theorem mQ(b:List Int)(G:b.length<=140737488355328)(p:Option Addr)(x:Nat)(a:Ex)(k:dE a)(l:gg a b.length=true)(z:a.op=1∨a.op=2)(o:Option Addr)(q:Nat)(i:World)(j:bP i p b):Calls prog 175 #[a.val o q,.slice p b.length x] i (ve (kE b a) i):=by
 have d:=H (am (VT _ i) (.cells #[.int .i64 a.op,.int .i64 a.n,.int .i64 a.v.k,.int .i64 a.v.n,.string a.v.s,.slice o a.args.length q] 45));rcases z with g|r;.have C:=Bp k g;have B:=Uz l g;obtain⟨c,t⟩:∃c:Nat,a.n=c:=⟨a.n.toNat,by omega⟩;(have e:kE b a=some (b.getD c 0):=by rw[uI,g,t];rfl);(have s:b[c]?=some (b.getD c 0):=by rw[cQ,VR (by omega)];rfl);rw[e];generalize b.getD c 0=u at *;obtain⟨J,K,rfl,y⟩:=(j.aa (U d)).get s;(have E:(c:Int)<(b.length:Int):=by omega);rw[Ex.ad];rw[g,t] at d y ⊢;clear e s k l j C B;go_enter func175,ntmps175;go_wp2;refine bs (v:=.tuple #[.int .i64 u,.bool true]) (by simp[results,results175,go_sem]) rfl ⟨⟨u,true,rfl,rfl,λD m=>by injection m⟩,U d⟩
 ·(have e:kE b a=some (bk a.v).k:=by rw[uI,r];rfl);have n:=H (λw=>ec a.v w);rw[e];rw[aH.open_,aH.open_] at n;generalize bk a.v=f at *;have F:=CN f.k f.n f.s;rw[Ex.ad];rw[r] at d ⊢;clear e k l j;go_enter func175,ntmps175;go_wp2_with (go_at_call 47;refine(U n _).mono ?_;rintro I L ⟨rfl,A⟩);refine bs (v:=.tuple #[.int .i64 f.k,.bool true]) (by simp[results,results175,go_sem]) rfl ⟨⟨f.k,true,rfl,rfl,λD m=>by injection m⟩,ac (U d) A⟩
theorem oO(b:List Int)(j:b.length<=140737488355328)(e:Option Addr)(g:Nat):∀(n:Nat) (a:Ex),a.size<=n->dE a->gg a b.length=true->∀(d:Option Addr) (f:Nat) (c:World),Ex.all c d a.args->bP c e b->Calls prog 175 #[a.val d f,.slice e b.length g] c (ve (kE b a) c)
 | 0,a,q,_,_,_,_,_,_,_=>by rw[Ex.ak] at q;omega
 | n+1,a,q,i,l,d,f,c,v,k=>by
  by_cases o:a.op=1;.exact mQ b j e g a i l (.inl o) d f c k
  .by_cases p:a.op=2;.exact mQ b j e g a i l (.inr p) d f c k
   .exact tq b j e g a i o p d f c v λy x m s t r u w=>
     oO b j e g n x (by have:=Ex.ar m;omega) (m4 i m) (xt l m) s t r w (k.aa u)
def cY(b:List Int)(a:Ex):Int:=if bJ a && (!b.any tj) && gg a b.length then (if (kE b a).isSome then 0 else 4) else 1
def KR(b:List Int)(a:Ex)(c:Int):Prop:=(cY b a=0->kE b a=some c)/\(cY b a≠0->c=0)
theorem KR.one(h:cY C e≠0):KR C e 0:=⟨λa=>absurd a h,λ_=>rfl⟩
theorem KR.yes(h:kE C e=some I)(a:cY C e=0):KR C e I:=⟨λ_=>h,λb=>absurd a b⟩
theorem Cv{b:Int->Prop}{a:Option Int}(f:∀c,a=some c->b c)(e:∀x,a=some x->I=x)(d:true=a.isSome):b I:=by
 cases a with
 | none=>cases d
 | some x=>rw[e x rfl];exact f x rfl
theorem yI(b:List Int)(VW:b.length<=140737488355328)(D:Option Addr)(M:Nat)(a:Ex)(Z:a.fin)(s:Option Addr)(x:Nat)(f:World)(N:Ex.all f s a.args)(R:bP f D b):Calls prog 123 #[a.val s x,.slice D b.length M] f λd P=>(∃VX:Int,d=.returned (.tuple #[.int .i64 VX,.int .i64 (cY b a)])/\KR b a VX)/\Bw f P:=by
 have r:=H (λ(c:World) (p:Bw f c)=>hG a Z s x c (Ex.af _ N p));have w:=H (λ(c:World) (p:Bw f c)=>nT D M b c VW (R.aa p));have n:=H (λ(e:bJ a=true) (c:World) (p:Bw f c)=>xu a (da e) Z (fs e).1 b.length s x c (Ex.af _ N p));have o:=H (λ(e:bJ a=true) (q:gg a b.length=true) (c:World) (p:Bw f c)=>oO b VW D M a.size a bi (da e) q s x c (Ex.af _ N p) (R.aa p));have m:=H (am (VT _ f) (a.box s x));have B:=H (ee.new f a s x);rw[Ex.ad] at r n o ⊢;clear N R;cases e:bJ a with
 | false=>rw[e] at r;(have g:cY b a=1:=by unfold cY;rw[e];rfl);have C:=H (KR.one (by rw[g];decide));rw[g];clear e g w n o;go_enter func123,ntmps123;go_wp2_with (go_at_call 53;refine(U r _ (U m)).mono ?_;rintro d u ⟨rfl,i⟩);refine bs (v:=.tuple #[.int .i64 0,.int .i64 1]) (by simp[results,results123,go_sem]) rfl ⟨⟨0,rfl,U C⟩,ac (U m) i⟩
 | true=>
  rw[e] at r
  have n:=H (U n e)
  have o:=H (U o e)
  cases z:b.any tj with
  | true=>
   rw[z] at w
   have g:cY b a=1:=by unfold cY;rw[z];simp
   have C:=H (KR.one (by rw[g];decide))
   rw[g]
   clear e z g n o
   go_enter func123,ntmps123
   go_wp2_with (first
    | (go_at_call 66;refine(U w u l).mono ?_;rintro d A ⟨rfl,j⟩)
    | (go_at_call 53;refine(U r _ (U m)).mono ?_;rintro d u ⟨rfl,i⟩;have l:=ac (U m) i))
   refine bs (v:=.tuple #[.int .i64 0,.int .i64 1]) (by simp[results,results123,go_sem]) rfl ⟨⟨0,rfl,U C⟩,ac l j⟩
  | false=>
   rw[z] at w
   cases q:gg a b.length with
   | false=>
    rw[q] at n
    have g:cY b a=1:=by unfold cY;rw[q];simp
    have C:=H (KR.one (by rw[g];decide))
    rw[g]
    clear e z q g o
    go_enter func123,ntmps123
    go_wp2_with (first
     | (go_at_call 174;refine(U n A t).mono ?_;rintro d Q ⟨rfl,y⟩)
     | (go_at_call 66;refine(U w u l).mono ?_;rintro d A ⟨rfl,j⟩;have t:=ac l j;obtain⟨F,G,I,J,K,L⟩:=(U B).aa (ac i j))
     | (go_at_call 53;refine(U r _ (U m)).mono ?_;rintro d u ⟨rfl,i⟩;have l:=ac (U m) i))
    refine bs (v:=.tuple #[.int .i64 0,.int .i64 1]) (by simp[results,results123,go_sem]) rfl ⟨⟨0,rfl,U C⟩,ac t y⟩
   | true=>
    rw[q] at n
    have o:=H (U o q)
    have g:cY b a=if (kE b a).isSome then 0 else 4:=by unfold cY;rw[e,z,q];rfl
    have V0:Hid (∀k,kE b a=some k->KR b a k):=λk h=>KR.yes h (by rw[g,h];rfl)
    have VZ:Hid ((kE b a).isSome=false->KR b a 0):=λh=>KR.one (by rw[g,h];decide)
    rw[g]
    generalize kE b a=X at *
    obtain⟨Y,O⟩:=bn X.isSome
    rw[<-O]
    have W:Hid (∀c,Bw f c->Calls prog 175 #[.agg #[.int .i64 a.op,.int .i64 a.n,.int .i64 a.v.k,.int .i64 a.v.n,.string a.v.s,.slice s a.args.length x],.slice D b.length M] c λd P=>(∃k:Int,d=.returned (.tuple #[.int .i64 k,.bool Y])/\Hid (∀VY,X=some VY->k=VY))/\Bw c P):=λc p=>(U o c p).mono λd P ⟨⟨k,ok,V1,V2,V3⟩,e⟩=>⟨⟨k,by rw[V1,V2,<-O],V3⟩,e⟩
    have T:=H O
    clear e z q g O o
    cases Y with
    | true=>
     simp only[if_true]
     go_enter func123,ntmps123
     go_wp2_with (first
      | (go_at_call 175;refine(U W Q E).mono ?_;rintro d V4 ⟨⟨k,rfl,V⟩,S⟩)
      | (go_at_call 174;refine(U n A t).mono ?_;rintro d Q ⟨rfl,y⟩;have E:=ac t y;obtain⟨F,G,I,J,K,L⟩:=(U B).aa (ac (ac i j) y))
      | (go_at_call 66;refine(U w u l).mono ?_;rintro d A ⟨rfl,j⟩;have t:=ac l j;obtain⟨F,G,I,J,K,L⟩:=(U B).aa (ac i j))
      | (go_at_call 53;refine(U r _ (U m)).mono ?_;rintro d u ⟨rfl,i⟩;have l:=ac (U m) i))
     refine bs (v:=.tuple #[.int .i64 k,.int .i64 0]) (by simp[results,results123,go_sem]) rfl ⟨⟨k,rfl,Cv (U V0) (U V) (U T)⟩,ac E S⟩
    | false=>
     simp only[Bool.false_eq_true,if_false]
     go_enter func123,ntmps123
     go_wp2_with (first
      | (go_at_call 175;refine(U W Q E).mono ?_;rintro d V4 ⟨⟨k,rfl,V⟩,S⟩)
      | (go_at_call 174;refine(U n A t).mono ?_;rintro d Q ⟨rfl,y⟩;have E:=ac t y;obtain⟨F,G,I,J,K,L⟩:=(U B).aa (ac (ac i j) y))
      | (go_at_call 66;refine(U w u l).mono ?_;rintro d A ⟨rfl,j⟩;have t:=ac l j;obtain⟨F,G,I,J,K,L⟩:=(U B).aa (ac i j))
      | (go_at_call 53;refine(U r _ (U m)).mono ?_;rintro d u ⟨rfl,i⟩;have l:=ac (U m) i))
     refine bs (v:=.tuple #[.int .i64 0,.int .i64 4]) (by simp[results,results123,go_sem]) rfl ⟨⟨0,rfl,U VZ (U T).symm⟩,ac E S⟩
theorem Dt(h:bW e=true):(e.op=1/\e.args=[]/\0<=e.n)∨(e.op=2/\e.args=[])∨(∃a,e.args=[a]/\(e.op=3∨e.op=4∨e.op=5∨e.op=6))∨(∃a c,e.args=[a,c]/\7<=e.op/\e.op<=20)∨(∃a c f,e.args=[a,c,f]/\e.op=21):=by
 have d:=fC h;have n:∀b:List Ex,(b.length:Int)=0->b=[]:=λb h=>dF (by omega)
 have o:∀b:List Ex,(b.length:Int)=1->∃a,b=[a]:=λb h=>by
  match b,h with
  | [a],_=>exact⟨a,rfl⟩
  | [],h=>simp at h
  | _::_::_,h=>simp at h;omega
 have p:∀b:List Ex,(b.length:Int)=2->∃a c,b=[a,c]:=λb h=>by
  match b,h with
  | [a,c],_=>exact⟨a,c,rfl⟩
  | [],h=>simp at h
  | [_],h=>simp at h
  | _::_::_::_,h=>simp at h;omega
 have q:∀b:List Ex,(b.length:Int)=3->∃a c f,b=[a,c,f]:=λb h=>by
  match b,h with
  | [a,c,f],_=>exact⟨a,c,f,rfl⟩
  | [],h=>simp at h
  | [_],h=>simp at h
  | [_,_],h=>simp at h
  | _::_::_::_::_,h=>simp at h;omega
 unfold Vk at d;by_cases g:e.op=1;.refine .inl ⟨g,n _ (by rw[d,g];rfl),?_⟩;unfold bW at h;rw[g] at h;simp at h;exact h.2
 by_cases i:e.op=2;.exact .inr (.inl ⟨i,n _ (by rw[d,i];rfl)⟩)
 by_cases l:3<=e.op/\e.op<=6;.obtain⟨a,j⟩:=o _ (by rw[d];simp[g,i,l.1,l.2]);exact .inr (.inr (.inl ⟨a,j,by omega⟩))
 by_cases k:7<=e.op/\e.op<=20;.obtain⟨a,c,j⟩:=p _ (by rw[d];simp[g,i,show ¬(e.op<=6) by omega,k.1,k.2]);exact .inr (.inr (.inr (.inl ⟨a,c,j,k⟩)))
 by_cases m:e.op=21;.obtain⟨a,c,f,j⟩:=q _ (by rw[d,m];rfl);exact .inr (.inr (.inr (.inr ⟨a,c,f,j,m⟩)))
 .exfalso;(have:(e.args.length:Int)<0:=by rw[d];simp[g,i,m,l,k]);omega
def kr(b:Int)(a:aH):Prop:=a.k=0∨a.k=b
theorem ej(a:Int):kr a .null:=.inl rfl
theorem hQ(a:Int):kr 1 (.num a):=.inr rfl
theorem my(a:Bool):kr 1 (dD a):=.inr rfl
theorem yn(h:kr I c):kr I (bk c):=by
 unfold bk;split;.rename_i a;(have:c.k=1:=by simpa using a);rcases h with h|h;(.rw[h] at this;cases this);.exact .inr (by show (1:Int)=I;omega)
 .split;(.rename_i b;(have:c.k=2:=by simpa using b);rcases h with h|h;(.rw[h] at this;cases this);.exact .inr (by show (2:Int)=I;omega));.exact .inl rfl
theorem uy(c:Int)(a b:aH):kr 1 (eJ c a b):=by
 unfold eJ;split;.unfold Cj;split;(.exact .inr rfl);.exact .inl rfl
 .exact .inl rfl
theorem Cl(a:aH):kr 1 (ib a):=by unfold ib;split;exact my _;exact ej _
theorem AN(c:Int)(a b:aH):kr 1 (gh c a b):=by
 unfold gh;split;.exact ej _
 .cases h:g5 c (dk a b) with
  | none=>rw[l5 h];exact ej _
  | some d=>rw[er h];exact my _
theorem Cm(a b:aH):kr 2 (ie a b):=by unfold ie;split;exact .inr rfl;exact ej _
theorem AO(c:Int)(a b:aH):kr 1 (dW c a b):=by
 unfold dW;repeat' split
 all_goals first|exact my _|exact ej _
theorem yL{g:List Int}:∀{d:List Ex} {b:List Int},kL g d=some b->b.length=d.length/\∀(a:Nat) (e:Ex),d[a]?=some e->∃f,b[a]?=some f/\kE g e=some f
 | [],b,h=>by rw[kL] at h;injection h with h;subst h;exact⟨rfl,λa e c=>by cases c⟩
 | k::d,b,h=>by
  rw[kL] at h
  cases i:kE g k with
  | none=>rw[i] at h;cases h
  | some f=>
   rw[i] at h
   cases j:kL g d with
   | none=>rw[j] at h;cases h
   | some n=>
    rw[j] at h
    injection h with h
    subst h
    obtain⟨l,m⟩:=yL j
    refine⟨by simp[l],λa e c=>?_⟩
    cases a with
    | zero=>simp at c;subst c;exact⟨f,rfl,i⟩
    | succ a=>exact m a e (by simpa using c)
theorem wB(j:List Int)(row:List aH)(Z:row.length=j.length)(O:∀(B:Nat) (n:aH),row[B]?=some n->kr (j.getD B 0) n):∀b,dE b->∀e,kE j b=some e->kr e (co row b):=rR _ λb L C e a=>by
 rw[fZ]
 rw[uI] at a
 rcases Dt (dJ L).1 with ⟨d,c,VX⟩|⟨d,c⟩|⟨E,c,d⟩|⟨E,v,c,VY,VZ⟩|⟨E,v,F,c,d⟩
 .rw[c,VM,d]
  rw[d] at a
  simp only[beq_self_eq_true,if_true,Option.some.injEq] at a
  simp only[fW]
  rw[VU (by decide)]
  split
  .exact ej _
  .rename_i N
   have VW:b.n<(row.length:Int):=by simpa using N
   have z:row[b.n.toNat]?=some (row[b.n.toNat]'(by omega)):=VR (by omega)
   have h:=O _ _ z
   rw[a] at h
   rw[cQ,z]
   exact yn h
 .rw[c,VM,d]
  rw[d] at a
  simp at a
  simp only[fW]
  rw[ba (by decide),<-a]
  exact .inr rfl
 .have q:(b.op == 1)=false:=by rcases d with h|h|h|h<;>rw[h]<;>rfl
  have r:(b.op == 2)=false:=by rcases d with h|h|h|h<;>rw[h]<;>rfl
  rw[q,r] at a
  simp only[Bool.false_eq_true,if_false] at a
  cases g:kL j b.args with
  | none=>rw[g] at a;cases a
  | some i=>
   rw[g] at a
   simp only at a
   split at a
   .injection a with a
    rw[c,VM,VM]
    simp only[fW]
    have s:e=1:=by rw[<-a];unfold mT;rcases d with h|h|h|h<;>rw[h]<;>rfl
    subst s
    unfold jk
    split
    .exact uy _ _ _
    .split
     .exact Cl _
     .split
      .split<;>exact hQ _
      .split
       .exact hQ _
       .exact ej _
   .cases a
 .have q:(b.op == 1)=false:=by(have:b.op≠1:=by omega);simpa using this
  have r:(b.op == 2)=false:=by(have:b.op≠2:=by omega);simpa using this
  rw[q,r] at a
  simp only[Bool.false_eq_true,if_false] at a
  cases g:kL j b.args with
  | none=>rw[g] at a;cases a
  | some i=>
   rw[g] at a
   simp only at a
   split at a
   .injection a with a
    rw[c,VM,VM,VM]
    simp only[fW]
    by_cases o:b.op=18
    .have M:e=2:=by rw[<-a,o];rfl
     subst M
     rw[o]
     exact Cm _ _
    .have s:e=1:=by
      rw[<-a]
      have J:(b.op == 5)=false:=by(have:b.op≠5:=by omega);simpa using this
      have K:(b.op == 6)=false:=by(have:b.op≠6:=by omega);simpa using this
      have G:(b.op == 18)=false:=by simpa using o
      have I:(b.op == 21)=false:=by(have:b.op≠21:=by omega);simpa using this
      unfold mT
      rw[J,K,G,I]
      simp only[Bool.false_eq_true,if_false]
      split<;>rfl
     subst s
     unfold Vz
     split
     .exact uy _ _ _
     .split
      .exact AN _ _ _
      .split
       .rename_i h;exact absurd (by simpa using h) o
       .exact AO _ _ _
   .cases a
 .rw[d] at a
  simp only[show ((21:Int) == 1)=false from rfl,show ((21:Int) == 2)=false from rfl,Bool.false_eq_true,if_false] at a
  cases g:kL j b.args with
  | none=>rw[g] at a;cases a
  | some i=>
   rw[g] at a
   simp only at a
   split at a
   .rename_i t
    injection a with a
    obtain⟨Y,y⟩:=yL g
    obtain⟨f,Q,R⟩:=y 1 v (by rw[c];rfl)
    obtain⟨k,T,V⟩:=y 2 F (by rw[c];rfl)
    have w:i.getD 1 0=f:=by rw[cQ,Q];rfl
    have x:i.getD 2 0=k:=by rw[cQ,T];rfl
    have W:=(C v (by rw[c];simp)).2 f R
    have X:=(C F (by rw[c];simp)).2 k V
    have A:e=(hV f k).1:=by rw[<-a,<-w,<-x];rfl
    have p:(hV f k).2=true:=by
     rw[<-w,<-x]
     have:(mT 21 i).2=((hV (i.getD 1 0) (i.getD 2 0)).2 && iC 1 (i.take 1)):=rfl
     rw[this] at t
     simp only[cc] at t
     exact t.1
    have P:f=0∨f=e:=by
     rw[A];unfold hV
     by_cases l:f=0
     .exact .inl l
     .have:(f == 0)=false:=by simpa using l
      rw[this];exact .inr rfl
    have S:k=0∨k=e:=by
     rw[A];unfold hV at p ⊢
     by_cases l:f=0
     .have:(f == 0)=true:=by simpa using l
      rw[this];exact .inr rfl
     .have:(f == 0)=false:=by simpa using l
      rw[this] at p ⊢
      simp only[Bool.false_eq_true,if_false,Bool.or_eq_true,beq_iff_eq] at p ⊢
      rcases p with h|h
      .exact .inl h
      .exact .inr h.symm
    rw[c,VM,VM,VM,VM]
    simp only[fW]
    have D:∀{u:Int} {n:aH},kr u n->u=0∨u=e->kr e n:=λh m=>by
     rcases h with h|h
     .exact .inl h
     .rcases m with m|m
      .exact .inl (by rw[h,m])
      .exact .inr (by rw[h,m])
    split
    .exact D W P
    .exact D X S
   .cases a
end Go.Proofs.YtklgoolblpmmlaaGreat
