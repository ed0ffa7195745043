import Derived.Test.YtklgoolblpmmlaaGreatExB
set_option linter.all false
set_option maxHeartbeats 2000000
set_option maxRecDepth 100000
namespace Go.Proofs.YtklgoolblpmmlaaGreat
open Go.RowKit Go.Sort Go.Proofs.Tryz
mutual
def cu(d:Ex->Bool):Ex->Int->Int->Int×Int×Bool
 | .mk g f i c,b,a=>if decide (b<1) || decide (a<1) || !d (.mk g f i c) then (0,0,false) else match cx d c b a 1 0 with
  | some (e,h)=>(e,h+1,true)
  | none=>(0,0,false)
def cx(d:Ex->Bool):List Ex->Int->Int->Int->Int->Option (Int×Int)
 | [],_,_,a,h=>some (a,h)
 | e::f,c,b,a,h=>if (cu d e (c-a) (b-1)).2.2 then cx d f c b (a+(cu d e (c-a) (b-1)).1) (max h (cu d e (c-a) (b-1)).2.1) else none
end
mutual
theorem gs(f:Ex->Bool):∀(k:Ex) (c b:Int) {d h:Int},cu f k c b=(d,h,true)->1<=d/\d<=c/\1<=h/\h<=b
 | .mk o n p i,c,b,d,h,a=>by
  rw[cu] at a;split at a;.injection a with _ a;injection a with _ a;cases a
  .rename_i l
   simp only[Bool.or_eq_true,cF,not_or] at l
   cases e:cx f i c b 1 0 with
   | none=>rw[e] at a;simp only at a;injection a with _ a;injection a with _ a;cases a
   | some j=>
    rw[e] at a
    simp only at a
    injection a with m g
    injection g with g _
    have:=mG f i c b 1 0 (c':=j.1) (h':=j.2) (by omega) (by omega) (by omega) (by omega) e
    omega
theorem mG(e:Ex->Bool):∀(j:List Ex) (d c b h:Int) {c' h':Int},1<=b->b<=d->0<=h->h<=c-1->cx e j d c b h=some (c',h')->b<=c'/\c'<=d/\h<=h'/\h'<=c-1
 | [],d,c,b,h,c',h',m,g,o,p,a=>by rw[cx] at a;injection a with a;injection a with q r;omega
 | k::j,d,c,b,h,c',h',m,g,o,p,a=>by rw[cx] at a;split at a;(.rename_i i;obtain⟨f,n,ok,l⟩:∃f g ok,cu e k (d-b) (c-1)=(f,g,ok):=⟨_,_,_,rfl⟩;rw[l] at a i;simp only at a i;subst i;have s:=gs e k (d-b) (c-1) l;have:=mG e j d c (b+f) (max h n) (by omega) (by omega) (by omega) (by omega) a;omega);.cases a
end
theorem mJ(c:Ex->Bool)(a:Ex)(N b:Int):cu c a N b=if decide (N<1) || decide (b<1) || !c a then (0,0,false) else match cx c a.args N b 1 0 with
  | some (d,h)=>(d,h+1,true)
  | none=>(0,0,false):=by cases a;rw[cu];rfl
def bJ(a:Ex):Bool:=(cu bW a 400 40).2.2
mutual
def Ex.fin:Ex->Prop
 | .mk d c b a=>(a.length<=140737488355328/\b.s.size<=140737488355328/\bY b.n/\bY c)/\Ex.ay a
def Ex.ay:List Ex->Prop
 | []=>True
 | a::b=>a.fin/\Ex.ay b
end
section
variable{e:Ex}{W X w:World}{a:Option Addr}{C:List Int}{i j k m n:Nat}{v:Value}{x y z:List aH}{I J:Int}{c:aH}
theorem Ex.an(h:e.fin):(e.args.length<=140737488355328/\e.v.s.size<=140737488355328/\bY e.v.n/\bY e.n)/\Ex.ay e.args:=by
 cases e with
 | mk c b d a=>rw[Ex.fin] at h;exact h
theorem Ex.av:∀{b:List Ex} {c:Ex},Ex.ay b->c∈b->c.fin
 | [],_,_,h=>by cases h
 | d::b,c,a,h=>by rw[Ex.ay] at a;rcases dr h with rfl|h;(.exact a.1);.exact Ex.av a.2 h
theorem Ex.aq{x:Ex}{i:Nat}(h:e.fin)(a:e.args[i]?=some x):x.fin:=Ex.av (Ex.an h).2 (VQ a)
theorem ch{a:Obj}(h:Below (w.alloc a).heap.size (w.alloc a) W):Bw w W:=ac (am VS a) h
theorem yy(x a:Int):(if x<a then a else x)=max x a:=by
 by_cases h:x<a;.rw[ba h];omega
 .rw[VU h];omega
abbrev M3 (a:Int×Int×Bool):Ending:=.returned (.tuple #[.int .i64 a.1,.int .i64 a.2.1,.bool a.2.2])
theorem nN(a:Ex)(V5:a.fin)(N b:Int)(l:Option Addr)(e:Nat)(j:World)(Wz:0<=N)(Wy:N<=40000000)(Wx:0<=b)(Ww:b<=200000)(W:Ex.all j l a.args) (S:∀(t:Nat) (x:Ex),a.args[t]?=some x->∀(z w:Int) (o:Option Addr) (q:Nat) (n:World),0<=z->z<=40000000->0<=w->w<=200000->Ex.all n o x.args->Calls prog 99 #[x.val o q,.int .i64 z,.int .i64 w,.func (.func 100) #[] #[]] n λu P=>u=M3 (cu bW x z w)/\Bw n P):Calls prog 99 #[a.val l e,.int .i64 N,.int .i64 b,.func (.func 100) #[] #[]] j λu P=>u=M3 (cu bW a N b)/\Bw j P:=by
 obtain⟨⟨V6,V8,_,_⟩,_⟩:=Ex.an V5;have p:=H (λn=>vr a l e n V6 V8);obtain⟨A,I⟩:=bn (cu bW a N b)
 have k:Hid (A=if decide (N<1) || decide (b<1) || !bW a then (0,0,false) else match cx bW a.args N b 1 0 with
  | some (e,h)=>(e,h+1,true)
  | none=>(0,0,false)):=by rw[I];exact mJ bW a N b
 rw[<-I];have VW:Hid (ee (j.alloc (a.box l e)) j.heap.size a l e):=ee.new j a l e;have C:=H (am (VT _ j) (a.box l e));have V0:=H S;have VX:=H W;rw[Ex.ad] at p ⊢;clear I W S;by_cases m:N<1;.go_enter func99,ntmps99;go_wp2;refine bs (v:=.tuple #[.int .i64 0,.int .i64 0,.bool false]) (by simp[results,results99,go_sem]) rfl ⟨by rw[U k];simp[m],U C⟩
 by_cases i:b<1;.go_enter func99,ntmps99;go_wp2;refine bs (v:=.tuple #[.int .i64 0,.int .i64 0,.bool false]) (by simp[results,results99,go_sem]) rfl ⟨by rw[U k];simp[i],U C⟩
 obtain⟨We,L⟩:=bn (bW a);rw[<-L] at p k;have M:decide (N<1)=false:=by simpa using m
 have O:decide (b<1)=false:=by simpa using i
 rw[M,O] at k;cases We with
 | false=>clear L M O;go_enter func99,ntmps99;go_wp2_with (go_at_call 100;refine(U p _).mono ?_;rintro V2 Q ⟨rfl,s⟩);refine bs (v:=.tuple #[.int .i64 0,.int .i64 0,.bool false]) (by simp[results,results99,go_sem]) rfl ⟨by rw[U k];rfl,ch s⟩
 | true=>
  clear L M O
  have G:Hid (A=match cx bW a.args N b 1 0 with
   | some (e,h)=>(e,h+1,true)
   | none=>(0,0,false)):=by have:=U k;show _=_;simpa using this
  clear k;go_enter func99,ntmps99;go_wp2_with (go_at_call 100;refine(U p _).mono ?_;rintro V2 Q ⟨rfl,s⟩;obtain⟨Wg,Wh,Wi,c3,Wj,Wk⟩:=(U VW).aa s);have D:=H (ac (U C) s);have VY:=H (Ex.af _ (U VX) (U D));clear s p;go_loopw[11,12,33] (λWc Wd t wr=>∃(c:Nat) (d f:Int),c<=a.args.length/\t=.int .i64 (c:Int)/\Wc=.int .i64 d/\Wd=.int .i64 f/\1<=d/\d<=N/\0<=f/\f<=b-1/\Hid (cx bW a.args N b 1 0=cx bW (a.args.drop c) N b d f)/\Bw Q wr) (λ_ _ t _=>a.args.length-(intOf t).toNat);case atStart=>exact⟨0,1,0,bt,rfl,rfl,rfl,by omega,by omega,by omega,by omega,rfl,VS⟩
  case round=>
   obtain⟨c,d,f,WA,rfl,rfl,rfl,Ws,Wt,Wu,Wv,g,r⟩:=hrel;by_cases V7:c<a.args.length
   .have V4:(c:Int)<(a.args.length:Int):=by omega
    obtain⟨x,B⟩:∃x,a.args[c]?=some x:=⟨_,VR V7⟩
    have Z:a.args.drop c=x::a.args.drop (c+1):=by
     obtain⟨Wa,Wb⟩:=bD B
     rw[gP Wa,Wb]
    obtain⟨WF,WG,V3,Y⟩:=Ex.ag (Ex.af _ (U VY) r) B
    obtain⟨o,q,⟨Wl,Wm,Wn,Wp,Wq,Wr⟩,X⟩:=Ex.ah Y
    have y:=H (U V0 c x B (N-d) (b-1) o q (wr.alloc (x.box o q)) (by omega) (by omega) (by omega) (by omega) (Ex.af _ X (am VS _)))
    rw[Ex.ad] at y
    rw[Z,cx] at g
    obtain⟨V9,K⟩:=bj (cu bW x (N-d) (b-1))
    rw[K] at y g
    have F:=H K
    obtain⟨T,V,ok⟩:=V9
    have R:=H (am r (x.box o q))
    subst V3
    clear B Z Y X K r
    cases ok with
    | false=>
     have E:Hid (A=(0,0,false)):=by have m:=U g;have i:=U G;rw[m] at i;show _=_;simpa using i
     clear g F
     go_wp2_with (go_at_call 99;refine(U y).mono ?_;rintro u Wf ⟨rfl,J⟩)
     refine bs (v:=.tuple #[.int .i64 0,.int .i64 0,.bool false]) (by simp[results,results99,go_sem]) rfl ⟨by rw[U E],ac (U D) (ac (U R) J)⟩
    | true=>
     obtain⟨WB,WC,WD,WE⟩:=gs bW x (N-d) (b-1) (U F)
     have V1:Hid (cx bW a.args N b 1 0=cx bW (a.args.drop (c+1)) N b (d+T) (max f V)):=by have:=U g;show _=_;simpa using this
     clear g F
     go_wp2_with (go_at_call 99;refine(U y).mono ?_;rintro u Wf ⟨rfl,J⟩)
     refine⟨⟨c+1,d+T,max f V,by omega,by go_num,rfl,by rw[yy],by omega,by omega,by omega,by omega,V1,ac (U R) J⟩,by simp[intOf];omega⟩
   ·(have V4:¬(c:Int)<(a.args.length:Int):=by omega);(have E:Hid (A=(d,f+1,true)):=by have m:=U g;have i:=U G;rw[gl (by omega),cx] at m;rw[m] at i;exact i);have VZ:=H (ac (U D) r);clear g G r;go_wp2;refine bs (v:=.tuple #[.int .i64 d,.int .i64 (f+1),.bool true]) (by simp[results,results99,go_sem]) rfl ⟨by rw[U E],U VZ⟩
theorem hR:∀(g:Nat) (a:Ex),a.size<=g->a.fin->∀(c b:Int) (e:Option Addr) (f:Nat) (d:World),0<=c->c<=40000000->0<=b->b<=200000->Ex.all d e a.args->Calls prog 99 #[a.val e f,.int .i64 c,.int .i64 b,.func (.func 100) #[] #[]] d λA B=>A=M3 (cu bW a c b)/\Bw d B
 | 0,a,j,_,_,_,_,_,_,_,_,_,_,_=>by rw[Ex.ak] at j;omega
 | g+1,a,j,i,c,b,e,f,d,u,v,w,x,z=>nN a i c b e f d u v w x z λD C k m l o p n q r s t y=>
  hR g C (by have:=Ex.ar k;omega) (Ex.aq i k) m l o p n q r s t y
theorem hG(a:Ex)(n:a.fin)(d:Option Addr)(f:Nat)(b:World)(g:Ex.all b d a.args):Calls prog 53 #[a.val d f] b λl o=>l=.returned (.bool (bJ a))/\Bw b o:=by
 have c:=H (λj=>hR a.size a bi n 400 40 d f (b.alloc j) (by omega) (by omega) (by omega) (by omega) (Ex.af _ g (am VS j)));obtain⟨k,e⟩:=bj (cu bW a 400 40);have i:bJ a=k.2.2:=by rw[<-e];rfl
 rw[i];rw[e] at c;obtain⟨p,q,ok⟩:=k;rw[Ex.ad] at c ⊢;clear e i g;go_enter func53,ntmps53;go_wp2_with (go_at_call 99;refine(U c _).mono ?_;rintro l r ⟨rfl,m⟩);go_ret;exact⟨rfl,ch m⟩
def bP(g:World)(f:Option Addr)(c:List Int):Prop:=c=[]∨∃a d,f=some ⟨a,d,none⟩/\∀b e,c[b]?=some e->g.cell? ⟨a,d+b,none⟩=some (.int .i64 e)
theorem bP.aa(h:bP w a C)(d:Bw w W):bP W a C:=by
 rcases h with h|⟨b,g,c,h⟩;.exact .inl h
 .exact .inr ⟨b,g,c,λf i e=>ae (h f i e) d⟩
theorem bP.get{k:Nat}{x:Int}(h:bP w a C)(d:C[k]?=some x):∃b c,a=some ⟨b,c,none⟩/\w.cell? ⟨b,c+k,none⟩=some (.int .i64 x):=by
 rcases h with h|⟨b,c,e,h⟩;.rw[h] at d;cases d
 .exact⟨b,c,e,h k x d⟩
theorem C8{α:Type}{p:α->Bool}{a:List α}{x:α}(h:a[n]?=some x)(b:p x=true):a.any p=true:=List.any_eq_true.2 ⟨x,VQ h,b⟩
theorem C7{α:Type}{d:α->Bool}{b:List α}(h:∀a x,a<b.length->b[a]?=some x->d x=false):b.any d=false:=by rw[List.any_eq_false];intro f e;obtain⟨a,c⟩:=List.mem_iff_getElem?.1 e;rw[h a f (bD c).1 c];simp
theorem AV{α:Type}{p:α->Bool}{c:List α}{x:α}(h:∀a x,a<n->c[a]?=some x->p x=false)(f:c[n]?=some x)(e:p x=false):∀a x,a<n+1->c[a]?=some x->p x=false:=by
 intro a g i b;by_cases d:a=n;.subst d;rw[f] at b;injection b with b;rw[<-b];exact e
 .exact h a g (by omega) b
def dh(f:World)(g:Option Addr)(e:List (Int×Bool)):Prop:=e=[]∨∃a c,g=some ⟨a,c,none⟩/\∀b d,e[b]?=some d->f.cell? ⟨a,c+b*2,none⟩=some (.int .i64 d.1)/\f.cell? ⟨a,c+b*2+1,none⟩=some (.bool d.2)
theorem dh.aa{e:List (Int×Bool)}(h:dh w a e)(b:Bw w W):dh W a e:=by
 rcases h with h|⟨g,j,i,h⟩;.exact .inl h
 .exact .inr ⟨g,j,i,λd f c=>⟨ae (h d f c).1 b,ae (h d f c).2 b⟩⟩
theorem dh.get{e:List (Int×Bool)}{i:Nat}{x:Int×Bool}(h:dh w a e)(d:e[i]?=some x):∃b c,a=some ⟨b,c,none⟩/\w.cell? ⟨b,c+i*2,none⟩=some (.int .i64 x.1)/\w.cell? ⟨b,c+i*2+1,none⟩=some (.bool x.2):=by
 rcases h with h|⟨b,c,f,h⟩;.rw[h] at d;simp at d
 .exact⟨b,c,f,h i x d⟩
def ft(f:World)(g:Option Addr)(e:List (Int×Int)):Prop:=e=[]∨∃a c,g=some ⟨a,c,none⟩/\∀b d,e[b]?=some d->f.cell? ⟨a,c+b*2,none⟩=some (.int .i64 d.1)/\f.cell? ⟨a,c+b*2+1,none⟩=some (.int .i64 d.2)
theorem ft.aa{e:List (Int×Int)}(h:ft w a e)(b:Bw w W):ft W a e:=by
 rcases h with h|⟨g,j,i,h⟩;.exact .inl h
 .exact .inr ⟨g,j,i,λd f c=>⟨ae (h d f c).1 b,ae (h d f c).2 b⟩⟩
theorem ft.get{e:List (Int×Int)}{i:Nat}{x:Int×Int}(h:ft w a e)(d:e[i]?=some x):∃b c,a=some ⟨b,c,none⟩/\w.cell? ⟨b,c+i*2,none⟩=some (.int .i64 x.1)/\w.cell? ⟨b,c+i*2+1,none⟩=some (.int .i64 x.2):=by
 rcases h with h|⟨b,c,f,h⟩;.rw[h] at d;simp at d
 .exact⟨b,c,f,h i x d⟩
inductive Pl where
 | mk (op:Int) (tab:ByteArray) (ex:List Ex) (cols:List Int) (keys:List (Int×Bool)) (aggs:List (Int×Int)) (fn col n off:Int) (args:List Pl)
def Pl.op:Pl->Int | .mk a _ _ _ _ _ _ _ _ _ _=>a
def Pl.au:Pl->ByteArray | .mk _ a _ _ _ _ _ _ _ _ _=>a
def Pl.ex:Pl->List Ex | .mk _ _ a _ _ _ _ _ _ _ _=>a
def Pl.cols:Pl->List Int | .mk _ _ _ a _ _ _ _ _ _ _=>a
def Pl.keys:Pl->List (Int×Bool) | .mk _ _ _ _ a _ _ _ _ _ _=>a
def Pl.aggs:Pl->List (Int×Int) | .mk _ _ _ _ _ a _ _ _ _ _=>a
def Pl.fn:Pl->Int | .mk _ _ _ _ _ _ a _ _ _ _=>a
def Pl.aj:Pl->Int | .mk _ _ _ _ _ _ _ a _ _ _=>a
end
def Pl.n:Pl->Int | .mk _ _ _ _ _ _ _ _ a _ _=>a
def Pl.off:Pl->Int | .mk _ _ _ _ _ _ _ _ _ a _=>a
def Pl.args:Pl->List Pl | .mk _ _ _ _ _ _ _ _ _ _ a=>a
mutual
def Pl.size:Pl->Nat
 | .mk _ _ _ _ _ _ _ _ _ _ a=>Pl.aB a+1
def Pl.aB:List Pl->Nat
 | []=>0
 | a::b=>a.size+Pl.aB b
end
theorem Pl.ak(a:Pl):a.size=Pl.aB a.args+1:=by cases a;rw[Pl.size];rfl
theorem Pl.az:∀{b:List Pl} {a:Pl},a∈b->a.size<=Pl.aB b
 | [],_,h=>by cases h
 | c::b,a,h=>by rw[Pl.aB];rcases dr h with rfl|h;(.omega);.have:=Pl.az h;omega
theorem Pl.ar{e x:Pl}{i:Nat}(h:e.args[i]?=some x):x.size<e.size:=by have:=Pl.az (VQ h);rw[Pl.ak e];omega
structure Pm where
 aE:Option Addr
 cE:Nat
 aC:Option Addr
 cC:Nat
 aK:Option Addr
 cK:Nat
 aA:Option Addr
 cA:Nat
 aP:Option Addr
 cP:Nat
def Pl.val(a:Pl)(b:Pm):Value:=.agg #[.int .i64 a.op,.string a.au,.slice b.aE a.ex.length b.cE,.slice b.aC a.cols.length b.cC,.slice b.aK a.keys.length b.cK,.slice b.aA a.aggs.length b.cA,.int .i64 a.fn,.int .i64 a.aj,.int .i64 a.n,.int .i64 a.off,.slice b.aP a.args.length b.cP]
theorem Pl.ad(a:Pl)(b:Pm):a.val b=.agg #[.int .i64 a.op,.string a.au,.slice b.aE a.ex.length b.cE,.slice b.aC a.cols.length b.cC,.slice b.aK a.keys.length b.cK,.slice b.aA a.aggs.length b.cA,.int .i64 a.fn,.int .i64 a.aj,.int .i64 a.n,.int .i64 a.off,.slice b.aP a.args.length b.cP]:=rfl
structure dL(w:World)(b off:Nat)(p:Pl)(m:Pm):Prop where
 c0:w.cell? ⟨b,off,none⟩=some (.int .i64 p.op)
 c1:w.cell? ⟨b,off+1,none⟩=some (.string p.au)
 c2:w.cell? ⟨b,off+2,none⟩=some (.slice m.aE p.ex.length m.cE)
 c3:w.cell? ⟨b,off+3,none⟩=some (.slice m.aC p.cols.length m.cC)
 c4:w.cell? ⟨b,off+4,none⟩=some (.slice m.aK p.keys.length m.cK)
 c5:w.cell? ⟨b,off+5,none⟩=some (.slice m.aA p.aggs.length m.cA)
 c6:w.cell? ⟨b,off+6,none⟩=some (.int .i64 p.fn)
 c7:w.cell? ⟨b,off+7,none⟩=some (.int .i64 p.aj)
 c8:w.cell? ⟨b,off+8,none⟩=some (.int .i64 p.n)
 c9:w.cell? ⟨b,off+9,none⟩=some (.int .i64 p.off)
 c10:w.cell? ⟨b,off+10,none⟩=some (.slice m.aP p.args.length m.cP)
variable{W X w:World}{i j k m n:Nat}{p:Pl}{g:Pm}{a:Option Addr}{C:List Int}{v:Value}{x y z:List aH}{I J:Int}{c:aH}
theorem dL.aa(h:dL w n m p g)(a:Bw w W):dL W n m p g:=
 ⟨ae h.c0 a,ae h.c1 a,ae h.c2 a,ae h.c3 a,ae h.c4 a,ae h.c5 a,ae h.c6 a,ae h.c7 a,ae h.c8 a,ae h.c9 a,ae h.c10 a⟩
structure iO(w:World)(p:Pl)(m:Pm):Prop where
 e:Ex.all w m.aE p.ex
 c:bP w m.aC p.cols
 k:dh w m.aK p.keys
 a:ft w m.aA p.aggs
 n:p.cols.length<=m.cC
theorem iO.aa(h:iO w p g)(a:Bw w W):iO W p g:=⟨Ex.af _ h.e a,h.c.aa a,h.k.aa a,h.a.aa a,h.n⟩
mutual
def Pl.at(c:World)(n o:Nat):Pl->Prop
 | .mk l m f cols i d g e j k a=>∃b,dL c n o (.mk l m f cols i d g e j k a) b/\iO c (.mk l m f cols i d g e j k a) b/\Pl.all c b.aP a
def Pl.all(c:World)(d:Option Addr):List Pl->Prop
 | []=>True
 | e::f=>∃a b,d=some ⟨a,b,none⟩/\Pl.at c a b e/\(Pl.all c (some ⟨a,b+11,none⟩) f)
end
mutual
theorem Pl.aI:∀(f:Pl) {a e:World} {b d:Nat},Pl.at a b d f->Bw a e->Pl.at e b d f
 | .mk t u o cols q m p n r s k,a,e,b,d,h,c=>by rw[Pl.at] at h ⊢;obtain⟨l,g,i,j⟩:=h;exact⟨l,g.aa c,i.aa c,Pl.af k j c⟩
theorem Pl.af:∀(c:List Pl) {a d:World} {b:Option Addr},Pl.all a b c->Bw a d->Pl.all d b c
 | [],a,d,b,h,e=>by rw[Pl.all];trivial
 | g::c,a,d,b,h,e=>by rw[Pl.all] at h ⊢;obtain⟨f,l,i,j,k⟩:=h;exact⟨f,l,i,Pl.aI g j e,Pl.af c k e⟩
end
theorem Pl.ag{k:World}:∀{f:List Pl} {g:Option Addr} {i:Nat} {e:Pl},Pl.all k g f->f[i]?=some e->∃b a,g=some ⟨b,a,none⟩/\Pl.at k b (a+i*11) e
 | [],_,_,_,_,c=>by simp at c
 | p::f,g,0,e,h,c=>by rw[Pl.all] at h;obtain⟨b,a,j,n,_⟩:=h;simp at c;subst c;exact⟨b,a,j,by simpa using n⟩
 | p::f,g,i+1,e,h,c=>by rw[Pl.all] at h;obtain⟨b,a,j,_,o⟩:=h;obtain⟨q,r,d,l⟩:=Pl.ag o (by simpa using c:f[i]?=some e);injection d with d;injection d with d m;subst d m;refine⟨b,a,j,?_⟩;rw[show a+(i+1)*11=a+11+i*11 by omega];exact l
theorem Pl.ah(h:p.at w n m):∃a,dL w n m p a/\iO w p a/\Pl.all w a.aP p.args:=by
 cases p with
 | mk k l d cols f b e c i j g=>rw[Pl.at] at h;exact h
structure hI(w:World)(p:Pl)(m:Pm):Prop where
 o:iO w p m
 p:Pl.all w m.aP p.args
theorem hI.aa(h:hI w p g)(a:Bw w W):hI W p g:=⟨h.o.aa a,Pl.af _ h.p a⟩
abbrev Pl.box (a:Pl) (b:Pm):Obj:=.cells #[.int .i64 a.op,.string a.au,.slice b.aE a.ex.length b.cE,.slice b.aC a.cols.length b.cC,.slice b.aK a.keys.length b.cK,.slice b.aA a.aggs.length b.cA,.int .i64 a.fn,.int .i64 a.aj,.int .i64 a.n,.int .i64 a.off,.slice b.aP a.args.length b.cP] 28
theorem dL.new(c:World)(b:Pl)(a:Pm):dL (c.alloc (b.box a)) c.heap.size 0 b a:=⟨by simp[go_sem],by simp[go_sem],by simp[go_sem],by simp[go_sem],by simp[go_sem],by simp[go_sem],by simp[go_sem],by simp[go_sem],by simp[go_sem],by simp[go_sem],by simp[go_sem]⟩
mutual
def Pl.fin:Pl->Prop
 | .mk l g c cols d b j i f k e=>(g.size<=1048576/\c.length<=1048576/\cols.length<=1048576/\d.length<=1048576/\b.length<=1048576/\e.length<=1048576/\bY f/\(∀a∈cols,bY a)/\(∀a∈d,bY a.1)/\∀a∈b,bY a.2)/\Ex.ay c/\Pl.ay e
def Pl.ay:List Pl->Prop
 | []=>True
 | a::b=>a.fin/\Pl.ay b
end
theorem Pl.an(h:p.fin):(p.au.size<=1048576/\p.ex.length<=1048576/\p.cols.length<=1048576/\p.keys.length<=1048576/\p.aggs.length<=1048576/\p.args.length<=1048576/\bY p.n/\(∀a∈p.cols,bY a)/\(∀a∈p.keys,bY a.1)/\∀a∈p.aggs,bY a.2)/\Ex.ay p.ex/\Pl.ay p.args:=by
 cases p with
 | mk k l d cols f b e c i j g=>rw[Pl.fin] at h;exact h
theorem Pl.av:∀{b:List Pl} {c:Pl},Pl.ay b->c∈b->c.fin
 | [],_,_,h=>by cases h
 | d::b,c,a,h=>by rw[Pl.ay] at a;rcases dr h with rfl|h;(.exact a.1);.exact Pl.av a.2 h
theorem Pl.aq{x:Pl}{i:Nat}(h:p.fin)(a:p.args[i]?=some x):x.fin:=Pl.av (Pl.an h).2.2 (VQ a)
theorem a1{c:Program}{d:Array Oper}{rest:List Oper}{b:Oper}{a:Act}{e:Exit->Act->World->Prop}(m:Region.wanted b (yielded d a.tmps)=true)(i:TypeId)(g:Operand)(n:b.op=Op.load i g)(f:Value)(o:a.eval g=f)(j:Value)(p:(Instr.loadAt i f).run c w=.ok j w) (k:wpList c d e rest (a.put b.dst j) w):wpList c d e (b::rest) a w:=by refine wpList_step λq l=>?_;rw[ba m];unfold Oper.wp;simp only[execOp,n,o,Sem.run_bind,p,Result.andThen];exact l _ _ k
theorem dL.load(h:dL w n m p g):(Instr.loadAt 28 (.pointer (some ⟨n,m,none⟩))).run prog w=.ok (p.val g) w:=by obtain⟨a,b,d,c3,e,f,i,j,k,l,c⟩:=h;unfold Pl.val;go_simp
mutual
def dE:Ex->Prop
 | .mk c b d a=>bW (.mk c b d a)=true/\Vn a
def Vn:List Ex->Prop
 | []=>True
 | a::b=>dE a/\Vn b
end
variable{e:Ex}
theorem dJ(h:dE e):bW e=true/\Vn e.args:=by
 cases e with
 | mk c b d a=>rw[dE] at h;exact h
theorem kS:∀{b:List Ex} {c:Ex},Vn b->c∈b->dE c
 | [],_,_,h=>by cases h
 | d::b,c,a,h=>by rw[Vn] at a;rcases dr h with rfl|h;(.exact a.1);.exact kS a.2 h
theorem m4{x:Ex}(h:dE e)(a:e.args[n]?=some x):dE x:=kS (dJ h).2 (VQ a)
mutual
theorem oC:∀(d:Ex) (c b:Int),(cu bW d c b).2.2=true->dE d
 | .mk j i l g,c,b,a=>by
  rw[cu] at a;split at a;.cases a
  .rename_i e
   simp only[Bool.or_eq_true,Bool.not_eq_true',not_or] at e
   cases f:cx bW g c b 1 0 with
   | none=>rw[f] at a;cases a
   | some k=>
    rw[dE]
    exact⟨by simpa using e.2,mH g c b 1 0 (by rw[f];rfl)⟩
theorem mH:∀(b:List Ex) (d c e h:Int),(cx bW b d c e h).isSome=true->Vn b
 | [],d,c,e,h,a=>by rw[Vn];trivial
 | f::b,d,c,e,h,a=>by rw[cx] at a;split at a;(.rename_i g;rw[Vn];exact⟨oC f _ _ g,mH b _ _ _ _ a⟩);.cases a
end
theorem da{e:Ex}(h:bJ e=true):dE e:=oC e _ _ h
theorem fC(h:bW e=true):(e.args.length:Int)=Vk e.op:=by unfold bW at h;simp only[cc,beq_iff_eq] at h;exact h.1
theorem Vv(h:dE e)(d:Vk e.op=2):∃b c,e.args=[b,c]:=by
 have a:=fC (dJ h).1;rw[d] at a;match f:e.args,a with
 | [b,c],_=>exact⟨b,c,rfl⟩
 | [],a=>simp at a
 | [_],a=>simp at a
 | _::_::_::_,a=>simp at a;omega
def dC(c:World)(a:Nat)(b:Value):Prop:=c.cell? ⟨a,0,none⟩=some b
theorem dC.aa(h:dC w n v)(a:Bw w W):dC W n v:=ae h a
def bX(e:World)(g:Option Addr)(f:List aH):Prop:=
 f=[]∨∃a c,g=some ⟨a,c,none⟩/\∀b d,f[b]?=some d->e.cell? ⟨a,c+b*3,none⟩=some (.int .i64 d.k)/\e.cell? ⟨a,c+b*3+1,none⟩=some (.int .i64 d.n)/\e.cell? ⟨a,c+b*3+2,none⟩=some (.string d.s)
theorem bX.aa(h:bX w a x)(b:Bw w W):bX W a x:=by
 rcases h with h|⟨f,i,g,h⟩;.exact .inl h
 .exact .inr ⟨f,i,g,λd e c=>⟨ae (h d e c).1 b,ae (h d e c).2.1 b,ae (h d e c).2.2 b⟩⟩
theorem bX.lo{x:aH}(h:bX w a y)(d:y[n]?=some x):∃b c,a=some ⟨b,c,none⟩/\w.cell? ⟨b,c+n*3,none⟩=some (.int .i64 x.k)/\w.cell? ⟨b,c+n*3+1,none⟩=some (.int .i64 x.n)/\w.cell? ⟨b,c+n*3+2,none⟩=some (.string x.s):=by
 rcases h with e|⟨b,c,rfl,f⟩;.rw[e] at d;cases d
 .exact⟨b,c,rfl,f n x d⟩
def gW(x:aH):Prop:=bY x.n/\x.s.size<=140737488355328
theorem d4:gW .null:=⟨⟨by show -9223372036854775808<=(0:Int);decide,by show (0:Int)<=9223372036854775807;decide⟩,bt⟩
theorem g4(h:bY I):gW (.num I):=⟨h,bt⟩
theorem kv{x:aH}(h:gW x):gW (bk x):=by
 unfold bk;split;.exact g4 h.1
 .split;(.exact⟨⟨by show -9223372036854775808<=(0:Int);decide,by show (0:Int)<=9223372036854775807;decide⟩,h.2⟩);.exact d4
def jk(a:Int)(x:aH):aH:=if a == 3 then eJ 8 (.num 0) x else if a == 4 then ib x else if a == 5 then (if x.k == 0 then .num 1 else .num 0) else (if x.k == 2 then .num x.s.size else .null)
def Vz(a:Int)(x b:aH):aH:=if decide (a<=11) then eJ a x b else if decide (a<=17) then gh a x b else if a == 18 then ie x b else dW a x b
def fW(b d:Int)(e:aH)(row:List aH):List aH->aH
 | []=>if b == 2 then bk e else if decide ((row.length:Int)<=d) then .null else bk (row.getD d.toNat .null)
 | [a]=>jk b a
 | [a,c]=>Vz b a c
 | a::c::f::_=>if VK a then c else f
mutual
def co(row:List aH):Ex->aH
 | .mk c b d a=>fW c b d row (VM row a)
def VM(row:List aH):List Ex->List aH
 | []=>[]
 | a::b=>co row a::VM row b
end
def cr(a:Nat):Prop:=∀args b,(callFunc a args).run prog b=.ok (.enter a args) b
def lL(d:World)(f:Value)(g:aH->aH):Prop:=∃b e,f=.func (.func b) #[] e/\cr b/\∀a c,Bw d a->gW c->Calls prog b (#[c.v]++e) a λi j=>i=.returned (g c).v/\Bw a j
def sA(e:World)(g:Value)(i:aH->aH->aH):Prop:=∃b f,g=.func (.func b) #[] f/\cr b/\∀a c d,Bw e a->gW c->gW d->Calls prog b (#[c.v,d.v]++f) a λj k=>j=.returned (i c d).v/\Bw a k
def nX(c:World)(f:Value)(i:Ex):Prop:=∃b e,f=.func (.func b) #[] e/\cr b/\∀a d g row,Bw c a->bX a d row->(∀l∈row,gW l)->row.length<=140737488355328->Calls prog b (#[.slice d row.length g]++e) a λj k=>j=.returned (co row i).v/\Bw a k
theorem nX.aa(h:nX w v e)(j:Bw w W):nX W v e:=by obtain⟨l,k,d,f,g⟩:=h;exact⟨l,k,d,f,λa b c row i=>g a b c row (ac j i)⟩
theorem lL.aa{a:aH->aH}(h:lL w v a)(g:Bw w W):lL W v a:=by obtain⟨j,i,c,d,e⟩:=h;exact⟨j,i,c,d,λb k f=>e b k (ac g f)⟩
theorem sA.aa{a:aH->aH->aH}(h:sA w v a)(g:Bw w W):sA W v a:=by obtain⟨j,i,c,d,e⟩:=h;exact⟨j,i,c,d,λb k l f=>e b k l (ac g f)⟩
theorem DY:cr 151:=λargs a=>by kernel_rfl
theorem DX:cr 152:=λargs a=>by kernel_rfl
theorem DW:cr 153:=λargs a=>by kernel_rfl
theorem DV:cr 156:=λargs a=>by kernel_rfl
theorem DU:cr 157:=λargs a=>by kernel_rfl
theorem DT:cr 158:=λargs a=>by kernel_rfl
theorem DS:cr 159:=λargs a=>by kernel_rfl
theorem DR:cr 160:=λargs a=>by kernel_rfl
theorem DQ:cr 162:=λargs a=>by kernel_rfl
theorem DP:cr 163:=λargs a=>by kernel_rfl
theorem D2:cr 103:=λargs a=>by kernel_rfl
theorem D1:cr 105:=λargs a=>by kernel_rfl
theorem D0:cr 106:=λargs a=>by kernel_rfl
theorem hT(a:Int)(b:World):Calls prog 155 #[.int .i64 a] b λc d=>c=.returned (.agg #[.int .i64 1,.int .i64 a,.string ⟨#[]⟩])/\Bw b d:=by go_enter func155,ntmps155;go_wp2;exact bs (v:=.agg #[.int .i64 1,.int .i64 a,.string ⟨#[]⟩]) (by simp[results,results155,go_sem]) rfl ⟨rfl,VS.alloc bi _⟩
theorem dM(a:World):hZ (a.alloc (.cells #[.int .i64 0,.int .i64 0,.string ⟨#[]⟩] 43)) a.heap.size:=by refine⟨?_,?_,?_,?_,?_,?_⟩<;>simp[go_sem]
theorem kD(b:Bw w W)(a:w.heap.size<=n)(c d x:Value):Bw w (((W.setCell ⟨n,0,none⟩ c).setCell ⟨n,1,none⟩ d).setCell ⟨n,2,none⟩ x):=
 (((b.setCell (by simpa using a) _).setCell (by simpa using a) _).setCell (by simpa using a) _)
theorem wb(b:aH)(c:Nat)(e:Option Addr)(g f:Nat)(a:World)(d:eB a c b):Calls prog 151 #[.slice e g f,.pointer (some ⟨c,0,none⟩)] a λi j=>i=.returned b.v/\Bw a j:=by obtain⟨k,l,m⟩:=d.aa (am (VT _ a) (.cells #[.int .i64 0,.int .i64 0,.string ⟨#[]⟩] 43));clear d;go_enter func151,ntmps151;go_wp2;exact bs (v:=b.v) (by simp[results,results151,go_sem,aH.v]) rfl ⟨rfl,VS.alloc bi _⟩
theorem UG(a:Int)(i:Nat)(k:Option Addr)(o:Nat)(row:List aH)(b:World)(A:0<=a)(z:row.length<=140737488355328)(f:dC b i (.int .i64 a))(m:bX b k row):Calls prog 152 #[.slice k row.length o,.pointer (some ⟨i,0,none⟩)] b λn r=>n=.returned (if decide ((row.length:Int)<=a) then aH.null else bk (row.getD a.toNat .null)).v/\Bw b r:=by
 have t:=ae f (am (VT _ b) (.cells #[.int .i64 0,.int .i64 0,.string ⟨#[]⟩] 43));by_cases h:(row.length:Int)<=a;·(have e:(if decide ((row.length:Int)<=a) then aH.null else bk (row.getD a.toNat .null))=.null:=by simp[h]);rw[e];clear f;go_enter func152,ntmps152;go_wp2;exact bs (v:=aH.null.v) (by simp[results,results152,go_sem,aH.v,aH.null]) rfl ⟨rfl,VS.alloc bi _⟩
 .obtain⟨c,rfl⟩:∃c:Nat,a=(c:Int):=⟨a.toNat,by omega⟩;obtain⟨d,g⟩:∃d,row[c]?=some d:=⟨_,VR (by omega)⟩;(have e:(if decide ((row.length:Int)<=(c:Int)) then aH.null else bk (row.getD (c:Int).toNat .null))=bk d:=by(have q:decide ((row.length:Int)<=(c:Int))=false:=by simpa using h);rw[q,Int.toNat_natCast,cQ,g];rfl);rw[e];obtain⟨s,B,rfl,u,w,x⟩:=(m.aa (am (VT _ b) (.cells #[.int .i64 0,.int .i64 0,.string ⟨#[]⟩] 43))).lo g;have j:=H (ec d);rw[aH.open_] at j;generalize bk d=p at *;(have y:(c:Int)<(row.length:Int):=by omega);clear f m g e;go_enter func152,ntmps152;go_wp2_with (go_at_call 47;refine(U j _).mono ?_;rintro n C ⟨rfl,l⟩;rw[aH.open_];obtain⟨D,E,F,G,I,J⟩:=(dM b).aa l);refine bs (v:=p.v) (by simp[results,results152,go_sem,aH.v, *]) rfl ⟨rfl,?_⟩;exact kD (ch l) bi _ _ _
theorem AW(x:aH)(a:World)(p:gW x):Calls prog 153 #[x.v] a λc j=>c=.returned (eJ 8 (.num 0) x).v/\Bw a j:=by
 have k:=H (mi 8 (.num 0) x ⟨by show -9223372036854775808<=(0:Int);decide,by show (0:Int)<=9223372036854775807;decide⟩ p.1);have u:Hid (∀b,Calls prog 154 #[.int .i64 8,.agg #[.int .i64 1,.int .i64 0,.string ⟨#[]⟩],.agg #[.int .i64 x.k,.int .i64 x.n,.string x.s]] b λc j=>c=.returned (eJ 8 (.num 0) x).v/\Bw b j):=λb=>U k b;have t:=H (hT 0);generalize eJ 8 (.num 0) x=e at *;have g:=am (am (VT _ a) (.cells #[.int .i64 x.k,.int .i64 x.n,.string x.s] 43)) (.cells #[.int .i64 0,.int .i64 0,.string ⟨#[]⟩] 43);have i:eB ((a.alloc (.cells #[.int .i64 x.k,.int .i64 x.n,.string x.s] 43)).alloc (.cells #[.int .i64 0,.int .i64 0,.string ⟨#[]⟩] 43)) a.heap.size x:=by refine⟨?_,?_,?_⟩<;>simp[go_sem]
 have d:=dM (a.alloc (.cells #[.int .i64 x.k,.int .i64 x.n,.string x.s] 43));rw[show (a.alloc (.cells #[.int .i64 x.k,.int .i64 x.n,.string x.s] 43)).heap.size=a.heap.size+1 by simp] at d;rw[x.open_];clear k p;go_enter func153,ntmps153;go_upto_region 1 with fail;obtain⟨D,o⟩:=bn ((a.alloc (.cells #[.int .i64 x.k,.int .i64 x.n,.string x.s] 43)).alloc (.cells #[.int .i64 0,.int .i64 0,.string ⟨#[]⟩] 43));rw[<-o] at g i d ⊢;have q:=H g;have s:=H i;have w:=H d;obtain⟨y,z,A⟩:=i;obtain⟨E,F,G,I,J,K⟩:=d;clear o g;go_cut[] (λf=>(f.cell? ⟨a.heap.size+1,0,none⟩=some (.int .i64 e.k)/\f.cell? ⟨a.heap.size+1,1,none⟩=some (.int .i64 e.n)/\f.cell? ⟨a.heap.size+1,2,none⟩=some (.string e.s))/\Bw a f)
 case first=>
  go_region_with (first
   | (go_at_call 155;refine(U t _).mono ?_;rintro c L ⟨rfl,B⟩;have l:=ac ((VT _ D).drew) B;obtain⟨y,z,A⟩:=(U s).aa l)
   | (go_at_call 154;refine(U u _).mono ?_;rintro c M ⟨rfl,C⟩;rw[aH.open_];have m:=ac l C;obtain⟨E,F,G,I,J,K⟩:=(U w).aa m))
  all_goals go_wp2;go_meet;refine⟨⟨by simp[go_sem, *],by simp[go_sem, *],by simp[go_sem, *]⟩,?_⟩;exact kD (ac (U q) m) (by omega) _ _ _
 case rest=>obtain⟨⟨N,O,P⟩,n⟩:=hcut;have r:=H n;clear n;go_wp2;exact bs (v:=e.v) (by simp[results,results153,go_sem,aH.v, *]) rfl ⟨rfl,U r⟩
theorem tx(x:aH)(a:World):Calls prog 157 #[x.v] a λd j=>d=.returned (if x.k == 0 then aH.num 1 else aH.num 0).v/\Bw a j:=by
 have e:=λ(g:World) i=>(dM (a.alloc (.cells #[.int .i64 x.k,.int .i64 x.n,.string x.s] 43))).aa (w1:=g) i;have c:=H e;rw[show (a.alloc (.cells #[.int .i64 x.k,.int .i64 x.n,.string x.s] 43)).heap.size=a.heap.size+1 by simp] at c;rw[x.open_];clear e;rcases dp (x.k == 0) with h|h;.go_enter func157,ntmps157;go_wp2_with (go_at_call 155;refine(hT _ _).mono ?_;rintro d f ⟨rfl,b⟩;obtain⟨k,l,m,n,o,p⟩:=U c _ b);refine bs (v:=(aH.num 1).v) (by simp[results,results157,go_sem,aH.v,aH.num, *]) rfl ⟨by first|rfl | (rw[h];rfl)|simp_all,?_⟩;exact kD (ch (ch b)) (by omega) _ _ _
 .go_enter func157,ntmps157;go_wp2_with (go_at_call 155;refine(hT _ _).mono ?_;rintro d f ⟨rfl,b⟩;obtain⟨k,l,m,n,o,p⟩:=U c _ b);refine bs (v:=(aH.num 0).v) (by simp[results,results157,go_sem,aH.v,aH.num, *]) rfl ⟨by first|rfl | (rw[h];rfl)|simp_all,?_⟩;exact kD (ch (ch b)) (by omega) _ _ _
theorem tn(x:aH)(a:World)(l:x.s.size<=140737488355328):Calls prog 158 #[x.v] a λc i=>c=.returned (if x.k == 2 then aH.num x.s.size else aH.null).v/\Bw a i:=by
 have b:=H (λ(e:World) g=>(dM (a.alloc (.cells #[.int .i64 x.k,.int .i64 x.n,.string x.s] 43))).aa (w1:=e) g);rw[show (a.alloc (.cells #[.int .i64 x.k,.int .i64 x.n,.string x.s] 43)).heap.size=a.heap.size+1 by simp] at b;rw[x.open_];rcases dp (x.k == 2) with h|h;·(have f:(x.k != 2)=false:=by simp[bne,h]);(have k:(x.s.size:Int)<=140737488355328:=by omega);go_enter func158,ntmps158;go_wp2_with (go_at_call 155;refine(hT _ _).mono ?_;rintro c j ⟨rfl,d⟩;obtain⟨m,n,o,p,q,r⟩:=U b _ d);refine bs (v:=(aH.num x.s.size).v) (by simp[results,results158,go_sem,aH.v,aH.num, *]) rfl ⟨by first|rfl | (rw[h];rfl)|simp_all,?_⟩;exact kD (ch (ch d)) (by omega) _ _ _
 ·(have f:(x.k != 2)=true:=by simp[bne,h]);go_enter func158,ntmps158;go_wp2;refine bs (v:=aH.null.v) (by simp[results,results158,go_sem,aH.v,aH.null, *]) rfl ⟨by first|rfl | (rw[h];rfl)|simp_all,?_⟩;exact am (am VS _) _
theorem zI(d:Int)(b c:aH)(a:World):Calls prog 164 #[.int .i64 d,b.v,c.v] a λg i=>g=.returned (dW d b c).v/\Bw a i:=by
 by_cases e:d=19;.subst e;exact zJ b c a
 by_cases f:d=20;.subst f;exact BB b c a
 exact t7 d b c a (by simpa using e) (by simpa using f)
theorem wN(d:Int)(g:Nat)(x a:aH)(b:World)(k:dC b g (.int .i64 d))(n:gW x)(o:gW a):Calls prog 159 #[x.v,a.v,.pointer (some ⟨g,0,none⟩)] b λe f=>e=.returned (eJ d x a).v/\Bw b f:=by have i:Hid (∀c,Calls prog 154 #[.int .i64 d,x.v,a.v] c λe f=>e=.returned (eJ d x a).v/\Bw c f):=λc=>mi d x a n.1 o.1 c;generalize eJ d x a=q at *;rw[x.open_,a.open_] at i ⊢;have l:=am (am (am (VT _ b) (.cells #[.int .i64 x.k,.int .i64 x.n,.string x.s] 43)) (.cells #[.int .i64 a.k,.int .i64 a.n,.string a.s] 43)) (.cells #[.int .i64 0,.int .i64 0,.string ⟨#[]⟩] 43);have s:=ae k l;have j:=H (λ(c:World) p=>(dM ((b.alloc (.cells #[.int .i64 x.k,.int .i64 x.n,.string x.s] 43)).alloc (.cells #[.int .i64 a.k,.int .i64 a.n,.string a.s] 43))).aa (w1:=c) p);rw[show ((b.alloc (.cells #[.int .i64 x.k,.int .i64 x.n,.string x.s] 43)).alloc (.cells #[.int .i64 a.k,.int .i64 a.n,.string a.s] 43)).heap.size=b.heap.size+1+1 by simp] at j;clear k n o l;go_enter func159,ntmps159;go_wp2_with (go_at_call 154;refine(U i _).mono ?_;rintro e r ⟨rfl,m⟩;rw[aH.open_];obtain⟨t,u,w,y,z,A⟩:=U j _ m);refine bs (v:=q.v) (by simp[results,results159,go_sem,aH.v, *]) rfl ⟨rfl,?_⟩;exact kD (ch (ch (ch m))) (by omega) _ _ _
theorem wM(d:Int)(g:Nat)(x a:aH)(b:World)(k:dC b g (.int .i64 d))(o:gW x)(p:gW a):Calls prog 160 #[x.v,a.v,.pointer (some ⟨g,0,none⟩)] b λe f=>e=.returned (gh d x a).v/\Bw b f:=by have i:Hid (∀c,Calls prog 161 #[.int .i64 d,x.v,a.v] c λe f=>e=.returned (gh d x a).v/\Bw c f):=λc=>xD d x a c;generalize gh d x a=q at *;rw[x.open_,a.open_] at i ⊢;have l:=am (am (am (VT _ b) (.cells #[.int .i64 x.k,.int .i64 x.n,.string x.s] 43)) (.cells #[.int .i64 a.k,.int .i64 a.n,.string a.s] 43)) (.cells #[.int .i64 0,.int .i64 0,.string ⟨#[]⟩] 43);have s:=ae k l;have j:=H (λ(c:World) n=>(dM ((b.alloc (.cells #[.int .i64 x.k,.int .i64 x.n,.string x.s] 43)).alloc (.cells #[.int .i64 a.k,.int .i64 a.n,.string a.s] 43))).aa (w1:=c) n);rw[show ((b.alloc (.cells #[.int .i64 x.k,.int .i64 x.n,.string x.s] 43)).alloc (.cells #[.int .i64 a.k,.int .i64 a.n,.string a.s] 43)).heap.size=b.heap.size+1+1 by simp] at j;clear k o p l;go_enter func160,ntmps160;go_wp2_with (go_at_call 161;refine(U i _).mono ?_;rintro e r ⟨rfl,m⟩;rw[aH.open_];obtain⟨t,u,w,y,z,A⟩:=U j _ m);refine bs (v:=q.v) (by simp[results,results160,go_sem,aH.v, *]) rfl ⟨rfl,?_⟩;exact kD (ch (ch (ch m))) (by omega) _ _ _
theorem wL(d:Int)(g:Nat)(x a:aH)(b:World)(k:dC b g (.int .i64 d))(o:gW x)(p:gW a):Calls prog 163 #[x.v,a.v,.pointer (some ⟨g,0,none⟩)] b λe f=>e=.returned (dW d x a).v/\Bw b f:=by have i:Hid (∀c,Calls prog 164 #[.int .i64 d,x.v,a.v] c λe f=>e=.returned (dW d x a).v/\Bw c f):=λc=>zI d x a c;generalize dW d x a=q at *;rw[x.open_,a.open_] at i ⊢;have l:=am (am (am (VT _ b) (.cells #[.int .i64 x.k,.int .i64 x.n,.string x.s] 43)) (.cells #[.int .i64 a.k,.int .i64 a.n,.string a.s] 43)) (.cells #[.int .i64 0,.int .i64 0,.string ⟨#[]⟩] 43);have s:=ae k l;have j:=H (λ(c:World) n=>(dM ((b.alloc (.cells #[.int .i64 x.k,.int .i64 x.n,.string x.s] 43)).alloc (.cells #[.int .i64 a.k,.int .i64 a.n,.string a.s] 43))).aa (w1:=c) n);rw[show ((b.alloc (.cells #[.int .i64 x.k,.int .i64 x.n,.string x.s] 43)).alloc (.cells #[.int .i64 a.k,.int .i64 a.n,.string a.s] 43)).heap.size=b.heap.size+1+1 by simp] at j;clear k o p l;go_enter func163,ntmps163;go_wp2_with (go_at_call 164;refine(U i _).mono ?_;rintro e r ⟨rfl,m⟩;rw[aH.open_];obtain⟨t,u,w,y,z,A⟩:=U j _ m);refine bs (v:=q.v) (by simp[results,results163,go_sem,aH.v, *]) rfl ⟨rfl,?_⟩;exact kD (ch (ch (ch m))) (by omega) _ _ _
theorem lL.of{a b:aH->aH}(h:lL w v a)(c:a=b):lL w v b:=c ▸ h
theorem sA.of{a b:aH->aH->aH}(h:sA w v a)(c:a=b):sA w v b:=c ▸ h
theorem ku(a:Bool):gW (dD a):=by
 cases a;.exact g4 ⟨by decide,by decide⟩
 .exact g4 ⟨by decide,by decide⟩
theorem lW(h:dU I=true):bY I:=by unfold dU at h;simp only[cc,cF] at h;exact h
theorem pS{a:Prop}[Decidable a](h:(if a then some I else none)=some J):a/\I=J:=by
 by_cases b:a;.rw[ba b] at h;injection h with h;exact⟨b,h⟩
 .rw[VU b] at h;cases h
theorem Ak{x:Int}(c:bY x):bY (x.tmod I):=by
 have e:(x.tmod I).natAbs<=x.natAbs:=by rw[Int.natAbs_tmod];exact Nat.mod_le _ _
 obtain⟨f,g⟩:=c;by_cases b:0<=x;.have:=Int.tmod_nonneg I b;exact⟨by omega,by omega⟩
 ·(have d:x.tmod I=-((-x).tmod I):=by rw[Int.neg_tmod];omega);have:=Int.tmod_nonneg I (a:=-x) (by omega);exact⟨by omega,by omega⟩
theorem Az{x b:Int}(c:bY x)(h:dA I x J=some b):bY b:=by
 unfold dA at h;split at h;.obtain⟨a,rfl⟩:=pS h;exact lW a
 split at h;.obtain⟨a,rfl⟩:=pS h;exact lW a
 split at h;.obtain⟨a,rfl⟩:=pS h;exact lW a
 split at h;.split at h;(.cases h);.obtain⟨a,rfl⟩:=pS h;exact lW a
 split at h;.split at h;(.cases h);.injection h with h;rw[<-h];exact Ak c
 .cases h
theorem qK(a:Int)(x b:aH)(c:gW x):gW (eJ a x b):=by
 unfold eJ;split
 .cases h:dA a x.n b.n with
  | none=>exact d4
  | some d=>exact g4 (Az c.1 h)
 .exact d4
theorem xo(a:Int)(x b:aH):gW (gh a x b):=by
 unfold gh;split;.exact d4
 .unfold Vf;split;(.exact ku _);.exact d4
theorem xq(a:Int)(x b:aH):gW (dW a x b):=by
 unfold dW;repeat' split
 all_goals first|exact ku _|exact d4
theorem Ac(x a:aH):gW (ie x a):=by
 unfold ie;split;.rename_i h;simp only[cc,cF] at h;refine⟨⟨by show -9223372036854775808<=(0:Int);decide,by show (0:Int)<=9223372036854775807;decide⟩,?_⟩;show (x.s++a.s).size<=_;rw[ByteArray.size_append];omega
 .exact d4
theorem Ab(x:aH):gW (ib x):=by
 unfold ib;split;.exact ku _
 .exact d4
theorem Aa(b:Int){x:aH}(a:gW x):gW (jk b x):=by
 unfold jk;split;.exact qK _ _ _ (g4 ⟨by decide,by decide⟩)
 .split;(.exact Ab x);.split;(.split;(.exact g4 ⟨by decide,by decide⟩);.exact g4 ⟨by decide,by decide⟩);.split;(.have:=a.2;exact g4 ⟨by omega,by omega⟩);.exact d4
theorem Ur(b:Int){x:aH}(a:gW x)(d:gW c):gW (Vz b x c):=by
 unfold Vz;split;.exact qK _ _ _ a
 .split;(.exact xo _ _ _);.split;(.exact Ac _ _);.exact xq _ _ _
theorem xp{row:List aH}(f:gW c)(e:∀x∈row,gW x):∀(b:List aH),(∀x∈b,gW x)->gW (fW I J c row b)
 | [],_=>by
  show gW (if I == 2 then bk c else if decide ((row.length:Int)<=J) then .null else bk (row.getD J.toNat .null));split;.exact kv f
  .split;.exact d4
   .rw[cQ]
    cases h:row[J.toNat]? with
    | none=>exact kv d4
    | some x=>exact kv (e x (VQ h))
 | [x],h=>Aa I (h x (by simp))
 | [x,a],h=>Ur I (h x (by simp)) (h a (by simp))
 | x::a::d::g,h=>by show gW (if VK x then a else d);split;(.exact h a (by simp));.exact h d (by simp)
mutual
theorem j6{row:List aH}(c:∀x∈row,gW x):∀(b:Ex),b.fin->gW (co row b)
 | .mk f e g d,a=>by rw[Ex.fin] at a;rw[co];exact xp ⟨a.1.2.2.1,a.1.2.1⟩ c _ (rU c d a.2)
theorem rU{row:List aH}(d:∀x∈row,gW x):∀(b:List Ex),Ex.ay b->∀x∈VM row b,gW x
 | [],_=>by rw[VM];intro x a;cases a
 | e::b,c=>by rw[Ex.ay] at c;rw[VM];intro x a;rcases dr a with rfl|a;(.exact j6 d e c.1);.exact rU d b c.2 x a
end
theorem fZ(row:List aH)(a:Ex):co row a=fW a.op a.n a.v row (VM row a.args):=by
 cases a with
 | mk d c e b=>rw[co];rfl
theorem jQ(h:dE e)(j:e.args=[]):(e.op=1/\0<=e.n)∨e.op=2:=by
 have c:=(dJ h).1;have f:=fC c;rw[j] at f;have a:Vk e.op=0:=f.symm;have k:e.op=1∨e.op=2:=by by_cases b:e.op=1;(.exact .inl b);by_cases d:e.op=2;(.exact .inr d);unfold Vk at a;(have g:(e.op == 1)=false:=by simpa using b);(have i:(e.op == 2)=false:=by simpa using d);rw[g,i] at a;simp only[Bool.false_eq_true,if_false] at a;split at a;(.cases a);.split at a;(.cases a);.split at a<;>cases a
 rcases k with b|b;.refine .inl ⟨b,?_⟩;unfold bW at c;rw[b] at c;simp only[cc] at c;simpa using c.2
 .exact .inr b
structure ce(lo:Nat)(N:List Nat)(w w':World):Prop where
 size:w.heap.size<=w'.heap.size
 block:∀b,lo<=b->b<w.heap.size->b ∉ N->w'.heap[b]?=w.heap[b]?
theorem ce.refl(b:Nat)(N:List Nat)(a:World):ce b N a a:=⟨bi,λ_ _ _ _=>rfl⟩
theorem ce.trans{N:List Nat}(h:ce n N w W)(b:ce n N W X):ce n N w X:=
 ⟨cw h.size b.size,λa c d e=>(b.block a c (cN d h.size) e).trans (h.block a c d e)⟩
theorem ce.ab(c:Nat)(N:List Nat)(h:Bw w W):ce c N w W:=⟨h.size,λa _ b _=>h.block a b⟩
theorem ce.aD(a:World)(d:Nat){N:List Nat}(e:Nat)(f:Value)(h:n∈N):ce d N a (a.setCell ⟨n,e,none⟩ f):=
 ⟨by simp[World.setCell],λg _ _ c=>Below.heap_setCell _ _ _ _ (λb=>c (by rw[b];exact h))⟩
theorem ce.more{N N':List Nat}(h:ce m N' w W)(g:m<=n)(e:∀a∈N',a∈N∨a<n∨w.heap.size<=a):ce n N w W:=
 ⟨h.size,λa b c d=>h.block a (cw g b) c λf=>by
  rcases e a f with h|h|h
  .exact d h
  .omega
  .omega⟩
theorem ce.cell{N:List Nat}(h:w.cell? ⟨m,k,none⟩=some v)(c:ce n N w W)(a:n<=m)(b:m ∉ N):W.cell? ⟨m,k,none⟩=some v:=by have d:=ck _ _ h;rw[<-h];unfold World.cell?;rw[c.block m a d b]
mutual
def dV:Ex->Ex
 | .mk a c d b=>.mk a (if a == 1 then c else 0) (if a == 2 then bk d else .null) (f5 b)
def f5:List Ex->List Ex
 | []=>[]
 | a::b=>dV a::f5 b
end
theorem kW:∀a:List Ex,f5 a=a.map dV
 | []=>by rw[f5];rfl
 | b::a=>by rw[f5,kW a];rfl
theorem ka(a:Ex):dV a=.mk a.op (if a.op == 1 then a.n else 0) (if a.op == 2 then bk a.v else .null) (a.args.map dV):=by
 cases a with
 | mk d c e b=>rw[dV,kW];rfl
theorem Bo(a:Ex):(dV a).op=a.op:=by rw[ka];rfl
theorem wO(a:Ex):(dV a).args=a.args.map dV:=by rw[ka];rfl
theorem CZ(a:Ex):(dV a).n=if a.op == 1 then a.n else 0:=by rw[ka];rfl
theorem CY(a:Ex):(dV a).v=if a.op == 2 then bk a.v else .null:=by rw[ka];rfl
theorem sL(a:Ex):bW (dV a)=bW a:=by
 have j:=Bo a;have g:(dV a).args.length=a.args.length:=by rw[wO,bQ]
 have i:=CZ a;have k:=CY a;unfold bW;rw[j,g,i,k];generalize a.op=b;by_cases c:b=1;.subst c;rfl
 .by_cases d:b=2;(.subst d;simp[ly]);·(have e:(b == 1)=false:=by simpa using c);(have f:(b == 2)=false:=by simpa using d);rw[e,f];rfl
mutual
theorem oD:∀(c:Ex) (b a:Int),cu bW (dV c) b a=cu bW c b a
 | .mk g f i e,b,a=>by have d:=sL (.mk g f i e);rw[dV] at d ⊢;rw[cu,cu,d,mI e]
theorem mI:∀(d:List Ex) (b a c h:Int),cx bW (f5 d) b a c h=cx bW d b a c h
 | [],b,a,c,h=>by rw[f5]
 | e::d,b,a,c,h=>by rw[f5,cx,cx,oD e,mI d]
end
theorem nt(a:Ex):bJ (dV a)=bJ a:=by unfold bJ;rw[oD]
mutual
theorem kN(d:Ex->Bool):∀(k:Ex) (c b f e:Int) {g h:Int},cu d k c b=(g,h,true)->c<=f->b<=e->cu d k f e=(g,h,true)
 | .mk q p r j,c,b,f,e,g,h,a,m,n=>by
  rw[cu] at a ⊢;split at a;.injection a with _ a;injection a with _ a;cases a
  .rename_i l
   simp only[Bool.or_eq_true,cF,not_or,Bool.not_eq_true'] at l
   have o:d (.mk q p r j)=true:=by simpa using l.2
   rw[VU (by simp only[Bool.or_eq_true,cF,not_or,Bool.not_eq_true'];exact⟨⟨by omega,by omega⟩,by simp[o]⟩)]
   cases i:cx d j c b 1 0 with
   | none=>rw[i] at a;simp only at a;injection a with _ a;injection a with _ a;cases a
   | some s=>
    rw[i] at a
    rw[mF d j c b f e 1 0 (by rw[i]) m n]
    exact a
theorem mF(g:Ex->Bool):∀(j:List Ex) (c b f e d h:Int) {k:Int×Int},cx g j c b d h=some k->c<=f->b<=e->cx g j f e d h=some k
 | [],c,b,f,e,d,h,k,a,o,i=>by rw[cx] at a ⊢;exact a
 | n::j,c,b,f,e,d,h,k,a,o,i=>by rw[cx] at a ⊢;split at a;(.rename_i l;obtain⟨m,q,ok,p⟩:∃m i ok,cu g n (c-d) (b-1)=(m,i,ok):=⟨_,_,_,rfl⟩;rw[p] at a l;simp only at a l;subst l;rw[kN g n (c-d) (b-1) (f-d) (e-1) p (by omega) (by omega)];simp only[if_true];exact mF g j c b f e _ _ a o i);.cases a
end
theorem oE(f:Ex->Bool):∀(j:List Ex) (b a c h:Int) (g:Ex),1<=c->0<=h->(cx f j b a c h).isSome=true->g∈j->∃l k,l<=b/\k<=a/\(cu f g l k).2.2=true
 | [],b,a,c,h,g,_,_,d,e=>by cases e
 | n::j,b,a,c,h,g,r,o,d,e=>by rw[cx] at d;split at d;(.rename_i i;rcases dr e with rfl|e;(.exact⟨b-c,a-1,by omega,by omega,i⟩);.obtain⟨m,s,ok,p⟩:∃m o ok,cu f n (b-c) (a-1)=(m,o,ok):=⟨_,_,_,rfl⟩;rw[p] at d i;simp only at d i;subst i;have q:=gs f n (b-c) (a-1) p;exact oE f j b a _ _ g (by omega) (by omega) d e);.cases d
theorem hE{e x:Ex}(h:bJ e=true)(k:e.args[n]?=some x):bJ x=true:=by
 unfold bJ at h ⊢;rw[mJ] at h;split at h;.cases h
 .cases i:cx bW e.args 400 40 1 0 with
  | none=>rw[i] at h;cases h
  | some m=>
   obtain⟨d,c,j,a,b⟩:=oE bW e.args 400 40 1 0 x (by omega) (by omega) (by rw[i];rfl) (VQ k)
   obtain⟨f,l,ok,g⟩:∃f a ok,cu bW x d c=(f,a,ok):=⟨_,_,_,rfl⟩
   rw[g] at b
   simp only at b
   subst b
   rw[kN bW x d c 400 40 g j a]
def dq(a:Ex):Ex:=.mk a.op (if a.op == 1 then a.n else 0) (if a.op == 2 then bk a.v else .null) []
mutual
def ek(b:Ex->Ex):Ex->Ex
 | .mk a d e c=>b (.mk a (if a == 1 then d else 0) (if a == 2 then bk e else .null) (lq b c))
def lq(a:Ex->Ex):List Ex->List Ex
 | []=>[]
 | b::c=>ek a b::lq a c
end
theorem oL(b:Ex->Ex):∀a:List Ex,lq b a=a.map (ek b)
 | []=>by rw[lq];rfl
 | c::a=>by rw[lq,oL b a];rfl
def jb(b:Ex->Ex)(a:Ex):Ex:=.mk a.op (if a.op == 1 then a.n else 0) (if a.op == 2 then bk a.v else .null) (a.args.map (ek b))
theorem yz(b:Ex->Ex)(a:Ex):ek b a=b (jb b a):=by
 cases a with
 | mk e d f c=>rw[ek,oL];rfl
mutual
theorem oK:∀a:Ex,ek id a=dV a
 | .mk d c e b=>by rw[ek,dV,mK b];rfl
theorem mK:∀a:List Ex,lq id a=f5 a
 | []=>by rw[lq,f5]
 | b::a=>by rw[lq,f5,oK b,mK a]
end
mutual
def Ex.short:Ex->Prop
 | .mk _ _ _ a=>a.length<=1000000000/\Ex.aG a
def Ex.aG:List Ex->Prop
 | []=>True
 | a::b=>a.short/\Ex.aG b
end
theorem Ex.aN(h:e.short):e.args.length<=1000000000/\Ex.aG e.args:=by
 cases e with
 | mk c b d a=>rw[Ex.short] at h;exact h
theorem Ex.aM:∀{b:List Ex} {c:Ex},Ex.aG b->c∈b->c.short
 | [],_,_,h=>by cases h
 | d::b,c,a,h=>by rw[Ex.aG] at a;rcases dr h with rfl|h;(.exact a.1);.exact Ex.aM a.2 h
theorem Ex.aZ{x:Ex}(h:e.short)(a:e.args[n]?=some x):x.short:=Ex.aM (Ex.aN h).2 (VQ a)
mutual
theorem mE(d:Ex->Bool):∀(i:Ex) (a b:Int),a<=1000000000->(cu d i a b).2.2=true->i.short
 | .mk n m o g,a,b,j,c=>by
  rw[cu] at c;split at c;.cases c
  .rename_i k
   simp only[Bool.or_eq_true,cF,not_or] at k
   cases f:cx d g a b 1 0 with
   | none=>rw[f] at c;cases c
   | some e=>
    rw[Ex.short]
    have:=lm d g a b 1 0 (q:=e) (by omega) (by omega) (by omega) (by omega) j f
    have l:=mG d g a b 1 0 (c':=e.1) (h':=e.2) (by omega) (by omega) (by omega) (by omega) f
    exact⟨by omega,this.2⟩
theorem lm(f:Ex->Bool):∀(e:List Ex) (c d a h:Int) {q:Int×Int},1<=a->a<=c->0<=h->h<=d-1->c<=1000000000->cx f e c d a h=some q->a+e.length<=q.1/\Ex.aG e
 | [],c,d,a,h,q,n,k,p,r,l,b=>by rw[cx] at b;injection b with b;subst b;exact⟨by show a+((0:Nat):Int)<=a;omega,by rw[Ex.aG];trivial⟩
 | j::e,c,d,a,h,q,n,k,p,r,l,b=>by rw[cx] at b;split at b;(.rename_i g;have s:=mE f j (c-a) (d-1) (by omega) g;obtain⟨i,o,ok,m⟩:∃i k ok,cu f j (c-a) (d-1)=(i,k,ok):=⟨_,_,_,rfl⟩;rw[m] at b g;simp only at b g;subst g;have t:=gs f j (c-a) (d-1) m;have:=lm f e c d (a+i) (max h o) (by omega) (by omega) (by omega) (by omega) l b;rw[Ex.aG,dY];exact⟨by omega,s,this.2⟩);.cases b
end
theorem qi(a:aH)(b:World):Calls prog 231 #[a.v] b λc d=>c=.returned ((Ex.mk 2 0 a []).val none 0)/\Bw b d:=by rw[aH.open_];go_enter func231,ntmps231;go_wp2;refine bs (v:=(Ex.mk 2 0 a []).val none 0) (by simp[results,results231,go_sem,Ex.val,Ex.op,Ex.n,Ex.v,Ex.args]) rfl ?_;exact⟨rfl,by first|exact VS|exact am VS _|exact am (am VS _) _⟩
def U6(b:World)(a:Nat)(e:Ex)(c:Option Addr)(d:Nat):Prop:=ee b a e c d/\(b.frozen? ⟨a,0,none⟩=false/\b.frozen? ⟨a,1,none⟩=false/\b.frozen? ⟨a,2,none⟩=false/\b.frozen? ⟨a,3,none⟩=false/\b.frozen? ⟨a,4,none⟩=false/\b.frozen? ⟨a,5,none⟩=false)
theorem U6.aa{w1:World}(h:U6 w n e a m)(f:Bw w w1):U6 w1 n e a m:=by obtain⟨d,g,i,j,k,l,o⟩:=h;obtain⟨p,b⟩:=cO f;have c:n<w.heap.size:=ck w _ d.1;refine⟨d.aa f,?_⟩;rw[b _ _ c,b _ _ c,b _ _ c,b _ _ c,b _ _ c,b _ _ c];exact⟨g,i,j,k,l,o⟩
theorem U6.new(d:World)(c:Ex)(a:Option Addr)(b:Nat):U6 (d.alloc (c.box a b)) d.heap.size c a b:=⟨ee.new d c a b,by simp[go_sem],by simp[go_sem],by simp[go_sem],by simp[go_sem],by simp[go_sem],by simp[go_sem]⟩
abbrev n3:Ex:=.mk 0 0 .null []
theorem x3(b:Bw w W)(a:w.heap.size<=n)(c d e f g i:Value):Bw w ((((((W.setCell ⟨n,0,none⟩ c).setCell ⟨n,1,none⟩ d).setCell ⟨n,2,none⟩ e).setCell ⟨n,3,none⟩ f).setCell ⟨n,4,none⟩ g).setCell ⟨n,5,none⟩ i):=
 ((((((b.setCell (by simpa using a) _).setCell (by simpa using a) _).setCell (by simpa using a) _).setCell (by simpa using a) _).setCell (by simpa using a) _).setCell (by simpa using a) _)
theorem mC(a:Ex)(c:Option Addr)(d:Nat)(b:World):Calls prog 230 #[a.val c d] b λm y=>m=.returned ((dq a).val none 0)/\Bw b y:=by
 have n:=H (λl=>ec a.v l);have w:=H (λl=>qi (bk a.v) l);have f:=H (am (VT _ b) (.cells #[.int .i64 a.op,.int .i64 a.n,.int .i64 a.v.k,.int .i64 a.v.n,.string a.v.s,.slice c a.args.length d] 45));have z:Hid (ee (b.alloc (.cells #[.int .i64 a.op,.int .i64 a.n,.int .i64 a.v.k,.int .i64 a.v.n,.string a.v.s,.slice c a.args.length d] 45)) b.heap.size a c d):=ee.new b a c d;obtain⟨k,e⟩:=bn ((dq a).val none 0);rw[<-e];by_cases g:a.op=1;·(have i:k=.agg #[.int .i64 1,.int .i64 a.n,.int .i64 0,.int .i64 0,.string ⟨#[]⟩,.slice none 0 0]:=by rw[e,show dq a=.mk 1 a.n .null [] by unfold dq;rw[g];rfl];rfl);subst i;clear e;rw[Ex.ad,g];rw[g] at f;go_enter func230,ntmps230;go_wp2;refine bs (v:=.agg #[.int .i64 1,.int .i64 a.n,.int .i64 0,.int .i64 0,.string ⟨#[]⟩,.slice none 0 0]) (by simp[results,results230,go_sem]) rfl ?_;exact⟨rfl,am (U f) _⟩
 by_cases j:a.op=2
 .have i:k=(Ex.mk 2 0 (bk a.v) []).val none 0:=by rw[e,show dq a=.mk 2 0 (bk a.v) [] by unfold dq;rw[j];rfl]
  subst i;clear e g;rw[Ex.ad,j];rw[j] at f;rw[aH.open_] at n;have u:=H (am (U f) (n3.box none 0));have o:=H (U6.new (b.alloc (.cells #[.int .i64 2,.int .i64 a.n,.int .i64 a.v.k,.int .i64 a.v.n,.string a.v.s,.slice c a.args.length d] 45)) n3 none 0);have t:(b.alloc (.cells #[.int .i64 2,.int .i64 a.n,.int .i64 a.v.k,.int .i64 a.v.n,.string a.v.s,.slice c a.args.length d] 45)).heap.size=b.heap.size+1:=by simp[go_sem]
  rw[t] at o;clear t;generalize bk a.v=x at *;go_enter func230,ntmps230
  go_wp2_with (first
   | (go_at_call 47;refine(U n _).mono ?_;rintro m G ⟨rfl,r⟩)
   | (go_at_call 231;refine(U w _).mono ?_;rintro m I ⟨rfl,s⟩;obtain⟨⟨J,K,L,M,N,O⟩,A,B,C,D,E,F⟩:=(U o).aa (ac r s);rw[Ex.ad]))
  refine bs (v:=(Ex.mk 2 0 x []).val none 0) (by simp[results,results230,go_sem,Ex.val,Ex.op,Ex.n,Ex.v,Ex.args, *]) rfl ?_;exact⟨rfl,x3 (ac (ac (U u) r) s) (by omega) _ _ _ _ _ _⟩
 ·(have p:(a.op == 1)=false:=by simpa using g);(have q:(a.op == 2)=false:=by simpa using j);(have i:k=.agg #[.int .i64 a.op,.int .i64 0,.int .i64 0,.int .i64 0,.string ⟨#[]⟩,.slice none 0 0]:=by rw[e,show dq a=.mk a.op 0 .null [] by unfold dq;rw[p,q];rfl];rfl);subst i;clear e p q;rw[Ex.ad];go_enter func230,ntmps230;go_wp2;refine bs (v:=.agg #[.int .i64 a.op,.int .i64 0,.int .i64 0,.int .i64 0,.string ⟨#[]⟩,.slice none 0 0]) (by simp[results,results230,go_sem]) rfl ?_;exact⟨rfl,am (U f) _⟩
def cd:List aH->List aH->Int
 | [],[]=>0
 | [],_::_=>-1
 | _::_,[]=>1
 | a::c,b::d=>if dk a b=0 then cd c d else dk a b
theorem ol{x:aH}(d:y[n]?=some x)(e:z[n]?=some c):cd (y.drop n) (z.drop n)=if dk x c=0 then cd (y.drop (n+1)) (z.drop (n+1)) else dk x c:=by obtain⟨a,rfl⟩:=bD d;obtain⟨b,rfl⟩:=bD e;rw[gP a,gP b,cd]
structure El where
 v:Value
 t:Nat
 r:List aH
def El.nil:El:=⟨.int .i64 0,0,[]⟩
structure Od where
 f:El->El->Int
 anti:∀x y,f x y=- f y x
 tr:∀x y z,f x y<=0->f y z<=0->f x z<=0
def BQ(a:List El)(b:Nat):El:=a.getD b El.nil
structure xh(a b:Nat)(L L':List El):Prop where
 perm:L'.Perm L
 out:∀k,k<a∨b<=k->BQ L' k=BQ L k
 ins:∀k,a<=k->k<b->∃j,a<=j/\j<b/\BQ L' k=BQ L j
theorem xh.len{a b:List El}(h:xh n m a b):b.length=a.length:=h.perm.length_eq
theorem xh.refl(b c:Nat)(a:List El):xh b c a a:=⟨List.Perm.refl _,λ_ _=>rfl,λf d e=>⟨f,d,e,rfl⟩⟩
theorem xh.trans{c d e:List El}(h:xh n m c d)(b:xh n m d e):xh n m c e:=
 ⟨b.perm.trans h.perm,λa f=>(b.out a f).trans (h.out a f),λa i j=>by
  obtain⟨r,k,l,o⟩:=b.ins a i j
  obtain⟨s,p,q,g⟩:=h.ins r k l
  exact⟨s,p,q,o.trans g⟩⟩
def Dc(f:Od)(d e:Nat)(c:List El):Prop:=∀a b,d<=a->a<b->b<e->f.f (BQ c a) (BQ c b)<=0
theorem Dc.one{b:Od}(h:m<=n+1)(a:List El):Dc b n m a:=λf g c d e=>by omega
theorem Dc.out{g:Od}{d:Nat}{a b:List El}(h:Dc g n m a)(c:xh k d a b)(o:m<=k∨d<=n):Dc g n m b:=λe f i j l=>by
 rw[c.out e (by omega),c.out f (by omega)]
 exact h e f i j l
def TR(c d:Nat)(b:List El):Prop:=∀a,c<=a->a<d->c<=(BQ b a).t/\(BQ b a).t<d
def BS(d:Od)(b c:Nat)(a:List El):Prop:=Dc d b c a/\TR b c a
theorem BS.nil{b:Od}(h:m<=n)(a:List El):BS b n m a:=⟨Dc.one (by omega) a,λe c d=>by omega⟩
theorem BS.out{f:Od}{d:Nat}{a b:List El}(h:BS f n m a)(c:xh k d a b)(j:m<=k∨d<=n):BS f n m b:=⟨h.1.out c j,λe g i=>by rw[c.out e (by omega)];exact h.2 e g i⟩
theorem iF(d:n ∣ m)(e:n ∣ k)(h:m<k):m+n<=k:=by
 obtain⟨b,rfl⟩:=d;obtain⟨c,rfl⟩:=e;have:b<c:=by rcases Nat.lt_or_ge b c with a|a;(.exact a);.have:=Nat.mul_le_mul_left n a;omega
 have:=Nat.mul_le_mul_left n this;rw[Nat.succ_eq_add_one,Nat.mul_add,Nat.mul_one] at this;exact this
def EM(e:Od)(c b:Nat)(d:List El):Prop:=∀a,c ∣ a->a<b->BS e a (min (a+c) b) d
def Dn(e:Od)(f g d c:Nat)(b:List El):Prop:=(∀a,f ∣ a->a<c->BS e a (a+f) b)/\∀a,g ∣ a->c<=a->a<d->BS e a (min (a+g) d) b
theorem Dn.step{d:Od}{e c:List El}(h:Dn d n m k j e)(r:0<n)(l:n ∣ j)(o:xh j (j+n) e c)(q:BS d j (j+n) c):Dn d n m k (j+n) c:=by
 refine⟨λa b g=>?_,λa b g p=>(h.2 a b (by omega) p).out o (.inr g)⟩;by_cases f:a<j;.exact(h.1 a b f).out o (.inl (iF b l f))
 .have:a=j:=by
   rcases Nat.lt_or_ge j a with i|i
   .have:=iF l b i;omega
   .omega
  rw[this];exact q
theorem Dn.done{d:Od}{b:List El}(h:∀a,n ∣ a->a<k->BS d a (a+n) b)(g:n ∣ k)(l:k<=m)(o:m<k+n)(i:BS d k m b):EM d n m b:=λa c j=>by
 by_cases e:a<k
 .have:=iF c g e
  rw[Nat.min_eq_left (by omega)]
  exact h a c e
 .have:a=k:=by
   rcases Nat.lt_or_ge k a with f|f
   .have:=iF g c f;omega
   .omega
  rw[this,Nat.min_eq_right (by omega)]
  exact i
theorem Dn.out{f:Od}{b c:List El}(h:Dn f n m k j b)(g:n ∣ j)(l:xh j i b c):∀a,n ∣ a->a<j->BS f a (a+n) c:=λa d e=>(h.1 a d e).out l (.inl (iF d g e))
end Go.Proofs.YtklgoolblpmmlaaGreat
