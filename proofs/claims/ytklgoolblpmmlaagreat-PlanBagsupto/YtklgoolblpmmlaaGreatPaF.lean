import Derived.Test.YtklgoolblpmmlaaGreatOwnA
import Derived.Test.YtklgoolblpmmlaaGreatExO
import Derived.Maps.AppendAt
import Derived.Laws.AppendOwnNone
import Derived.Lib.SliceRun
set_option linter.all false
set_option maxHeartbeats 2000000
set_option maxRecDepth 100000
namespace Go.Proofs.YtklgoolblpmmlaaGreat
open Go.RowKit Go.Sort Go.Proofs.Tryz
abbrev Nd:=Ex×Option Addr×Nat
def sh(a:Nd):List Value:=[.int .i64 a.1.op,.int .i64 a.1.n,.int .i64 a.1.v.k,.int .i64 a.1.v.n,.string a.1.v.s,.slice a.2.1 a.1.args.length a.2.2]
theorem tB:(Tryz.prog.info? 45).map (λa=>(a.zero,a.size,a.bytes))=some (some (.agg #[.int .i64 0,.int .i64 0,.int .i64 0,.int .i64 0,.string ⟨#[]⟩,.slice none 0 0]),6,72):=by kernel_rfl
def eS(c:World)(base:Nat)(b:Value)(a:List Nd):Prop:=c.ownsRow base 45 6 b a.length (a.flatMap sh)
variable{W w:World}{v:Value}{i j k m n:Nat}{a:Option Addr}{L:List Ex}
theorem eS.aa{w1:World}{base:Nat}{a:List Nd}(h:eS w base v a)(b:Bw w w1):eS w1 base v a:=hz h b
theorem ld:∀(d:List Nd) (c a:Nat) (b:Nd),d[c]?=some b->a<6->(d.flatMap sh)[c*6+a]?=(sh b)[a]?
 | [],c,a,b,h,_=>by simp at h
 | g::d,0,a,b,h,e=>by simp at h;subst h;rw[eA,eK (by simp[sh];omega)];simp
 | g::d,c+1,a,b,h,e=>by have f:=ld d c a b (by simpa using h) e;rw[eA,ez (by simp[sh];omega)];rw[<-f];congr 1;simp[sh];omega
theorem sN(a:List Nd):(a.flatMap sh).length=a.length*6:=by
 induction a with
 | nil=>rfl
 | cons c a b=>rw[eA,bG,b];simp[sh];omega
theorem xQ(d:List Nd):∀b∈d.flatMap sh,b.oneCell'=true:=by intro b c;obtain⟨e,_,a⟩:=List.mem_flatMap.1 c;simp[sh] at a;rcases a with rfl|rfl|rfl|rfl|rfl|rfl<;>rfl
theorem xP:∀(c:List Nd) (a:Nat) (b:Nd),a<c.length->((((((c.flatMap sh).set (a*6) (.int .i64 b.1.op)).set (a*6+1) (.int .i64 b.1.n)).set (a*6+2) (.int .i64 b.1.v.k)).set (a*6+3) (.int .i64 b.1.v.n)).set (a*6+4) (.string b.1.v.s)).set (a*6+5) (.slice b.2.1 b.1.args.length b.2.2)=(c.set a b).flatMap sh
 | [],a,b,h=>by simp at h
 | i::c,0,b,_=>by simp[sh]
 | i::c,a+1,b,h=>by have g:=xP c a b (by simpa using h);rw[List.set_cons_succ,eA,eA,<-g];simp only[sh,eL,dK];(have d:∀e,(a+1)*6+e=(a*6+e)+1+1+1+1+1+1:=by omega);(have f:(a+1)*6=a*6+1+1+1+1+1+1:=by omega);rw[d 1,d 2,d 3,d 4,d 5,f];simp only[List.set_cons_succ]
theorem eS.len{base N:Nat}{b:List Nd}(h:eS w base (.slice (some ⟨n,0,none⟩) N m) b):N=b.length:=by
 rcases h.2 with ⟨a,_⟩|⟨e,c,d,a,_⟩
 .cases a
 .injection a
theorem eS.put{base N:Nat}{a:List Nd}(h:eS w base (.slice (some ⟨n,0,none⟩) N m) a)(j:k<a.length)(x:Nd):eS ((((((w.setCell ⟨n,k*6,none⟩ (.int .i64 x.1.op)).setCell ⟨n,k*6+1,none⟩ (.int .i64 x.1.n)).setCell ⟨n,k*6+2,none⟩ (.int .i64 x.1.v.k)).setCell ⟨n,k*6+3,none⟩ (.int .i64 x.1.v.n)).setCell ⟨n,k*6+4,none⟩ (.string x.1.v.s)).setCell ⟨n,k*6+5,none⟩ (.slice x.2.1 x.1.args.length x.2.2)) base (.slice (some ⟨n,0,none⟩) N m) (a.set k x):=by have i:=h.len;subst i;have c:=(World.ownsRow.stored h (k*6) (.int .i64 x.1.op)).1;have d:=(World.ownsRow.stored c (k*6+1) (.int .i64 x.1.n)).1;have e:=(World.ownsRow.stored d (k*6+2) (.int .i64 x.1.v.k)).1;have f:=(World.ownsRow.stored e (k*6+3) (.int .i64 x.1.v.n)).1;have g:=(World.ownsRow.stored f (k*6+4) (.string x.1.v.s)).1;have b:=(World.ownsRow.stored g (k*6+5) (.slice x.2.1 x.1.args.length x.2.2)).1;rw[xP a k x j] at b;unfold eS;rw[List.length_set];exact b
def d3(d:World)(b c:Nat)(a:Nd):Prop:=d.cell? ⟨b,c,none⟩=some (.int .i64 a.1.op)/\d.cell? ⟨b,c+1,none⟩=some (.int .i64 a.1.n)/\d.cell? ⟨b,c+2,none⟩=some (.int .i64 a.1.v.k)/\d.cell? ⟨b,c+3,none⟩=some (.int .i64 a.1.v.n)/\d.cell? ⟨b,c+4,none⟩=some (.string a.1.v.s)/\d.cell? ⟨b,c+5,none⟩=some (.slice a.2.1 a.1.args.length a.2.2)
theorem eS.facts{base N:Nat}{a:List Nd}{x:Nd}(h:eS w base (.slice (some ⟨n,0,none⟩) N m) a)(b:a[k]?=some x):d3 w n (k*6) x/\(w.frozen? ⟨n,k*6,none⟩=false/\w.frozen? ⟨n,k*6+1,none⟩=false/\w.frozen? ⟨n,k*6+2,none⟩=false/\w.frozen? ⟨n,k*6+3,none⟩=false/\w.frozen? ⟨n,k*6+4,none⟩=false/\w.frozen? ⟨n,k*6+5,none⟩=false):=by
 have c:=h.len;subst c;have d:=(bD b).1;refine⟨⟨?_,?_,?_,?_,?_,?_⟩,World.ownsRow.frozenAt h _,World.ownsRow.frozenAt h _,World.ownsRow.frozenAt h _,World.ownsRow.frozenAt h _,World.ownsRow.frozenAt h _,World.ownsRow.frozenAt h _⟩;.rw[World.ownsRow.cellAt h (k*6) (by omega)];exact ld a k 0 x b (by omega)
 .rw[World.ownsRow.cellAt h (k*6+1) (by omega)];exact ld a k 1 x b (by omega)
 .rw[World.ownsRow.cellAt h (k*6+2) (by omega)];exact ld a k 2 x b (by omega)
 .rw[World.ownsRow.cellAt h (k*6+3) (by omega)];exact ld a k 3 x b (by omega)
 .rw[World.ownsRow.cellAt h (k*6+4) (by omega)];exact ld a k 4 x b (by omega)
 .rw[World.ownsRow.cellAt h (k*6+5) (by omega)];exact ld a k 5 x b (by omega)
theorem eS.some{base:Nat}{d:List Nd}(h:eS w base (.slice a n m) d)(k:0<d.length):∃b,a=some ⟨b,0,none⟩/\base<=b/\b<w.heap.size:=by
 rcases h.2 with ⟨_,j⟩|⟨b,g,i,c,e,f,_⟩
 .omega
 .injection c with c;exact⟨b,c,e,(Array.getElem?_eq_some_iff.1 f).1⟩
theorem eS.slice{base:Nat}{a:List Nd}(h:eS w base v a):∃c b,v=.slice c a.length b:=by
 rcases h.2 with ⟨rfl,d⟩|⟨f,b,e,rfl,_⟩
 .have:a=[]:=dF d;subst this;exact⟨none,0,rfl⟩
 .exact⟨_,b,rfl⟩
theorem pf{l:World}:∀(f:List Ex) (g:Option Addr),Ex.all l g f->∃d:List Nd,d.map (·.1)=f/\(∀a∈d,Ex.all l a.2.1 a.1.args)/\(f=[]∨∃i e,g=some ⟨i,e,none⟩/\∀c a,d[c]?=some a->d3 l i (e+c*6) a)
 | [],g,_=>⟨[],rfl,by simp,.inl rfl⟩
 | p::f,g,h=>by
  rw[Ex.all] at h;obtain⟨i,e,rfl,t,u⟩:=h;obtain⟨n,o,w,v⟩:=Ex.ah t;obtain⟨d,m,s,k⟩:=pf f _ u;refine⟨(p,n,o)::d,by simp[m],?_,.inr ⟨i,e,rfl,?_⟩⟩;.intro a b;rcases dr b with rfl|b;(.exact v);.exact s a b
  .intro c a b
   cases c with
   | zero=>
    simp at b
    subst b
    simpa [d3] using w
   | succ c=>
    rcases k with rfl|⟨x,y,j,k⟩
    .have:d=[]:=by cases d with
      | nil=>rfl
      | cons _ _=>simp at m
     subst this
     simp at b
    .injection j with j
     injection j with q r
     subst q r
     have:=k c a (by simpa using b)
     rw[show e+(c+1)*6=e+6+c*6 by omega]
     exact this
theorem UX{c:List Nd}(h:∀j k,c[j]?=some k->d3 w n (m+j*6) k):∀a f,(c.flatMap sh)[a]?=some f->w.cell? ((⟨n,m,none⟩:Addr).add a)=some f:=by
 intro a f g;rw[Addr.add_lit];have t:a<c.length*6:=by rw[<-sN];exact(bD g).1
 obtain⟨e,i⟩:∃e,c[a / 6]?=some e:=⟨_,VR (by omega)⟩;have d:=ld c (a / 6) (a % 6) e i (by omega);rw[show a / 6*6+a % 6=a by omega,g] at d;obtain⟨l,o,p,q,r,s⟩:=h (a / 6) e i;have b:a % 6=0∨a % 6=1∨a % 6=2∨a % 6=3∨a % 6=4∨a % 6=5:=by omega
 rcases b with b|b|b|b|b|b<;>rw[b] at d<;>simp[sh] at d<;>subst d;.rw[show m+a=m+a / 6*6 by omega];exact l
 .rw[show m+a=m+a / 6*6+1 by omega];exact o
 .rw[show m+a=m+a / 6*6+2 by omega];exact p
 .rw[show m+a=m+a / 6*6+3 by omega];exact q
 .rw[show m+a=m+a / 6*6+4 by omega];exact r
 .rw[show m+a=m+a / 6*6+5 by omega];exact s
def qy(d:Nat)(e:World)(b:Option Addr)(c:List Ex):Prop:=∀a,ce d [] e a->Ex.all a b c
theorem qy.on(h:qy n w a L)(d:ce n [] w W):qy n W a L:=λb c=>h b (d.trans c)
theorem qy.more(h:qy n w a L)(d:m<=n):qy m w a L:=λb c=>h b (c.more d (by simp))
theorem vL{base N:Nat}{d:List Nd}(h:eS w base (.slice (some ⟨n,0,none⟩) N m) d)(c:ce k [] w W)(b:k<=n)(s:∀a∈d,Ex.all W a.2.1 a.1.args):Ex.all W (some ⟨n,0,none⟩) (d.map (·.1)):=by
 refine Ex.aL _ 0 λg i e=>?_
 obtain⟨a,f,rfl⟩:∃a,d[g]?=some a/\a.1=i:=by
  rw[bL] at e
  cases f:d[g]? with
  | none=>rw[f] at e;cases e
  | some a=>rw[f] at e;exact⟨a,rfl,by simpa using e⟩
 obtain⟨j,l,o,p,q,r⟩:=(h.facts f).1;rw[show 0+g*6=g*6 by omega];exact Ex.aW ⟨ce.cell j c b (by simp),ce.cell l c b (by simp),ce.cell o c b (by simp),ce.cell p c b (by simp),ce.cell q c b (by simp),ce.cell r c b (by simp)⟩ (s a (VQ f))
theorem tV(g:Option Addr)(e:Nat)(a:List Nd)(b:World)(T:a.length<=1000000000)(n:a=[]∨∃l q,g=some ⟨l,q,none⟩/\∀i j,a[i]?=some j->d3 b l (q+i*6) j)(o:g=none->a=[]):Calls prog 229 #[.slice g a.length e] b λf c=>∃u,f=.returned u/\eS c b.heap.size u a/\Bw b c:=by
 obtain⟨O,K,P,Q,R⟩:=info_parts tB;cases g with
 | none=>have N:=o rfl;subst N;clear o n;(have I:∀c,(binOp .eql 22 (.slice none 0 e) (.slice none 0 0)).run prog c=.ok (.bool true) c:=λc=>by rw[Go.Lib.run_eql_slice_nil c 22 45 none 0 e 0 0 underlying22];rfl);go_enter func229,ntmps229;go_wp2;go_ret;exact⟨_,rfl,World.ownsRow_nil _ _ _ _,VS⟩
 | some k=>(have I:∀c,(binOp .eql 22 (.slice (some k) a.length e) (.slice none 0 0)).run prog c=.ok (.bool false) c:=λc=>by rw[Go.Lib.run_eql_slice_nil c 22 45 _ _ _ 0 0 underlying22];rfl);have d:=am (VT _ b) (.cells #[] 45);(have x:Hid (∀p r,(a.flatMap sh)[p]?=some r->(b.alloc (.cells #[] 45)).cell? (k.add p)=some r):=by rcases n with m|⟨l,q,f,h⟩;(.subst m;intro p r L;simp at L);.injection f with f;subst f;exact UX (λi j M=>by obtain⟨m,A,C,D,E,F⟩:=h i j M;exact⟨ae m d,ae A d,ae C d,ae D d,ae E d,ae F d⟩));clear n o;go_enter func229,ntmps229;go_wp2_with (at_builtin;refine wpList_append_own_at _ rfl (.tmp 5) (.tmp 6) 22 rfl b.heap.size 45 O (.agg #[.int .i64 0,.int .i64 0,.int .i64 0,.int .i64 0,.string ⟨#[]⟩,.slice none 0 0]) 6 72 underlying22 K P Q R rfl (by decide) (.slice (some ⟨b.heap.size,0,none⟩) 0 0) 0 [] rfl ?_ k a.length e (a.flatMap sh) rfl (sN a) (U x) (xQ a) (by unfold maxLen;omega) (by omega) (by simp) ?_);(.exact⟨rfl,.inr ⟨b.heap.size,0,#[],rfl,bi,Go.Deep.blk_alloc_new _ _,bi,bt,rfl,rfl⟩⟩);.intro v w t s _ G;(have z:Hid (eS w b.heap.size v a):=by show eS w b.heap.size v a;unfold eS;simpa using t);have y:=H (d.trans (bB (B:=b.heap.size) s (by simp) (λS J=>by simp[Value.ownBlock] at J;omega)));clear t s G d;go_wp2;go_ret;exact⟨_,rfl,U z,U y⟩
theorem ce.aw(a:World)(N:List Nat)(d:Nat)(e:Value)(h:m<n):ce n N a (a.setCell ⟨m,d,none⟩ e):=
 ⟨by simp[World.setCell],λb g _ _=>Below.heap_setCell _ _ _ _ (λc=>by have f:b=m:=c;omega)⟩
def By(e:World)(l:Value)(i:Ex->Ex)(m:Ex->Prop):Prop:=∃d j,l=.func (.func d) #[] j/\cr d/\∀a (c:Nat) (b:Ex) (f:Option Addr) (n:Nat),Bw e a->c<=a.heap.size->m b->qy c a f b.args->Calls prog d (#[b.val f n]++j) a λp k=>∃g o,p=.returned ((i b).val g o)/\qy c k g (i b).args/\Bw a k
theorem By.aa{b:Ex->Ex}{a:Ex->Prop}(h:By w v b a)(l:Bw w W):By W v b a:=by obtain⟨o,m,g,i,j⟩:=h;exact⟨o,m,g,i,λc n f d e k=>j c n f d e (ac l k)⟩
theorem zO(h:Ex.all w none L):L=[]:=by
 cases L with
 | nil=>rfl
 | cons b L=>rw[Ex.all] at h;obtain⟨a,c,h,_⟩:=h;cases h
def k9(l:Ex->Ex)(d:List Nd)(e f m k:Nat)(j:World)(g:Nat)(wr:World):Prop:=∃b:List Nd,eS wr e (.slice (some ⟨f,0,none⟩) m k) b/\b.length=d.length/\(∀a,g<=a->b[a]?=d[a]?)/\(∀a c i,a<g->b[a]?=some c->d[a]?=some i->c.1=ek l i.1/\qy (f+1) wr c.2.1 c.1.args)/\Below e j wr
theorem k9.load{c:Ex->Ex}{a:List Nd}{wr:World}{b:Nd}(h:k9 c a n m k j w i wr)(f:a[i]?=some b):d3 wr m (i*6) b:=by obtain⟨g,d,l,e,o,p⟩:=h;exact(d.facts (by rw[e i bi];exact f)).1
theorem k9.may{c:Ex->Ex}{a:List Nd}{wr:World}{b:Nd}(h:k9 c a n m k j w i wr)(f:Bw wr W)(g:a[i]?=some b):d3 W m (i*6) b/\(W.frozen? ⟨m,i*6,none⟩=false/\W.frozen? ⟨m,i*6+1,none⟩=false/\W.frozen? ⟨m,i*6+2,none⟩=false/\W.frozen? ⟨m,i*6+3,none⟩=false/\W.frozen? ⟨m,i*6+4,none⟩=false/\W.frozen? ⟨m,i*6+5,none⟩=false):=by obtain⟨l,d,o,e,p,q⟩:=h;exact(d.aa f).facts (by rw[e i bi];exact g)
theorem k9.step{f:Ex->Ex}{e:List Nd}{lo:Nat}{wr w2:World}{q p:Nd}(h:k9 f e n m k j w i wr)(g:Bw wr w2)(o:e[i]?=some p)(F:q.1=ek f p.1)(E:qy lo w2 q.2.1 q.1.args)(K:m<lo)(a:n<=m)(A:n<=wr.heap.size):k9 f e n m k j w (i+1) ((((((w2.setCell ⟨m,i*6,none⟩ (.int .i64 q.1.op)).setCell ⟨m,i*6+1,none⟩ (.int .i64 q.1.n)).setCell ⟨m,i*6+2,none⟩ (.int .i64 q.1.v.k)).setCell ⟨m,i*6+3,none⟩ (.int .i64 q.1.v.n)).setCell ⟨m,i*6+4,none⟩ (.string q.1.v.s)).setCell ⟨m,i*6+5,none⟩ (.slice q.2.1 q.1.args.length q.2.2)):=by
 obtain⟨r,u,v,x,y,z⟩:=h;have J:=(bD o).1;have l:ce (m+1) [] w2 ((((((w2.setCell ⟨m,i*6,none⟩ (.int .i64 q.1.op)).setCell ⟨m,i*6+1,none⟩ (.int .i64 q.1.n)).setCell ⟨m,i*6+2,none⟩ (.int .i64 q.1.v.k)).setCell ⟨m,i*6+3,none⟩ (.int .i64 q.1.v.n)).setCell ⟨m,i*6+4,none⟩ (.string q.1.v.s)).setCell ⟨m,i*6+5,none⟩ (.slice q.2.1 q.1.args.length q.2.2)):= (((((ce.aw _ _ _ _ (by omega)).trans (ce.aw _ _ _ _ (by omega))).trans (ce.aw _ _ _ _ (by omega))).trans (ce.aw _ _ _ _ (by omega))).trans (ce.aw _ _ _ _ (by omega))).trans (ce.aw _ _ _ _ (by omega));refine⟨r.set i q,(u.aa g).put (by omega) q,by rw[List.length_set];exact v,?_,?_,?_⟩;.intro d C;rw[List.getElem?_set_ne (by omega)];exact x d (by omega)
 .intro d G I C b c;by_cases D:d=i;(.subst D;rw[List.getElem?_set_self (by omega)] at b;injection b with b;rw[o] at c;injection c with c;subst b c;exact⟨F,(E.more (by omega)).on l⟩);.rw[List.getElem?_set_ne (by omega)] at b;obtain⟨s,t⟩:=y d G I (by omega) b c;exact⟨s,(t.on (ce.ab _ _ g)).on l⟩
 .have B:Below n wr w2:=g.mono A;exact((((((z.trans B).setCell (by exact a) _).setCell (by exact a) _).setCell (by exact a) _).setCell (by exact a) _).setCell (by exact a) _).setCell (by exact a) _
theorem k9.below{b:Ex->Ex}{a:List Nd}{wr:World}(h:k9 b a n m k j w i wr):Below n w wr:=by obtain⟨d,e,f,g,l,c⟩:=h;exact c
theorem k9.done{f:Ex->Ex}{b:List Nd}{lo:Nat}{wr:World}(h:k9 f b n m k j w b.length wr)(q:lo<=m):qy lo wr (some ⟨m,0,none⟩) (b.map λd=>ek f d.1):=by
 obtain⟨e,p,s,t,g,u⟩:=h;intro l i;have o:b.map (λd=>ek f d.1)=e.map (·.1):=by apply List.ext_getElem?;intro a;rw[bL,bL];by_cases c:a<b.length;(.rw[VR c,VR (by omega:a<e.length)];have:=(g a _ _ c (VR (by omega:a<e.length)) (VR c)).1;simp only[Option.map_some];rw[this]);.rw[List.getElem?_eq_none (by omega),List.getElem?_eq_none (by omega)];rfl
 rw[o];refine vL p i q λd r=>?_;obtain⟨a,c⟩:=f9 r;have v:=(bD c).1;exact(g a d _ (by omega) c (VR (by omega:a<b.length))).2 l (i.more (by omega) (by simp))
theorem v1(a:Ex)(W5:a.short)(O:Value)(c:Ex->Ex)(VZ:Ex->Prop)(g:Option Addr)(j:Nat)(e:World)(V2:Ex.all e g a.args)(WF:By e O c VZ)(WB:VZ (jb c a)) (Wh:∀(p:Nat) (x:Ex),a.args[p]?=some x->∀(y:Option Addr) (F:Nat) (d:World),Ex.all d y x.args->By d O c VZ->Calls prog 225 #[x.val y F,O] d λl s=>∃i n,l=.returned ((ek c x).val i n)/\qy d.heap.size s i (ek c x).args/\Bw d s):Calls prog 225 #[a.val g j,O] e λl s=>∃i n,l=.returned ((ek c a).val i n)/\qy e.heap.size s i (ek c a).args/\Bw e s:=by
 rw[yz c a];have WM:=H WF;obtain⟨Xt,Xm,rfl,WS,Q⟩:=WF;unfold cr at WS;have Q:=H Q;have Y:=H Wh;have Wf:=H WB;obtain⟨Xj,_⟩:=Ex.aN W5;have Wz:=am (VT _ e) (a.box g j);have Wb:Hid (ee (e.alloc (a.box g j)) e.heap.size a g j):=ee.new e a g j;have Xg:=H V2;rw[Ex.ad];have WN:Hid (∀d,Bw e d->Calls prog 229 #[.slice g a.args.length j] d λl s=>∃(B:Value) (b:List Nd),l=.returned B/\b.map (·.1)=a.args/\(∀f∈b,Ex.all d f.2.1 f.1.args)/\eS s d.heap.size B b/\Bw d s):=by intro d M;have Wy:=Ex.af _ V2 M;obtain⟨b,Ww,WW,G⟩:=pf _ _ Wy;(have z:b.length=a.args.length:=by rw[<-Ww,bQ]);(have WX:b=[]∨∃Wi WJ,g=some ⟨Wi,WJ,none⟩/\∀p f,b[p]?=some f->d3 d Wi (WJ+p*6) f:=by rcases G with G|G;(.exact .inl (dF (by rw[z,G];rfl)));.exact .inr G);have Wx:=tV g j b d (by omega) WX (λh=>dF (by subst h;rw[z,zO Wy];rfl));rw[z] at Wx;exact Wx.mono λl s ⟨B,WT,WU,WV⟩=>⟨B,b,WT,Ww,WW,WU,WV⟩
 clear Wh WB V2;go_enter func225,ntmps225;obtain⟨m,A⟩:=bn ((e.alloc (a.box g j)).alloc (.cells #[.int .i64 0,.int .i64 0,.int .i64 0,.int .i64 0,.string ⟨#[]⟩,.slice none 0 0] 45));have V1:Bw e m:=by rw[A];exact am Wz _
 have VY:Hid (ee m e.heap.size a g j):=by rw[A];exact(U Wb).aa (am VS _)
 have Wg:Hid (U6 m (e.heap.size+1) n3 none 0):=by have h:=U6.new (e.alloc (a.box g j)) n3 none 0;rw[show (e.alloc (a.box g j)).heap.size=e.heap.size+1 by simp[go_sem]] at h;rw[A];exact h
 have Xl:m.heap.size=e.heap.size+2:=by rw[A];simp[go_sem]
 go_upto_region 1 with fail;rw[<-A];clear A Wz Wb;obtain⟨V5,V6,V7,V8,V9,Wa⟩:=U VY;go_wp2_with (go_at_call 229;refine(U WN _ V1).mono ?_;rintro l V ⟨Xu,b,rfl,S,WA,L,WC⟩;obtain⟨R,t,rfl⟩:=L.slice);clear V5 V6 V7 V8 V9 Wa;have z:a.args.length=b.length:=by rw[<-S,bQ]
 have Xk:b.length<=1000000000:=by omega
 have VW:=H S;have VX:=H WA;have Wc:=H WC;have C:=H V1;have WH:a.args.map (ek c)=b.map λf=>ek c f.1:=by rw[<-S,List.map_map];rfl
 have We:Hid (∀(y:Option Addr) (F:Nat),(jb c a).val y F=.agg #[.int .i64 (dq a).op,.int .i64 (dq a).n,.int .i64 (dq a).v.k,.int .i64 (dq a).v.n,.string (dq a).v.s,.slice y b.length F]):=by intro y F;(have:(jb c a).args.length=b.length:=by show (a.args.map (ek c)).length=_;rw[bQ];exact z);rw[Ex.ad,this];rfl
 have Wd:Hid ((jb c a).args=b.map λf=>ek c f.1):=WH;clear S WA WC V1 WH z;by_cases V0:b=[]
 .subst V0;clear L;go_loopw[14] (λp wr=>p=.int .i64 0/\wr=V) (λ_ _=>0);case atStart=>exact⟨rfl,rfl⟩
  case round=>
   obtain⟨rfl,rfl⟩:=hrel;have o:=U Wc;(have X:Hid (qy m.heap.size wr R (([]:List Nd).map λf=>ek c f.1)):=λ_ _=>by show Ex.all _ _ [];rw[Ex.all];trivial);obtain⟨V5,V6,V7,V8,V9,Wa⟩:=(U VY).aa o;have E:=H (mC a g j wr);have u:=H o;rw[Ex.ad] at E;clear Y VW VX o
   go_wp2_with (first
    | (go_at_call 230;refine(U E).mono ?_;rintro l WL ⟨rfl,r⟩;have I:=am (ac (ac (U C) (U u)) r) (.cells #[.int .i64 (dq a).op,.int .i64 (dq a).n,.int .i64 (dq a).v.k,.int .i64 (dq a).v.n,.string (dq a).v.s,.slice R 0 t] 45);have D:=H (U Q _ m.heap.size (jb c a) R t I (am (ac (U u) r) _).size (U Wf) (by rw[U Wd];exact(U X).on (ce.ab _ _ (am r _))));rw[U We] at D;rw[Ex.ad];clear I)
    | (refine(U D).mono ?_;rintro l W9 ⟨i,n,rfl,K,V3⟩;have Z:=H K;have J:=ac (am (ac (U u) r) (.cells #[.int .i64 (dq a).op,.int .i64 (dq a).n,.int .i64 (dq a).v.k,.int .i64 (dq a).v.n,.string (dq a).v.s,.slice R 0 t] 45)) V3;obtain⟨⟨Xa,Xb,Xc,Xd,Xe,Xf⟩,Wq,Wr,Ws,Wt,Wu,Wv⟩:=(U Wg).aa J;rw[Ex.ad];clear K))
   refine bs (v:=(c (jb c a)).val i n) (by simp[results,results225,go_sem,Ex.val, *]) rfl ⟨i,n,rfl,?_,?_⟩;(.exact(((U Z).on ((((((ce.aw _ _ _ _ (by omega)).trans (ce.aw _ _ _ _ (by omega))).trans (ce.aw _ _ _ _ (by omega))).trans (ce.aw _ _ _ _ (by omega))).trans (ce.aw _ _ _ _ (by omega))).trans (ce.aw _ _ _ _ (by omega)))).more (by omega)));.exact x3 (ac (U C) J) (by omega) _ _ _ _ _ _
 .have W4:0<b.length:=by cases b with|nil=>exact absurd rfl V0|cons _ _=>exact Nat.zero_lt_succ _
  obtain⟨w,rfl,WG,W2⟩:=L.some W4;have WO:Hid (k9 c b m.heap.size w b.length t V 0 V):=⟨b,L,rfl,λ_ _=>rfl,λp _ _ h=>absurd h (Nat.not_lt_zero _),VS⟩;clear L V0;go_loopw[14] (λp wr=>∃k:Nat,k<=b.length/\p=.int .i64 (k:Int)/\Hid (k9 c b m.heap.size w b.length t V k wr)) (λp _=>b.length-(intOf p).toNat);case atStart=>exact⟨0,bt,rfl,WO⟩
  case round=>
   obtain⟨k,Xi,rfl,v⟩:=hrel;have T:=(U v).below;have o:=(U Wc).trans T;have W6:m.heap.size<=wr.heap.size:=o.size;have Xh:w<wr.heap.size:=cN W2 T.size;by_cases W3:k<b.length;·(have WY:(k:Int)<(b.length:Int):=by omega);obtain⟨q,N⟩:∃q,b[k]?=some q:=⟨_,VR W3⟩;obtain⟨Wj,Wk,Wl,Wm,Wn,Wp⟩:=(U v).load N;(have WI:a.args[k]?=some q.1:=by rw[<-U VW,bL,N];rfl);have WE:=am (ac (U C) o) (.cells (sh q).toArray 45);have P:=H (U Y k q.1 WI q.2.1 q.2.2 (wr.alloc (.cells (sh q).toArray 45)) (Ex.af _ (U VX q (VQ N)) (am o _)) ((U WM).aa WE));have WP:=H (λ(d:World) (M:Bw wr d)=>(U v).may M N);have WR:=H (λ(d:World) (f:Nd) (V4:Nat) (M:Bw wr d)=>(U v).step (w2:=d) (q:=f) (lo:=V4) M N);have W:=H (am (VT _ wr) (.cells (sh q).toArray 45));unfold sh at P W;rw[Ex.ad] at P;clear WI WE o T v;obtain⟨WK,W7,W8⟩:=q;simp only at P W Wj Wk Wl Wm Wn Wp;go_wp2_with (go_at_call 225;refine(U P).mono ?_;rintro l Xv ⟨i,n,rfl,W0,W1⟩;have WD:=ac (U W) W1;obtain⟨⟨Xn,Xo,Xp,Xq,Xr,Xs⟩,Wq,Wr,Ws,Wt,Wu,Wv⟩:=U WP _ WD;have WQ:=H (U WR _ (ek c WK,i,n) _ WD rfl W0 (by rw[show (wr.alloc (WK.box W7 W8)).heap.size=wr.heap.size+1 by simp[go_sem]];omega) WG W6);rw[Ex.ad];clear Wj Wk Wl Wm Wn Wp);exact⟨⟨k+1,by omega,by go_num,WQ⟩,by simp[intOf];omega⟩
   ·(have WY:¬(k:Int)<(b.length:Int):=by omega);(obtain rfl:k=b.length:=by omega);have WZ:=(U v).done (lo:=m.heap.size) WG;clear T v;have X:Hid (qy m.heap.size wr (some ⟨w,0,none⟩) (b.map λf=>ek c f.1)):=WZ;obtain⟨V5,V6,V7,V8,V9,Wa⟩:=(U VY).aa o;have E:=H (mC a g j wr);have u:=H o;rw[Ex.ad] at E;clear Y VW VX o
    go_wp2_with (first
     | (go_at_call 230;refine(U E).mono ?_;rintro l WL ⟨rfl,r⟩;have I:=am (ac (ac (U C) (U u)) r) (.cells #[.int .i64 (dq a).op,.int .i64 (dq a).n,.int .i64 (dq a).v.k,.int .i64 (dq a).v.n,.string (dq a).v.s,.slice (some ⟨w,0,none⟩) b.length t] 45);have D:=H (U Q _ m.heap.size (jb c a) (some ⟨w,0,none⟩) t I (am (ac (U u) r) _).size (U Wf) (by rw[U Wd];exact(U X).on (ce.ab _ _ (am r _))));rw[U We] at D;rw[Ex.ad];clear I)
     | (refine(U D).mono ?_;rintro l W9 ⟨i,n,rfl,K,V3⟩;have Z:=H K;have J:=ac (am (ac (U u) r) (.cells #[.int .i64 (dq a).op,.int .i64 (dq a).n,.int .i64 (dq a).v.k,.int .i64 (dq a).v.n,.string (dq a).v.s,.slice (some ⟨w,0,none⟩) b.length t] 45)) V3;obtain⟨⟨Xa,Xb,Xc,Xd,Xe,Xf⟩,Wq,Wr,Ws,Wt,Wu,Wv⟩:=(U Wg).aa J;rw[Ex.ad];clear K))
    refine bs (v:=(c (jb c a)).val i n) (by simp[results,results225,go_sem,Ex.val, *]) rfl ⟨i,n,rfl,?_,?_⟩;(.exact(((U Z).on ((((((ce.aw _ _ _ _ (by omega)).trans (ce.aw _ _ _ _ (by omega))).trans (ce.aw _ _ _ _ (by omega))).trans (ce.aw _ _ _ _ (by omega))).trans (ce.aw _ _ _ _ (by omega))).trans (ce.aw _ _ _ _ (by omega)))).more (by omega)));.exact x3 (ac (U C) J) (by omega) _ _ _ _ _ _
def f8(_:Ex):Bool:=true
theorem st(b:Ex)(c:Option Addr)(d:Nat)(a:World):Calls prog 224 #[b.val c d] a λe f=>e=.returned (.bool (f8 b))/\Bw a f:=by rw[Ex.ad];go_enter func224,ntmps224;go_wp2;go_ret;exact⟨rfl,by first|exact VS|exact am VS _⟩
theorem mD(a:Ex)(V5:a.fin)(N b:Int)(l:Option Addr)(e:Nat)(j:World)(Wx:0<=N)(Ww:N<=40000000)(Wv:0<=b)(Wu:b<=200000)(W:Ex.all j l a.args) (S:∀(t:Nat) (x:Ex),a.args[t]?=some x->∀(z w:Int) (o:Option Addr) (q:Nat) (n:World),0<=z->z<=40000000->0<=w->w<=200000->Ex.all n o x.args->Calls prog 99 #[x.val o q,.int .i64 z,.int .i64 w,.func (.func 224) #[] #[]] n λu P=>u=M3 (cu f8 x z w)/\Bw n P):Calls prog 99 #[a.val l e,.int .i64 N,.int .i64 b,.func (.func 224) #[] #[]] j λu P=>u=M3 (cu f8 a N b)/\Bw j P:=by
 obtain⟨⟨Wz,WA,_,_⟩,_⟩:=Ex.an V5;have p:=H (λn=>st a l e n);obtain⟨A,I⟩:=bn (cu f8 a N b)
 have k:Hid (A=if decide (N<1) || decide (b<1) || !f8 a then (0,0,false) else match cx f8 a.args N b 1 0 with
  | some (e,h)=>(e,h+1,true)
  | none=>(0,0,false)):=by rw[I];exact mJ f8 a N b
 rw[<-I];have VW:Hid (ee (j.alloc (a.box l e)) j.heap.size a l e):=ee.new j a l e;have C:=H (am (VT _ j) (a.box l e));have V0:=H S;have VX:=H W;rw[Ex.ad] at p ⊢;clear I W S;by_cases m:N<1;.go_enter func99,ntmps99;go_wp2;refine bs (v:=.tuple #[.int .i64 0,.int .i64 0,.bool false]) (by simp[results,results99,go_sem]) rfl ⟨by rw[U k];simp[m],U C⟩
 by_cases i:b<1;.go_enter func99,ntmps99;go_wp2;refine bs (v:=.tuple #[.int .i64 0,.int .i64 0,.bool false]) (by simp[results,results99,go_sem]) rfl ⟨by rw[U k];simp[i],U C⟩
 obtain⟨Wc,L⟩:=bn (f8 a);rw[<-L] at p k;have M:decide (N<1)=false:=by simpa using m
 have O:decide (b<1)=false:=by simpa using i
 rw[M,O] at k;cases Wc with
 | false=>clear L M O;go_enter func99,ntmps99;go_wp2_with (go_at_call 224;refine(U p _).mono ?_;rintro V2 Q ⟨rfl,s⟩);refine bs (v:=.tuple #[.int .i64 0,.int .i64 0,.bool false]) (by simp[results,results99,go_sem]) rfl ⟨by rw[U k];rfl,ch s⟩
 | true=>
  clear L M O
  have G:Hid (A=match cx f8 a.args N b 1 0 with
   | some (e,h)=>(e,h+1,true)
   | none=>(0,0,false)):=by have:=U k;show _=_;simpa using this
  clear k;go_enter func99,ntmps99;go_wp2_with (go_at_call 224;refine(U p _).mono ?_;rintro V2 Q ⟨rfl,s⟩;obtain⟨We,Wf,Wg,c3,Wh,Wi⟩:=(U VW).aa s);have D:=H (ac (U C) s);have VY:=H (Ex.af _ (U VX) (U D));clear s p;go_loopw[11,12,33] (λWa Wb t wr=>∃(c:Nat) (d f:Int),c<=a.args.length/\t=.int .i64 (c:Int)/\Wa=.int .i64 d/\Wb=.int .i64 f/\1<=d/\d<=N/\0<=f/\f<=b-1/\Hid (cx f8 a.args N b 1 0=cx f8 (a.args.drop c) N b d f)/\Bw Q wr) (λ_ _ t _=>a.args.length-(intOf t).toNat);case atStart=>exact⟨0,1,0,bt,rfl,rfl,rfl,by omega,by omega,by omega,by omega,rfl,VS⟩
  case round=>
   obtain⟨c,d,f,Wy,rfl,rfl,rfl,Wq,Wr,Ws,Wt,g,r⟩:=hrel;by_cases V6:c<a.args.length
   .have V4:(c:Int)<(a.args.length:Int):=by omega
    obtain⟨x,B⟩:∃x,a.args[c]?=some x:=⟨_,VR V6⟩
    have Z:a.args.drop c=x::a.args.drop (c+1):=by
     obtain⟨V8,V9⟩:=bD B
     rw[gP V8,V9]
    obtain⟨WF,WG,V3,Y⟩:=Ex.ag (Ex.af _ (U VY) r) B
    obtain⟨o,q,⟨Wj,Wk,Wl,Wm,Wn,Wp⟩,X⟩:=Ex.ah Y
    have y:=H (U V0 c x B (N-d) (b-1) o q (wr.alloc (x.box o q)) (by omega) (by omega) (by omega) (by omega) (Ex.af _ X (am VS _)))
    rw[Ex.ad] at y
    rw[Z,cx] at g
    obtain⟨V7,K⟩:=bj (cu f8 x (N-d) (b-1))
    rw[K] at y g
    have F:=H K
    obtain⟨T,V,ok⟩:=V7
    have R:=H (am r (x.box o q))
    subst V3
    clear B Z Y X K r
    cases ok with
    | false=>
     have E:Hid (A=(0,0,false)):=by have m:=U g;have i:=U G;rw[m] at i;show _=_;simpa using i
     clear g F
     go_wp2_with (go_at_call 99;refine(U y).mono ?_;rintro u Wd ⟨rfl,J⟩)
     refine bs (v:=.tuple #[.int .i64 0,.int .i64 0,.bool false]) (by simp[results,results99,go_sem]) rfl ⟨by rw[U E],ac (U D) (ac (U R) J)⟩
    | true=>
     obtain⟨WB,WC,WD,WE⟩:=gs f8 x (N-d) (b-1) (U F)
     have V1:Hid (cx f8 a.args N b 1 0=cx f8 (a.args.drop (c+1)) N b (d+T) (max f V)):=by have:=U g;show _=_;simpa using this
     clear g F
     go_wp2_with (go_at_call 99;refine(U y).mono ?_;rintro u Wd ⟨rfl,J⟩)
     refine⟨⟨c+1,d+T,max f V,by omega,by go_num,rfl,by rw[yy],by omega,by omega,by omega,by omega,V1,ac (U R) J⟩,by simp[intOf];omega⟩
   ·(have V4:¬(c:Int)<(a.args.length:Int):=by omega);(have E:Hid (A=(d,f+1,true)):=by have m:=U g;have i:=U G;rw[gl (by omega),cx] at m;rw[m] at i;exact i);have VZ:=H (ac (U D) r);clear g G r;go_wp2;refine bs (v:=.tuple #[.int .i64 d,.int .i64 (f+1),.bool true]) (by simp[results,results99,go_sem]) rfl ⟨by rw[U E],U VZ⟩
theorem jd:∀(g:Nat) (a:Ex),a.size<=g->a.fin->∀(c b:Int) (e:Option Addr) (f:Nat) (d:World),0<=c->c<=40000000->0<=b->b<=200000->Ex.all d e a.args->Calls prog 99 #[a.val e f,.int .i64 c,.int .i64 b,.func (.func 224) #[] #[]] d λA B=>A=M3 (cu f8 a c b)/\Bw d B
 | 0,a,j,_,_,_,_,_,_,_,_,_,_,_=>by rw[Ex.ak] at j;omega
 | g+1,a,j,i,c,b,e,f,d,u,v,w,x,z=>mD a i c b e f d u v w x z λD C k m l o p n q r s t y=>
  jd g C (by have:=Ex.ar k;omega) (Ex.aq i k) m l o p n q r s t y
theorem ry{F:Value}{g:Ex->Ex}{P Q:Ex->Prop}(k:∀x,Q x->P (jb g x))(l:∀(x q:Ex) (f:Nat),Q x->x.args[f]?=some q->Q q):∀(i:Nat) (a:Ex),a.size<=i->a.short->Q a->∀(c:Option Addr) (d:Nat) (b:World),Ex.all b c a.args->By b F g P->Calls prog 225 #[a.val c d,F] b λA p=>∃j u,A=.returned ((ek g a).val j u)/\qy b.heap.size p j (ek g a).args/\Bw b p
 | 0,a,n,_,_,_,_,_,_,_=>by rw[Ex.ak] at n;omega
 | i+1,a,n,o,m,c,d,b,w,z=>v1 a o F g P c d b w z (k a m) λf x e s t r v y=>
  ry k l i x (by have:=Ex.ar e;omega) (Ex.aZ o e) (l a x f m e) s t r v y
theorem xT(c:Ex)(a:Option Addr)(b:Nat)(d:World):Calls prog 226 #[c.val a b] d λe f=>e=.returned (c.val a b)/\Bw d f:=by rw[Ex.ad];go_enter func226,ntmps226;go_wp2;refine bs (v:=c.val a b) (by simp[results,results226,go_sem,Ex.val]) rfl ⟨rfl,am (am VS _) _⟩
theorem Bl:cr 226:=λargs a=>by kernel_rfl
theorem BA(d:World):By d (.func (.func 226) #[] #[]) id (λ_=>True):=
 ⟨226,#[],rfl,Bl,λe j f a b _ _ _ i=>(xT f a b e).mono λk l ⟨g,c⟩=>⟨a,b,g,i.on (ce.ab _ _ c),c⟩⟩
def dn(a:Ex):Ex:=if (cu f8 a 33554432 131072).2.2 then dV a else a
def EB(b:World)(N:List Nat)(e:World)(c:Option Addr)(d:List Ex):Prop:=∀a,Bw b a->ce b.heap.size N e a->Ex.all a c d
theorem tW(a:Ex)(T:a.fin)(c:Option Addr)(d:Nat)(b:World)(q:Ex.all b c a.args):Calls prog 218 #[a.val c d] b λl m=>∃f k,l=.returned ((dn a).val f k)/\((cu f8 a 33554432 131072).2.2=true->qy b.heap.size m f (dn a).args)/\EB b [] m f (dn a).args/\Bw b m:=by
 have p:=H (λ(e:World) (i:Bw b e)=>jd a.size a bi T 33554432 131072 c d e (by omega) (by omega) (by omega) (by omega) (Ex.af _ q i));have n:Hid ((cu f8 a 33554432 131072).2.2=true->∀(e:World),Bw b e->Calls prog 225 #[a.val c d,.func (.func 226) #[] #[]] e λl m=>∃f k,l=.returned ((dV a).val f k)/\qy e.heap.size m f (dV a).args/\Bw e m):=λV e i=>by have h:=ry (F:=.func (.func 226) #[] #[]) (g:=id) (P:=λ_=>True) (Q:=λ_=>True) (λ_ _=>trivial) (λ_ _ _ _ _=>trivial) a.size a bi (mE f8 a _ _ (by omega) V) trivial c d e (Ex.af _ q i) (BA e);rw[oK] at h;exact h
 have A:=H (λ(e:World) (i:Bw b e)=>Ex.af _ q i);have o:Hid (Bw b ((b.alloc (a.box c d)).alloc (.cells #[.int .i64 0,.int .i64 0,.int .i64 0,.int .i64 0,.string ⟨#[]⟩,.slice none 0 0] 45))):=am (am (VT _ b) _) _;have s:Hid (ee ((b.alloc (a.box c d)).alloc (.cells #[.int .i64 0,.int .i64 0,.int .i64 0,.int .i64 0,.string ⟨#[]⟩,.slice none 0 0] 45)) b.heap.size a c d):=(ee.new b a c d).aa (am VS _);have u:Hid (U6 ((b.alloc (a.box c d)).alloc (.cells #[.int .i64 0,.int .i64 0,.int .i64 0,.int .i64 0,.string ⟨#[]⟩,.slice none 0 0] 45)) (b.heap.size+1) n3 none 0):=by have h:=U6.new (b.alloc (a.box c d)) n3 none 0;rw[show (b.alloc (a.box c d)).heap.size=b.heap.size+1 by simp[go_sem]] at h;exact h
 have C:Hid (((b.alloc (a.box c d)).alloc (.cells #[.int .i64 0,.int .i64 0,.int .i64 0,.int .i64 0,.string ⟨#[]⟩,.slice none 0 0] 45)).heap.size=b.heap.size+2):=by show _=_;simp[go_sem]
 clear q;unfold dn;obtain⟨W,z⟩:=bj (cu f8 a 33554432 131072);rw[z] at p n ⊢;obtain⟨k,V0,ok⟩:=W;clear z;rw[Ex.ad] at p n ⊢;cases ok with
 | false=>clear n;simp only[Bool.false_eq_true,if_false];go_enter func218,ntmps218;go_wp2_with (go_at_call 99;refine(U p _ (U o)).mono ?_;rintro l X ⟨rfl,j⟩;obtain⟨D,E,G,I,J,K⟩:=(U s).aa j;obtain⟨⟨Y,Z,VW,VX,VY,VZ⟩,L,M,N,O,R,S⟩:=(U u).aa j);refine bs (v:=a.val c d) (by simp[results,results218,go_sem,Ex.val, *]) rfl ⟨c,d,rfl,λh=>absurd h (by simp),λr i _=>U A r i,?_⟩;exact x3 (ac (U o) j) (by omega) _ _ _ _ _ _
 | true=>
  have B:=H (U n rfl);clear n;simp only[if_true];go_enter func218,ntmps218
  go_wp2_with (first
   | (go_at_call 99;refine(U p _ (U o)).mono ?_;rintro l X ⟨rfl,j⟩;have w:=ac (U o) j;obtain⟨D,E,G,I,J,K⟩:=(U s).aa j)
   | (go_at_call 225;refine(U B _ w).mono ?_;rintro l V3 ⟨f,k,rfl,x,y⟩;have t:=H x;clear x;have V1:=(U C);have V2:=j.size;obtain⟨⟨Y,Z,VW,VX,VY,VZ⟩,L,M,N,O,R,S⟩:=(U u).aa (ac j y);rw[Ex.ad]))
  refine bs (v:=(dV a).val f k) (by simp[results,results218,go_sem,Ex.val, *]) rfl ⟨f,k,rfl,λ_=>?_,λr _ i=>?_,?_⟩;.refine(((U t).on ((((((ce.aw _ _ _ _ ?_).trans (ce.aw _ _ _ _ ?_)).trans (ce.aw _ _ _ _ ?_)).trans (ce.aw _ _ _ _ ?_)).trans (ce.aw _ _ _ _ ?_)).trans (ce.aw _ _ _ _ ?_))).more (by omega))<;>omega
  .refine(((U t).on ((((((ce.aw _ _ _ _ ?_).trans (ce.aw _ _ _ _ ?_)).trans (ce.aw _ _ _ _ ?_)).trans (ce.aw _ _ _ _ ?_)).trans (ce.aw _ _ _ _ ?_)).trans (ce.aw _ _ _ _ ?_))).more (by omega)) r i<;>omega
  .exact x3 (ac w y) (by omega) _ _ _ _ _ _
end Go.Proofs.YtklgoolblpmmlaaGreat
