import Derived.Test.YtklgoolblpmmlaaGreatBgR
import Derived.Test.YtklgoolblpmmlaaGreatBgC
import Derived.Test.YtklgoolblpmmlaaGreatShS
import Derived.Test.YtklgoolblpmmlaaGreatStS
import Derived.Shelf.SlSortCmp.NoneTotal
set_option linter.all false
set_option maxHeartbeats 4000000
set_option maxRecDepth 100000
namespace Go.Proofs.YtklgoolblpmmlaaGreat
open Go.RowKit Go.Sort Go.Shelf Go.Lib Go.Proofs.Tryz
def Tg(d:Nat)(e:World)(c:Nat):Prop:=∃a b,e.heap[c]?=some (.cells a d b)
variable{i j k l m n:Nat}{W X w:World}{u v:Value}{D:List Value}{P Q:Nat->Prop}{x y:List aH}{A r:List (List aH)}{a b d:Option Addr}
theorem Tg.lt(h:Tg n w m):m<w.heap.size:=by obtain⟨a,b,h⟩:=h;exact(Array.getElem?_eq_some_iff.1 h).1
theorem Tg.ne(h:Tg n w k)(a:Tg m w j)(b:n≠m):k≠j:=by rintro rfl;obtain⟨c,e,h⟩:=h;obtain⟨d,f,a⟩:=a;rw[h] at a;injection a with a;injection a with _ a _;exact b a
theorem Tg.ky{F:Nat->Prop}(h:Tg n w m)(d:Ky F w W)(e:¬F m):Tg n W m:=by have b:=d.block m h.lt e;obtain⟨a,c,h⟩:=h;exact⟨a,c,b.trans h⟩
theorem br{base size:Nat}(h:w.ownsRow base n size v m D)(a:v.ownBlock=some k):Tg n w k:=by
 rcases h.2 with ⟨rfl,_⟩|⟨e,d,b,rfl,_,c,_⟩
 .cases a
 .simp[Value.ownBlock] at a;subst a;exact⟨b,_,c⟩
def qu(e:Nat->Prop)(d:World)(i:Value)(c:List aH):Prop:=∃a f,i=.slice a c.length f/\bX d a c/\(∀b g,a=some ⟨b,g,none⟩->c≠[]->e b/\Tg 43 d b)/\sE a
theorem qu.ky{G:Nat->Prop}(h:qu P w v x)(g:Ky G w W)(i:∀f,P f->Tg 43 w f->¬G f):qu P W v x:=by obtain⟨j,k,l,m,e,n⟩:=h;exact⟨j,k,l,g.row m λa d b c=>i a (e a d b c).1 (e a d b c).2,λa d b c=>⟨(e a d b c).1,(e a d b c).2.ky g (i a (e a d b c).1 (e a d b c).2)⟩,n⟩
theorem qu.mono{Q:Nat->Prop}(h:qu P w v x)(m:∀e,P e->Q e):qu Q w v x:=by obtain⟨g,i,j,k,b,l⟩:=h;exact⟨g,i,j,k,λa f c d=>⟨m a (b a f c d).1,(b a f c d).2⟩,l⟩
theorem qu.one(h:qu P w v x):v.oneCell'=true:=by obtain⟨a,b,rfl,_⟩:=h;rfl
structure fQ(P:Nat->Prop)(w:World)(v:Value)(rs:List (List aH)):Prop where
 o:∃us:List Value,us.length=rs.length/\w.ownsRow 0 40 1 v rs.length us/\∀(i:Nat) (u:Value) (r:List aH),us[i]?=some u->rs[i]?=some r->qu P w u r
 g:∀g,v.ownBlock=some g->P g
theorem fQ.ky{G:Nat->Prop}(h:fQ P w v r)(c:Ky G w W)(d:∀a,P a->¬G a):fQ P W v r:=by obtain⟨p,f,g,i⟩:=h.o;exact⟨⟨p,f,bM g c λb e=>d b (h.g b e),λl o n k j=>(i l o n k j).ky c λa m _=>d a m⟩,h.g⟩
theorem fQ.mono{Q:Nat->Prop}(h:fQ P w v r)(b:∀c,P c->Q c):fQ Q w v r:=by obtain⟨n,e,f,g⟩:=h.o;exact⟨⟨n,e,f,λk m l j i=>(g k m l j i).mono b⟩,λa d=>b a (h.g a d)⟩
theorem fQ.nil(a:Nat->Prop)(c:World):fQ a c (.slice none 0 0) []:=⟨⟨[],rfl,World.ownsRow_nil _ _ _ _,λe g f h=>by simp at h⟩,λd b=>by cases b⟩
theorem fQ.form(h:fQ P w v r):∃a b,v=.slice a r.length b:=by
 obtain⟨i,_,d,_⟩:=h.o;rcases d.2 with ⟨rfl,c⟩|⟨g,e,f,rfl,_⟩
 .exact⟨none,0,by rw[c]⟩
 .exact⟨_,_,rfl⟩
theorem fQ.get{i:Nat}(h:fQ P w v r)(e:r[i]?=some x):∃b j a k,v=.slice (some ⟨b,0,none⟩) r.length j/\w.cell? ⟨b,i,none⟩=some (.slice a x.length k)/\w.frozen? ⟨b,i,none⟩=false/\bX w a x/\∀c q,a=some ⟨c,q,none⟩->x≠[]->P c/\Tg 43 w c:=by
 obtain⟨g,u,d,n⟩:=h.o;have y:i<r.length:=(bD e).1;have f:g[i]?=some g[i]:=VR (by omega);obtain⟨a,k,m,o,p,_⟩:=n i _ x f e;rcases d.2 with ⟨_,t⟩|⟨b,l,s,rfl,_⟩
 .omega
 .refine⟨b,l,a,k,rfl,?_,World.ownsRow.frozenAt d i,o,p⟩;rw[World.ownsRow.cellAt d i (by omega),f,m]
theorem iB:(Tryz.prog.info? 40).map (λa=>(a.zero,a.size,a.bytes))=some (some (.slice none 0 0),1,24):=by kernel_rfl
theorem de{α:Type}{a vs:List α}{x c:α}(h:(a++[c])[n]?=some x):a[n]?=some x∨(n=a.length/\x=c):=by
 by_cases d:n<a.length;.left;rw[eK d] at h;exact h
 .right;rw[ez (by omega)] at h;(have:n-a.length=0:=by rcases Nat.eq_zero_or_pos (n-a.length) with b|b;(.exact b);.rw[List.getElem?_eq_none (by simp;omega)] at h;cases h);rw[this] at h;simp at h;exact⟨by omega,h.symm⟩
def eU(b a:Nat):Nat:=if a<b then a else 0
theorem jM(b:0<n)(a:Nat):eU n a<n:=by unfold eU;split<;>omega
theorem jN(h:m<n):eU n m=m:=ba h
theorem iu{n:Nat}{enc:Nat->Value}{a:Array Nat}{os:Array Obj}(h:w.ownsRow 0 40 1 (.slice (some ⟨m,0,none⟩) j k) j D)(z:a.size=j):(sortWorld enc w m 0 n a os).ownsRow 0 40 1 (.slice (some ⟨m,0,none⟩) j k) j (a.toList.map enc)/\w.grownBy (sortWorld enc w m 0 n a os) (some m):=by
 rcases h.2 with ⟨b,_⟩|⟨E,B,e,b,p,g,x,q,f,F⟩
 .cases b
 injection b with c C o;injection c with c;injection c with c;subst c o;have v:m<w.heap.size:=(Array.getElem?_eq_some_iff.1 g).1;have r:(sortWorld enc w m 0 n a os).heap[m]?=some (.cells (putCells enc 0 a e) 40 (0,0)):=by unfold sortWorld grow putRow mapBlock;simp only[Sort.ahead];rw[Array.getElem?_append_left (by simpa using v),Array.getElem?_modify,ba rfl,g];rfl
 refine⟨⟨by simp[z],.inr ⟨m,k,putCells enc 0 a e,rfl,p,r,x,q,by simp[putCells,f],?_⟩⟩,⟨rfl,rfl,rfl,?_,?_⟩⟩;.refine List.ext_getElem? λd=>?_;rw[List.getElem?_take,Nat.mul_one];by_cases i:d<j;(.rw[ba i,Array.getElem?_toList,bL,Array.getElem?_toList];(have s:d<e.size:=by rw[f];omega);(have l:d<a.size:=by omega);simp only[putCells,Array.getElem?_mapIdx,Array.getElem?_eq_getElem s,Option.map_some];rw[ba ⟨bt,by omega⟩,Nat.sub_zero,Array.getElem?_eq_getElem l,getElem!_pos a d l];rfl);.rw[VU i,List.getElem?_eq_none (by simp;omega)]
 .unfold sortWorld grow putRow mapBlock;simp[Sort.ahead]
 .intro A t y;have u:m≠A:=λb=>y (by rw[b]);unfold sortWorld grow putRow mapBlock;simp only[Sort.ahead];rw[Array.getElem?_append_left (by simpa using t),Array.getElem?_modify,VU u]
def sb(b:List aH->List aH->Int)(a:List (List aH))(c d:Nat):Int:=b (a.getD (eU a.length c) []) (a.getD (eU a.length d) [])
def i2(a:List Value):Nat->Value:=λb=>a.getD (eU a.length b) (.slice none 0 0)
theorem En{C:List aH->List aH->Int}(anti:∀x y,C x y=- C y x)(le:∀x y z,C x y<=0->C y z<=0->C x z<=0)(rs:List (List aH)):SWO (ltOf (sb C rs)) where
 irrefl x:=by
  unfold ltOf sb
  have:=anti (rs.getD (eU rs.length x) []) (rs.getD (eU rs.length x) [])
  simp only[decide_eq_false_iff_not]
  omega
 trans x y z h1 h2:=by
  unfold ltOf sb at *
  simp only[cF] at *
  have q1:=le (rs.getD (eU rs.length x) []) (rs.getD (eU rs.length y) []) (rs.getD (eU rs.length z) []) (by omega) (by omega)
  have q2:=anti (rs.getD (eU rs.length x) []) (rs.getD (eU rs.length z) [])
  have q3:=le (rs.getD (eU rs.length z) []) (rs.getD (eU rs.length x) []) (rs.getD (eU rs.length y) [])
  have q4:=anti (rs.getD (eU rs.length y) []) (rs.getD (eU rs.length z) [])
  omega
 ntrans x y z h1 h2:=by
  unfold ltOf sb at *
  simp only[decide_eq_false_iff_not] at *
  have q1:=anti (rs.getD (eU rs.length x) []) (rs.getD (eU rs.length y) [])
  have q2:=anti (rs.getD (eU rs.length y) []) (rs.getD (eU rs.length z) [])
  have q3:=anti (rs.getD (eU rs.length x) []) (rs.getD (eU rs.length z) [])
  have q4:=le (rs.getD (eU rs.length z) []) (rs.getD (eU rs.length y) []) (rs.getD (eU rs.length x) []) (by omega) (by omega)
  omega
theorem oj(E:fQ P w v r){K:Array Value}(Wj:cr n){C:List aH->List aH->Int}(anti:∀x g,C x g=- C g x)(Wv:∀x g VW,C x g<=0->C g VW<=0->C x VW<=0) (Wi:∀A Y V5 x g,Ky (λm=>v.ownBlock=some m) w A->x∈r->g∈r->qu P A Y x->qu P A V5 g->Calls prog n (#[Y,V5]++K) A λe s=>e=.returned (.int .i64 (C x g))/\Up A s) (Wp:r.length<=2147483648):Calls prog 26 #[v,.func (.func n) #[] K] w λe s=>e=.returned (.tuple #[])/\∃Q,Q.Perm r/\Q.Pairwise (λx g=>C x g<=0)/\fQ P s v Q/\Ky (λm=>v.ownBlock=some m) w s/\∃c Z:List Value,c.length=r.length/\Z.length=r.length/\w.ownsRow 0 40 1 v r.length c/\s.ownsRow 0 40 1 v r.length Z/\(Z.zip Q).Perm (c.zip r):=by
 by_cases VX:r.length=0;.have G:r=[]:=dF VX;subst G;obtain⟨V6,V7,rfl⟩:=E.form;have y:=AnyF.slices_SortFunc_none { Tryz.sortR with } V6 V7 (.func (.func n) #[] K) w;change Calls prog 26 _ _ _ at y;refine y.mono ?_;rintro e s ⟨rfl,rfl⟩;obtain⟨c,J,k,_⟩:=E.o;exact⟨rfl,[],List.Perm.refl _,List.Pairwise.nil,E,Ky.refl _ _,c,c,J,J,k,k,List.Perm.refl _⟩
 .have Wl:=E.g;obtain⟨c,J,k,Wt⟩:=E.o;obtain⟨b,u⟩:=bj r.length;have W:c.length=b:=J.trans u;rw[u] at k Wp VX;(have F:0<b:=by omega);(obtain⟨l,B,rfl⟩:∃l B,v=.slice (some ⟨l,0,none⟩) b B:=by(rcases k.2 with ⟨_,R⟩|⟨l,B,Wy,e,_⟩);(.omega);.exact⟨l,B,e⟩);have X:Tg 40 w l:=br k rfl;have Wd:∀args w,(callFunc n args).run prog w=.ok (.enter n args) w:=Wj;(have V:(Array.range b).size=b:=by simp);(have t:∀a,a<b->c[a]?=some (c.getD a (.slice none 0 0))/\r[a]?=some (r.getD a []):=λa i=>by constructor;(.rw[cQ,VR (by omega)];rfl);.rw[cQ,VR (by omega)];rfl);have M:∀a,a<b->qu P w (c.getD a (.slice none 0 0)) (r.getD a []):=λa i=>Wt a _ _ (t a i).1 (t a i).2;(have L:∀x,i2 c x=c.getD (eU b x) (.slice none 0 0):=λx=>by unfold i2;rw[W]);(have Wk:Holds (i2 c) w l 0 (Array.range b):=λf j=>by(have V0:f<b:=by simpa using j);(have Wa:(Array.range b)[f]! =f:=by rw[getElem!_pos (Array.range b) f j];simp);rw[Wa,bI];refine⟨?_,World.ownsRow.frozenAt k f⟩;rw[World.ownsRow.cellAt k f (by omega)];unfold i2;rw[W,jN V0,(t f V0).1]);have V3:∀(o:Nat) (p:Array Obj) (D:Array Nat),D.size=b->Ky (λm=>m=l) w (sortWorld (i2 c) w l 0 o D p):=λo p D q=> Ky.ao (iu (enc:=i2 c) (n:=o) (os:=p) k q).2 (λWB e=>by injection e with e;exact e.symm);(have Wm:CmpLays1 prog n K (i2 c) (sb C r) l 0 (Array.range b).size w:=λo p D q x g=>by have z:=V3 o p D (by rw[q,V]);have V8:=(M (eU b x) (jM F x)).ky z λm _ I e=>X.ne I (by decide) e.symm;have V9:=(M (eU b g) (jM F g)).ky z λm _ I e=>X.ne I (by decide) e.symm;have VZ:∀a,a<b->r.getD a []∈r:=λa i=>VQ (t a i).2;have:=Wi _ _ _ _ _ (z.mono λm e=>by subst e;rfl) (VZ _ (jM F x)) (VZ _ (jM F g)) V8 V9;unfold sb;rw[u];rw[L x,L g];exact this.mono λe s h=>⟨h.1,h.2.grown⟩);(have Wq:OneCell (i2 c):=λa=>by have:=(M (eU b a) (jM F a)).one;unfold i2;rw[W];exact this);have y:=Any.slices_SortFunc Tryz.sortR (i2 c) Wq (sb C r) (En anti Wv r) n K l 0 B (Array.range b) w Wd Wm Wk (k.lt l rfl).2 (by rw[V];omega);change Calls prog 26 _ _ _ at y;rw[V] at y;refine y.mono ?_;rintro e s ⟨rfl,d,o,p,Wr,Wu,rfl⟩;obtain⟨Ws,WA,V2⟩:=Wr;(have q:d.size=b:=by rw[Ws];simp);(have Wb:d.extract 0 b=d:=by rw[<-q];simp);(have Wc:(Array.range b).extract 0 b=Array.range b:=by simp);rw[Wb,Wc] at V2;(have T:d.toList.Perm (List.range b):=by(have Wh:(Array.range b).toList=List.range b:=by simp);(have VY:d.toList.Perm (Array.range b).toList:=by simpa using V2);rw[Wh] at VY;exact VY);(have N:∀a,a<b->d[a]! < b:=λa i=>by(have:d[a]!∈d.toList:=by rw[getElem!_pos d a (by omega)];simp);exact List.mem_range.1 (T.mem_iff.1 this));(have S:∀a,a<b->d.toList[a]?=some d[a]!:=λa i=>by rw[Array.getElem?_toList,getElem!_pos d a (by omega)];exact Array.getElem?_eq_getElem (by omega));obtain⟨V4,WC⟩:=iu (enc:=i2 c) (n:=o) (os:=p) k q;have z:=V3 o p d q;(have V1:(d.toList.map λa=>r.getD a []).length=b:=by simp[q]);refine⟨rfl,d.toList.map λa=>r.getD a [],?_,?_,⟨⟨d.toList.map (i2 c),by simp,by rw[V1];exact V4,λa Y WD O G=>?_⟩,λWe e=>Wl We e⟩,z.mono λm e=>by subst e;rfl,c,d.toList.map (i2 c),J,by simp[q,u],by rw[u];exact k,by rw[u];exact V4,?_⟩;(.refine(T.map _).trans ?_;(have:(List.range b).map (λa=>r.getD a [])=r:=by apply List.ext_getElem?;intro f;rw[bL];by_cases j:f<b;(.rw[List.getElem?_range j,(t f j).2];rfl);.rw[List.getElem?_eq_none (by simp;omega),List.getElem?_eq_none (by omega)];rfl);rw[this]);(.refine List.pairwise_iff_getElem.2 λa f i j Wn=>?_;rw[V1] at i j;have R:=Wu a f bt Wn j;unfold ltOf sb at R;rw[decide_eq_false_iff_not,u,jN (N a i),jN (N f j)] at R;have Wz:=anti (r.getD d[a]! []) (r.getD d[f]! []);(have Wf:(d.toList.map λa=>r.getD a [])[a]?=some (r.getD d[a]! []):=by rw[bL,S a i];rfl);(have Wg:(d.toList.map λa=>r.getD a [])[f]?=some (r.getD d[f]! []):=by rw[bL,S f j];rfl);rw[(bD Wf).2,(bD Wg).2];omega);(·(have i:a<b:=by have:=(bD O).1;simp at this;omega);rw[bL,S a i] at O G;simp only[Option.map_some,Option.some.injEq] at O G;subst O G;rw[L,jN (N a i)];exact(M _ (N a i)).ky z λm _ I e=>X.ne I (by decide) e.symm);·(have Ww:(d.toList.map (i2 c)).zip (d.toList.map λa=>r.getD a [])=d.toList.map λa=>(i2 c a,r.getD a []):=by rw[List.zip_map']);(have Wx:c.zip r=(List.range b).map λa=>(i2 c a,r.getD a []):=by apply List.ext_getElem?;intro f;rw[bL];by_cases j:f<b;(.rw[List.getElem?_range j,(List.getElem?_zip_eq_some (z:=(c.getD f (.slice none 0 0),r.getD f []))).2 ⟨(t f j).1,(t f j).2⟩];simp only[Option.map_some];rw[L,jN j]);.rw[List.getElem?_eq_none (by simp;omega),List.getElem?_eq_none (by simp;omega)];rfl);rw[Ww,Wx];exact T.map _
theorem tt{c:List (Int×Bool)}{b:Int×Bool}(h:c[n]?=some b)(x a:List aH):d5 (c.drop n) x a=if ic b x a=0 then d5 (c.drop (n+1)) x a else ic b x a:=by obtain⟨e,d⟩:=bD h;rw[gP e,d,d5]
theorem sj:∀(a b:List UInt8),-1<=Lib.compareBytes a b/\Lib.compareBytes a b<=1
 | [],[]=>by simp[Lib.compareBytes]
 | [],_::_=>by simp[Lib.compareBytes]
 | _::_,[]=>by simp[Lib.compareBytes]
 | c::a,d::b=>by have:=sj a b;simp only[Lib.compareBytes];split;(.omega);.split<;>omega
theorem AK(x a:aH):-1<=dk x a/\dk x a<=1:=by
 have h:=sj (bk x).s.data.toList (bk a).s.data.toList;have e:-1<=jt (bk x).s (bk a).s/\jt (bk x).s (bk a).s<=1:=h;have d:∀b c:Int,-1<=dI b c/\dI b c<=1:=λb c=>by unfold dI;split<;>(try split)<;>omega
 have f:=d (bk x).k (bk a).k;have g:=d (bk x).n (bk a).n;unfold dk mv;split<;>(try split)<;>omega
def eZ(b:List (Int×Bool))(c:Nat):Prop:=b.length<=1048576/\∀a∈b,0<=a.1/\a.1<(c:Int)
theorem Si{e:List (Int×Bool)}{ca cb:Nat}(Wt:w.cell? ⟨n,0,none⟩=some (.slice a e.length k))(V3:dh w a e)(A:eZ e m)(Ww:m<=64)(V8:x.length=m)(V9:y.length=m)(V4:bX w b x)(V5:bX w d y):Calls prog 227 #[.slice b x.length ca,.slice d y.length cb,.pointer (some ⟨n,0,none⟩)] w λF l=>F=.returned (.int .i64 (d5 e x y))/\Up w l:=by
 have Wv:=A.1;have Wf:=H V3;have Wg:=H A.2;have Wd:=H V4;have We:=H V5;have Wh:=H V8;have Wi:=H V9;have Wx:x.length<=64:=by omega
 have Wy:y.length<=64:=by omega
 clear V3 A V4 V5 V8 V9;go_enter func227,ntmps227;go_wp2_with fail;go_loopw[11] (λS wr=>∃j:Nat,j<=e.length/\S=.int .i64 (j:Int)/\Hid (d5 e x y=d5 (e.drop j) x y/\Up w wr)) (λS _=>e.length-(intOf S).toNat);case atStart=>exact⟨0,bt,rfl,rfl,Up.refl _⟩
 case round=>obtain⟨j,Wu,rfl,v⟩:=hrel;by_cases Wm:j<e.length;(·(have Wl:(j:Int)<(e.length:Int):=by omega);obtain⟨I,s⟩:∃I,e[j]?=some I:=⟨_,VR Wm⟩;obtain⟨Wr,WM,rfl,W,Wk⟩:=((U Wf).aa (U v).2.1).get s;have V:=H (tt s x y);obtain⟨A,V7⟩:=U Wg I (VQ s);have WJ:=ck _ _ W;obtain⟨Wa,t⟩:=I;clear s;simp only at W Wk A V7;obtain⟨c,rfl⟩:∃c:Nat,Wa=(c:Int):=⟨Wa.toNat,by omega⟩;(have WH:(c:Int)<(x.length:Int):=by have:=U Wh;omega);(have WI:(c:Int)<(y.length:Int):=by have:=U Wi;omega);obtain⟨o,s⟩:∃o,x[c]?=some o:=⟨_,VR (by omega)⟩;obtain⟨p,R⟩:∃p,y[c]?=some p:=⟨_,VR (by omega)⟩;obtain⟨L,T,rfl,N,X,Y⟩:=((U Wd).aa (U v).2.1).lo s;obtain⟨M,ob,rfl,O,VZ,V0⟩:=((U We).aa (U v).2.1).lo R;have WK:=ck _ _ N;have WL:=ck _ _ O;(have VX:x.getD c .null=o:=by rw[cQ,s];rfl);(have VY:y.getD c .null=p:=by rw[cQ,R];rfl);obtain⟨i,G⟩:=bj (dk o p);have Wn:=AK o p;rw[G] at Wn;(have B:ic ((c:Int),t) x y=if t then -i else i:=by unfold ic;simp only[Int.toNat_natCast];rw[VX,VY,G]);obtain⟨C,J⟩:=U v;(have g:Hid (d5 e x y=if ic ((c:Int),t) x y=0 then d5 (e.drop (j+1)) x y else ic ((c:Int),t) x y):=by show _=_;rw[C,U V]);have Ws:IntKind.i64.wrap (-i)=-i:=hH _ (by omega);(have K:Hid (∀q,Calls prog 30 #[o.v,p.v] q λF l=>F=.returned (.int .i64 i)/\Up q l):=by intro q;rw[<-G];exact jO o p q);rw[o.open_,p.open_] at K;have D:=H J;clear C J G VX VY s R A V7 V v;obtain⟨q,z⟩:=bj (wr.alloc (.cells #[.int .i64 (c:Int),.bool t] 185));(have Z:q.cell? ⟨wr.heap.size,0,none⟩=some (.int .i64 (c:Int)):=by rw[<-z];simp[go_sem]);(have VW:q.cell? ⟨wr.heap.size,1,none⟩=some (.bool t):=by rw[<-z];simp[go_sem]);(have u:Bw wr q:=by rw[<-z];exact am VS _);have g0:=ae N u;have V1:=ae X u;have V2:=ae Y u;have Wb:=ae O u;have p1:=ae VZ u;have p2:=ae V0 u;(replace D:Hid (Up w q):=by rw[<-z];exact(U D).alloc _);clear u;go_upto_region 4 with fail;(try rw[z]);clear N X Y O VZ V0 z;go_cut[8] (λWq Wc=>Wq=.int .i64 i/\Hid (Up w Wc)/\Wc.cell? ⟨wr.heap.size,1,none⟩=some (.bool t));(case first=>go_region_held3 (λl=>l.cell? ⟨wr.heap.size,0,none⟩=some (.int .i64 (c:Int))/\l.cell? ⟨L,T+c*3,none⟩=some (.int .i64 o.k)/\l.cell? ⟨L,T+c*3+1,none⟩=some (.int .i64 o.n)/\l.cell? ⟨L,T+c*3+2,none⟩=some (.string o.s)/\l.cell? ⟨M,ob+c*3,none⟩=some (.int .i64 p.k)/\l.cell? ⟨M,ob+c*3+1,none⟩=some (.int .i64 p.n)/\l.cell? ⟨M,ob+c*3+2,none⟩=some (.string p.s)) (go_keep) (first | (go_at_call 30;refine(U K _).mono ?_;rintro F WN ⟨rfl,Q⟩;have Wj:=H ((U D).drew.step Q);have r:=H (ac (VT _ q).drew Q.1);have Wp:=ae VW (U r);have Wz:=ae Z (U r);have WA:=ae g0 (U r);have WB:=ae V1 (U r);have WC:=ae V2 (U r);have WD:=ae Wb (U r);have WE:=ae p1 (U r);have WF:=ae p2 (U r);clear Q));all_goals (go_wp2;go_meet;exact⟨rfl,U Wj,Wp⟩));case rest=>obtain⟨rfl,E,WG⟩:=hcut;clear Z VW D g0 V1 V2 Wb p1 p2 K;cases t;(.rw[VU (by decide)] at B;rw[B] at g;clear B;by_cases f:i=0;(.rw[ba f] at g;(have P:(i != 0)=false:=by simpa using f);clear f;go_wp2;go_roundw;(case rel=>exact⟨j+1,by omega,by go_num,U g,U E⟩);case measure=>simp[intOf];omega);.rw[VU f] at g;(have P:(i != 0)=true:=by simpa using f);clear f;go_wp2;go_ret;exact⟨by rw[U g];rfl,U E⟩);.rw[ba rfl] at B;rw[B] at g;clear B;by_cases f:-i=0;(.rw[ba f] at g;(have P:(-i != 0)=false:=by simpa using f);clear f;go_wp2;go_roundw;(case rel=>exact⟨j+1,by omega,by go_num,U g,U E⟩);case measure=>simp[intOf];omega);.rw[VU f] at g;(have P:(-i != 0)=true:=by simpa using f);clear f;go_wp2;go_ret;exact⟨by rw[U g];rfl,U E⟩);·(have Wl:¬(j:Int)<(e.length:Int):=by omega);(have V6:j=e.length:=by omega);obtain⟨C,J⟩:=U v;(have g:Hid (d5 e x y=0):=by show _=_;rw[C,V6,List.drop_length];rfl);clear C V6;go_wp2;go_ret;exact⟨by rw[U g];rfl,J⟩
theorem zG(b:Option Addr)(d c:Nat)(a:World):Calls prog 219 #[.slice b d c] a λe f=>e=.returned (.func (.func 227) #[] #[.pointer (some ⟨a.heap.size,0,none⟩)])/\f=a.alloc (.cells #[.slice b d c] 24):=by go_enter func219,ntmps219;go_wp2;go_ret;exact⟨rfl,rfl⟩
theorem Ch{e:List (Int×Bool)}(P:w.cell? ⟨m,0,none⟩=some (.func (.func 227) #[] #[.pointer (some ⟨n,0,none⟩)]))(A:w.cell? ⟨n,0,none⟩=some (.slice a e.length j))(B:dh w a e)(D:eZ e k)(M:k<=64)(E:x.length=k)(F:y.length=k)(t:bX w b x)(u:bX w d y):Calls prog 220 #[.slice b x.length i,.slice d y.length l,.pointer (some ⟨m,0,none⟩)] w λp N=>p=.returned (.int .i64 (fj e x y))/\Up w N:=by
 have q:=H (Si (ca:=i) (cb:=l) A B D M E F t u);have z:=H (λv (G:Up w v)=>up b d i l x y v (by unfold maxLen;omega) (by unfold maxLen;omega) (t.aa G.1) (u.aa G.1));obtain⟨f,r⟩:=bj (d5 e x y);obtain⟨K,s⟩:=bj (cd x y);have C:fj e x y=if f=0 then K else f:=by unfold fj;rw[r,s]
 rw[C];rw[r] at q;rw[s] at z;clear B D E F t u C r s A;by_cases c:f=0
 .have L:(f != 0)=false:=by simpa using c
  rw[ba c];clear c;go_enter func220,ntmps220
  go_wp2_with (first
   | (go_at_call 227;refine(U q).mono ?_;rintro p O ⟨rfl,g⟩;have o:=H g;clear g)
   | (go_at_call 13;refine(U z _ (U o)).mono ?_;rintro p v ⟨rfl,I⟩;have J:=H I;clear I))
  go_ret;exact⟨rfl,(U o).step (U J)⟩
 .have L:(f != 0)=true:=by simpa using c
  rw[VU c];clear c;go_enter func220,ntmps220
  go_wp2_with (first
   | (go_at_call 227;refine(U q).mono ?_;rintro p O ⟨rfl,g⟩;have o:=H g;clear g))
  go_ret;exact⟨rfl,U o⟩
structure lK(P:Nat->Prop)(w:World)(ks:List (Int×Bool))(B2:Nat):Prop where
 c:∃B aK cK,w.cell? ⟨B2,0,none⟩=some (.func (.func 227) #[] #[.pointer (some ⟨B,0,none⟩)])/\w.cell? ⟨B,0,none⟩=some (.slice aK ks.length cK)/\dh w aK ks/\P B/\∀b off,aK=some ⟨b,off,none⟩->ks≠[]->P b
 b:P B2
theorem DE{d:List (Int×Bool)}(h:dh w a d)(g:Ky P w W)(i:∀b c,a=some ⟨b,c,none⟩->d≠[]->¬P b):dh W a d:=by
 by_cases e:d=[];.exact .inl e
 rcases h with h|⟨b,c,f,h⟩;.exact .inl h
 .exact .inr ⟨b,c,f,λk l j=>⟨g.cell (h k l j).1 (i b c f e),g.cell (h k l j).2 (i b c f e)⟩⟩
theorem lK.ky{F:Nat->Prop}{f:List (Int×Bool)}(h:lK P w f n)(a:Ky F w W)(b:∀e,P e->¬F e):lK P W f n:=by obtain⟨g,i,k,m,o,p,c,d⟩:=h.c;exact⟨⟨g,i,k,a.cell m (b _ h.b),a.cell o (b _ c),DE p a λj q l r=>b _ (d j q l r),c,d⟩,h.b⟩
theorem lK.mono{Q:Nat->Prop}{c:List (Int×Bool)}(h:lK P w c n)(a:∀b,P b->Q b):lK Q w c n:=by obtain⟨d,e,g,j,k,l,m,o⟩:=h.c;exact⟨⟨d,e,g,j,k,l,a _ m,λf p i q=>a _ (o f p i q)⟩,a _ h.b⟩
theorem lK.call{a:List (Int×Bool)}(h:lK P w a n)(i:eZ a m)(p:m<=64)(j:x.length=m)(k:y.length=m)(l:qu Q w v x)(o:qu Q w u y):Calls prog 220 #[v,u,.pointer (some ⟨n,0,none⟩)] w λb q=>b=.returned (.int .i64 (fj a x y))/\Up w q:=by obtain⟨r,t,B,c,d,e,D,E⟩:=h.c;obtain⟨s,A,rfl,f,_⟩:=l;obtain⟨z,C,rfl,g,_⟩:=o;exact Ch c d e i p j k f g
theorem CP:cr 220:=λargs a=>by kernel_rfl
theorem DJ{Q:Nat->Prop}{b:List (Int×Bool)}(j:dh w a b)(l:∀c g,a=some ⟨c,g,none⟩->b≠[]->Q c):Calls prog 201 #[.slice a b.length n] w λd i=>∃e,d=.returned (.func (.func 220) #[] #[.pointer (some ⟨e,0,none⟩)])/\lK (λf=>Q f∨(w.heap.size<=f/\f<i.heap.size)) i b e/\w.heap.size<=e/\Bw w i:=by have m:=H (zG a b.length n w);have o:=H j;have p:=H l;clear j l;go_enter func201,ntmps201;go_wp2_with (go_at_call 219;refine(U m).mono ?_;rintro d s ⟨rfl,rfl⟩);go_ret;have q:=(am (VT _ w) (.cells #[.slice a b.length n] 24));have k:=am q (.cells #[.func (.func 227) #[] #[.pointer (some ⟨w.heap.size,0,none⟩)]] 41);refine⟨w.heap.size+1,rfl,⟨⟨w.heap.size,a,n,by simp[go_sem],by simp[go_sem],(U o).aa k,.inr ⟨bi,by simp;omega⟩,λc g d r=>.inl (U p c g d r)⟩,.inr ⟨by omega,by simp⟩⟩,by omega,k⟩
theorem Cs{c:List (Int×Bool)}{x:List aH}(a:dH n x)(b:dH n y)(h:fj c x y=0):x=y:=by have:=jK x y (uB h);rw[a.clean,b.clean] at this;exact this
def cj(a:List (Int×Bool))(b:List (List aH)):List (List aH):=b.mergeSort λc d=>decide (fj a c d<=0)
theorem cB(b:List (Int×Bool))(a:List (List aH)):(cj b a).Perm a:=List.mergeSort_perm _ _
theorem io(a:List (Int×Bool))(f:List (List aH)):(cj a f).Pairwise λd e=>fj a d e<=0:=by
 have:=List.pairwise_mergeSort (le:=λd e=>decide (fj a d e<=0)) (λb c g i j=>by
  simp only[cF] at *;exact lV a b c g i j) (λb c=>by
  have:=gz a b c;simp only[Bool.or_eq_true,cF];omega) f
 exact this.imp λh=>by simpa using h
theorem l9{a:List (Int×Bool)}(f:∀k∈r,dH n k)(e:A.Perm r)(j:A.Pairwise λx d=>fj a x d<=0):A=cj a r:=
 List.Perm.eq_of_pairwise (le:=λx d=>fj a x d<=0) (λb c g i l m=>by
  have:=gz a b c
  exact Cs (f b (e.mem_iff.1 g)) (f c ((cB a r).mem_iff.1 i)) (by omega:fj a b c=0)) j (io a r) (e.trans (cB a r).symm)
theorem od{a:List (Int×Bool)}(k:fQ P w v r)(o:lK Q w a n)(q:eZ a m)(z:m<=64)(e:∀F∈r,dH m F)(s:r.length<=2147483648)(p:∀j,v.ownBlock=some j->¬Q j):Calls prog 26 #[v,.func (.func 220) #[] #[.pointer (some ⟨n,0,none⟩)]] w λb c=>b=.returned (.tuple #[])/\fQ P c v (cj a r)/\Ky (λf=>v.ownBlock=some f) w c/\∃g i:List Value,g.length=r.length/\i.length=r.length/\w.ownsRow 0 40 1 v r.length g/\c.ownsRow 0 40 1 v r.length i/\(i.zip (cj a r)).Perm (g.zip r):=by
 refine(oj k CP (C:=fj a) (gz a) (lV a) (λJ L M G I d A B x y=>?_) s).mono ?_;.have:=(o.ky d λf E b=>p f b E).call q z (e G A).len (e I B).len x y;simpa using this
 .rintro b c ⟨rfl,K,t,u,l,d,D⟩;rw[<-l9 e t u];exact⟨rfl,l,d,D⟩
theorem iv{o:Oper}{m:Act}{v:Act->World->Prop}{I:Exit->Act->World->Prop}(G x:Operand)(Q:o.op=.call { callee:=.builtin .append,args:=#[G,x],argTypes:=#[31,31] }) {P:Nat->Prop} (g:Value) (k:List (List aH)) (F:List aH) (S:m.eval G=g) (A:fQ P w g k) (t:Nat) (p:Value) (V:m.eval x=.slice (some ⟨t,0,none⟩) 1 1) (d:w.cell? ⟨t,0,none⟩=some p) (B:qu P w p F) (VX:k.length+1<=4398046511104) (L:∀a,P a->a<w.heap.size) (h:∀r e (l:Nat->Prop),fQ l e r (k++[F])->(∀a,P a->l a)->(∀a,l a->P a∨w.heap.size<=a)->(∀a,l a->a<e.heap.size)->Ky (λa=>g.ownBlock=some a) w e->v (m.put o.dst r) e):o.wp prog m w v I:=by
 obtain⟨W,N,Y,Z,VW⟩:=info_parts iB;obtain⟨q,J,y,K⟩:=A.o
 obtain⟨r,e,R,E,X,_,j⟩:=run_append_own_at (P:=prog) w 0 31 o.type 40 W (.slice none 0 0) 1 24 underlying31 N Y Z VW rfl (by decide) g k.length q y ⟨t,0,none⟩ 1 1 [p] rfl (λD u f=>by
  match D,f with
  | 0,f=>simp at f;subst f;simpa [Addr.add] using d
  | D+1,f=>simp at f) (λu d=>by simp at d;subst d;exact B.one) (by unfold maxLen;omega) (by omega) bt
 unfold Oper.wp execOp;simp only[Q,resolve,invoke,builtin,Sem.run_bind,Sem.run_pure,Result.andThen_ok,List.map_toArray,dX,List.map_nil,S,V,R];have n:Ky (λa=>g.ownBlock=some a) w e:=Ky.ao X (λs c=>c);have z:∀a,P a->Tg 43 w a->¬g.ownBlock=some a:=λa _ T c=>(br y c).ne T (by decide) rfl;refine h r e (λa=>P a∨(w.heap.size<=a/\a<e.heap.size)) ⟨⟨q++[p],by simp[J],?_,λC u b d i=>?_⟩,λs c=>?_⟩ (λa b=>.inl b) (λa b=>b.imp id λb=>b.1) (λa b=>by rcases b with b|b;have:=L a b;have:=n.size;omega;exact b.2) n;.rw[bG];exact E
 .rcases de (vs:=q) d with d|⟨M,rfl⟩;(.have M:C<q.length:=(bD d).1;rw[eK (by omega)] at i;exact((K C u b d i).ky n z).mono λa b=>.inl b);.rcases de (vs:=k) i with i|⟨_,rfl⟩;(.have:=(bD i).1;omega);.exact(B.ky n z).mono λa b=>.inl b
 .have O:=(World.ownsRow.lt E s c).2;rcases j with j|j;(.rw[j] at c;exact .inl (A.g s c));.refine .inr ⟨?_,O⟩;rw[j] at c;simp[Value.ownBlock] at c;omega
theorem k3{c:Nat}{w:World}(C:x.length<=1000000)(r:sE a)(s:bX w a x):Calls prog 42 #[.slice a x.length c] w λb g=>∃l,b=.returned l/\qu (λk=>w.heap.size<=k/\k<g.heap.size) g l x/\Bw w g:=by
 refine(sH x a c w (by omega) r s).mono ?_;rintro _ g ⟨z,rfl,e,t⟩;refine⟨z,rfl,?_,t⟩;unfold dx at e;rcases e.2 with ⟨rfl,q⟩|⟨p,n,o,rfl,u,j,_⟩
 .have:x=[]:=dF q;subst this;exact⟨none,0,rfl,.inl rfl,λm y b=>(by cases b),λA b=>(by cases b)⟩
 .have v:=(Array.getElem?_eq_some_iff.1 j).1;refine⟨_,n,rfl,.inr ⟨p,0,rfl,λd i f=>?_⟩,λm y b _=>?_,jv _ _⟩;(.have B:=(bD f).1;refine⟨?_,?_,?_⟩;(.rw[bI,World.ownsRow.cellAt e (d*3) (by omega)];exact d2 x d 0 i f (by omega));(.rw[bI,World.ownsRow.cellAt e (d*3+1) (by omega)];exact d2 x d 1 i f (by omega));.rw[bI,World.ownsRow.cellAt e (d*3+2) (by omega)];exact d2 x d 2 i f (by omega));.injection b with b;injection b with b;subst b;exact⟨⟨u,v⟩,o,_,j⟩
structure D8(w0:World)(bx:Nat)(O:Nat->Prop)(ys:List (List aH))(W:World):Prop where
 v:∃v P,W.cell? ⟨bx,0,none⟩=some v/\fQ P W v ys/\∀k,P k->O k/\k≠bx
 fr:W.frozen? ⟨bx,0,none⟩=false
 o:O bx
 lim:∀k,O k->w0.heap.size<=k/\k<W.heap.size
theorem Av:qA w (D8 w n):=
 ⟨λ{f o m i p} h b d=>by
  obtain⟨l,g,j,k,e⟩:=h.v
  exact⟨⟨l,g,b.cell j (d _ h.o),k.ky b λa c=>d a (e a c).1,e⟩,by rw[b.frozen (h.lim _ h.o).2 (d _ h.o)];exact h.fr,h.o,λa c=>⟨(h.lim a c).1,cN (h.lim a c).2 b.size⟩⟩,λ{f m i} h=>h.lim⟩
theorem DZ:cr 41:=λargs a=>by kernel_rfl
theorem vx(Wj:n<=64)(Wk:r.length<=2147483648)(e:D8 W m P r X)(VY:dH n x)(T:bX X a x)(V8:sE a):Calls prog 41 #[.slice a x.length k,.pointer (some ⟨m,0,none⟩)] X (gm (D8 W m) P (r++[x]) X):=by
 obtain⟨Wm,B,t,C,R⟩:=e.v;obtain⟨j,l,rfl⟩:=C.form;have V1:=H (k3 (c:=k) (w:=X.drew) (by rw[VY.len];omega) V8 (T.aa (VT _ X).drew));have z:=H e;have y:=H C;have i:=H R;have A:Hid (Bw X X.drew):=(VS).drew;have K:Hid (X.drew.cell? ⟨m,0,none⟩=some (.slice j r.length l)):=ae t (U A);clear e C R VY T;go_enter func41,ntmps41;go_upto_region 0 with fail;refine bH (λX:World=>X.cell? ⟨m,0,none⟩=some (.slice j r.length l)) 5 ?_;refine ap 0 (.slice j r.length l) rfl (U K) ?_;refine ap 1 (.slice a x.length k) rfl (U K) ?_;refine bh 2 rfl λf d=>?_;go_simp;refine(U V1).mono ?_;rintro _ I ⟨Wl,rfl,VZ,V9⟩;have Wh:=VZ.one;go_simp;have p:=H (ac (U A) V9);have M:=H VZ;have V6:=ae t (U p);refine VP d V6 ?_;clear d f;refine bh 3 rfl λf d=>?_;obtain⟨N,V0,Wa,_⟩:=U M;subst Wa;go_simp;have o:=H (am (VT _ I) (.cells #[.slice N x.length V0] 40));have q:=H (ac (U p) (U o));have c3:=ae t (U q);refine VP d c3 ?_;clear d f;refine bh 4 rfl λf d=>?_;refine iv (P:=λb=>B b∨(X.heap.size<=b/\b<I.heap.size)) (.tmp 3) (.tmp 6) rfl (.slice j r.length l) r x rfl (((U y).ky (G:=λ_=>False) (Ky.ab (U q)) λ_ _=>id).mono λb c=>.inl c) I.heap.size (.slice N x.length V0) rfl (by simp[go_sem]) (((U M).mono λb c=>.inr c).ky (G:=λ_=>False) (Ky.ab (U o)) λ_ _ _=>id) (by omega) (λb c=>?_) ?_;.have Wc:=(U p).size;have Wd:=(U o).size;rcases c with c|c;(.have:=((U z).lim b (U i b c).1).2;omega);.omega
 intro Wn J s D Z VW V v;have u:¬(Value.slice j r.length l).ownBlock=some m:=λg=>(U i m ((U y).g m g)).2 rfl;have O:=v.cell c3 u;have V7:J.frozen? ⟨m,0,none⟩=false:=by rw[v.frozen (ck _ _ c3) u,(cO (U q)).2 m 0 (ck _ _ t)];exact(U z).fr
 obtain⟨V5,Wb,Q⟩:=D.form;have Y:(r++[x]).length=r.length+1:=by simp
 rw[Y] at Q;subst Q;have V2:=H D;have Wf:=H Z;have V3:=H VW;have V4:=H V;have L:=H v;have We:=H u;clear D Z VW V v u Y;refine VP d O ?_;clear d f;refine bh 5 rfl λf d=>?_;go_simp;refine bE d ?_;clear d f;refine cf ?_;go_wp2;go_end0;have Wc:=(U p).size;have Wd:=(U o).size;have Wp:=(U A).size;have e:=U z;have E:Ky (λb=>b=m) J (J.setCell ⟨m,0,none⟩ (.slice V5 (r.length+1) Wb)):=cS _ _ _ _ rfl;have Wg:=(e.lim m e.o).2;have Wi:=(e.lim m e.o).1;have S:∀b,s b->B b∨X.heap.size<=b:=λb c=>by(rcases U V3 b c with (c|c)|c);(.exact .inl c);(.exact .inr c.1);.exact .inr (by omega)
 have VX:∀b,s b->b≠m:=λb c=>by rcases S b c with c|c;(.exact(U i b c).2);.omega
 refine⟨rfl,λb=>P b∨(s b/\X.heap.size<=b),⟨⟨_,s,b5 O,(U V2).ky E λb c g=>VX b c g,λb c=>⟨?_,VX b c⟩⟩,by rw[bN];exact V7,.inl e.o,λb c=>?_⟩,λb c=>c.imp id λc=>c.2,?_⟩;.rcases S b c with F | F;(.exact .inl (U i b F).1);.exact .inr ⟨c,F⟩
 .have Wq:=(U L).size;have Wr:=E.size;rcases c with c|c;(.have:=e.lim b c;omega);.have:=U V4 b c.1;omega
 .exact((Ky.ab (U q)).trans ((U L).mono λb g=>(U i b ((U y).g b g)).1) (Nw.refl _ _)).trans (E.mono λb g=>g ▸ e.o) (Nw.refl _ _)
theorem Aw{w0 W:World}(P:m<=64)(q:cU 40 w0 n 0 m r)(Q:r.length<=2147483648)(p:Bw w0 W):Calls prog 25 #[.pointer (some ⟨n,0,none⟩)] W λK j=>∃w l,K=.returned w/\fQ l j w r/\(∀a,l a->W.heap.size<=a/\a<j.heap.size)/\Bw W j:=by
 have c:=am (VT _ W) (.cells #[.slice none 0 0] 31);have d:(W.alloc (.cells #[.slice none 0 0] 31)).heap.size=W.heap.size+1:=by simp
 have e:(W.alloc (.cells #[.slice none 0 0] 31)).cell? ⟨W.heap.size,0,none⟩=some (.slice none 0 0):=by simp[go_sem]
 have f:(W.alloc (.cells #[.slice none 0 0] 31)).frozen? ⟨W.heap.size,0,none⟩=false:=by simp[go_sem]
 obtain⟨x,g⟩:=bn (W.alloc (.cells #[.slice none 0 0] 31));rw[<-g] at c d e f;have V:=p.size;have s:D8 w0 W.heap.size (λa=>a=W.heap.size) [] x:=⟨⟨_,λ_=>False,e,fQ.nil _ _,λa b=>b.elim⟩,f,rfl,λa b=>by omega⟩;have t:Tk w0 r m (.func (.func 41) #[] #[.pointer (some ⟨W.heap.size,0,none⟩)]) (D8 w0 W.heap.size):=by refine⟨⟨_,_,_,rfl⟩,λX V1 Z I J S R VY N O M VZ L=>⟨41,_,by simpa using fm DZ #[] #[.pointer (some ⟨W.heap.size,0,none⟩)] (.slice I S.length J),?_⟩,Av⟩;exact vx P (by have:=N.length_le;simp at this;omega) R O M L
 have A:=H (q r _ _ _ [] x t s (ac p c) (List.prefix_refl _) Q);have F:=H g;have z:=H c;have E:=H d;clear t s e f d c g V q;go_enter func25,ntmps25;go_upto_region 2 with fail;rw[<-U F];go_wp2_with (go_at_call 40;refine(U A).mono ?_;rintro VX V0 ⟨rfl,Y,i,v,u⟩;obtain⟨T,G,VW,o,p5⟩:=i.v;have y:=H o;have k:=H p5;have D:=H v;have B:=H u;have C:=H i.lim;clear i v u o p5);go_ret;have d:=U E;refine⟨T,G,rfl,by simpa using U y,λa b=>⟨?_,(U C a (U k a b).1).2⟩,(U z).trans ((U B).below (λa b=>by rw[b];exact bi) (by omega))⟩;rcases U D a (U k a b).1 with b|b;.rw[b];exact bi
 .omega
end Go.Proofs.YtklgoolblpmmlaaGreat
