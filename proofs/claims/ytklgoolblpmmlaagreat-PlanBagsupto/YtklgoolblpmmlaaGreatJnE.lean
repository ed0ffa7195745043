import Derived.Laws.CopyRow
import Derived.Test.YtklgoolblpmmlaaGreatGrB
set_option linter.all false
set_option maxHeartbeats 8000000
set_option maxRecDepth 100000
namespace Go.Proofs.YtklgoolblpmmlaaGreat
open Go.RowKit Go.Sort Go.Lib Go.Proofs.Tryz
theorem vu{w:World}(u:TypeId)(d c g k:Nat)(f:Addr)(i t:Nat)(b:Array Value)(a:List Value) (n:w.heap[d]?=some (.cells b 43 (0,0))) (q:a.length=Nat.min i g*3) (r:∀j e,a[j]?=some e->w.cell? (f.add j)=some e) (m:c+a.length<=b.size) (l:∀e∈a,e.oneCell'=true):(Builtin.copy_ #[40,40] u #[.slice (some ⟨d,c,none⟩) g k,.slice (some f) i t]).run prog w = .ok (goInt (Nat.min i g)) (w.setRow d (b.toList.take c++a++b.toList.drop (c+a.length)).toArray):=by have p:=run_loadCells_list (P:=prog) w f a r;have s:=run_storeCells_at prog d c 43 a 0 b w n (by simpa using m) l;obtain⟨x,o,y,v,z⟩:=info_parts jo;simp[Builtin.copy_,run_underlying underlying40,Builtin.lenOf,Builtin.firstCells,sizeOf,typeInfo,o,v,<-q,p,s]
def dB(a:List aH)(b:Nat)(c:List aH):List aH:=a.take b++(c++a.drop (b+c.length))
variable{x y z:List aH}{i j k l m n s t:Nat}{W X w:World}{a:Option Addr}{P Q R:Nat->Prop}{L M:List Ex}{e:Ex}{u v:Value}{c:aH}{o:Bool}{A r:List (List aH)}
theorem jV(h:n+y.length<=x.length):(dB x n y).length=x.length:=by simp[dB];omega
theorem tO(b:List aH)(a:Nat):(b.flatMap c3).take (a*3)=(b.take a).flatMap c3:=by
 induction b generalizing a with
 | nil=>simp
 | cons d b c=>
  cases a with
  | zero=>simp
  | succ a=>
   rw[List.take_succ_cons,eA,eA,<-c,show (a+1)*3=3+a*3 by omega]
   rw[List.take_append,fz (by simp[c3])]
   simp[c3]
theorem tP(b:List aH)(a:Nat):(b.flatMap c3).drop (a*3)=(b.drop a).flatMap c3:=by
 induction b generalizing a with
 | nil=>simp
 | cons d b c=>
  cases a with
  | zero=>simp
  | succ a=>
   rw[List.drop_succ_cons,eA,<-c,show (a+1)*3=3+a*3 by omega]
   rw[List.drop_append,gl (by simp[c3])]
   simp[c3]
theorem sk(h:e8 w n x)(q:bX w a y)(J:y≠[])(b:Nat)(F:b+y.length<=x.length)(i m l:Nat)(E:y.length<=i)(s:TypeId):∃k,(Builtin.copy_ #[40,40] s #[.slice (some ⟨n,b*3,none⟩) i m,.slice a y.length l]).run prog w=.ok (goInt y.length) k/\e8 k n (dB x b y)/\Ky (λj=>j=n) w k:=by
 obtain⟨d,g,v⟩:∃d g,a=some ⟨d,g,none⟩:=by rcases q with u|⟨d,g,c,_⟩;(.exact absurd u J);.exact⟨d,g,c⟩
 subst v;unfold e8 dx at h;rcases h.2 with ⟨c,_⟩|⟨N,L,e,c,z,o,P,C,D,K⟩
 .cases c
 injection c with f M t;injection f with f;injection f with f;subst f t;have B:e.toList=x.flatMap c3:=by rw[<-K,fz (by simp;omega)]
 have p:Nat.min y.length i=y.length:=Nat.min_eq_left E;have r:=vu (w:=w) s n (b*3) i m ⟨d,g,none⟩ y.length l e (y.flatMap c3) o (by rw[fY,p]) (om q) (by rw[fY,D];omega) (zF y);rw[p] at r;refine⟨_,r,?_,⟨rfl,rfl,rfl,by simp[World.setRow],λj O I=>setRow_other w n j _ (λc=>I c)⟩⟩;have G:=jV F;have A:(e.toList.take (b*3)++y.flatMap c3++e.toList.drop (b*3+(y.flatMap c3).length))=(dB x b y).flatMap c3:=by rw[B,tO,fY,show b*3+y.length*3=(b+y.length)*3 by omega,tP];unfold dB;rw[List.flatMap_append,List.flatMap_append,cI]
 rw[A];unfold e8 dx;refine⟨fY _,.inr ⟨n,_,_,rfl,z,setRow_heap w n e _ 43 _ o,bi,by rw[G];exact C,by rw[List.size_toArray,fY],?_⟩⟩;show List.take _ (List.flatMap c3 (dB x b y))=_;rw[fz (by rw[fY];exact bi)]
def lB(b:Nat->Prop)(c:World)(j:Option Addr)(i:List Ex):Prop:=∀(d:Nat) e,i[d]?=some e->∃a f g,j=some ⟨a,f,none⟩/\b a/\c.cell? ⟨a,f+d,none⟩=some g/\dz b c g e
theorem lB.ky{G:Nat->Prop}(h:lB P w a L)(d:Ky G w W)(e:∀f,P f->¬G f):lB P W a L:=λm g l=>by
 obtain⟨b,n,o,i,c,j,k⟩:=h m g l
 exact⟨b,n,o,i,c,d.cell j (e b c),k.ky d e⟩
structure ko(mx pb lb n1 n2:Nat)(e:Ex)(E0 E1:List Ex)(Q:Nat->Prop)(P L:List aH)(W:World):Prop where
 c0:W.cell? ⟨mx,0,none⟩=some (.slice (some ⟨pb,0,none⟩) (n1+n2) (n1+n2))
 c1:∃k,W.cell? ⟨mx,1,none⟩=some (.slice (some ⟨pb,0,none⟩) n1 k)
 c2:∃k,W.cell? ⟨mx,2,none⟩=some (.slice (some ⟨pb,n1*3,none⟩) n2 k)
 c3:W.cell? ⟨mx,3,none⟩=some (.slice (some ⟨lb,0,none⟩) (n1+n2) (n1+n2))
 c4:∃vF,W.cell? ⟨mx,4,none⟩=some vF/\dz Q W vF e
 c5:∃a k,W.cell? ⟨mx,5,none⟩=some (.slice a E0.length k)/\lB Q W a E0
 c6:∃a k,W.cell? ⟨mx,6,none⟩=some (.slice a E1.length k)/\lB Q W a E1
 p:e8 W pb P
 pl:P.length=n1+n2
 pv:∀x∈P,eO x
 l:e8 W lb L
 ll:L.length=n1+n2
 lv:∀x∈L,eO x
 ln:L.drop n1=List.replicate n2 aH.null
 q:Q mx/\¬Q pb/\¬Q lb/\pb≠lb
theorem ko.ky{G:Nat->Prop}(h:ko n m k j i e L M P x y w)(a:Ky G w W)(c:∀d,P d->¬G d)(v:¬G m)(u:¬G k):ko n m k j i e L M P x y W:=by have b:=c n h.q.1;obtain⟨z,l⟩:=h.c1;obtain⟨A,o⟩:=h.c2;obtain⟨D,p,E⟩:=h.c4;obtain⟨f,B,q,s⟩:=h.c5;obtain⟨g,C,r,t⟩:=h.c6;exact⟨a.cell h.c0 b,⟨z,a.cell l b⟩,⟨A,a.cell o b⟩,a.cell h.c3 b,⟨D,a.cell p b,E.ky a c⟩,⟨f,B,a.cell q b,s.ky a c⟩,⟨g,C,a.cell r b,t.ky a c⟩,h.p.ky a v,h.pl,h.pv,h.l.ky a u,h.ll,h.lv,h.ln,h.q⟩
theorem mP{o:Nat}(h:∀x∈y,eO x)(b:∀x∈z,eO x):∀x∈dB y o z,eO x:=λx a=>by
 unfold dB at a
 rcases cM a with a|a
 .exact h x (List.mem_of_mem_take a)
 .rcases cM a with a|a
  .exact b x a
  .exact h x (List.mem_of_mem_drop a)
theorem ko.lay(h:ko n m k j i e L M P y z w)(a:Ky (λc=>c=m) w W){f:List aH}(A:e8 W m (dB y l f))(B:l+f.length<=j+i)(C:∀x∈f,eO x):ko n m k j i e L M P (dB y l f) z W:=by have d:∀c,P c->¬c=m:=λc I e=>h.q.2.1 (e ▸ I);have b:=d n h.q.1;obtain⟨D,p⟩:=h.c1;obtain⟨E,q⟩:=h.c2;obtain⟨J,r,K⟩:=h.c4;obtain⟨g,F,s,u⟩:=h.c5;obtain⟨o,G,t,v⟩:=h.c6;exact⟨a.cell h.c0 b,⟨D,a.cell p b⟩,⟨E,a.cell q b⟩,a.cell h.c3 b,⟨J,a.cell r b,K.ky a d⟩,⟨g,F,a.cell s b,u.ky a d⟩,⟨o,G,a.cell t b,v.ky a d⟩,A,by rw[jV (by rw[h.pl];exact B),h.pl],mP h.pv C,h.l.ky a λe=>h.q.2.2.2 e.symm,h.ll,h.lv,h.ln,h.q⟩
theorem gc{d:Array Oper}{rest:List Oper}{a:Oper}{b:Act}{c:Exit->Act->World->Prop}(k:a.guard=none)(e x:Operand)(f:Array TypeId)(l:a.op=.call { callee:=.builtin .copy,args:=#[e,x],argTypes:=f })(g i:Value)(n:b.eval e=g)(o:b.eval x=i) (m:(Builtin.copy_ f a.type #[g,i]).run prog w=.ok v W) (h:wpList prog d c rest (b.put a.dst v) W):wpList prog d c (a::rest) b w:=by refine wpList_plain k λp j=>?_;unfold Oper.wp;simp[execOp,l,resolve,invoke,builtin,n,o,m,Result.andThen];exact j _ _ h
theorem pe(h:ko n m k j i e L M P y z w){c:Nat}{d:List aH}(A:bX w a d)(C:∀x∈d,eO x)(g:d.length=j)(W:0<j):Calls prog 183 #[.pointer (some ⟨n,0,none⟩),.slice a d.length c] w λS D=>S=.returned (.slice (some ⟨k,0,none⟩) (j+i) (j+i))/\ko n m k j i e L M P y (d++List.replicate i aH.null) D/\Ky (λp=>p=k) w D:=by
 have u:d≠[]:=λe=>by rw[e] at g;simp at g;omega
 obtain⟨VZ,B,r,b⟩:=sk h.l A u 0 (by rw[h.ll];omega) (j+i) (j+i) c (by omega) 3;have t:dB z 0 d=d++List.replicate i aH.null:=by unfold dB;rw[List.take_zero,dK,bI,g,h.ln]
 rw[t] at r;have l:∀p,P p->¬p=k:=λp VX e=>h.q.2.2.1 (e ▸ VX);have s:ko n m k j i e L M P y (d++List.replicate i aH.null) VZ:=by have f:=l n h.q.1;obtain⟨X,J⟩:=h.c1;obtain⟨Y,K⟩:=h.c2;obtain⟨VY,N,V0⟩:=h.c4;obtain⟨G,Z,O,T⟩:=h.c5;obtain⟨I,VW,Q,V⟩:=h.c6;refine⟨b.cell h.c0 f,⟨X,b.cell J f⟩,⟨Y,b.cell K f⟩,b.cell h.c3 f,⟨VY,b.cell N f,V0.ky b l⟩,⟨G,Z,b.cell O f,T.ky b l⟩,⟨I,VW,b.cell Q f,V.ky b l⟩,h.p.ky b h.q.2.2.2,h.pl,h.pv,r,by simp[g],λx o=>?_,by rw[<-g];simp,h.q⟩;rcases cM o with o|o;(.exact C x o);.rw[List.eq_of_mem_replicate o];exact⟨⟨by decide,by decide⟩,by decide,rfl⟩
 have c3:=h.c3;have R:=s.c3;have q:=H B;have F:=H s;have E:=H b;obtain⟨V1,v⟩:=bj (j+i);rw[v] at c3 R q ⊢;simp only[Nat.zero_mul] at q;clear h A C g W u B r t l s b v;go_enter func183,ntmps183;go_wp2_with (refine gc rfl (.tmp 8) (.tmp 9) #[40,40] rfl _ _ rfl rfl (U q) ?_);go_ret;exact⟨rfl,U F,U E⟩
def gG(a b:Nat):Nat:=if b=0 then 0 else a
def eQ(a b c:Nat):Nat:=if c=0 then a else b
theorem ko.copy(h:ko n m k j i e L M P y z w){b:List aH}(C:bX w a b)(E:∀x∈b,eO x)(K:l<2)(g:b.length=eQ j i l)(J:0<eQ j i l)(o:Nat)(r:TypeId):∃c f,w.cell? ⟨n,1+l,none⟩=some (.slice (some ⟨m,gG j l*3,none⟩) b.length c)/\(Builtin.copy_ #[40,40] r #[.slice (some ⟨m,gG j l*3,none⟩) b.length c,.slice a b.length o]).run prog w=.ok (goInt b.length) f/\ko n m k j i e L M P (dB y (gG j l) b) z f/\Ky (λF=>F=m) w f:=by
 have B:b≠[]:=λe=>by rw[e] at g;simp at g;omega
 have p:gG j l+b.length<=j+i:=by rw[g];unfold gG eQ;split<;>omega
 obtain⟨G,s⟩:=h.c1;obtain⟨I,t⟩:=h.c2;have A:∃c,w.cell? ⟨n,1+l,none⟩=some (.slice (some ⟨m,gG j l*3,none⟩) b.length c):=by rw[g];unfold gG eQ;by_cases d:l=0;(.rw[ba d,ba d,d,Nat.zero_mul];exact⟨G,s⟩);.rw[VU d,VU d,show l=1 by omega];exact⟨I,t⟩
 obtain⟨c,v⟩:=A;obtain⟨f,D,u,q⟩:=sk h.p C B (gG j l) (by rw[h.pl];exact p) b.length c o bi r;exact⟨c,f,v,D,h.lay q u p E,q⟩
theorem yc(h:ko n m k j i e L M P y z w){c:Nat}{g:List aH}(V4:bX w a g)(V7:∀x∈g,eO x)(V6:l<2)(V0:g.length=eQ j i l)(V1:0<eQ j i l)(Wi:j+i<=1000000):Calls prog 182 #[.pointer (some ⟨n,0,none⟩),.int .i64 (l:Int),.slice a g.length c] w λWf B=>Wf=.returned (.tuple #[.slice (some ⟨m,0,none⟩) (j+i) (j+i),.bool (VK (bZ (dB y (gG j l) g) e))])/\ko n m k j i e L M P (dB y (gG j l) g) z B/\Ky (λQ=>Q=m) w B:=by
 obtain⟨Wp,o,Wh,V5,p,K⟩:=h.copy V4 V7 V6 V0 V1 c 3;have I:=p.c0;obtain⟨Ws,Y,V8⟩:=p.c4;obtain⟨S,R,Wk,Wg,VW⟩:=V8.call;subst Wk;have J:=p.pl;have A:Bw o o.drew:=(VS).drew;have C:=VW o.drew (some ⟨m,0,none⟩) (j+i) _ A (p.p.row.aa A) (λx Wl=>(p.pv x Wl).vok) (by rw[J];omega);rw[J] at C;obtain⟨D,O⟩:=bj (bZ (dB y (gG j l) g) e);rw[O,D.open_] at C;rw[O];have W:=H C;have G:=H (il D);rw[D.open_] at G;obtain⟨Wd,VZ⟩:=bj (VK D);rw[VZ] at G ⊢;obtain⟨f,V2⟩:=bj (j+i);rw[V2] at I W ⊢;have X:=H V5;have Wn:=H p;have Wm:=H K;have Wb:=H A;have E:Hid (∀s,Bw o s->s.cell? ⟨n,0,none⟩=some (.slice (some ⟨m,0,none⟩) f f)/\s.cell? ⟨n,4,none⟩=some (.func (.func S) #[] R)):=λs u=>⟨ae I u,ae Y u⟩;have b:=H (U E o.drew A);have Wc:Hid (∀r,Bw o r->ko n m k j i e L M P (dB y (gG j l) g) z r/\Ky (λQ=>Q=m) w r):=λr u=>⟨p.ky (Ky.ab (F:=λ_=>False) u) (λ_ _=>id) id id,K.trans (Ky.ab u) (Nw.refl _ _)⟩;obtain⟨Wr,N⟩:=bj g.length;obtain⟨Wq,V3⟩:=bj (gG j l*3);rw[N,V3] at Wh X;rw[N];unfold cr at Wg;clear h V4 V7 V0 V1 V5 p K V2 O VZ A C VW V8 J I Y N V3 Wi;have Wj:l=0∨l=1:=by omega
 clear V6;rcases Wj with rfl|rfl;all_goals go_enter func182,ntmps182;go_upto_region 2 with (refine gc rfl (.tmp 13) (.tmp 14) #[40,40] rfl _ _ rfl rfl (U X) ?_);refine bH (λw:World=>w.cell? ⟨n,0,none⟩=some (.slice (some ⟨m,0,none⟩) f f)/\w.cell? ⟨n,4,none⟩=some (.func (.func S) #[] R)) 15 ?_;refine ap 0 (.pointer (some ⟨n,0,none⟩)) rfl (U b) ?_;refine ap 1 (.pointer (some ⟨n,0,none⟩)) rfl (U b) ?_;refine ap 2 (.pointer (some ⟨n,0,none⟩)) rfl (U b) ?_;(refine ap 3 (.slice (some ⟨m,0,none⟩) f f) rfl (U b) ?_ λB t=>by obtain⟨V9,Wa⟩:=t;go_simp);refine ap 4 (.pointer (some ⟨n,0,none⟩)) rfl (U b) ?_;refine ap 5 (.pointer (some ⟨n,0,none⟩)) rfl (U b) ?_;refine ap 6 (.pointer (some ⟨n,4,none⟩)) rfl (U b) ?_;(refine ap 7 (.func (.func S) #[] R) rfl (U b) ?_ λB t=>by obtain⟨V9,Wa⟩:=t;go_simp);refine ap 8 (.pointer (some ⟨n,0,none⟩)) rfl (U b) ?_;refine ap 9 (.pointer (some ⟨n,0,none⟩)) rfl (U b) ?_;refine ap 10 (.pointer (some ⟨n,0,none⟩)) rfl (U b) ?_;(refine ap 11 (.slice (some ⟨m,0,none⟩) f f) rfl (U b) ?_ λB t=>by obtain⟨V9,Wa⟩:=t;go_simp);refine bh 12 rfl λq d=>?_;go_simp;refine(U W).mono ?_;rintro _ s ⟨rfl,VX⟩;go_simp;have T:=H (ac (U Wb) VX);have We:=U E s (U T);clear VX;refine VP d We ?_;clear d q;refine bh 13 rfl λq d=>?_;go_simp;refine(U G _).mono ?_;rintro _ r ⟨rfl,VY⟩;go_simp;have V:=H (ac (U T) VY);have Z:=U E r (U V);clear VY;refine VP d Z ?_;clear d q;refine bh 14 rfl λq d=>?_;go_simp;refine VP d Z ?_;clear d q;refine bh 15 rfl λq d=>?_;go_simp;refine bE d ?_;clear d q;refine cf ?_;go_wp2;refine bs (v:=.tuple #[.slice (some ⟨m,0,none⟩) f f,.bool Wd]) (by simp[results,results182,go_sem, *]) rfl ⟨rfl,U Wc r (U V)⟩
def gu(a:List Ex)(b:List aH):Option (List aH):=if (a.map (bZ b)).any (λc=>c.k == 0) then none else some (a.map (bZ b))
def oP:Option (List aH)->Value×Bool
 | some a=>(.string (bF a),true)
 | none=>(.string ⟨#[]⟩,false)
theorem oU(h:∀a∈L.map (bZ x),¬a.k=0):gu L x=some (L.map (bZ x)):=by unfold gu;rw[VU];intro d;obtain⟨a,c,b⟩:=List.any_eq_true.1 d;exact h a c (by simpa using b)
theorem wk(a:c∈L.map (bZ x))(h:c.k=0):gu L x=none:=by unfold gu;rw[ba (List.any_eq_true.2 ⟨c,a,by simpa using h⟩)]
def ip(a b:List Ex)(c:Nat):List Ex:=if c=0 then a else b
theorem ko.fns(h:ko n m k j i e L M P x y w)(d:l<2):∃b c,w.cell? ⟨n,5+l,none⟩=some (.slice b (ip L M l).length c)/\lB P w b (ip L M l):=by
 unfold ip;by_cases a:l=0;.rw[ba a,a];exact h.c5
 .rw[VU a,show l=1 by omega];exact h.c6
structure EG(w2:World)(vb:Nat)(ys:List aH)(j:Nat)(wr:World):Prop where
 f:Fl wr vb ys j
 k:Ky (λk=>k=vb) w2 wr
 n:∀(i:Nat) v,i<j->ys[i]?=some v->¬v.k=0
theorem uD(h:ko n m k j i e L M P y z w)(Wv:∀b,P b->b<w.heap.size){c:Nat}{A:List aH}(WO:bX w a A)(WQ:∀x∈A,eO x)(We:l<2)(WG:A.length=eQ j i l)(WJ:0<eQ j i l)(Xl:j+i<=1000000)(W:(ip L M l).length<=1000000)(V:∀x∈ip L M l,x.fin):Calls prog 180 #[.pointer (some ⟨n,0,none⟩),.int .i64 (l:Int),.slice a A.length c] w λV6 Q=>V6=.returned (.tuple #[(oP (gu (ip L M l) (dB y (gG j l) A))).1,.bool (oP (gu (ip L M l) (dB y (gG j l) A))).2])/\ko n m k j i e L M P (dB y (gG j l) A) z Q/\Ky (λb=>b=m) w Q:=by
 obtain⟨XG,G,Xf,WP,u,Wc⟩:=h.copy WO WQ We WG WJ c 3;have Xx:=Wc.size;have Xk:m<G.heap.size/\k<G.heap.size:=⟨u.p.lt,u.l.lt⟩;obtain⟨C,Wu⟩:=bj (ip L M l);obtain⟨B,WM⟩:=bj (dB y (gG j l) A);obtain⟨o,N⟩:=bj (C.map (bZ B));obtain⟨W7,XH,V5,Wb⟩:=u.fns We;rw[Wu] at V5 Wb W V ⊢;rw[WM] at u ⊢;obtain⟨p,Z⟩:=bj C.length;rw[Z] at V5 W;have VX:o.length=p:=by rw[<-N,<-Z];simp
 have Wg:∀f∈o,eO f:=λf t=>by rw[<-N] at t;obtain⟨x,E,rfl⟩:=b6 t;exact iD u.pv (V x E)
 obtain⟨g,WR⟩:=bj G.heap.size;have Ww:∀b,P b->b<g:=λb s=>by have:=Wv b s;omega
 have V1:Hid (∀q wr,Bw G q->Ky (λb=>b=g) q wr->ko n m k j i e L M P B z wr/\lB P wr W7 C/\Ky (λb=>b=m) w wr):=λq wr J Xh=>by have Xq:Ky (λ_=>False) G q:=Ky.ab J;have Wi:Ky (λb=>b=g) G wr:=(Xq.mono λ_ s=>s.elim).trans Xh (Nw.refl _ _);(have WN:∀b,P b->¬b=g:=λb s e=>by have:=Ww b s;omega);exact⟨u.ky Wi WN (by omega) (by omega),Wb.ky Wi WN,Wc.trans Wi λb s=>.inr (by omega)⟩
 have W1:Hid (∀wr,e8 wr g o->Calls prog 31 #[.slice (some ⟨g,0,none⟩) p p] wr λV6 Q=>V6=.returned (.string (bF o))/\Bw wr Q):=λwr J=>by have:=fR (c:=p) (by rw[VX];exact W) Wg J.row;rw[VX] at this;exact this
 have W3:Hid ((∀f∈o,¬f.k=0)->gu C B=some o):=λs=>by rw[<-N] at s ⊢;exact oU s
 have W2:Hid (∀f∈o,f.k=0->gu C B=none):=λf Wj Wk=>wk (by rw[N];exact Wj) Wk;have W5:Hid (∀(v:Nat) x,C[v]?=some x->o[v]?=some (bZ B x)):=λv x E=>by rw[<-N,bL,E];rfl
 have W0:=H Z;have T:=H VX;have XA:=H Wg;have Xz:=H (And.intro u.pl u.pv);have Ws:=H WP;have W4:=H WR;have Xy:=H V;obtain⟨VY,WK⟩:=bj (j+i);have V2:=H WK;obtain⟨XK,Wd⟩:=bj A.length;obtain⟨XJ,WL⟩:=bj (gG j l*3);rw[Wd,WL] at Xf Ws;rw[Wd];have Xi:p<=1048576:=by omega
 have XF:VY<=1000000:=by omega
 clear h WO WQ WG WJ WP u Wc WK N VX Wg Z Wb WM Wu Wd WL Xl Wv Ww Xx Xk WR V W;have Xm:l=0∨l=1:=by omega
 clear We;rcases Xm with rfl|rfl;all_goals go_enter func180,ntmps180;go_upto_region 2 with (refine gc rfl (.tmp 16) (.tmp 17) #[40,40] rfl _ _ rfl rfl (U Ws) ?_);go_upto_region 3 with (at_make;refine eT _ rfl _ _ rfl p rfl rfl Xi ?_;intro q Wz WH Xo;have Wl:=H Wz;have S:=H WH;clear Wz WH Xo);rw[U W4] at Wl ⊢;have W9:=ae V5 (U S);have Wp:Hid (EG q g o 0 q):=⟨Fl.start (U Wl) (by rw[List.length_replicate,U T]),Ky.refl _ _,λv f Y=>by omega⟩;go_upto_region 4 with fail;go_loopw[34] (λWh wr=>∃(d:Nat),d<=p/\Wh=.int .i64 (d:Int)/\Hid (EG q g o d wr)) (λWh _=>p-(intOf Wh).toNat);(case atStart=>exact⟨0,bt,rfl,Wp⟩);case round=>clear Wp W9;obtain⟨d,XE,rfl,D⟩:=hrel;by_cases WI:d<p;(·(have Xc:(d:Int)<(p:Int):=by omega);obtain⟨K,WD,Xj⟩:=U V1 q wr (U S) (U D).k;obtain⟨x,E⟩:∃x,C[d]?=some x:=⟨_,VR (by rw[U W0];exact WI)⟩;obtain⟨XB,XI,XL,Wx,Xe,XC,WS⟩:=WD d x E;obtain⟨Xs,Xr,Xn,Xd,Wt⟩:=WS.call;subst Xn;rw[Wx];have W8:=K.c0;rw[U V2] at W8;(have X:∀I,Bw wr I->Calls prog Xs (#[.slice (some ⟨m,0,none⟩) VY VY]++Xr) I λXu Q=>Xu=.returned (bZ B x).v/\Bw I Q:=λI J=>by have:=Wt I (some ⟨m,0,none⟩) VY B J (K.p.row.aa J) (λr VW=>(K.pv r VW).vok) (by rw[K.pl,U V2];omega);rw[K.pl,U V2] at this;exact this);have Wf:=U W5 d x E;obtain⟨r,VW⟩:=bj (bZ B x);rw[VW] at Wf X;simp only[r.open_] at X;have Wn:=H (X wr VS);have V3:=H Wf;(have WE:d<o.length:=by rw[U T];exact WI);have WY:=H WE;unfold cr at Xd;clear K WD Xj E WS Wt X Wf WE VW Wx Xe;go_upto_region 7 with (refine(U Wn).mono ?_;rintro _ Xv ⟨rfl,Wa⟩;have V0:=H ((U D).f.ky (F:=λ_=>False) (Ky.ab Wa) id);obtain⟨XM,WU,p1,p2,Xt,Wj,Wk⟩:=(U V0).three (U WY);have Wm:=H Wa;clear Wa);obtain⟨VZ,R⟩:=bj (((Xv.setCell ⟨g,d*3,none⟩ (.int .i64 r.k)).setCell ⟨g,d*3+1,none⟩ (.int .i64 r.n)).setCell ⟨g,d*3+2,none⟩ (.string r.s));(have XD:VZ.cell? ⟨g,d*3,none⟩=some (.int .i64 r.k):=by rw[<-R,bo _ _ _ _ _ _ (by simp),bo _ _ _ _ _ _ (by simp)];exact b5 WU);(have WC:Fl VZ g o (d+1):=by rw[<-R];exact(U V0).put (U V3));(have WF:Ky (λb=>b=g) q VZ:=by rw[<-R];exact((U D).k.trans (Ky.ab (U Wm)) (Nw.refl _ _)).trans (dt (F:=λb=>b=g) _ _ _ r rfl) (Nw.refl _ _));rw[R];have WX:=H WC;have Wq:=H WF;clear R WU p1 p2 Xt Wj Wk WC WF V0 Wm Wn;by_cases O:r.k=0;(·(have Xp:(r.k == 0)=true:=by simpa using O);have V4:=H O;clear O;go_wp2;refine bs (v:=.tuple #[.string ⟨#[]⟩,.bool false]) (by simp[results,results180,go_sem, *]) rfl ?_;rw[U W2 r (VQ (U V3)) (U V4)];obtain⟨V7,_,V8⟩:=U V1 q VZ (U S) (U Wq);exact⟨rfl,V7,V8⟩);·(have Xp:(r.k == 0)=false:=by simpa using O);have V4:=H O;clear O;go_wp2;go_roundw;(case rel=>refine⟨d+1,by omega,by go_num,U WX,U Wq,λv f Y t=>?_⟩;by_cases Xa:v=d;(.rw[Xa,U V3] at t;injection t with t;rw[<-t];exact U V4);.exact(U D).n v f (by omega) t);case measure=>simp[intOf];omega);·(have Xc:¬(d:Int)<(p:Int):=by omega);(have Xb:d=p:=by omega);subst Xb;(have WB:e8 wr g o:=by have:=(U D).f;rw[<-U T] at this;exact this.done);have Wr:=H (U W1 wr WB);(have Wy:∀f∈o,¬f.k=0:=λf t=>by obtain⟨v,Y⟩:=f9 t;have Xg:=(bD Y).1;exact(U D).n v f (by rw[<-U T];exact Xg) Y);have WV:=H Wy;obtain⟨W6,V9⟩:=bj (bF o);rw[V9] at Wr;have WZ:=H V9;clear WB Wy V9;go_wp2_with (go_at_call 31;refine(U Wr).mono ?_;rintro _ Xw ⟨rfl,WA⟩;have WW:=H WA;clear WA);refine bs (v:=.tuple #[.string W6,.bool true]) (by simp[results,results180,go_sem, *]) rfl ?_;rw[U W3 (U WV)];obtain⟨V7,_,V8⟩:=U V1 q wr (U S) (U D).k;have WT:Ky (λ_=>False) wr Xw:=Ky.ab (U WW);refine⟨by rw[<-U WZ];rfl,V7.ky WT (λ_ _=>id) id id,V8.trans WT λ_ s=>s.elim⟩
def RV(a:Value):Option (DataW Value×List MemPlace):=some (.held a,[])
def qw(i:World)(d f:Nat)(e:ByteArray->Option Value):Prop:=∃a:DataW Value,i.ownsMap prog 9 RV d f a/\Maps.IsMap a/\∀b c,a.atKey (cJ.l b) c=match e b with|some g=>.held g|none=>c
theorem qw.lt{a:ByteArray->Option Value}(h:qw w n m a):n<w.heap.size:=by obtain⟨b,h,_⟩:=h;exact h.lt
theorem qw.made(a:World):qw (a.alloc (.map #[] 0)) a.heap.size 0 (λ_=>none):=⟨.map [],World.ownsMap_made a prog 9 _,⟨[],rfl⟩,λb c=>rfl⟩
theorem qw.ky{G:Nat->Prop}{a:ByteArray->Option Value}(h:qw w n m a)(i:Ky G w W)(k:¬G n):qw W n m a:=by have j:=h.lt;obtain⟨b,⟨d,c,e,f⟩,g⟩:=h;exact⟨b,⟨d,c,by rw[i.block n j k];exact e,f⟩,g⟩
theorem qw.tg{b:ByteArray->Option Value}(h:qw w n m b)(a:Tg k w j):j≠n:=by obtain⟨d,⟨g,e,c,i⟩,l⟩:=h;rintro rfl;obtain⟨f,b,a⟩:=a;rw[c] at a;injection a with a;cases a
theorem BY(a:World):(zeroValue 23).run prog a=.ok (.slice none 0 0) a:=by kernel_rfl
theorem qw.look{b:ByteArray->Option Value}(h:qw w n m b){x:ByteArray}(g:cJ.ok x):(Instr.lookup 194 (.map (some n)) (.string x) false).run prog w=.ok ((b x).getD (.slice none 0 0)) w:=by
 obtain⟨j,d,k,e⟩:=h;obtain⟨i,l,f,a⟩:=d.lookup cJ.K underlying194 (BY w) (zd:=.held (.slice none 0 0)) (zp:=[]) rfl (cJ.key x g);rw[e x] at a
 have:i=(b x).getD (.slice none 0 0):=by
  unfold RV at a
  cases c:b x with
  | none=>rw[c] at a;simp only[Option.some.injEq,Prod.mk.injEq,DataW.held.injEq] at a;exact a.1
  | some o=>rw[c] at a;simp only[Option.some.injEq,Prod.mk.injEq,DataW.held.injEq] at a;exact a.1
 rw[<-this];exact f
theorem qw.put{f:ByteArray->Option Value}(h:qw w n m f)(t:m<=140737488355328){x:ByteArray}(p:cJ.ok x)(c:Value):∃a,(Instr.mapUpdate 194 (.map (some n)) (.string x) c).run prog w=.ok () a/\qw a n (m+1) (λb=>if b=x then some c else f b)/\w.grownBy a (some n):=by
 obtain⟨r,i,g,j⟩:=h;obtain⟨a,o,l,k⟩:=i.update cJ.K underlying194 (by unfold maxLen;omega) (cJ.key x p) (val:=c) (d:=.held c) (ps:=[]) rfl;refine⟨a,o,⟨_,l,?_,λb u=>?_⟩,k⟩;.obtain⟨s,rfl⟩:=g;exact⟨_,rfl⟩
 .by_cases e:b=x;(.subst e;rw[Maps.atKey_put_same g (cJ.isk _)];simp);.rw[Maps.atKey_put_other (λq=>e (cJ.inj _ _ q)),j b];simp[e]
theorem kz(b:m<2)(h:w.cell? ⟨n,2,none⟩=some (.bool o)):Calls prog 181 #[.pointer (some ⟨n,0,none⟩),.int .i64 (m:Int)] w λa d=>a=.returned (.bool (o && decide (m=0)))/\d=w:=by
 have c:m=0∨m=1:=by omega
 clear b;rcases c with rfl|rfl;all_goals cases o;all_goals go_enter func181,ntmps181;go_wp2;go_ret;exact⟨rfl,rfl⟩
abbrev ia:=List (List aH×Option (List aH))
def sC(b:ia)(a:List aH):List Nat:=(b.zipIdx.filter λc=>decide (c.1.2=some a)).map (·.2)
theorem rJ(b:ia)(d:List aH)(c:Option (List aH))(a:List aH):sC (b++[(d,c)]) a=sC b a++if c=some a then [b.length] else []:=by unfold sC;rw[List.zipIdx_append,List.filter_append,ep];congr 1;by_cases h:c=some a<;>simp[h]
theorem yN(c:ia)(e:List aH):∀b∈sC c e,b<c.length:=λb a=>by
 unfold sC at a
 obtain⟨f,d,rfl⟩:=b6 a
 have:=(List.mem_filter.1 d).1
 exact(List.mem_zipIdx this).2.1 |> λh=>by simpa using h
theorem DH:(Tryz.prog.info? 3).map (λa=>(a.zero,a.size,a.bytes))=some (some (.int .i64 0),1,8):=by kernel_rfl
theorem DI:(Tryz.prog.info? 4).map (λa=>(a.zero,a.size,a.bytes))=some (some (.bool false),1,1):=by kernel_rfl
def mZ(b:List Nat):List Value:=b.map λ(a:Nat)=>Value.int .i64 (a:Int)
structure Dp(W:World)(f:ByteArray->Option Value)(kb:ia)(O Q:Nat->Prop):Prop where
 i:∀k,(∀x∈k,eO x)->W.ownsRow 0 3 1 ((f (bF k)).getD (.slice none 0 0)) (sC kb k).length (mZ (sC kb k))
 v:∀x u,f x=some u->∃k,(∀y∈k,eO y)/\x=bF k
 b:∀x u g,f x=some u->u.ownBlock=some g->O g/\¬Q g
 d:∀x y u u' g,f x=some u->f y=some u'->u.ownBlock=some g->u'.ownBlock=some g->x=y
theorem Dp.ky{e:ByteArray->Option Value}{j:ia}{G:Nat->Prop}(h:Dp w e j P Q)(k:Ky G w W)(l:∀a,P a->¬Q a->Tg 3 w a->¬G a):Dp W e j P Q:=
 ⟨λa i=>bM (h.i a i) k λc b=>by
  cases d:e (bF a) with
  | none=>rw[d] at b;cases b
  | some f=>
   have g:f.ownBlock=some c:=by rw[d] at b;exact b
   have m:=br (h.i a i) b
   exact l c (h.b _ f c d g).1 (h.b _ f c d g).2 m,h.v,h.b,h.d⟩
theorem Dp.tg{a:ByteArray->Option Value}{f:ia}(h:Dp w a f P Q){x:ByteArray}(b:a x=some v)(c:v.ownBlock=some n):Tg 3 w n:=by obtain⟨e,d,rfl⟩:=h.v x v b;have:=h.i e d;rw[b] at this;exact br this c
structure Vm(w0:World)(px mx pb lb mb n1 n2:Nat)(e:Ex)(E0 E1:List Ex)(al:Bool)(s:Nat)(Q O:Nat->Prop)(kb:ia)(rs:List (List aH))(ms:List Bool)(nm:Nat)(P L:List aH)(W:World):Prop where
 c0:W.cell? ⟨px,0,none⟩=some (.pointer (some ⟨mx,0,none⟩))
 c1:W.cell? ⟨px,1,none⟩=some (.int .i64 (s:Int))
 c2:W.cell? ⟨px,2,none⟩=some (.bool al)
 r:∃v Pr,W.cell? ⟨px,3,none⟩=some v/\fQ Pr W v rs/\∀k,Pr k->O k/\k≠px/\¬Q k/\k≠pb/\k≠lb
 m:∃v,W.cell? ⟨px,4,none⟩=some v/\W.ownsRow 0 4 1 v ms.length (ms.map Value.bool)/\∀g,v.ownBlock=some g->O g/\¬Q g
 c5:W.cell? ⟨px,5,none⟩=some (.map (some mb))
 b:∃f,qw W mb nm f/\Dp W f kb O Q
 mt:ko mx pb lb n1 n2 e E0 E1 Q P L W
 f:∀j,W.frozen? ⟨px,j,none⟩=false
 t:Tg 197 W px
 q:∀k,Q k->O k/\k≠px/\k≠mb
 o:O px/\O mb/\O pb/\O lb
 lim:∀k,O k->w0.heap.size<=k/\k<W.heap.size
theorem Vm.ky{G:Nat->Prop}{u:ia}{v:List Bool}{z:Nat}(h:Vm w n m k j i l s e L M o t P Q u r v z x y W)(a:Ky G W X)(c:∀b,Q b->¬G b):Vm w n m k j i l s e L M o t P Q u r v z x y X:=by have d:=c n h.o.1;obtain⟨K,A,c3,F,q⟩:=h.r;obtain⟨N,B,I,p⟩:=h.m;obtain⟨C,E,D⟩:=h.b;exact⟨a.cell h.c0 d,a.cell h.c1 d,a.cell h.c2 d,⟨K,A,a.cell c3 d,F.ky a λb f=>c b (q b f).1,q⟩,⟨N,a.cell B d,bM I a λg e=>c g (p g e).1,p⟩,a.cell h.c5 d,⟨C,E.ky a (c i h.o.2.1),D.ky a λb f _ _=>c b f⟩,h.mt.ky a (λb f=>c b (h.q b f).1) (c k h.o.2.2.1) (c j h.o.2.2.2),λJ=>VN a h.t.lt d (h.f J),h.t.ky a d,h.q,h.o,λb f=>⟨(h.lim b f).1,cN (h.lim b f).2 a.size⟩⟩
theorem Vm.mat{E:ia}{F:List Bool}{G:Nat}{u:List aH}(h:Vm w n m k j i l s e L M o t P Q E r F G x y W)(S:ko m k j l s e L M P z u X){f:Nat}(q:f=k∨f=j)(a:Ky (λb=>b=f) W X):Vm w n m k j i l s e L M o t P Q E r F G z u X/\Ky Q W X:=by
 have N:Q f:=by rcases q with rfl|rfl;exact h.o.2.2.1;exact h.o.2.2.2
 have p:Tg 43 W f:=by rcases q with rfl|rfl;exact br h.mt.p rfl;exact br h.mt.l rfl
 have d:¬n=f:=λe=>h.t.ne p (by decide) e;obtain⟨VW,v,c3,R,C⟩:=h.r;obtain⟨VX,I,B,T⟩:=h.m;obtain⟨J,A,K⟩:=h.b;have O:∀b,v b->¬b=f:=λb g e=>by obtain⟨_,_,_,Y,Z⟩:=C b g;rcases q with c|c;(.exact Y (e.trans c));.exact Z (e.trans c)
 exact⟨⟨a.cell h.c0 d,a.cell h.c1 d,a.cell h.c2 d,⟨VW,v,a.cell c3 d,R.ky a O,C⟩,⟨VX,a.cell I d,bM B a λD e c=>(br B e).ne p (by decide) c,T⟩,a.cell h.c5 d,⟨J,A.ky a λc=>A.tg p c.symm,K.ky a λb _ _ V c=>V.ne p (by decide) c⟩,S,λD=>VN a h.t.lt d (h.f D),h.t.ky a d,h.q,h.o,λb g=>⟨(h.lim b g).1,cN (h.lim b g).2 a.size⟩⟩,a.mono λb c=>c ▸ N⟩
theorem Vm.note{K:ia}{WI:List Bool}{Ws:Nat}(h:Vm w n m k j i l s e L M o t P Q K A WI Ws y z W){d r:List aH}(V6:∀x∈d,eO x)(Wl:cJ.ok (bF d))(Xh:Ws<=2147483648)(Xg:K.length<=2147483648):∃f,(∀u,Bw W u->(Instr.lookup 194 (.map (some i)) (.string (bF d)) false).run prog u=.ok f u)/\(∃Wd We,f=.slice Wd (sC K d).length We)/\∀u V9,Bw W u->u.cell? ⟨V9,0,none⟩=some (.int .i64 (K.length:Int))->∀Wu,∃D E,(Builtin.append_ #[23,23] Wu #[f,.slice (some ⟨V9,0,none⟩) 1 1]).run prog u=.ok D E/\(∃Wd We,D=.slice Wd ((sC K d).length+1) We)/\Ky Q W E/\(∀a x,W.cell? ⟨n,a,none⟩=some x->E.cell? ⟨n,a,none⟩=some x)/\(Instr.lookup 194 (.map (some i)) (.string (bF d)) false).run prog E=.ok f E/\∃N Wc,(Instr.mapUpdate 194 (.map (some i)) (.string (bF d)) D).run prog E=.ok () N/\Vm w n m k j i l s e L M o t P Wc (K++[(r,some d)]) A WI (Ws+1) y z N/\(∀a,Wc a->Q a∨W.heap.size<=a)/\(∀a,Q a->Wc a)/\Ky Q W N:=by
 obtain⟨I,T,v⟩:=h.b;refine⟨_,λu V1=>(T.ky (Ky.ab (F:=λ_=>False) V1) id).look Wl,fT (v.i d V6),λu V9 V1 WQ Wu=>?_⟩;obtain⟨f,q⟩:=bj ((I (bF d)).getD (.slice none 0 0));rw[q];have WE:=v.i d V6;rw[q] at WE
 have V:∀c,f.ownBlock=some c->Q c/\¬P c/\Tg 3 W c:=λc O=>by
  cases B:I (bF d) with
  | none=>rw[B] at q;subst q;cases O
  | some W8=>
   rw[B] at q
   have:W8=f:=q
   subst this
   exact⟨(v.b _ _ c B O).1,(v.b _ _ c B O).2,v.tg B O⟩
 have Wr:Ky (λ_=>False) W u:=Ky.ab V1;have Xe:=h.ky Wr λ_ _=>id;obtain⟨W2,WU,Xb,Xc,Xd⟩:=info_parts DH;obtain⟨W3,Wj⟩:=bj ((sC K d).length);have Xf:W3<=K.length:=by rw[<-Wj];unfold sC;rw[bQ];exact cw (List.length_filter_le _ _) (by simp)
 obtain⟨D,E,WZ,Wt,W7,_,V2⟩:=run_append_own_at (P:=prog) u 0 23 Wu 3 W2 (.int .i64 0) 1 8 underlying23 WU Xb Xc Xd rfl (by decide) f _ _ (bM WE Wr λ_ _=>id) ⟨V9,0,none⟩ 1 1 [.int .i64 (K.length:Int)] rfl (λa p VW=>by
  match a,VW with
  | 0,VW=>simp at VW;subst VW;simpa [Addr.add] using WQ
  | a+1,VW=>simp at VW) (λp V7=>by simp at V7;subst V7;rfl) (by rw[Wj];unfold maxLen;omega) (by rw[Wj];omega) bt
 have WG:Ky (λa=>f.ownBlock=some a) u E:=Ky.ao W7 λc e=>e;have VZ:Ky (λa=>f.ownBlock=some a) W E:=(Wr.mono λ_ b=>b.elim).trans WG (Nw.refl _ _);have Wp:∀c,D.ownBlock=some c->f.ownBlock=some c∨u.heap.size<=c:=λc e=>by rcases V2 with V2|V2;(.rw[V2] at e;exact .inl e);.rw[V2] at e;injection e with e;exact .inr (by omega)
 have WC:∀{V3 a:Nat},Tg V3 W a->V3≠3->¬f.ownBlock=some a:=λVY Wn e=>VY.ne (V _ e).2.2 Wn rfl;have Wm:¬f.ownBlock=some i:=λe=>T.tg (V i e).2.2 rfl;obtain⟨N,W0,WW,Wi⟩:=(T.ky VZ Wm).put (by omega) Wl D;have V8:Ky (λa=>a=i) E N:=Ky.ao Wi λc e=>by injection e with e;exact e.symm
 refine⟨D,E,WZ,fT Wt,VZ.mono λa b=>(V a b).1,λa x X=>VZ.cell X (WC h.t (by decide)),by rw[<-q];exact(T.ky VZ Wm).look Wl,N,λa=>Q a∨(u.heap.size<=a/\a<E.heap.size),W0,?_,λa b=>b.imp id λb=>by have:=V1.size;omega,λa b=>.inl b,(VZ.mono λa b=>(V a b).1).trans (V8.mono λa b=>b ▸ h.o.2.1) (Nw.refl _ _)⟩;have C:Ky (λa=>f.ownBlock=some a∨a=i) W N:=(VZ.mono λa b=>.inl b).trans (V8.mono λa b=>.inr b) (Nw.refl _ _);have VX:∀{V3 a:Nat},Tg V3 W a->V3≠3->¬(f.ownBlock=some a∨a=i):=λVY Wn b=>by rcases b with b|b;(.exact WC VY Wn b);.exact T.tg VY b
 have WY:∀a,P a->¬(f.ownBlock=some a∨a=i):=λa b x=>by rcases x with x|x;(.exact(V a x).2.1 b);.exact(h.q a b).2.2 x
 have R:=VX h.t (by decide);obtain⟨WK,Ww,c3,Wz,WD⟩:=h.r;obtain⟨Xa,WP,WA,WB⟩:=h.m;have WV:fQ Ww N WK A:=by obtain⟨W9,W4,WH,W5⟩:=Wz.o;exact⟨⟨W9,W4,bM WH C λc e=>VX (br WH e) (by decide),λW1 x p WL WM=>(W5 W1 x p WL WM).ky C λa _ VY=>VX VY (by decide)⟩,Wz.g⟩
 have Xi:=V1.size;have Xj:=WG.size;have Xk:=V8.size;refine⟨C.cell h.c0 R,C.cell h.c1 R,C.cell h.c2 R,⟨WK,Ww,C.cell c3 R,WV,λd b=>⟨.inl (WD d b).1,(WD d b).2⟩⟩,⟨Xa,C.cell WP R,bM WA C λc e=>VX (br WA e) (by decide),λc e=>⟨.inl (WB c e).1,(WB c e).2⟩⟩,C.cell h.c5 R,⟨_,WW,?_⟩,h.mt.ky C WY (VX (br h.mt.p rfl) (by decide)) (VX (br h.mt.l rfl) (by decide)),λa=>VN C h.t.lt R (h.f a),h.t.ky C R,λa b=>⟨.inl (h.q a b).1,(h.q a b).2⟩,⟨.inl h.o.1,.inl h.o.2.1,.inl h.o.2.2.1,.inl h.o.2.2.2⟩,λa b=>?_⟩
 .have WT:∀a,P a->a<W.heap.size:=λa b=>(h.lim a (h.q a b).1).2;refine⟨λY Wk=>?_,λx p X=>?_,λx p c X O=>?_,λx p V0 Wv c X V7 J Wg=>?_⟩
  .rw[rJ];by_cases Wf:Y=d;.subst Wf;rw[ba rfl,ba rfl,bG];(have WX:=bM Wt V8 λc e x=>by subst x;rcases Wp c e with G | G;(.exact Wm G);.have:=T.lt;omega);simpa [mZ] using WX
   .have Wx:¬bF Y=bF d:=λe=>Wf (jL Wk V6 e);rw[VU (λe=>Wf (Option.some.inj e).symm),VI];show N.ownsRow 0 3 1 ((if bF Y=bF d then some D else I (bF Y)).getD (.slice none 0 0)) _ _;rw[VU Wx];refine bM (v.i Y Wk) C λc e x=>?_;have Wi:=br (v.i Y Wk) e;rcases x with x|x
    .cases Wh:I (bF Y) with
     | none=>rw[Wh] at e;cases e
     | some V0=>
      cases B:I (bF d) with
      | none=>rw[B] at q;subst q;cases x
      | some V4=>
       rw[B] at q
       have Wq:V4=f:=q
       rw[Wh] at e
       have WR:V0.ownBlock=some c:=e
       exact Wx (v.d _ _ V0 V4 c Wh B WR (Wq ▸ x))
    .exact T.tg Wi x
  .by_cases J:x=bF d;(.exact⟨d,V6,J⟩);.have g:(if x=bF d then some D else I x)=some p:=X;rw[VU J] at g;exact v.v x p g
  .have g:(if x=bF d then some D else I x)=some p:=X;by_cases J:x=bF d;(.rw[ba J] at g;injection g with g;subst g;rcases Wp c O with G | G;(.exact⟨.inl (V c G).1,(V c G).2.1⟩);.exact⟨.inr ⟨G,(World.ownsRow.lt Wt c O).2⟩,λb=>by have:=WT c b;omega⟩);.rw[VU J] at g;obtain⟨WN,WO⟩:=v.b x p c g O;exact⟨.inl WN,WO⟩
  .have g:(if x=bF d then some D else I x)=some V0:=X;have S:(if p=bF d then some D else I p)=some Wv:=V7
   have WJ:∀Wb Wa,I Wb=some Wa->Wa.ownBlock=some c->¬Wb=bF d->¬D.ownBlock=some c:=λWb Wa WF Wy W6 WS=>by
    rcases Wp c WS with G | G
    .cases B:I (bF d) with
     | none=>rw[B] at q;subst q;cases G
     | some V4=>
      rw[B] at q
      have Wq:V4=f:=q
      exact W6 (v.d Wb (bF d) Wa V4 c WF B Wy (Wq ▸ G))
    .have:=(v.tg WF Wy).lt;omega
   by_cases V5:x=bF d;(.rw[ba V5] at g;injection g with g;by_cases Z:p=bF d;(.exact V5.trans Z.symm);.rw[VU Z] at S;exact absurd (g ▸ J) (WJ p Wv S Wg Z));.rw[VU V5] at g;by_cases Z:p=bF d;(.rw[ba Z] at S;injection S with S;exact absurd (S ▸ Wg) (WJ x V0 g J V5));.rw[VU Z] at S;exact v.d x p V0 Wv c g S J Wg
 .rcases b with b|b;(.have:=h.lim a b;exact⟨this.1,by omega⟩);.have:=h.lim n h.o.1;exact⟨by omega,by omega⟩
theorem Vm.rows{V0:ia}{V1:List Bool}{V2:Nat}(h:Vm w n m k j i l s e L M o t P Q V0 r V1 V2 x y W){q:Nat->Prop}(Z:fQ R W v r)(D:∀c,R c->Q c/\c≠n/\¬P c/\c≠k/\c≠j)(C:Ky (λc=>v.ownBlock=some c) W X)(Wa:fQ q X u (r++[z]))(Y:∀c,q c->R c∨W.heap.size<=c)(Wb:∀c,q c->c<X.heap.size)(V5:X.cell? ⟨n,3,none⟩=some v):∃J,Vm w n m k j i l s e L M o t P J V0 (r++[z]) V1 V2 x y (X.setCell ⟨n,3,none⟩ u)/\(∀a,J a->Q a∨W.heap.size<=a)/\(∀a,Q a->J a)/\Ky Q W (X.setCell ⟨n,3,none⟩ u):=by
 have VZ:∀f,v.ownBlock=some f->R f:=Z.g;obtain⟨Wq,Wn,Wi,Wp⟩:=Z.o;have V3:∀f,v.ownBlock=some f->Tg 40 W f:=λf e=>br Wi e;have VY:∀{p a:Nat},Tg p W a->p≠40->¬v.ownBlock=some a:=λg We e=>g.ne (V3 _ e) We rfl;have N:=VY h.t (by decide);have O:Ky (λc=>c=n) X (X.setCell ⟨n,3,none⟩ u):=cS _ _ _ _ rfl;have E:Ky (λc=>v.ownBlock=some c∨c=n) W (X.setCell ⟨n,3,none⟩ u):=(C.mono λc b=>.inl b).trans (O.mono λc b=>.inr b) (Nw.refl _ _);have Wr:=C.size;have Ws:=O.size;obtain⟨Wj,V6,VW,VX⟩:=h.m;obtain⟨V7,K,Wc⟩:=h.b;have F:∀{p a:Nat},Tg p W a->p≠40->p≠197->¬(v.ownBlock=some a∨a=n):=λg V8 V9 b=>by rcases b with b|b;(.exact VY g V8 b);.exact g.ne h.t V9 b
 have Wg:∀a,P a->¬(v.ownBlock=some a∨a=n):=λa b d=>by rcases d with d|d;(.exact(D a (VZ a d)).2.2.1 b);.exact(h.q a b).2.1 d
 have Wd:¬(v.ownBlock=some i∨i=n):=λd=>by rcases d with d|d;(.exact K.tg (V3 i d) rfl);.exact K.tg h.t d.symm
 have A:∀{S:Nat} {d:Value},S≠3->W.cell? ⟨n,S,none⟩=some d->(X.setCell ⟨n,3,none⟩ u).cell? ⟨n,S,none⟩=some d:=λWf Wh=>(bo _ _ _ _ _ _ (by simp[Wf])).trans (C.cell Wh N);refine⟨λa=>Q a∨(q a/\W.heap.size<=a),⟨A (by omega) h.c0,A (by omega) h.c1,A (by omega) h.c2,⟨u,q,b5 V5,Wa.ky O λc b d=>?_,λc b=>?_⟩,⟨Wj,A (by omega) V6,bM VW E λf e=>F (br VW e) (by decide) (by decide),λf e=>⟨.inl (VX f e).1,(VX f e).2⟩⟩,A (by omega) h.c5,⟨V7,K.ky E Wd,?_⟩,h.mt.ky E Wg (F (br h.mt.p rfl) (by decide) (by decide)) (F (br h.mt.l rfl) (by decide) (by decide)),λa=>by rw[bN];exact VN C h.t.lt N (h.f a),(h.t.ky C N).set _ _ _,λa b=>⟨.inl (h.q a b).1,(h.q a b).2⟩,⟨.inl h.o.1,.inl h.o.2.1,.inl h.o.2.2.1,.inl h.o.2.2.2⟩,λa b=>?_⟩,λa b=>b.imp id λb=>b.2,λa b=>.inl b,E.mono λa b=>?_⟩;.subst d;rcases Y c b with b|b;(.exact(D c b).2.1 rfl);.have:=h.t.lt;omega
 .rcases Y c b with I | I;(.exact⟨.inl (D c I).1,(D c I).2⟩);.have Wk:=(h.lim n h.o.1).2;have Wl:=(h.lim k h.o.2.2.1).2;have Wm:=(h.lim j h.o.2.2.2).2;exact⟨.inr ⟨b,I⟩,by omega,λd=>by have:=(h.lim c (h.q c d).1).2;omega,by omega,by omega⟩
 .have B:=Wc.ky (G:=λa=>v.ownBlock=some a∨a=n) E λc _ _ g=>F g (by decide) (by decide);exact⟨B.i,B.v,λd V4 f T V=>⟨.inl (B.b d V4 f T V).1,(B.b d V4 f T V).2⟩,B.d⟩
 .rcases b with b|b;(.have:=h.lim a b;exact⟨this.1,by omega⟩);.have:=Wb a b.1;have:=h.lim n h.o.1;exact⟨by omega,by omega⟩
 .rcases b with b|b;(.exact(D a (VZ a b)).1);.exact b ▸ h.o.1
theorem Vm.mets{Wd:ia}{N:List Bool}{Wf:Nat}(h:Vm w n m k j i l s e L M o t P Q Wd r N Wf x y W)(WH:N.length<=2147483648):∃f,W.cell? ⟨n,4,none⟩=some f/\(∃A V,f=.slice A N.length V)/\∀u S,Bw W u->u.cell? ⟨S,0,none⟩=some (.bool false)->∀VZ,∃p g T,(Builtin.append_ #[195,195] VZ #[f,.slice (some ⟨S,0,none⟩) 1 1]).run prog u=.ok p g/\(∃A V,p=.slice A (N.length+1) V)/\g.cell? ⟨n,4,none⟩=some f/\g.frozen? ⟨n,4,none⟩=false/\Vm w n m k j i l s e L M o t P T Wd r (N++[false]) Wf x y (g.setCell ⟨n,4,none⟩ p)/\(∀a,T a->Q a∨W.heap.size<=a)/\(∀a,Q a->T a)/\Ky Q W (g.setCell ⟨n,4,none⟩ p):=by
 obtain⟨f,V3,Y,R⟩:=h.m;refine⟨f,V3,fT Y,λu S V6 Wl VZ=>?_⟩;have Z:Ky (λ_=>False) W u:=Ky.ab V6;have V5:=h.ky Z λ_ _=>id;obtain⟨Wz,Wq,WE,WF,WG⟩:=info_parts DI
 obtain⟨p,g,Ww,VY,WC,_,O⟩:=run_append_own_at (P:=prog) u 0 195 VZ 4 Wz (.bool false) 1 1 underlying195 Wq WE WF WG rfl (by decide) f _ _ (bM Y Z λ_ _=>id) ⟨S,0,none⟩ 1 1 [.bool false] rfl (λa V0 B=>by
  match a,B with
  | 0,B=>simp at B;subst B;simpa [Addr.add] using Wl
  | a+1,B=>simp at B) (λV0 Wb=>by simp at Wb;subst Wb;rfl) (by unfold maxLen;omega) (by omega) bt
 have Wc:Ky (λa=>f.ownBlock=some a) u g:=Ky.ao WC λc e=>e;have E:Ky (λa=>f.ownBlock=some a) W g:=(Z.mono λ_ b=>b.elim).trans Wc (Nw.refl _ _);have Wg:∀c,f.ownBlock=some c->Tg 4 W c:=λc e=>br Y e;have V8:∀{F a:Nat},Tg F W a->F≠4->¬f.ownBlock=some a:=λv Wt e=>v.ne (Wg _ e) Wt rfl;have C:=V8 h.t (by decide);have VW:Ky (λq=>q=n) g (g.setCell ⟨n,4,none⟩ p):=cS _ _ _ _ rfl;have D:Ky (λq=>f.ownBlock=some q∨q=n) W (g.setCell ⟨n,4,none⟩ p):=(E.mono λq b=>.inl b).trans (VW.mono λq b=>.inr b) (Nw.refl _ _);have Wa:∀c,p.ownBlock=some c->f.ownBlock=some c∨u.heap.size<=c:=λc e=>by rcases O with O|O;(.rw[O] at e;exact .inl e);.rw[O] at e;injection e with e;exact .inr (by omega)
 have WI:=V6.size;have WJ:=Wc.size;have WK:=VW.size;obtain⟨Wi,V1,c3,V7,V9⟩:=h.r;obtain⟨Wm,X,Wp⟩:=h.b;have K:∀{F a:Nat},Tg F W a->F≠4->F≠197->¬(f.ownBlock=some a∨a=n):=λv V5 Wn b=>by rcases b with b|b;(.exact V8 v V5 b);.exact v.ne h.t Wn b
 have Wv:∀a,P a->¬(f.ownBlock=some a∨a=n):=λa b d=>by rcases d with d|d;(.exact(R a d).2 b);.exact(h.q a b).2.1 d
 have Ws:¬(f.ownBlock=some i∨i=n):=λd=>by rcases d with d|d;(.exact X.tg (Wg i d) rfl);.exact X.tg h.t d.symm
 have Wr:fQ V1 (g.setCell ⟨n,4,none⟩ p) Wi r:=by obtain⟨WD,WA,We,WB⟩:=V7.o;exact⟨⟨WD,WA,bM We D λc e=>K (br We e) (by decide) (by decide),λWy d V0 Wj Wk=>(WB Wy d V0 Wj Wk).ky D λa _ v=>K v (by decide) (by decide)⟩,V7.g⟩
 have I:∀{VX:Nat} {d:Value},VX≠4->W.cell? ⟨n,VX,none⟩=some d->(g.setCell ⟨n,4,none⟩ p).cell? ⟨n,VX,none⟩=some d:=λWu Wx=>(bo _ _ _ _ _ _ (by simp[Wu])).trans (E.cell Wx C);have V4:=E.cell V3 C;refine⟨p,g,λa=>Q a∨(u.heap.size<=a/\a<g.heap.size),Ww,fT VY,V4,VN E h.t.lt C (h.f 4),⟨I (by omega) h.c0,I (by omega) h.c1,I (by omega) h.c2,⟨Wi,V1,I (by omega) c3,Wr,λq b=>⟨.inl (V9 q b).1,(V9 q b).2⟩⟩,⟨p,b5 V4,?_,λc e=>?_⟩,I (by omega) h.c5,⟨Wm,X.ky D Ws,?_⟩,h.mt.ky D Wv (K (br h.mt.p rfl) (by decide) (by decide)) (K (br h.mt.l rfl) (by decide) (by decide)),λa=>by rw[bN];exact VN E h.t.lt C (h.f a),(h.t.ky E C).set _ _ _,λa b=>⟨.inl (h.q a b).1,(h.q a b).2⟩,⟨.inl h.o.1,.inl h.o.2.1,.inl h.o.2.2.1,.inl h.o.2.2.2⟩,λa b=>?_⟩,λa b=>b.imp id λb=>by omega,λa b=>.inl b,D.mono λa b=>?_⟩
 .have:=bM VY VW λc e d=>by
   subst d
   rcases Wa c e with z | z
   .exact C z
   .have:=h.t.lt;omega
  simpa using this
 .rcases Wa c e with z | z;(.exact⟨.inl (R c z).1,(R c z).2⟩);.exact⟨.inr ⟨z,(World.ownsRow.lt VY c e).2⟩,λb=>by have:=(h.lim c (h.q c b).1).2;omega⟩
 .have J:=Wp.ky (G:=λa=>f.ownBlock=some a∨a=n) D λq _ _ v=>K v (by decide) (by decide);exact⟨J.i,J.v,λd Wh c A V2=>⟨.inl (J.b d Wh c A V2).1,(J.b d Wh c A V2).2⟩,J.d⟩
 .rcases b with b|b;(.have:=h.lim a b;exact⟨this.1,by omega⟩);.have:=h.lim n h.o.1;exact⟨by omega,by omega⟩
 .rcases b with b|b;(.exact(R a b).1);.exact b ▸ h.o.1
def kp(b:Bool)(d:List aH->Option (List aH))(e:List (List aH)):ia:=e.filterMap λa=>match d a with|some c=>some (a,some c)|none=>if b then some (a,none) else none
theorem A3{a:List aH->Option (List aH)}(h:a x=some y)(b:List (List aH)):kp o a (b++[x])=kp o a b++[(x,some y)]:=by simp[kp,h]
theorem yH{a:List aH->Option (List aH)}(h:a x=none)(b:List (List aH)):kp true a (b++[x])=kp true a b++[(x,none)]:=by simp[kp,h]
theorem Cw{a:List aH->Option (List aH)}(h:a x=none)(b:List (List aH)):kp false a (b++[x])=kp false a b:=by simp[kp,h]
theorem tp(b:Bool)(c:List aH->Option (List aH))(a:List (List aH)):(kp b c a).length<=a.length:=List.length_filterMap_le _ _
theorem Vm.free{b:ia}{c:List Bool}{d:Nat}(h:Vm w n m k j i l s e L M o t P Q b r c d x y W)(u:List aH):Vm w n m k j i l s e L M o t P Q (b++[(u,none)]) r c d x y W:=by obtain⟨f,g,a⟩:=h.b;exact⟨h.c0,h.c1,h.c2,h.r,h.m,h.c5,⟨f,g,⟨λq p=>by rw[rJ,VU (by simp),VI];exact a.i q p,a.v,a.b,a.d⟩⟩,h.mt,h.f,h.t,h.q,h.o,h.lim⟩
theorem Vm.mono{Q:Nat->Prop}{a:ia}{b:List Bool}{c nm':Nat}(h:Vm w n m k j i l s e L M o t Q P a r b c x y W)(u:c<=nm'):Vm w n m k j i l s e L M o t Q P a r b nm' x y W:=by obtain⟨f,⟨d,g,p⟩,q⟩:=h.b;exact⟨h.c0,h.c1,h.c2,h.r,h.m,h.c5,⟨f,⟨d,g.mono u,p⟩,q⟩,h.mt,h.f,h.t,h.q,h.o,h.lim⟩
def zZ(u:World)(t p s n o q r:Nat)(m:Ex)(e f:List Ex)(a:Bool)(b:Nat)(k:Nat->Prop)(d:List aH->Option (List aH))(i:Nat->Prop)(c:List (List aH))(l:World):Prop:=∃j g,Vm u t p s n o q r m e f a b k i (kp (a && decide (b=0)) d c) ((kp (a && decide (b=0)) d c).map (·.1)) (List.replicate (kp (a && decide (b=0)) d c).length false) c.length j g l
theorem j2{w0:World}{p:List aH->Option (List aH)}:qA w0 (zZ w0 n m k j i l s e L M o t P p):=
 ⟨λ{c r q d u} ⟨b,a,h⟩ f g=>⟨b,a,h.ky f g⟩,λ{c q d} ⟨b,a,h⟩=>h.lim⟩
theorem rI(b:∀x∈y,eO x)(a:∀x∈L,x.fin)(h:gu L y=some z):(∀x∈z,eO x)/\z.length=L.length:=by
 unfold gu at h;split at h;.cases h
 .injection h with h;subst h;refine⟨λx c=>?_,by simp⟩;obtain⟨e,d,rfl⟩:=b6 c;exact iD b (a e d)
theorem yQ{v:List aH->Option (List aH)}{VY:Nat}(Y4:zZ W n m k j i l s e L M o t P v Q r X)(XV:t<2)(YS:0<eQ l s t)(Zg:l+s<=128)(YM:(ip L M t).length<=1000000)(WO:∀x∈ip L M t,x.fin)(XD:∀V9 y,V9.length=l+s->y.length=eQ l s t->gu (ip L M t) (dB V9 (gG l t) y)=v y)(Zi:r.length+1<=2147483648)(Wc:dH (eQ l s t) y)(WQ:bX X a y)(XJ:∀Xq Y3,a=some ⟨Xq,Y3,none⟩->y≠[]->¬Q Xq)(Xw:sE a):Calls prog 134 #[.pointer (some ⟨n,0,none⟩),.slice a y.length VY] X (gm (zZ W n m k j i l s e L M o t P v) Q (r++[y]) X):=by
 obtain⟨V9,Xo,h⟩:=Y4;obtain⟨Wd,W8⟩:=bj (o && decide (t=0));unfold zZ;rw[W8] at h ⊢;obtain⟨J,V0⟩:=bj (kp Wd v r);rw[V0] at h;have WX:=tp Wd v r;rw[V0] at WX;have WV:Ky (λ_=>False) X X.drew:=Ky.ab VS.drew;have V4:=h.ky WV λ_ _=>id;have Xx:=h.mt.pl;have Wy:=XD V9 y Xx Wc.len;have Wa:=uD V4.mt (λc d=>(V4.lim c (V4.q c d).1).2) (c:=VY) (WQ.aa (VT _ X).drew) Wc.val XV Wc.len YS (by omega) YM WO;rw[Wy] at Wa;obtain⟨Xb,W4⟩:=bj (dB V9 (gG l t) y);rw[W4] at Wa Wy;have XR:∀x∈Xb,eO x:=by rw[<-W4];exact mP h.mt.pv Wc.val
 obtain⟨Xa,O⟩:=bj ((oP (v y)).1);obtain⟨W9,V2⟩:=bj ((oP (v y)).2);rw[O,V2] at Wa;obtain⟨X2,W7⟩:=bj y.length;rw[W7] at Wa ⊢;have Xi:=H Wa;have Xk:=H V4;have N:=H (And.intro V4.c0 V4.c1);have YE:Hid (∀Xd,Ky Q X Xd->bX Xd a y):=λXd g=>g.row WQ XJ;have WH:=H V0;have Yh:=H Wy;have Yu:=H XR;have Y8:=H (And.intro O V2);have Yw:=H Wc;have X6:=H Xw;have YA:=H W7;have Yg:Hid (Ky Q X X.drew):=WV.mono λ_ d=>d.elim;have Yc:=H WO;have Xl:=H W8;have WI:=H WX;have WY:∀c,v y=some c->Xa=.string (bF c)/\W9=true:=λc g=>by rw[g] at O V2;exact⟨O.symm,V2.symm⟩
 have WZ:v y=none->Xa=.string ⟨#[]⟩/\W9=false:=λg=>by rw[g] at O V2;exact⟨O.symm,V2.symm⟩
 have WJ:=H (And.intro WY WZ)
 obtain⟨R,Wi⟩:∃R,Xa=.string R:=by
  cases W6:v y with
  | none=>exact⟨_,(WZ W6).1⟩
  | some c=>exact⟨_,(WY c W6).1⟩
 subst Wi;clear h WV V4 Xx Wy Wa XR O V2 Wc WQ XJ Xw V0 W7 W4 WO W8 WX WY WZ XD;go_enter func134,ntmps134;go_upto_region 0 with fail;refine bH (λX:World=>X.cell? ⟨n,0,none⟩=some (.pointer (some ⟨m,0,none⟩))/\X.cell? ⟨n,1,none⟩=some (.int .i64 (t:Int))) 14 ?_;refine ap 0 (.pointer (some ⟨n,0,none⟩)) rfl (U N) ?_;refine ap 1 (.pointer (some ⟨n,0,none⟩)) rfl (U N) ?_;refine ap 2 (.pointer (some ⟨n,0,none⟩)) rfl (U N) ?_;refine ap 3 (.pointer (some ⟨m,0,none⟩)) rfl (U N) ?_ λWl E=>by obtain⟨V6,V7⟩:=E;go_simp
 refine ap 4 (.pointer (some ⟨n,0,none⟩)) rfl (U N) ?_;refine ap 5 (.pointer (some ⟨n,0,none⟩)) rfl (U N) ?_;refine ap 6 (.pointer (some ⟨n,1,none⟩)) rfl (U N) ?_;refine ap 7 (.int .i64 (t:Int)) rfl (U N) ?_ λWl E=>by obtain⟨V6,V7⟩:=E;go_simp
 refine ap 8 (.slice a X2 VY) rfl (U N) ?_;refine bh 9 rfl λf b=>?_;go_simp;refine(U Xi).mono ?_;rintro _ K ⟨rfl,XI,XB⟩;go_simp;obtain⟨WA,XE⟩:=(U Xk).mat XI (.inl rfl) XB;have V:=H WA;have Xh:=H XE;have Ww:=And.intro WA.c0 WA.c1;have Wn:=H Ww;clear XI XB WA XE;refine VP b Ww ?_;clear b f;refine bh 10 rfl λf b=>?_;go_simp;refine VP b Ww ?_;clear b f;refine ap 11 (.string R) rfl (U Wn) ?_;refine ap 12 (.bool W9) rfl (U Wn) ?_;refine bh 13 rfl λf b=>?_;go_simp;refine VP b (U Wn) ?_;clear b f;refine bh 14 rfl λf b=>?_;go_simp;refine bE b ?_;clear b f;refine cf ?_;have Wp:Hid (Ky Q X K):=(U Yg).trans (U Xh) (Nw.refl _ _);have Xz:K.cell? ⟨n,2,none⟩=some (.bool o):=(U V).c2;have YN:K.cell? ⟨n,1,none⟩=some (.int .i64 (t:Int)):=(U V).c1;have Wg:=H (kz XV Xz);clear Xi Xk N Wn Ww
 have YO:(∃c,v y=some c)∨(v y=none/\Wd=true)∨(v y=none/\Wd=false):=by
  cases W6:v y with
  | some c=>exact .inl ⟨c,rfl⟩
  | none=>cases Wd with
   | true=>exact .inr (.inl ⟨rfl,rfl⟩)
   | false=>exact .inr (.inr ⟨rfl,rfl⟩)
 rcases YO with ⟨c,g⟩|g|g
 rotate_left 2
 .have Wf:=H g.1;have YF:=H g.2;obtain⟨_,D⟩:=(U WJ).2 g.1;subst D;rw[U Xl,g.2] at Wg;clear g;go_wp2_with (go_at_call 181;refine(U Wg).mono ?_;rintro _ A ⟨rfl,rfl⟩);go_end0;have YX:=U YF;refine⟨rfl,Q,⟨Xb,Xo,?_⟩,Nw.refl _ _,U Wp⟩;have YQ:=Cw (U Wf) r;have V0:=U WH;rw[YX] at V0 ⊢;rw[YQ,V0,bG];exact(U V).mono (by omega)
 focus obtain⟨V3,D⟩:=(U WJ).1 c g;injection V3 with V3;subst V3 D;have W0:=rI (U Yu) (U Yc) ((U Yh).trans g);have O:cJ.ok (bF c):=fM (by omega) W0.1;(have XO:J.length<=2147483648:=by have:=U WI;omega);obtain⟨Zm,W1,⟨Wu,Wv,YY⟩,W3⟩:=(U V).note (r:=y) W0.1 O (by omega) XO;subst YY;obtain⟨Y5,WL,S,I,Wb⟩:=(U V).r;obtain⟨B,C,WC⟩:=I.form;rw[bQ] at WC;subst WC;have WM:=(U V).c5;obtain⟨R,Wi⟩:=bj (bF c);obtain⟨WE,XA⟩:=bj ((sC J c).length);obtain⟨p,Y⟩:=bj J.length;simp only[Wi,XA,Y] at W1 W3;rw[Y] at S;rw[Wi];have Yq:=H W3;have Xe:=H (And.intro WM S);have Xm:Hid (∀A,Bw K A->A.cell? ⟨n,5,none⟩=some (.map (some i))/\A.cell? ⟨n,3,none⟩=some (.slice B p C)/\(Instr.lookup 194 (.map (some i)) (.string R) false).run prog A=.ok (.slice Wu WE Wv) A):=λA D=>⟨ae WM D,ae S D,W1 A D⟩;have q:=H (U Xm K.drew VS.drew);have Wf:=H g;have Yp:=H Y;clear W0 O W3 W1 S WM I Wb Wi XA Y g XO;go_upto_region 2 with fail;refine bH (λX:World=>X.cell? ⟨n,5,none⟩=some (.map (some i))/\X.cell? ⟨n,3,none⟩=some (.slice B p C)/\(Instr.lookup 194 (.map (some i)) (.string R) false).run prog X=.ok (.slice Wu WE Wv) X) 18 ?_;refine ap 0 (.pointer (some ⟨n,0,none⟩)) rfl (U q) ?_;refine ap 1 (.pointer (some ⟨n,0,none⟩)) rfl (U q) ?_;refine ap 2 (.pointer (some ⟨n,5,none⟩)) rfl (U q) ?_;(refine ap 3 (.map (some i)) rfl (U q) ?_ λWl E=>by obtain⟨V6,V7,Wj⟩:=E;go_simp);refine ap 4 (.string R) rfl (U q) ?_;refine ap 5 (.pointer (some ⟨n,0,none⟩)) rfl (U q) ?_;refine ap 6 (.pointer (some ⟨n,0,none⟩)) rfl (U q) ?_;refine ap 7 (.pointer (some ⟨n,5,none⟩)) rfl (U q) ?_;(refine ap 8 (.map (some i)) rfl (U q) ?_ λWl E=>by obtain⟨V6,V7,Wj⟩:=E;go_simp);refine ap 9 (.string R) rfl (U q) ?_;(refine ap 10 (.slice Wu WE Wv) rfl (U q) ?_ λWl E=>by obtain⟨V6,V7,Wj⟩:=E;go_simp);refine ap 11 (.pointer (some ⟨n,0,none⟩)) rfl (U q) ?_;refine ap 12 (.pointer (some ⟨n,0,none⟩)) rfl (U q) ?_;refine ap 13 (.pointer (some ⟨n,3,none⟩)) rfl (U q) ?_;(refine ap 14 (.slice B p C) rfl (U q) ?_ λWl E=>by obtain⟨V6,V7,Wj⟩:=E;go_simp);refine ap 15 (.int .i64 (p:Int)) rfl (U q) ?_;refine bh 16 rfl λf b=>?_;go_simp;obtain⟨A,WD⟩:=bj ((K.alloc (.cells #[.int .i64 (p:Int)] 3)).drew);have WR:Bw K A:=(by rw[<-WD];exact(am VS _).drew);have Xs:A.cell? ⟨K.heap.size,0,none⟩=some (.int .i64 (p:Int)):=(by rw[<-WD];simp[go_sem]);rw[WD];have Xt:=U Xm A WR;have Ya:=H Xt;obtain⟨Zn,WF,XT,⟨Zc,c3,YZ⟩,YP,WU,XH,Y6,YH,XU,XQ,XL,YV,XF⟩:=U Yq A K.heap.size WR Xs 23;subst YZ;have Yy:=H XT;have Yz:=H XU;have Ys:=H XQ;have Ym:=H XL;have Yi:=H XF;have Xu:=(⟨WU 5 _ (U Xe).1,WU 3 _ (U Xe).2,XH⟩:WF.cell? ⟨n,5,none⟩=some (.map (some i))/\WF.cell? ⟨n,3,none⟩=some (.slice B p C)/\(Instr.lookup 194 (.map (some i)) (.string R) false).run prog WF=.ok (.slice Wu WE Wv) WF);have Yb:=H Xu;clear WR Xs WD Xt XT YP WU XH XU XQ XL YV XF Xu;refine VP b (U Ya) ?_;clear b f;refine bh 17 rfl λf b=>?_;refine et (.tmp 30) (.tmp 36) #[23,23] rfl _ _ rfl rfl (U Yy) ?_;refine VP b (U Yb) ?_;clear b f;refine bh 18 rfl λf b=>?_;refine U7 (.tmp 23) (.tmp 24) (.tmp 37) 194 rfl _ _ _ rfl rfl rfl (U Yz) ?_;refine bE b ?_;clear b f;refine cf ?_;go_upto_region 4 with fail;obtain⟨z,T⟩:=bj Y6;obtain⟨WK,VZ⟩:=bj YH;obtain⟨V5,V1⟩:=bj (J++[(y,some c)]);(have Xg:Hid (kp Wd v (r++[y])=V5/\V5.length=J.length+1/\V5.map (·.1)=J.map (·.1)++[y]):=by rw[<-V1,A3 (U Wf),U WH];exact⟨rfl,by simp,by simp⟩);have u:=U Ys;rw[T,VZ,V1,<-U Yp] at u;have Wr:=H u;(have Wq:Hid (Nw Q WK X):=λZ d=>by have:=(U Wp).size;rcases U Ym Z (VZ ▸ d) with d|d;(.exact .inl d);.exact .inr (by omega));(have We:Hid (Ky Q X z):=by rw[<-T];exact(U Wp).trans (U Yi) (Nw.refl _ _));rw[T];clear u T VZ V1
 rotate_left;focus have Wf:=H g.1;have XW:=g.2;obtain⟨V3,D⟩:=(U WJ).2 g.1;injection V3 with V3;subst V3 D;rw[U Xl,XW] at Wg;subst XW;clear g;go_upto_region 4 with (go_at_call 181;refine(U Wg).mono ?_;rintro _ A ⟨rfl,rfl⟩);obtain⟨z,T⟩:=bj A;obtain⟨WK,VZ⟩:=bj Q;obtain⟨V5,V1⟩:=bj (J++[(y,none)]);(have Xg:Hid (kp true v (r++[y])=V5/\V5.length=J.length+1/\V5.map (·.1)=J.map (·.1)++[y]):=by rw[<-V1,yH (U Wf),U WH];exact⟨rfl,by simp,by simp⟩);have u:=((U V).free y).mono (nm':=r.length+1) (by omega);rw[T,VZ,V1] at u;have Wr:=H u;(have Wq:Hid (Nw Q WK X):=by rw[<-VZ];exact Nw.refl _ _);(have We:Hid (Ky Q X z):=by rw[<-T];exact U Wp);rw[T];clear u T VZ V1
 all_goals clear YN Xz Wg V Xh;obtain⟨Wk,WB⟩:=bj (J.map (·.1));have u:=U Wr;rw[WB] at u;have Wr:=H u;obtain⟨Y5,WL,S,I,Wb⟩:=u.r;obtain⟨B,C,WC⟩:=I.form;subst WC;(have YT:Wk.length<=2147483648:=by rw[<-WB,bQ];have:=U WI;omega);obtain⟨p,Y⟩:=bj Wk.length;rw[Y] at S I;have Wh:=H (And.intro S (And.intro I Wb));have WG:Hid (Bw z z.drew):=(VS).drew;have V8:Hid (z.drew.cell? ⟨n,3,none⟩=some (.slice B p C)):=ae S (U WG);have WT:=k3 (c:=VY) (w:=z.drew) (by rw[(U Yw).len];unfold eQ;split<;>omega) (U X6) ((U YE z (U We)).aa (U WG));rw[U YA] at WT;have X9:=H WT;(have YD:Hid (Wk.length+1<=4398046511104):=by show _<=_;omega);have Yt:Hid (∀VW,Bw z VW->Bw VW (VW.alloc (.cells #[.slice none 0 0] 40))->True):=λ_ _ _=>trivial;have WS:¬(Value.slice B p C).ownBlock=some n:=λe=>(Wb n (I.g n e)).2.1 rfl;have X7:=H WS;have Yd:Hid (∀VX Xc,Bw z Xc->Ky (λc=>(Value.slice B p C).ownBlock=some c) Xc VX->VX.frozen? ⟨n,3,none⟩=false):=λVX Xc D g=>VN g (by have:=u.t.lt;have:=D.size;omega) WS (VN (Ky.ab (F:=λ_=>False) D) u.t.lt id (u.f 3));(have YB:Hid ((Wk++[y]).length=p+1):=by show _=_;rw[bG,Y];rfl);have Yk:Hid (∀c,WL c->c<z.heap.size):=λc d=>(u.lim c (Wb c d).1).2;have YC:=H WB;clear u S I Wb WT WS YT Y WB Yt;refine bH (λX:World=>X.cell? ⟨n,3,none⟩=some (.slice B p C)) 9 ?_;refine ap 0 (.pointer (some ⟨n,0,none⟩)) rfl (U V8) ?_;refine ap 1 (.pointer (some ⟨n,0,none⟩)) rfl (U V8) ?_;refine ap 2 (.pointer (some ⟨n,0,none⟩)) rfl (U V8) ?_;refine ap 3 (.pointer (some ⟨n,3,none⟩)) rfl (U V8) ?_;refine ap 4 (.slice B p C) rfl (U V8) ?_;refine ap 5 (.slice a X2 VY) rfl (U V8) ?_;refine bh 6 rfl λf b=>?_;go_simp;refine(U X9).mono ?_;rintro _ VW ⟨Zo,rfl,XX,Xy⟩;have Zh:=XX.one;go_simp;have Ws:=H (ac (U WG) Xy);have Xn:=H XX;have YJ:=ae (U Wh).1 (U Ws);clear Xy;refine VP b YJ ?_;clear b f;refine bh 7 rfl λf b=>?_;obtain⟨Xp,X0,Y0,_⟩:=U Xn;subst Y0;go_simp;have Wm:=H (am (VT _ VW) (.cells #[.slice Xp y.length X0] 40));have Wt:=H (ac (U Ws) (U Wm));have Xr:=ae (U Wh).1 (U Wt);refine VP b Xr ?_;clear b f;refine bh 8 rfl λf b=>?_;refine iv (P:=λc=>WL c∨(z.heap.size<=c/\c<VW.heap.size)) (.tmp 51) (.tmp 54) rfl (.slice B p C) Wk y rfl (((U Wh).2.1.ky (G:=λ_=>False) (Ky.ab (U Wt)) λ_ _=>id).mono λc d=>.inl d) VW.heap.size (.slice Xp y.length X0) rfl (by simp[go_sem]) (((U Xn).mono λc d=>.inr d).ky (G:=λ_=>False) (Ky.ab (U Wm)) λ_ _ _=>id) (U YD) (λc d=>by have X4:=(U Ws).size;have X5:=(U Wm).size;rcases d with d|d;have:=U Yk c d;omega;omega) ?_;intro Zq VX Za WP YR XM XG Wx;have WN:=Wx.cell Xr (U X7);have YL:VX.frozen? ⟨n,3,none⟩=false:=U Yd VX _ (U Wt) Wx;obtain⟨YI,Y2,Xv⟩:=WP.form;rw[U YB] at Xv;subst Xv;have Yj:=H WP;have Yn:=H XM;have Yv:=H XG;have Yf:=H Wx;have X8:=H WN;clear WP YR XM XG Wx;refine VP b WN ?_;clear b f;refine bh 9 rfl λf b=>?_;go_simp;refine bE b ?_;clear b f;refine bh 10 rfl λf b=>?_;go_simp;refine bE b ?_;clear b f;refine bh 11 rfl λf b=>?_;go_simp;refine bE b ?_;clear b f;refine cf ?_;have X1:Ky (λc=>(Value.slice B p C).ownBlock=some c) z VX:=(Ky.ab (U Wt)).trans (U Yf) (Nw.refl _ _);have X4:=(U Ws).size;have X5:=(U Wm).size;have I:=(U Wh).2.1;obtain⟨Y9,W5,XN,YW,WW⟩:=(U Wr).rows I (U Wh).2.2 X1 (U Yj) (λc d=>by(rcases U Yn c d with (d|d)|d);(.exact .inl d);(.exact .inr (by omega));.exact .inr (by omega)) (U Yv) (U X8);obtain⟨X3,XZ⟩:=bj (VX.setCell ⟨n,3,none⟩ (.slice YI (p+1) Y2));rw[XZ] at W5 WW ⊢;obtain⟨Zr,YK,⟨Zd,Zk,XY⟩,Wz⟩:=W5.mets (by rw[List.length_replicate];have:=U WI;omega);rw[List.length_replicate] at XY Wz;subst XY;obtain⟨Zl,W2⟩:=bj J.length;simp only[W2] at YK Wz;obtain⟨Zp,Zs,YG,XS,⟨Zb,Zj,Y1⟩,Ze,Zf,XP,XK,YU,XC⟩:=Wz (X3.alloc (.cells #[.bool false] 4)) X3.heap.size (am VS _) (by simp[go_sem]) 195;subst Y1;have Yx:=H XS;have Yr:=H XP;have Yl:=H XK;have Ye:=H XC;have Xj:=H XN;have Xf:=H WW;have Yo:=H W2;clear X1 X4 X5 I W5 XN YW WW Wz XS XP XK YU XC XZ W2 WN YL;go_wp2_with (at_builtin;refine ij rfl (.tmp 62) (.tmp 63) #[195,195] rfl _ _ rfl rfl (U Yx) ?_);go_end0;obtain⟨V6,V7,Wj⟩:=U Xg;refine⟨rfl,YG,⟨Xb,Xo,?_⟩,λZ d=>?_,((U We).trans (U Xf) (U Wq)).trans (U Ye) λZ d=>?_⟩;(.rw[V6,Wj,V7,U YC,bG,List.replicate_succ',U Yo];exact U Yr);(.have Y7:=(U We).size;have Zt:=(U Xf).size;rcases U Yl Z d with d|d;(.rcases U Xj Z d with d|d;(.exact U Wq Z d);.exact .inr (by omega));.exact .inr (by omega));.have Y7:=(U We).size;rcases U Xj Z d with d|d;(.exact U Wq Z d);.exact .inr (by omega)
def jz(b:Nat)(h a:List aH):List aH:=if b=0 then h++a else a++h
def fa(g:Nat)(b:Ex)(a:ia)(e:Option (List aH))(f:List aH):List Nat:=match e with
 | some d=>(sC a d).filter λc=>VK (bZ (jz g ((a.map (·.1)).getD c []) f) b)
 | none=>[]
def gj(c i:Nat)(f:Bool)(d:Ex)(b:ia)(e:Option (List aH))(a:List aH):List (List aH):=
 ((fa c d b e a).map λg=>jz c ((b.map (·.1)).getD g []) a)++if f && (fa c d b e a).isEmpty then [a++List.replicate i aH.null] else []
def e9(d:List Bool)(b:List Nat):List Bool:=b.foldl (λc a=>c.set a true) d
theorem jG(b:List Bool):∀a,(e9 b a).length=b.length:=λa=>by
 unfold e9
 induction a generalizing b with
 | nil=>rfl
 | cons d a c=>rw[List.foldl_cons,c,List.length_set]
theorem vt(c:List Bool)(b:List Nat)(a:Nat):e9 c (b++[a])=(e9 c b).set a true:=by simp[e9]
theorem q7(c:List Bool)(a b:List Nat):e9 c (a++b)=e9 (e9 c a) b:=by simp[e9]
theorem yF{P h p:List aH}{n1 n2:Nat}(f:n<2)(e:P.length=n1+n2)(b:h.length=eQ n1 n2 n)(c:p.length=eQ n1 n2 (1-n)):dB (dB P (gG n1 (1-n)) p) (gG n1 n) h=jz n h p:=by
 have d:n=0∨n=1:=by omega
 rcases d with rfl|rfl;.simp only[eQ,gG,jz,dB,Nat.sub_zero,ba,VU (by decide:¬(1:Nat)=0)] at *;simp;rw[List.drop_append,gl (by simp;omega)];(have a:(List.take n1 P).length=n1:=by simp;omega);rw[a,b,Nat.sub_self,List.drop_zero,dK,gl (by omega),VI]
 .simp only[eQ,gG,jz,dB,VU (by decide:¬(1:Nat)=0),Nat.sub_self,ba] at *;simp;rw[List.take_append,fz (by omega),c,Nat.sub_self,List.take_zero,VI];congr 1;rw[gl (by simp;omega)];simp
theorem UF{h:List aH}(e:k<2)(a:h.length=eQ n m k)(b:x.length=eQ n m k)(c:y.length=eQ n m (1-k)):dB (jz k h y) (gG n k) x=jz k x y:=by
 have d:k=0∨k=1:=by omega
 rcases d with rfl|rfl;.simp only[eQ,gG,jz,dB,Nat.sub_zero,ba,VU (by decide:¬(1:Nat)=0)] at *;simp;rw[List.drop_append,gl (by omega),a,b,Nat.sub_self,List.drop_zero,dK]
 .simp only[eQ,gG,jz,dB,VU (by decide:¬(1:Nat)=0),Nat.sub_self,ba] at *;rw[List.take_append,fz (by omega),c,Nat.sub_self,List.take_zero,VI,gl (by simp;omega),VI]
theorem ut{h:List aH}(d:k<2)(b:h.length=eQ n m k)(c:x.length=eQ n m (1-k)):(jz k h x).length=n+m:=by
 have a:k=0∨k=1:=by omega
 rcases a with rfl|rfl<;>simp[jz,eQ] at *<;>omega
theorem UQ{h:List aH}(c:∀x∈h,eO x)(d:∀x∈y,eO x):∀x∈jz n h y,eO x:=λx b=>by
 unfold jz at b
 split at b
 .rcases cM b with a|a
  .exact c x a
  .exact d x a
 .rcases cM b with a|a
  .exact d x a
  .exact c x a
end Go.Proofs.YtklgoolblpmmlaaGreat
