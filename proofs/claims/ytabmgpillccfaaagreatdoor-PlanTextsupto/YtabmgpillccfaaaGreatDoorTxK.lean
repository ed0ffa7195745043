import Derived.Test.YtabmgpillccfaaaGreatDoorTyA
set_option linter.all false
set_option maxHeartbeats 4000000
set_option maxRecDepth 100000
namespace Go.Proofs.YtabmgpillccfaaaGreatDoor
open Go.RowKit Go.Sort Go.Proofs.Tryz
mutual
def pR:Ex->Prop
 | .mk a d c b=>(1<=a/\a<=21)/\(a=2->c.k=2->c.s.size<=1000)/\(b.length:Int)=fD a/\VN b
def VN:List Ex->Prop
 | []=>True
 | a::b=>pR a/\VN b
end
theorem eB:∀{b:List Ex} {c:Ex},VN b->c∈b->pR c
 | [],_,_,h=>by cases h
 | d::b,c,h,a=>by rw[VN] at h;rcases dm a with rfl|a;(.exact h.1);.exact eB h.2 a
theorem jB{op:Int}(h:0<=fD op):1<=op/\op<=21/\fD op<=3:=by unfold fD at h ⊢;split at h<;>(try split at h)<;>(try split at h)<;>(try split at h)<;>(try split at h)<;>simp_all<;>omega
variable{e:Ex}{c:dt}{W w:World}{j k m n:Nat}{P Q:Nat->Prop}{a:Option Addr}{u v:Value}
theorem p9(h:bd e=true):(1<=e.op/\e.op<=21)/\(e.op=2->e.v.k=2->e.v.s.size<=1000)/\(e.args.length:Int)=fD e.op:=by
 unfold bd at h;rw[dW] at h;have d:(e.args.length:Int)=fD e.op:=by simpa using h.1
 have a:=jB (op:=e.op) (by omega);refine⟨⟨a.1,a.2.1⟩,λi g=>?_,d⟩;have b:=h.2;rw[i] at b;have c:(bv e.v).s.size<=1000:=by simpa using b
 unfold bv at c;have f:(dt.str e.v.s).s.size<=1000:=by simpa [g] using c
 exact f
mutual
theorem n5:∀(e:Ex) (c b:Int) {d h:Int},ct bd e c b=(d,h,true)->pR e/\(e.size:Int)<=d
 | .mk n m o i,c,b,d,h,a=>by
  rw[ct] at a;split at a;.injection a with _ a;injection a with _ a;cases a
  .rename_i j
   simp only[Bool.or_eq_true,eK,not_or] at j
   have l:bd (.mk n m o i)=true:=by simpa using j.2
   have f:=p9 l
   cases g:cj bd i c b 1 0 with
   | none=>rw[g] at a;simp only at a;injection a with _ a;injection a with _ a;cases a
   | some k=>
    rw[g] at a
    simp only at a
    injection a with p q
    have:=l2 i c b 1 0 (c':=k.1) (h':=k.2) g
    refine⟨?_,?_⟩
    .rw[pR];exact⟨f.1,f.2.1,f.2.2,this.1⟩
    .rw[Ex.size];omega
theorem l2:∀(e:List Ex) (d c b h:Int) {c' h':Int},cj bd e d c b h=some (c',h')->VN e/\(Ex.sizes e:Int)+b<=c'
 | [],d,c,b,h,c',h',a=>by rw[cj] at a;injection a with a;injection a with n o;rw[VN,Ex.sizes];exact⟨trivial,by omega⟩
 | i::e,d,c,b,h,c',h',a=>by rw[cj] at a;split at a;(.rename_i g;obtain⟨f,m,ok,k⟩:∃f l ok,ct bd i (d-b) (c-1)=(f,l,ok):=⟨_,_,_,rfl⟩;rw[k] at a g;simp only at a g;subst g;have j:=n5 i (d-b) (c-1) k;have:=l2 e d c (b+f) (max h m) a;rw[VN,Ex.sizes];exact⟨⟨j.1,this.1⟩,by have:=this.2;have:=j.2;omega⟩);.cases a
end
theorem q7(h:b0 e=true):pR e/\e.size<=400:=by unfold b0 at h;obtain⟨b,d,ok,a⟩:∃b d ok,ct bd e 400 40=(b,d,ok):=⟨_,_,_,rfl⟩;rw[a] at h;simp only at h;subst h;have c:=n5 e 400 40 a;have:=gU bd e 400 40 a;exact⟨c.1,by have:=c.2;omega⟩
theorem qj(a:List UInt8):(fV a).length<=3*a.length+2:=by have:=hB a a.length;rw[<-i8,bj,a1,List.length_nil];omega
theorem pW(b:b2 c.n)(d:c.k=2->c.s.size<=1000):(gY c).length<=3002:=by
 unfold gY;split;.have:=dj b;omega
 .split;(.rename_i a;have:=qj c.s.data.toList;have e:c.s.data.toList.length=c.s.size:=Array.length_toList;have:=d a;omega);.decide
theorem l9(a:List UInt8)(b:List (List UInt8)):(Lib.join (a::b) [32]).length<=a.length+1+(b.map λc=>c.length+1).sum:=by have:=ck (a::b);simpa using this
mutual
theorem nT:∀a:Ex,pR a->a.fin->(eT a).length+1<=5000*a.size
 | .mk e i j d,h,b=>by rw[pR] at h;rw[Ex.fin] at b;rw[eT,Ex.size];split;(.have:=dj b.1.2.2.2;rw[a1];omega);.split;(.rename_i c;have:=pW b.1.2.2.1 (h.2.1 c);omega);.have f:=gz d h.2.2.2 b.2;have c:=l9 (VO bV (e-2)) (gZ d);have g:=b3 iE (e-2);unfold VU;rw[a1,bj,List.length_singleton];omega
theorem gz:∀a:List Ex,VN a->Ex.ah a->((gZ a).map λa=>a.length+1).sum<=5000*Ex.sizes a
 | [],_,_=>by rw[gZ];simp
 | c::a,h,b=>by rw[VN] at h;rw[Ex.ah] at b;rw[gZ,Ex.sizes,bi,List.sum_cons];have d:=nT c h.1 b.1;have e:=gz a h.2 b.2;omega
end
theorem jI(b:dt)(f:b2 b.n)(g:b.k=2->b.s.size<=1099511627776)(i:World)(j:GT i):Calls prog 69 #[.agg #[.int .i64 b.k,.int .i64 b.n,.string b.s]] i λo u=>o=.returned (.string (bs (gY b)))/\Bw i u:=by
 obtain⟨k,c,d⟩:=b;simp only at f g ⊢;have e:=ae (ar _ i) (.cells #[.int .i64 k,.int .i64 c,.string d] 70);have l:=VV e;by_cases m:k=1;.subst m;(have a:gY ⟨1,c,d⟩=Lib.itoa c:=by simp[gY]);have p:=VV (ew c f _ (j.aa e));rw[a];obtain⟨w,r⟩:=al (Lib.itoa c);rw[<-r] at p ⊢;clear e j g a r f;go_enter func69,ntmps69;go_wp2_with (go_at_call 84;refine(U p).mono ?_;rintro o v ⟨rfl,n⟩);go_ret;exact⟨rfl,ac (U l) n⟩
 .by_cases q:k=2;(.subst q;(have a:gY ⟨2,c,d⟩=fV d.data.toList:=by simp[gY]);have s:=VV λt=>mQ d (g rfl) t;rw[a];clear e j g a f m;go_enter func69,ntmps69;go_wp2_with (go_at_call 120;refine(U s _).mono ?_;rintro o v ⟨rfl,n⟩);go_ret;exact⟨rfl,ac (U l) n⟩);·(have a:gY ⟨k,c,d⟩=n3:=by simp[gY,m,q]);rw[a];clear e j g a f;go_enter func69,ntmps69;go_wp2;go_ret;exact⟨rfl,U l⟩
theorem fI{g:Oper}{f:Act}{o:Act->World->Prop}{Q:Exit->Act->World->Prop}(t u:Operand)(C:g.op=.call { callee:=.builtin .append,args:=#[t,u],argTypes:=#[67,67] }) (base:Nat) (n:Value) (c e:List (List UInt8)) (a m p:Nat) (E:f.eval t=n) (s:SL w base n c) (G:f.eval u=.slice (some ⟨a,0,none⟩) m p) (B:m=e.length) (z:∀b i,e[b]?=some i->w.cell? ⟨a,b,none⟩=some (.string (bs i))) (R:c.length+m<=4398046511104) (q:base<=w.heap.size) (h:∀j d,SL d base j (c++e)->Below base w d->o (f.put g.dst j) d):g.wp prog f w o Q:=by obtain⟨J,A,M,N,O⟩:=info_parts ny;subst B;obtain⟨j,d,D,K,L,_,_⟩:=run_append_own_at (P:=prog) w base 67 g.type 9 J (.string ⟨#[]⟩) 1 16 underlying67 A M N O rfl (by decide) n c.length (c.map λl=>.string (bs l)) s ⟨a,0,none⟩ e.length p (e.map λl=>.string (bs l)) (by simp) (λb i r=>by rw[b8] at r;obtain⟨v,I,rfl⟩:=Option.map_eq_some_iff.1 r;(have y:(⟨a,0,none⟩:Addr).add b=⟨a,b,none⟩:=by by_cases h:b=0<;>simp[Addr.add,h]);rw[y];exact z b v I) (λi F=>by obtain⟨v,_,rfl⟩:=fB F;rfl) (by unfold maxLen;omega) (by omega) q;unfold Oper.wp execOp;simp only[C,resolve,invoke,builtin,Sem.run_bind,Sem.run_pure,Result.andThen_ok,List.map_toArray,bi,List.map_nil,E,G,D];refine h j d ?_ (bP L q λa x=>(World.ownsRow.lt s a x).1);unfold SL;rw[bj,bX];exact K
theorem SL.cells{base:Nat}{d:List (List UInt8)}(h:SL w base (.slice (some ⟨n,0,none⟩) m j) d):∀b c,d[b]?=some c->w.cell? ⟨n,b,none⟩=some (.string (bs c)):=λb c f=>by
 rcases h.form with ⟨a,_⟩|⟨l,g,a,_,_,_,e⟩
 .cases a
 .injection a with a i
  injection a with a
  injection a with a
  subst a
  exact e b c f
section
variable {P:Program}{ops:Array Oper}{Q:Exit->Act->World->Prop}{md:Region.Mode}{S:World->Prop}{k:Nat}
theorem fj{i j:Nat}{e f:Oper}{t u:List Oper}{b:Array Bool}{a:Act}(l:Region.ready md ops b=[i,j])(p:ops.toList.drop i=e::t)(q:ops.toList.drop j=f::u)
  (r:Region.wanted e (yielded ops a.tmps)=true) (s:Region.wanted f (yielded ops a.tmps)=true)
  (m:∀c:Act->World->Prop,Hid (∀a w,((b.setIfInBounds i true).getD k true=false->S w)/\dA P md ops Q S k n (b.setIfInBounds i true) a w->c a w)->e.wp P a w c Q)
  (o:∀c:Act->World->Prop,Hid (∀a w,((b.setIfInBounds j true).getD k true=false->S w)/\dA P md ops Q S k n (b.setIfInBounds j true) a w->c a w)->f.wp P a w c Q):dA P md ops Q S k (n+1) b a w:=
 ⟨λg=>(by rw[l] at g;cases g),λv d=>by
  rw[l] at d
  rcases dm d with rfl|d
  .exact cr p r m
  .rw[List.mem_singleton] at d
   subst d
   exact cr q s o⟩
end
theorem e0:∀(W:Nat) (n:Ex),n.size<=W->n.size<=1048576->pR n->n.fin->∀(Wj:Option Addr) (WA:Nat) (b:World),Ex.all b Wj n.args->GT b->Calls prog 26 #[n.val Wj WA] b λN D=>N=.returned (.string (bs (eT n)))/\Bw b D:=by
 intro W;induction W with
 | zero=>intro n h;exact absurd h (by rw[Ex.am];omega)
 | succ W T=>
 intro n Z VW o p t u b Y B;have Wc:=nT n o p;obtain⟨c,x,m,f⟩:=n;rw[pR] at o;rw[Ex.fin] at p;obtain⟨l,w⟩:=bq (b.alloc (.cells #[.int .i64 c,.int .i64 x,.int .i64 m.k,.int .i64 m.n,.string m.s,.slice t f.length u] 72));have C:Bw b l:=by rw[<-w];exact ae aN _
 have We:=VV C;rw[Ex.ad];show Calls prog 26 #[.agg #[.int .i64 c,.int .i64 x,.int .i64 m.k,.int .i64 m.n,.string m.s,.slice t f.length u]] b _;by_cases X:c=1;.subst X;(have v:eT (.mk 1 x m f)=35::Lib.itoa x:=by rw[eT];simp);have Wf:=VV (dv x p.1.2.2.2 l (B.aa C));have Wr:=dj p.1.2.2.2;rw[v];obtain⟨V,J⟩:=al (Lib.itoa x);rw[<-J] at Wf Wr ⊢;(have WR:(⟨#[35]⟩:ByteArray)++bs V=bs (35::V):=by rw[show (⟨#[35]⟩:ByteArray)=bs [35] from rfl,eg];rfl);(have WQ:¬9223372036854775807<1+(bs V).size:=by rw[bx];omega);subst w;clear C B p o Y v J Wr Wc T Z VW;go_enter func26,ntmps26;go_wp2_with (go_at_call 29;refine(U Wf).mono ?_;rintro N WL ⟨rfl,V9⟩);go_ret;exact⟨rfl,ac (U We) V9⟩
 by_cases G:c=2;.subst G;(have v:eT (.mk 2 x m f)=gY m:=by rw[eT];simp);have Wi:=VV (jI m p.1.2.2.1 (λWD=>aQ (o.2.1 rfl WD) (by decide)) l (B.aa C));rw[v];obtain⟨V,J⟩:=al (gY m);rw[<-J] at Wi ⊢;subst w;clear C B p o Y v J Wc T Z VW X;go_enter func26,ntmps26;go_wp2_with (go_at_call 69;refine(U Wi).mono ?_;rintro N WL ⟨rfl,V9⟩);go_ret;exact⟨rfl,ac (U We) V9⟩
 have v:eT (.mk c x m f)=VU (VO bV (c-2)::gZ f):=by rw[eT];simp[X,G]
 have WF:Ex.sizes f<1048576:=by rw[Ex.size] at VW;omega
 have Ws:=gz f o.2.2.2 p.2;have Wb:=l9 (VO bV (c-2)) (gZ f);have Wt:=b3 iE (c-2);have WE:f.length<=3:=by have:=(jB (op:=c) (by have:=o.2.2.1;omega)).2.2;have:=o.2.2.1;omega
 have z:=VV λ(i:World) (WC:Bw b i)=>i1 26 (λargs b=>by rfl) eT f (by omega) t u b i WC Y (λWH WP WG Wz WB Wy G Wm=>by have Wd:=a8 WG;have WT:=Ex.an Wd;rw[Ex.size] at Z;exact T WP (by omega) (by omega) (eB o.2.2.2 Wd) (Ex.ag p.2 Wd) Wz WB Wy (Ex.ab _ G Wm) (B.aa Wm));rw[<-gy] at z;have V0:Hid (Bw l l.drew):=(aN).drew;have Wa:Bw b l.drew:=ac C (U V0);have R:=VV (dg ku (c-2) l.drew (B.aa Wa) (by decide) (by kernel_rfl) ⟨by omega,by omega⟩ (by omega) (by rw[ge,d5];omega));rw[ge] at R;unfold ku at R;rw[v];have Wp:(gZ f).length=f.length:=by rw[gy,VP]
 obtain⟨A,Wo⟩:=al (gZ f);obtain⟨g,Wn⟩:=al (VO bV (c-2));rw[<-Wo] at z Ws Wb Wp ⊢;rw[<-Wn] at R Wb Wt ⊢;have Wg:Hid (∀(i:World) (V7:Nat) (VX:Value),SL i V7 VX ([g]++A)->Calls prog 35 #[VX] i λN D=>N=.returned (.string (bs (VU (g::A))))/\Bw i D):=λi V7 VX h=>bJ (g::A) V7 VX i h (by omega) (by rw[a1];omega);have V4:Hid ([g].length+A.length<=4398046511104):=by show _<=_;rw[List.length_singleton];omega
 unfold e5 at z;obtain⟨NL,V8⟩:=al A.length;rw[<-V8] at z V4;have Wh:=VV V8;have Wq:NL=f.length:=by omega
 rw[<-Wq] at z w ⊢;have Wk:l.cell? ⟨b.heap.size,0,none⟩=some (.int .i64 c):=by rw[<-w];simp[go_sem]
 have Wl:l.cell? ⟨b.heap.size,5,none⟩=some (.slice t NL u):=by rw[<-w];simp[go_sem]
 have s:Hid (l.drew.cell? ⟨b.heap.size,0,none⟩=some (.int .i64 c)/\l.drew.cell? ⟨b.heap.size,5,none⟩=some (.slice t NL u)):=⟨aG Wk (U V0),aG Wl (U V0)⟩;have Wu:=VV Wa;have WU:c≠1:=X;have WV:c≠2:=G;have WS:=o.1;have Wx:=VV w;clear C Wa B p Y T Z VW WF Ws Wb Wt WE Wp Wo Wn V8 Wq v Wk Wl w Wc o;go_enter func26,ntmps26;go_upto_region 6 with fail;rw[U Wx];refine VR (λi:World=>i.cell? ⟨b.heap.size,0,none⟩=some (.int .i64 c)/\i.cell? ⟨b.heap.size,5,none⟩=some (.slice t NL u)) 8 ?_;refine ai 0 (.pointer (some ⟨b.heap.size,0,none⟩)) rfl (U s) ?_;refine ai 1 (.int .i64 c) rfl (U s) ?_ λD L=>by obtain⟨WI,WJ⟩:=L;go_simp
 refine ai 2 (.int .i64 (c-3)) rfl (U s) ?_ λD L=>by go_simp;rw[ms _ (by omega)]
 refine ai 3 (.int .i64 (c-2)) rfl (U s) ?_ λD L=>by go_simp;rw[show c-3+1=c-2 by omega,ms _ (by omega)]
 refine ai 6 (.pointer (some ⟨b.heap.size,5,none⟩)) rfl (U s) ?_;refine ai 7 (.slice t NL u) rfl (U s) ?_ λD L=>by obtain⟨WI,WJ⟩:=L;go_simp
 refine ap 4 rfl λd a=>?_;go_simp;refine(U R).mono ?_;rintro _ r ⟨rfl,e⟩;have F:=VV (ac (U Wu) e);have V1:=VV (⟨aG (U s).1 e,aG (U s).2 e⟩:r.cell? ⟨b.heap.size,0,none⟩=some (.int .i64 c)/\r.cell? ⟨b.heap.size,5,none⟩=some (.slice t NL u));clear e;go_simp;refine aO a (U V1) ?_;clear a d;refine fj (i:=5) (j:=8) (by kernel_rfl) rfl rfl (by rfl) (by rfl) (λd a=>?_) (λd a=>?_);.go_simp;have q:=VV (ae (ar _ r) (.cells #[.string (bs g)] 9));have Wv:=VV (SL.lit r [g] (by simp));refine aO a ⟨aG (U V1).1 (U q),aG (U V1).2 (U q)⟩ ?_;clear a d;refine ap 8 rfl λd a=>?_;go_simp;refine(U z _ (ac (U F) (U q))).mono ?_;rintro _ WM ⟨rfl,M,e⟩;have O:=VV M;rw[show (r.alloc (.cells #[.string (bs g)] 9)).heap.size=r.heap.size+1 from by simp[go_sem]] at O;have V6:=VV ((U Wv).aa e);have VY:=VV (ac (ac (U F) (U q)) e);have V2:Hid (r.heap.size<=WM.heap.size):=aQ (U q).size e.size;have V3:=VV (U F).size;clear M e;go_simp;refine aS a ?_;clear a d;refine ap 9 rfl λd a=>?_;refine fI (.tmp 21) (.tmp 24) rfl r.heap.size (.slice (some ⟨r.heap.size,0,none⟩) 1 1) [g] A _ NL NL rfl (U V6) rfl (U Wh) (U O).cells (U V4) (U V2) ?_;intro WK WN K I;have V5:=VV K;have y:=VV ((U VY).trans (I.mono (U V3)));clear K I;go_simp;refine aS a ?_;clear a d;refine ap 10 rfl λd a=>?_;go_simp;refine(U Wg _ _ _ (U V5)).mono ?_;rintro _ WO ⟨rfl,e⟩;have VZ:=VV (ac (U y) e);clear e;go_simp;refine aS a ?_;clear a d;refine ap 11 rfl λd a=>?_;go_simp;refine aS a ?_;clear a d;refine bh ?_;go_wp2;go_ret;exact⟨rfl,U VZ⟩
 .go_simp;refine(U z _ (U F)).mono ?_;rintro _ E ⟨rfl,M,e⟩;have Ww:=VV M;have y:=VV (ac (U F) e);clear M e;go_simp;refine aS a ?_;clear a d;refine ap 5 rfl λd a=>?_;go_simp;have q:=VV (ae (ar _ E) (.cells #[.string (bs g)] 9));have V6:=VV (SL.lit E [g] (by simp));have O:=VV ((U Ww).aa (U q));have VY:=VV (ac (U y) (U q));have V2:Hid (E.heap.size<=(E.alloc (.cells #[.string (bs g)] 9)).heap.size):=(U q).size;have V3:=VV (U y).size;clear y;refine aS a ?_;clear a d;refine ap 9 rfl λd a=>?_;refine fI (.tmp 21) (.tmp 24) rfl E.heap.size (.slice (some ⟨E.heap.size,0,none⟩) 1 1) [g] A _ NL NL rfl (U V6) rfl (U Wh) (U O).cells (U V4) (U V2) ?_;intro WK WN K I;have V5:=VV K;have y:=VV ((U VY).trans (I.mono (U V3)));clear K I;go_simp;refine aS a ?_;clear a d;refine ap 10 rfl λd a=>?_;go_simp;refine(U Wg _ _ _ (U V5)).mono ?_;rintro _ WO ⟨rfl,e⟩;have VZ:=VV (ac (U y) e);clear e;go_simp;refine aS a ?_;clear a d;refine ap 11 rfl λd a=>?_;go_simp;refine aS a ?_;clear a d;refine bh ?_;go_wp2;go_ret;exact⟨rfl,U VZ⟩
theorem ib{α:Type}(c:α->List UInt8)(b:Nat):∀a:List α,(∀d∈a,(c d).length<=b)->((a.map c).map λa=>a.length+1).sum<=(b+1)*a.length
 | [],_=>by simp
 | d::a,h=>by have g:=h d (List.mem_cons_self ..);have i:=ib c b a (λf e=>h f (List.mem_cons_of_mem _ e));rw[bi,bi,List.sum_cons,a1,Nat.mul_add];omega
theorem iT{α:Type}(c:α->List UInt8)(b:Nat)(a:List α)(h:∀d∈a,(c d).length<=b):(Lib.join (a.map c) [32]).length<=(b+1)*a.length:=aQ (ck _) (ib c b a h)
theorem dp(a:List (List UInt8)):(VU a).length<=(a.map λb=>b.length+1).sum+2:=by have:=ck a;unfold VU;rw[a1,bj,List.length_singleton];omega
theorem l8{a:Int×Bool}(h:b2 a.1):(eY a).length<=40:=by
 have:=dj h;unfold eY;split;.have b:=dp [cy,Lib.itoa a.1];simp only[bi,List.map_nil,List.sum_cons,List.sum_nil] at b;have c:cy.length=4:=rfl;omega
 .omega
theorem mv{a:Int×Int}(h:b2 a.2):(VL a).length<=50:=by have:=dj h;have c:=b3 jE a.1;have b:=dp [VO ea a.1,Lib.itoa a.2];simp only[bi,List.map_nil,List.sum_cons,List.sum_nil] at b;show (VU [VO ea a.1,Lib.itoa a.2]).length<=50;omega
theorem kc(b:List Int)(n:b.length<=1048576)(g:∀d∈b,b2 d)(c:Option Addr)(e:Nat)(a:World)(l:bC a c b)(j:GT a) :
  Calls prog 28 #[.slice c b.length e,.func (.func 29) #[] #[]] a λp q=>p=.returned (.string (bs (fJ b)))/\Bw a q:=
 g8 _ _ _ a (VJ 29 (λargs a=>by rfl) Lib.itoa b n c e a a aN l λr f m i k=>dv f (g f (a8 m)) i (j.aa k))
  (aQ (iT Lib.itoa 25 b λd o=>dj (g d o)) (by omega)) (by rw[VP];omega)
theorem nv(b:List Int)(n:b.length<=1048576)(i:∀c∈b,1<=c/\c<=2)(d:Option Addr)(f:Nat)(a:World)(m:bC a d b)(k:GT a) :
  Calls prog 28 #[.slice d b.length f,.func (.func 34) #[] #[]] a λo p=>o=.returned (.string (bs (VU (b.map (VO bG)))))/\Bw a p:=
 g8 _ _ _ a (VJ 34 (λargs a=>by rfl) (VO bG) b n d f a a aN m λr e g j l=>kX e (i e (a8 g)).1 (i e (a8 g)).2 j (k.aa l))
  (aQ (iT (VO bG) 20 b λc q=>b3 iB c) (by omega)) (by rw[VP];omega)
theorem ko(b:List (Int×Bool))(n:b.length<=1048576)(g:∀e∈b,b2 e.1)(c:Option Addr)(f:Nat)(a:World)(l:cL a c b)(j:GT a) :
  Calls prog 32 #[.slice c b.length f,.func (.func 33) #[] #[]] a λp q=>p=.returned (.string (bs (VU (b.map eY))))/\Bw a q:=
 jQ _ _ _ a (mG 33 (λargs a=>by rfl) eY b n c f a a aN l λr d m i k=>l7 d.1 d.2 (g d (a8 m)) i (j.aa k))
  (aQ (iT eY 40 b λe o=>l8 (g e o)) (by omega)) (by rw[VP];omega)
theorem pN(b:List (Int×Int))(o:b.length<=1048576)(i:∀c∈b,b2 c.2)(j:∀c∈b,1<=c.1/\c.1<=6)(e:Option Addr)(g:Nat)(a:World)(n:dI a e b)(l:GT a) :
  Calls prog 30 #[.slice e b.length g,.func (.func 31) #[] #[]] a λq r=>q=.returned (.string (bs (VU (b.map VL))))/\Bw a r:=
 jS _ _ _ a (mH 31 (λargs a=>by rfl) VL b o e g a a aN n λs d f k m=>mu d.1 d.2 (j d (a8 f)).1 (j d (a8 f)).2 (i d (a8 f)) k (l.aa m))
  (aQ (iT VL 50 b λc p=>mv (i c p)) (by omega)) (by rw[VP];omega)
theorem qQ(a:List Ex)(q:a.length<=1048576)(w:Ex.sizes a<=1048576)(r:∀v∈a,pR v)(i:Ex.ah a)(s:VN a)(c:Option Addr)(f:Nat)(b:World)(o:Ex.all b c a)(n:GT b) :
  Calls prog 27 #[.slice c a.length f,.func (.func 26) #[] #[]] b λt u=>t=.returned (.string (bs (VU (a.map eT))))/\Bw b u:=
 jR _ _ _ b (i1 26 (λargs b=>by rfl) eT a q c f b b aN o λx d p k l j m g=>by
   have e:=a8 p
   have:=Ex.an e
   exact e0 d.size d aV (by omega) (r d e) (Ex.ag i e) k l j (Ex.ab _ m g) (n.aa g))
  (aQ (ck _) (by rw[<-gy];have:=gz a s i;omega)) (by rw[VP];omega)
mutual
def pQ:Pl->Prop
 | .mk a m c g k e d f l j i=>((1<=a/\a<=12)/\VN c/\Ex.sizes c<=400/\(a=2∨a=4∨a=5->c≠[])/\(a=6->∀b∈e,1<=b.1/\b.1<=6)/\(a=10->1<=d/\d<=6)/\(a=12->∀b∈g,1<=b/\b<=2)/\b2 j/\b2 f)/\jN i
def jN:List Pl->Prop
 | []=>True
 | b::a=>pQ b/\jN a
end
structure mA(p:Pl):Prop where
 op:1<=p.op/\p.op<=12
 ex:VN p.ex
 sz:Ex.sizes p.ex<=400
 e1:p.op=2∨p.op=4∨p.op=5->p.ex≠[]
 ag:p.op=6->∀x∈p.aggs,1<=x.1/\x.1<=6
 fn:p.op=10->1<=p.fn/\p.fn<=6
 kd:p.op=12->∀x∈p.cols,1<=x/\x<=2
 of:b2 p.off
 co:b2 p.col
theorem jj{p:Pl}(h:pQ p):mA p/\jN p.args:=by
 cases p with
 | mk v w o n r l q m t u s=>rw[pQ] at h;obtain⟨⟨a,c,d,e,f,g,i,j,k⟩,b⟩:=h;exact⟨⟨a,c,d,e,f,g,i,j,k⟩,b⟩
theorem ji:∀{b:List Pl} {c:Pl},jN b->c∈b->pQ c
 | [],_,_,h=>by cases h
 | d::b,c,h,a=>by rw[jN] at h;rcases dm a with rfl|a;(.exact h.1);.exact ji h.2 a
def df(p:Pl):List (List UInt8):=ef p.op p.tab (p.ex.map eT) p.cols p.keys p.aggs p.fn p.col p.n p.off
theorem eL(p:Pl):cX p=VU (VO aX p.op::(df p++p.args.map cX)):=by cases p;rw[cX,ja];rfl
theorem rQ{p:Pl}(h:mA p)(a:Ex.ah p.ex):((p.ex.map eT).map λb=>b.length+1).sum<=2000000:=by have:=gz p.ex h.ex a;rw[<-gy];have:=h.sz;omega
theorem dK{p:Pl}(h:mA p)(l:p.fin):((df p).map λm=>m.length+1).sum<=200000000/\(df p).length<=5:=by
 have k:=Pl.af l;obtain⟨⟨d,n,o,q,r,s,g,i,j,e⟩,f,_⟩:=k;have c:=rQ h f;have u:=dj g;have v:=dj h.of;have t:=dj h.co;have w:=b3 mD p.fn;have x:(fJ p.cols).length<=30000000:=by have:=dp (p.cols.map Lib.itoa);have:=ib Lib.itoa 25 p.cols λb a=>dj (i b a);unfold fJ;omega
 have y:(VU (p.keys.map eY)).length<=45000000:=by have:=dp (p.keys.map eY);have:=ib eY 40 p.keys λb a=>l8 (j b a);omega
 have z:(VU (p.aggs.map VL)).length<=55000000:=by have:=dp (p.aggs.map VL);have:=ib VL 50 p.aggs λb a=>mv (e b a);omega
 have A:(VU (p.cols.map (VO bG))).length<=23000000:=by have:=dp (p.cols.map (VO bG));have:=ib (VO bG) 20 p.cols λb a=>b3 iB b;omega
 have B:(VU (p.ex.map eT)).length<=2000002:=by have:=dp (p.ex.map eT);omega
 have C:((p.ex.map eT).headD []).length<=2000000:=by
  cases a:p.ex.map eT with
  | nil=>simp
  | cons b E=>rw[a] at c;simp at c ⊢;omega
 have D:p.tab.data.toList.length<=1048576:=d;unfold df ef;split;.simp only[bi,List.map_nil,List.sum_cons,List.sum_nil,a1,List.length_nil];omega
 split;.simp only[bi,List.map_nil,List.sum_cons,List.sum_nil,a1,List.length_nil];omega
 split;.simp only[bi,List.map_nil,List.sum_cons,List.sum_nil,a1,List.length_nil];omega
 split;.simp only[bi,List.map_nil,List.sum_cons,List.sum_nil,a1,List.length_nil];omega
 split;.simp only[bi,List.map_nil,List.sum_cons,List.sum_nil,a1,List.length_nil];omega
 split;.simp only[bi,List.map_nil,List.sum_cons,List.sum_nil,a1,List.length_nil];omega
 split;.simp only[bi,List.map_nil,List.sum_cons,List.sum_nil,a1,List.length_nil];omega
 .simp
mutual
theorem nQ:∀c:Pl,pQ c->c.fin->(cX c).length+1<=268435456*c.size
 | .mk b m g f j d i e k l a,h,n=>by have o:=jj h;have u:=dK o.1 n;have r:=Pl.af n;have s:=jb a o.2 r.2.2;have t:=b3 b4 b;have q:=dp (VO aX b::(df (.mk b m g f j d i e k l a)++ii a));rw[bi,bX,List.sum_cons,List.sum_append] at q;(have p:cX (.mk b m g f j d i e k l a)=VU (VO aX b::(df (.mk b m g f j d i e k l a)++ii a)):=by rw[cX];rfl);rw[p,Pl.size];omega
theorem jb:∀a:List Pl,jN a->Pl.ah a->((ii a).map λa=>a.length+1).sum<=268435456*Pl.sizes a
 | [],_,_=>by rw[ii];simp
 | c::a,h,b=>by rw[jN] at h;rw[Pl.ah] at b;rw[ii,Pl.sizes,bi,List.sum_cons];have d:=nQ c h.1 b.1;have e:=jb a h.2 b.2;omega
end
inductive Nt where
 | mk (b:Bool) (s:ByteArray) (l:List Nt)
def Nt.b:Nt->Bool | .mk a _ _=>a
def Nt.s:Nt->ByteArray | .mk _ a _=>a
def Nt.l:Nt->List Nt | .mk _ _ a=>a
mutual
def Nt.size:Nt->Nat
 | .mk _ _ a=>Nt.sizes a+1
def Nt.sizes:List Nt->Nat
 | []=>0
 | a::b=>a.size+Nt.sizes b
end
theorem Nt.am(a:Nt):a.size=Nt.sizes a.l+1:=by cases a;rw[Nt.size];rfl
theorem Nt.an:∀{b:List Nt} {a:Nt},a∈b->a.size<=Nt.sizes b
 | [],_,h=>by cases h
 | c::b,a,h=>by rw[Nt.sizes];rcases dm h with rfl|h;(.omega);.have:=Nt.an h;omega
theorem Nt.av{a b:Nt}(h:a.l[n]?=some b):b.size<a.size:=by have:=Nt.an (a8 h);rw[Nt.am a];omega
def Nt.val(a:Nt)(b:Option Addr)(c:Nat):Value:=.agg #[.bool a.b,.string a.s,.slice b a.l.length c]
theorem Nt.ad(a:Nt)(b:Option Addr)(c:Nat):a.val b c=.agg #[.bool a.b,.string a.s,.slice b a.l.length c]:=rfl
mutual
def Nt.at(a:World)(b c:Nat):Nt->Prop
 | .mk i g e=>∃d f,(a.cell? ⟨b,c,none⟩=some (.bool i)/\a.cell? ⟨b,c+1,none⟩=some (.string g)/\a.cell? ⟨b,c+2,none⟩=some (.slice d e.length f))/\Nt.all a d e
def Nt.all(c:World)(d:Option Addr):List Nt->Prop
 | []=>True
 | e::f=>∃a b,d=some ⟨a,b,none⟩/\Nt.at c a b e/\(Nt.all c (some ⟨a,b+3,none⟩) f)
end
mutual
theorem Nt.az:∀(f:Nt) {b e:World} {c d:Nat},Nt.at b c d f->Bw b e->Nt.at e c d f
 | .mk p o n,b,e,c,d,h,a=>by rw[Nt.at] at h ⊢;obtain⟨g,i,⟨j,k,l⟩,m⟩:=h;exact⟨g,i,⟨aG j a,aG k a,aG l a⟩,Nt.ab n m a⟩
theorem Nt.ab:∀(c:List Nt) {a d:World} {b:Option Addr},Nt.all a b c->Bw a d->Nt.all d b c
 | [],a,d,b,h,e=>by rw[Nt.all];trivial
 | g::c,a,d,b,h,e=>by rw[Nt.all] at h ⊢;obtain⟨f,l,i,j,k⟩:=h;exact⟨f,l,i,Nt.az g j e,Nt.ab c k e⟩
end
theorem Nt.all_get{k:World}:∀{g:List Nt} {i:Option Addr} {d:Nat} {e:Nt},Nt.all k i g->g[d]?=some e->∃b a,i=some ⟨b,a,none⟩/\Nt.at k b (a+d*3) e
 | [],_,_,_,_,c=>by simp at c
 | p::g,i,0,e,h,c=>by rw[Nt.all] at h;obtain⟨b,a,j,n,_⟩:=h;simp at c;subst c;exact⟨b,a,j,by simpa using n⟩
 | p::g,i,d+1,e,h,c=>by rw[Nt.all] at h;obtain⟨b,a,j,_,o⟩:=h;obtain⟨q,r,f,l⟩:=Nt.all_get o (by simpa using c:g[d]?=some e);injection f with f;injection f with f m;subst f m;refine⟨b,a,j,?_⟩;rw[show a+(d+1)*3=a+3+d*3 by omega];exact l
theorem Nt.ao{a:Nt}(h:a.at w n m):∃b c,(w.cell? ⟨n,m,none⟩=some (.bool a.b)/\w.cell? ⟨n,m+1,none⟩=some (.string a.s)/\w.cell? ⟨n,m+2,none⟩=some (.slice b a.l.length c))/\Nt.all w b a.l:=by
 cases a with
 | mk f e d=>rw[Nt.at] at h;exact h
mutual
def gQ:Nt->List UInt8
 | .mk c b a=>if c then VU (qn a) else b.data.toList
def qn:List Nt->List (List UInt8)
 | []=>[]
 | a::b=>gQ a::qn b
end
theorem lD:∀a:List Nt,qn a=a.map gQ
 | []=>by rw[qn];rfl
 | b::a=>by rw[qn,lD a];rfl
theorem jc(a:Nt):gQ a=if a.b then VU (a.l.map gQ) else a.s.data.toList:=by cases a;rw[gQ,lD];rfl
theorem jT(a:List UInt8)(b:List (List UInt8))(c:List UInt8):Lib.joinTail a (b++[c])=Lib.joinTail a b++(a++c):=by unfold Lib.joinTail;simp
theorem px(a:List (List UInt8))(b:List UInt8):Lib.join (a++[b]) [32]=if a.length=0 then b else Lib.join a [32]++32::b:=by
 cases a with
 | nil=>simp[Lib.join_one]
 | cons c d=>rw[dH,Lib.join_cons,Lib.join_cons,jT];simp
theorem ga(a:List (List UInt8)):(Lib.joinTail [32] a).length=(a.map λb=>b.length+1).sum:=by unfold Lib.joinTail;rw[List.length_flatten,List.map_map];congr 1
theorem iq(c:List (List UInt8))(a:Nat):(Lib.join (c.take a) [32]).length<=(Lib.join c [32]).length:=by
 cases c with
 | nil=>simp
 | cons e d=>
  cases a with
  | zero=>simp[Lib.join_nil]
  | succ a=>
   rw[List.take_succ_cons,Lib.join_cons,Lib.join_cons,bj,bj,ga,ga]
   have h:((d.take a).map λb=>b.length+1).sum+((d.drop a).map λb=>b.length+1).sum=(d.map λb=>b.length+1).sum:=by
    rw[<-List.sum_append,<-bX,List.take_append_drop]
   omega
theorem ks{a:List (List UInt8)}{b:List UInt8}(h:a[n]?=some b):Lib.join (a.take (n+1)) [32]=if n=0 then b else Lib.join (a.take n) [32]++32::b:=by have c:=(b6 h).1;rw[List.take_add_one,h];show Lib.join (a.take n++[b]) [32]=_;rw[px,List.length_take,Nat.min_eq_left (by omega)]
theorem qE{a:List (List UInt8)}{d:List UInt8}(h:a[n]?=some d):d.length+(if n=0 then 0 else (Lib.join (a.take n) [32]).length+1)<=(Lib.join a [32]).length:=by
 have c:=iq a (n+1);rw[ks h] at c;split at c;.rename_i b;rw[aR b];omega
 .rename_i b;rw[aL b];rw[bj,a1] at c;omega
theorem nx(b:List (List UInt8)):b.length<=(Lib.join b [32]).length+1:=by
 cases b with
 | nil=>simp
 | cons d a=>
  rw[Lib.join_cons,bj,ga,a1]
  have:a.length<=(a.map λc=>c.length+1).sum:=by
   induction a with
   | nil=>simp
   | cons f a e=>rw[bi,List.sum_cons,a1];omega
  omega
theorem nj:∀(u:Nat) (b:Nt),b.size<=u->(gQ b).length<=4611686018427387904->∀(Q:Option Addr) (Wa:Nat) (f:World),Nt.all f Q b.l->Calls prog 14 #[b.val Q Wa] f λM Wj=>M=.returned (.string (bs (gQ b)))/\Bw f Wj:=by
 intro u;induction u with
 | zero=>intro b h;exact absurd h (by rw[Nt.am];omega)
 | succ u E=>
 intro b L g V9 Wb f I;have O:=VV λ(r:Nat) (c:Nt) (k:b.l[r]?=some c)=>be (Nt.av k) L;rw[jc] at g ⊢;rw[Nt.ad];have j:=ae (ar _ f) (.cells #[.bool b.b,.string b.s,.slice V9 b.l.length Wb] 46);cases y:b.b with
 | false=>rw[y] at j g;have m:=VV j;obtain⟨B,q⟩:=al b.s;rw[<-q] at m ⊢;have T:bs (if false=true then VU (b.l.map gQ) else B.data.toList)=B:=sa B;rw[T];clear j g E O L I T q y;go_enter func14,ntmps14;go_wp2;go_ret;exact⟨rfl,U m⟩
 | true=>rw[y] at j g;rw[aR rfl] at g ⊢;obtain⟨e,w⟩:=al (b.l.map gQ);rw[<-w] at g ⊢;obtain⟨i,A⟩:=al b.l.length;(have V:e.length=i:=by rw[w,VP,A]);have Wg:=nx e;(have Z:(Lib.join e [32]).length+2<=4611686018427387904:=by unfold VU at g;rw[a1,bj,List.length_singleton] at g;omega);rw[<-A] at j ⊢;have m:=VV j;have V2:=VV I;have V4:=VV w;have V6:=VV A;have V5:=VV V;have N:=VV Z;(have Wn:i<=4611686018427387904:=by omega);have V3:=VV E;obtain⟨B,q⟩:=al b.s;rw[<-q] at m ⊢;clear j g E L I w A V Wg Z y q;go_enter func14,ntmps14;go_wp2;go_loopw[3,14] (λV0 r V1=>∃(a:Nat) (d:ByteArray),a<=i/\r=.int .i64 a/\V0=.string d/\Hid (d=bs (40::Lib.join (e.take a) [32]))/\Hid (Bw f V1)) (λV0 r V1=>i-(intOf r).toNat);(case atStart=>exact⟨0,_,bf,rfl,rfl,(by rw[List.take_zero,Lib.join_nil];rfl),m⟩);case round=>obtain⟨a,d,Wm,rfl,rfl,l,n⟩:=hrel;by_cases We:a<i;(·(have Wh:(a:Int)<(i:Int):=by omega);obtain⟨c,k⟩:∃c,b.l[a]?=some c:=⟨_,ba (by rw[<-U V6];exact We)⟩;(have x:e[a]?=some (gQ c):=by rw[U V4,b8,k];rfl);have t:=VV (ks x);have z:=qE x;obtain⟨Wl,Wo,v,K⟩:=Nt.all_get (U V2) k;obtain⟨R,F,⟨VX,VY,VZ⟩,J⟩:=Nt.ao K;replace VX:=aG VX (U n);replace VY:=aG VY (U n);replace VZ:=aG VZ (U n);(have W:d.size=(Lib.join (e.take a) [32]).length+1:=by rw[U l,bx,a1]);have Y:=U N;have VW:=iq e a;have s:=VV (ac (U n) (ae (ar _ wr) (.cells #[.bool c.b,.string c.s,.slice R c.l.length F] 46)));have D:=VV λ(P:World) (Wf:Bw f P)=>U V3 c (by have:=U O a c k;omega) (by omega) R F P (Nt.ab _ J Wf);rw[Nt.ad] at D;by_cases p:a=0;(·(have Wi:¬(0:Int)<(a:Int):=by omega);rw[aR p] at t z;(have S:¬9223372036854775807<d.size+(bs (gQ c)).size:=by rw[bx];omega);(have V7:Hid (d++bs (gQ c)=bs (40::gQ c)):=by show _=_;rw[U l,p,List.take_zero,Lib.join_nil,eg];rfl);rw[v];clear p K J v k x z W Y VW;go_wp2_with (go_at_call 14;refine(U D _ (U s)).mono ?_;rintro M Wk ⟨rfl,o⟩;have C:=VV (ac (U s) o);clear o);go_roundw;(case rel=>exact⟨a+1,_,by omega,by go_num,rfl,(by rw[U t,<-U V7];rfl),C⟩);case measure=>simp[intOf]<;>omega);·(have Wi:(0:Int)<(a:Int):=by omega);rw[aL p] at t z;(have S:¬9223372036854775807<d.size+1:=by omega);(have G:d++(⟨#[32]⟩:ByteArray)=bs (40::Lib.join (e.take a) [32]++[32]):=by rw[U l,show (⟨#[32]⟩:ByteArray)=bs [32] from rfl,eg]);(have X:(d++(⟨#[32]⟩:ByteArray)).size=d.size+1:=by rw[G,bx,U l,bx,bj];rfl);(have F:¬9223372036854775807<(d++(⟨#[32]⟩:ByteArray)).size+(bs (gQ c)).size:=by rw[X,bx];omega);(have V8:Hid (d++(⟨#[32]⟩:ByteArray)++bs (gQ c)=bs (40::Lib.join (e.take (a+1)) [32])):=by show _=_;rw[G,eg,U t];congr 1;simp);rw[v];clear p K J v k x z W Y VW X G;go_wp2_with (go_at_call 14;refine(U D _ (U s)).mono ?_;rintro M Wk ⟨rfl,o⟩;have C:=VV (ac (U s) o);clear o);go_roundw;(case rel=>exact⟨a+1,_,by omega,by go_num,rfl,V8,C⟩);case measure=>simp[intOf]<;>omega);·(have Wh:¬(a:Int)<(i:Int):=by omega);(have Wd:a=i:=by omega);(have S:¬9223372036854775807<d.size+1:=by have:=iq e a;have:=U N;rw[U l,bx,a1];omega);go_wp2;go_ret;refine⟨?_,U n⟩;(have Wc:VU e=40::Lib.join (e.take a) [32]++[41]:=by rw[Wd,<-U V5,gJ];rfl);rw[Wc,<-eg,<-U l];rfl
mutual
def Nt.atF(f:Nat->Prop)(a:World)(b c:Nat):Nt->Prop
 | .mk j i e=>∃d g,(a.cell? ⟨b,c,none⟩=some (.bool j)/\a.cell? ⟨b,c+1,none⟩=some (.string i)/\a.cell? ⟨b,c+2,none⟩=some (.slice d e.length g))/\Nt.aj f a d e
def Nt.aj(b:Nat->Prop)(d:World)(e:Option Addr):List Nt->Prop
 | []=>True
 | f::g=>∃a c,e=some ⟨a,c,none⟩/\b a/\Nt.atF b d a c f/\(Nt.aj b d (some ⟨a,c+3,none⟩) g)
end
def fm(d:Nat->Prop)(e f:World):Prop:=∀a b c,d a->e.cell? ⟨a,b,none⟩=some c->f.cell? ⟨a,b,none⟩=some c
mutual
theorem Nt.atF_kept{a f:Nat->Prop}{j k:World}(c:fm a j k)(r:∀i,a i->f i):∀(g:Nt) {b e:Nat},a b->Nt.atF a j b e g->Nt.atF f k b e g
 | .mk u t s,b,e,d,h=>by rw[Nt.atF] at h ⊢;obtain⟨l,m,⟨n,o,p⟩,q⟩:=h;exact⟨l,m,⟨c _ _ _ d n,c _ _ _ d o,c _ _ _ d p⟩,Nt.ak c r s q⟩
theorem Nt.ak{S d:Nat->Prop}{i j:World}(f:fm S i j)(c:∀g,S g->d g):∀(b:List Nt) {a:Option Addr},Nt.aj S i a b->Nt.aj d j a b
 | [],a,h=>by rw[Nt.aj];trivial
 | l::b,a,h=>by rw[Nt.aj] at h ⊢;obtain⟨k,p,m,e,n,o⟩:=h;exact⟨k,p,m,c _ e,Nt.atF_kept f c l e n,Nt.ak f c b o⟩
end
mutual
theorem Nt.atF_at{e:Nat->Prop}{d:World}:∀(c:Nt) {a b:Nat},Nt.atF e d a b c->Nt.at d a b c
 | .mk m l k,a,b,h=>by rw[Nt.atF] at h;rw[Nt.at];obtain⟨f,g,i,j⟩:=h;exact⟨f,g,i,Nt.aA k j⟩
theorem Nt.aA{d:Nat->Prop}{c:World}:∀(b:List Nt) {a:Option Addr},Nt.aj d c a b->Nt.all c a b
 | [],a,h=>by rw[Nt.all];trivial
 | f::b,a,h=>by rw[Nt.aj] at h;rw[Nt.all];obtain⟨e,k,g,l,i,j⟩:=h;exact⟨e,k,g,Nt.atF_at f i,Nt.aA b j⟩
end
theorem Nt.aq{b:List Nt}(h:Nt.aj P w a b)(d:∀c,P c->Q c):Nt.aj Q w a b:=Nt.ak (λ_ _ _ _ h=>h) d b h
theorem Nt.au{b:List Nt}(h:Nt.aj P w a b)(c:Bw w W):Nt.aj P W a b:=Nt.ak (λ_ _ _ _ h=>aG h c) (λ_ h=>h) b h
abbrev Np:=Nt×Option Addr×Nat
def cl(a:Np):List Value:=[.bool a.1.b,.string a.1.s,.slice a.2.1 a.1.l.length a.2.2]
theorem dV:∀(d:List Np) (b:Nat) (c:Np) (a:Nat),d[b]?=some c->a<3->(d.flatMap cl)[b*3+a]?=(cl c)[a]?
 | [],b,c,a,h,_=>by simp at h
 | f::d,0,c,a,h,e=>by simp at h;subst h;rw[fl,Nat.zero_mul,aT,mt (by simp[cl];omega)]
 | f::d,b+1,c,a,h,e=>by rw[fl,gn (by simp[cl];omega)];(have g:(b+1)*3+a-(cl f).length=b*3+a:=by simp[cl];omega);rw[g];exact dV d b c a (by simpa using h) e
theorem iv:∀a:List Np,(a.flatMap cl).length=a.length*3
 | []=>rfl
 | b::a=>by rw[fl,bj,iv a,a1];simp[cl];omega
def NS(c:World)(base:Nat)(b:Value)(a:Nat):Prop:=base<=a/\a<c.heap.size/\b.ownBlock≠some a
def NL(b:World)(base:Nat)(d:Value)(c:List Nt):Prop:=∃a:List Np,a.map Prod.fst=c/\b.ownsRow base 46 3 d c.length (a.flatMap cl)/\∀e∈a,Nt.aj (NS b base d) b e.2.1 e.1.l
theorem NL.aa{base:Nat}{c:List Nt}(h:NL w base v c)(a:Bw w W):NL W base v c:=by obtain⟨i,d,e,f⟩:=h;refine⟨i,d,gR e a,λj g=>?_⟩;exact Nt.aq (Nt.au (f j g) a) λk b=>⟨b.1,be b.2.1 a.size,b.2.2⟩
theorem NL.nil(b:World)(base:Nat):NL b base (.slice none 0 0) []:=⟨[],rfl,⟨rfl,.inl ⟨rfl,rfl⟩⟩,λc a=>by cases a⟩
theorem lj{S:Nat->Prop}{f:World}{d:Nat}(i:S d):∀(e:List Np) (b:Nat),(∀c a,e[c]?=some a->f.cell? ⟨d,b+c*3,none⟩=some (.bool a.1.b)/\f.cell? ⟨d,b+c*3+1,none⟩=some (.string a.1.s)/\f.cell? ⟨d,b+c*3+2,none⟩=some (.slice a.2.1 a.1.l.length a.2.2))->(∀a∈e,Nt.aj S f a.2.1 a.1.l)->Nt.aj S f (some ⟨d,b,none⟩) (e.map Prod.fst)
 | [],b,_,_=>by rw[List.map_nil,Nt.aj];trivial
 | ⟨⟨o,n,m⟩,k,l⟩ :: e,b,h,j=>by rw[bi,Nt.aj];refine⟨d,b,rfl,i,?_,?_⟩;(.rw[Nt.atF];have:=h 0 _ rfl;simp only[Nat.zero_mul,Nat.add_zero] at this;exact⟨k,l,this,j _ (List.mem_cons_self ..)⟩);.refine lj i e (b+3) (λc a g=>?_) λa g=>j a (List.mem_cons_of_mem _ g);have:=h (c+1) a (by simpa using g);rw[show b+(c+1)*3=b+3+c*3 by omega] at this;exact this
theorem NL.node{base:Nat}{d:List Nt}(h:NL w base v d):∃i m,v=.slice i d.length m/\Nt.aj (λc=>base<=c/\c<w.heap.size) w i d:=by
 obtain⟨e,j,k,s⟩:=h;have g:=k;have B:e.length=d.length:=by rw[<-j,VP]
 rcases k.2 with ⟨rfl,r⟩|⟨z,q,y,rfl,t,u,_⟩
 .have:d=[]:=eV r;subst this;exact⟨none,0,rfl,by rw[Nt.aj];trivial⟩
 .have x:=(Array.getElem?_eq_some_iff.1 u).1;refine⟨_,q,rfl,?_⟩;rw[<-j];refine lj (S:=λc=>base<=c/\c<w.heap.size) ⟨t,x⟩ e 0 (λb f a=>?_) λf a=>Nt.aq (s f a) λc l=>⟨l.1,l.2.1⟩;have A:=(b6 a).1;have n:=dV e b f 0 a (by omega);have o:=dV e b f 1 a (by omega);have p:=dV e b f 2 a (by omega);rw[aT];refine⟨?_,?_,?_⟩;(.rw[World.ownsRow.cellAt g (b*3) (by omega)];exact n);(.rw[World.ownsRow.cellAt g (b*3+1) (by omega)];exact o);.rw[World.ownsRow.cellAt g (b*3+2) (by omega)];exact p
theorem ob:(Tryz.prog.info? 46).map (λa=>(a.zero,a.size,a.bytes))=some (some (.agg #[.bool false,.string ⟨#[]⟩,.slice none 0 0]),3,48):=by kernel_rfl
theorem NS.push{base:Nat}(d:w.heap.size<=W.heap.size)(h:u.ownBlock=v.ownBlock∨u.ownBlock=some w.heap.size):∀c,NS w base v c->NS W base u c:=λc b=>⟨b.1,by have:=b.2.1;omega,λa=>by
 rcases h with h|h
 .exact b.2.2 (h ▸ a)
 .rw[h] at a;injection a with a;have:=b.2.1;omega⟩
theorem NL.push(b:World)(w:TypeId)(base:Nat)(j:Value)(k:List Nt)(E:NL b base j k)(i:Np)(G:Nt.aj (NS b base j) b i.2.1 i.1.l)(c:Nat)(A:∀d f,(cl i)[d]?=some f->b.cell? ⟨c,d,none⟩=some f)(R:k.length+1<=1099511627776)(r:base<=b.heap.size):∃l g,(Builtin.append_ #[44,44] w #[j,.slice (some ⟨c,0,none⟩) 1 1]).run prog b=.ok l g/\NL g base l (k++[i.1])/\Below base b g:=by
 obtain⟨I,C,N,O,Q⟩:=info_parts ob;obtain⟨v,y,p,z⟩:=E;obtain⟨l,g,F,J,n,_,K⟩:=run_append_own_at (P:=prog) b base 44 w 46 I (.agg #[.bool false,.string ⟨#[]⟩,.slice none 0 0]) 3 48 underlying44 C N O Q rfl (by decide) j k.length (v.flatMap cl) p ⟨c,0,none⟩ 1 1 (cl i) rfl (λd f D=>by(have x:(⟨c,0,none⟩:Addr).add d=⟨c,d,none⟩:=by by_cases h:d=0<;>simp[Addr.add,h]);rw[x];exact A d f D) (λf u=>by simp[cl] at u;rcases u with rfl|rfl|rfl<;>rfl) (by unfold maxLen;omega) (by omega) r;have s:fm (NS b base j) b g:=λo L f q B=>by rw[World.cell?_of_block (w:=b) (a:=⟨o,L,none⟩) (n.block o q.2.1 λm=>q.2.2 m.symm)];exact B
 have t:=NS.push (base:=base) n.size K;refine⟨l,g,F,⟨v++[i],by simp[y],?_,λM e=>?_⟩,bP n r λc m=>(World.ownsRow.lt p c m).1⟩;.rw[List.flatMap_append,bj];simpa using J
 .rcases jD e with e|e;(.exact Nt.ak s t _ (z M e));.rw[List.mem_singleton] at e;subst e;exact Nt.ak s t _ G
theorem hc{b:Oper}{a:Act}{d:Act->World->Prop}{j:Exit->Act->World->Prop}(e i:Operand)(c:TypeId)(l:b.op=Op.call { callee:=Callee.builtin Builtin.append,args:=#[e,i],argTypes:=#[c,c] }) (f g:Value) (k:a.eval e=f) (n:a.eval i=g)   (m:(Builtin.append_ #[c,c] b.type #[f,g]).run prog w=.ok v W) (h:d (a.put b.dst v) W):b.wp prog a w d j:=by unfold Oper.wp execOp;simp only[l,resolve,invoke,builtin,Sem.run_bind,Sem.run_pure,Result.andThen_ok,List.map_toArray,bi,List.map_nil,k,n,m];exact h
theorem di{j:Array Oper}{rest:List Oper}{a:Oper}{c:Act}{i:Exit->Act->World->Prop}(m:a.guard=none)(d g:Operand)(b:TypeId)(n:a.op=Op.call { callee:=Callee.builtin Builtin.append,args:=#[d,g],argTypes:=#[b,b] })
  (e f:Value) (l:c.eval d=e) (p:c.eval g=f)   (o:(Builtin.append_ #[b,b] a.type #[e,f]).run prog w=.ok v W) (h:wpList prog j i rest (c.put a.dst v) W):wpList prog j i (a::rest) c w:=
 wpList_plain m λ_ k=>hc d g b n e f l p o (k _ _ h)
theorem cM{o:Array Oper}{rest:List Oper}{b:Oper}{f:Act}{m:Exit->Act->World->Prop}(a:World)(u:b.guard=none)(k l:Operand)(w:b.op=.call { callee:=.builtin .append,args:=#[k,l],argTypes:=#[44,44] }) (base:Nat) (c:Value) (g:List Nt) (e:Np) (j:Nat) (z:f.eval k=c) (x:NL a base c g) (A:f.eval l=.slice (some ⟨j,0,none⟩) 1 1) (B:Nt.aj (NS a base c) a e.2.1 e.1.l) (t:∀n p,(cl e)[n]?=some p->a.cell? ⟨j,n,none⟩=some p) (v:g.length+1<=1099511627776) (s:base<=a.heap.size) (h:∀i d,NL d base i (g++[e.1])->Below base a d->wpList prog o m rest (f.put b.dst i) d):wpList prog o m (b::rest) f a:=by obtain⟨i,d,y,q,r⟩:=NL.push a b.type base c g x e B j t v s;exact di u k l 44 w c _ z A y (h i d q r)
theorem pe{f:Oper}{d:Act}{l:Act->World->Prop}{o:Exit->Act->World->Prop}(j k:Operand)(u:f.op=.call { callee:=.builtin .append,args:=#[j,k],argTypes:=#[44,44] }) (base:Nat) (a:Value) (e:List Nt) (c:Np) (i:Nat) (y:d.eval j=a) (v:NL w base a e) (z:d.eval k=.slice (some ⟨i,0,none⟩) 1 1) (A:Nt.aj (NS w base a) w c.2.1 c.1.l) (s:∀m n,(cl c)[m]?=some n->w.cell? ⟨i,m,none⟩=some n) (t:e.length+1<=1099511627776) (r:base<=w.heap.size) (h:∀g b,NL b base g (e++[c.1])->Below base w b->l (d.put f.dst g) b):f.wp prog d w l o:=by obtain⟨g,b,x,p,q⟩:=NL.push w f.type base a e v c A i s t r;exact hc j k 44 u a _ y z x (h g b p q)
def h5(e:Nt)(a:World)(g:Ending)(b:World):Prop:=∃c f,g=.returned (e.val c f)/\Nt.aj (λd=>a.heap.size<=d/\d<b.heap.size) b c e.l/\Bw a b
def bz(a:ByteArray):Nt:=.mk false a []
def cY(a:List Nt):Nt:=.mk true ⟨#[]⟩ a
theorem fW(a:List UInt8):gQ (bz (bs a))=a:=by rw[jc];exact dZ a
theorem eX(a:List Nt):gQ (cY a)=VU (a.map gQ):=by rw[jc];rfl
theorem kW(c:List Nt)(a:Option Addr)(b:Nat):(cY c).val a b=.agg #[.bool true,.string ⟨#[]⟩,.slice a c.length b]:=rfl
theorem bI(a:ByteArray)(b:World):Calls prog 41 #[.string a] b λc d=>c=.returned (.agg #[.bool false,.string a,.slice none 0 0])/\Bw b d:=by go_enter func41,ntmps41;go_wp2;exact aM (v:=.agg #[.bool false,.string a,.slice none 0 0]) (by simp[results,results41,go_sem]) rfl ⟨rfl,ae aN _⟩
theorem cc(a:Option Addr)(c b:Nat)(d:World):Calls prog 42 #[.slice a c b] d λe f=>e=.returned (.agg #[.bool true,.string ⟨#[]⟩,.slice a c b])/\Bw d f:=by go_enter func42,ntmps42;go_wp2;exact aM (v:=.agg #[.bool true,.string ⟨#[]⟩,.slice a c b]) (by simp[results,results42,go_sem]) rfl ⟨rfl,ae aN _⟩
def dS(a:Int):Nt:=bz (bs (Lib.itoa a))
def cO(a:List Int):Nt:=cY (a.map dS)
theorem em{α d:Type}(a:α->d){b:List α}{c:α}(h:b[n]?=some c):(b.take (n+1)).map a=(b.take n).map a++[a c]:=by rw[List.take_add_one,h];simp
theorem gM{d:ByteArray}(e:w.cell? ⟨n,0,none⟩=some (.bool false))(f:w.cell? ⟨n,1,none⟩=some (.string d))(g:w.cell? ⟨n,2,none⟩=some (.slice none 0 0)):∀b c,(cl (bz d,none,0))[b]?=some c->w.cell? ⟨n,b,none⟩=some c:=λb c a=>by
 match b,a with
 | 0,a=>simp[cl] at a;subst a;exact e
 | 1,a=>simp[cl] at a;subst a;exact f
 | 2,a=>simp[cl] at a;subst a;exact g
 | b+3,a=>simp[cl] at a
theorem bA(h:n<k)(b:w.cell? ⟨k,j,none⟩=some u):(w.setCell ⟨n,m,none⟩ v).cell? ⟨k,j,none⟩=some u:=by
 have:k≠n:=by omega
 have a:n≠k:=by omega
 simp[go_sem,this,a,b]
theorem d4(c:World)(a:Nat)(f g i:Value):fm (λd=>a+1<=d/\d<c.heap.size) c (((c.setCell ⟨a,0,none⟩ f).setCell ⟨a,1,none⟩ g).setCell ⟨a,2,none⟩ i):=λj k l b e=>bA b.1 (bA b.1 (bA b.1 e))
theorem hH(c:List Int)(Wi:c.length<=1048576)(N:∀d∈c,b2 d)(L:Option Addr)(Wc:Nat)(a:World)(P:bC a L c)(O:GT a):Calls prog 44 #[.slice L c.length Wc] a (h5 (cO c) a):=by
 obtain⟨k,E⟩:=al c.length;rw[<-E] at Wi ⊢;have x:=VV E;have VY:=VV P;have VX:=VV λ(n:Nat) d (f:c[n]?=some d)=>N d (a8 f);have V4:=VV λ(d:Int) (f:b2 d) (K:World) (Wf:Bw a K)=>dv d f K (O.aa Wf);obtain⟨Wk,D⟩:=al (h5 (cO c) a);have Wb:=VV D;rw[<-D];have S:=ae (ar _ a) (.cells #[.bool false,.string ⟨#[]⟩,.slice none 0 0] 46);have V0:=VV S;have V3:=VV (ar (a.heap.size+1) (a.alloc (.cells #[.bool false,.string ⟨#[]⟩,.slice none 0 0] 46)));have Wa:Hid ((a.alloc (.cells #[.bool false,.string ⟨#[]⟩,.slice none 0 0] 46)).heap.size=a.heap.size+1):=by show _=_;simp
 have o:Hid ((a.alloc (.cells #[.bool false,.string ⟨#[]⟩,.slice none 0 0] 46)).cell? ⟨a.heap.size,0,none⟩=some (.bool false)/\(a.alloc (.cells #[.bool false,.string ⟨#[]⟩,.slice none 0 0] 46)).cell? ⟨a.heap.size,1,none⟩=some (.string ⟨#[]⟩)/\(a.alloc (.cells #[.bool false,.string ⟨#[]⟩,.slice none 0 0] 46)).cell? ⟨a.heap.size,2,none⟩=some (.slice none 0 0)/\∀i,(a.alloc (.cells #[.bool false,.string ⟨#[]⟩,.slice none 0 0] 46)).frozen? ⟨a.heap.size,i,none⟩=false):=⟨by simp[go_sem],by simp[go_sem],by simp[go_sem],λi=>by simp[go_sem]⟩;clear E P N O D S;go_enter func44,ntmps44;go_wp2;go_loopw[3,8] (λF n G=>∃(b:Nat),b<=k/\n=.int .i64 b/\Hid (NL G (a.heap.size+1) F ((c.take b).map dS))/\Hid (Below (a.heap.size+1) (a.alloc (.cells #[.bool false,.string ⟨#[]⟩,.slice none 0 0] 46)) G)) (λF n G=>k-(intOf n).toNat);case atStart=>exact⟨0,bf,rfl,NL.nil _ _,V3⟩
 case round=>
  obtain⟨b,Wp,rfl,J,g⟩:=hrel;have w:Hid (Bw a wr):=(U V0).trans ((U g).mono (Nat.le_succ _));have j:Hid (a.heap.size+1<=wr.heap.size):=by have:=(U g).size;rw[U Wa] at this;exact this
  by_cases We:b<k
  ·(have Wj:(b:Int)<(k:Int):=by omega);obtain⟨d,f⟩:∃d,c[b]?=some d:=⟨_,ba (by rw[<-U x];exact We)⟩;have V9:=VV (em dS f);(have V7:Hid (((c.take b).map dS).length+1<=1099511627776):=by show _<=_;rw[VP,List.length_take,<-U x];omega);obtain⟨Wl,Wr,M,Ws⟩:=((U VY).aa (U w)).get f;have I:=VV (U V4 d (U VX b d f));obtain⟨z,B⟩:=al (Lib.itoa d);rw[<-B] at I;(have V8:Hid (dS d=bz (bs z)):=by show _=_;rw[B];rfl);rw[M];clear M f B
   go_wp2_with (first
    | (go_at_call 29;refine(U I _ (U w)).mono ?_;rintro Y Wu ⟨rfl,T⟩;have V1:=VV T;clear T)
    | (go_at_call 41;refine(bI _ _).mono ?_;rintro Y Z ⟨rfl,V⟩;have Q:=ae (ar _ Z) (.cells #[.bool false,.string (bs z),.slice none 0 0] 46);have u:=VV (ac (ac (U V1) V) Q);have V5:=VV ((U J).aa (U u));clear V Q)
    | (refine cM _ rfl (.tmp 12) (.tmp 16) rfl (a.heap.size+1) u3 _ (bz (bs z),none,0) Z.heap.size rfl (U V5) rfl (by show Nt.aj _ _ none [];rw[Nt.aj];trivial) (gM (by simp[go_sem]) (by simp[go_sem]) (by simp[go_sem])) (U V7) (aQ (U j) (U u).size) ?_;intro Wt Wv X W;have V6:=VV X;have V2:=VV ((U g).trans (((U u).mono (U j)).trans W));clear X W))
   go_roundw;(case rel=>exact⟨b+1,by omega,by go_num,(by rw[U V9,U V8];exact V6),V2⟩);case measure=>simp[intOf]<;>omega
  ·(have Wj:¬(b:Int)<(k:Int):=by omega);(have Wd:b=k:=by omega);have C:=U J;rw[show (c.take b).map dS=c.map dS by rw[Wd,U x,gJ]] at C;obtain⟨A,cv,rfl,R⟩:=C.node;have VZ:=VV R;have m:a.heap.size<a.heap.size+1:=Nat.lt_succ_self _;have r:=(U g).cell (p:=⟨a.heap.size,0,none⟩) m;have s:=(U g).cell (p:=⟨a.heap.size,1,none⟩) m;have t:=(U g).cell (p:=⟨a.heap.size,2,none⟩) m;rw[(U o).1] at r;rw[(U o).2.1] at s;rw[(U o).2.2.1] at t;(have VW:∀i,wr.frozen? ⟨a.heap.size,i,none⟩=false:=λi=>by rw[(U g).frozen (p:=⟨a.heap.size,i,none⟩) m];exact(U o).2.2.2 i);have y:=VV VW;clear C R VW m;go_wp2_with (go_at_call 42;refine(cc _ _ _ _).mono ?_;rintro Y q ⟨rfl,e⟩;replace r:=aG r e;replace s:=aG s e;replace t:=aG t e;have Wm:q.frozen? ⟨a.heap.size,0,none⟩=false:=by { rw[e.frozen (p:=⟨a.heap.size,0,none⟩) (U j)];exact U y 0 };have Wn:q.frozen? ⟨a.heap.size,1,none⟩=false:=by { rw[e.frozen (p:=⟨a.heap.size,1,none⟩) (U j)];exact U y 1 };have Wo:q.frozen? ⟨a.heap.size,2,none⟩=false:=by { rw[e.frozen (p:=⟨a.heap.size,2,none⟩) (U j)];exact U y 2 };have v:=VV e;clear e);have Wq:=U j;have Wh:=U w;have Wg:=(((ac Wh (U v)).setCell (p:=⟨a.heap.size,0,none⟩) aV (.bool true)).setCell (p:=⟨a.heap.size,1,none⟩) aV (.string ⟨#[]⟩)).setCell (p:=⟨a.heap.size,2,none⟩) aV (.slice A c.length cv);refine aM (v:=.agg #[.bool true,.string ⟨#[]⟩,.slice A c.length cv]) (by simp[results,results44,go_sem,r,s,t]) rfl ?_;rw[U Wb];refine⟨A,cv,?_,?_,Wg⟩;(.unfold cO;rw[kW,VP]);.refine Nt.ak (d4 q a.heap.size _ _ _) (λb l=>⟨Nat.le_of_succ_le l.1,be l.2 (by simp)⟩) _ (Nt.aq (Nt.au (U VZ) (U v)) λb l=>⟨l.1,be l.2 (U v).size⟩)
end Go.Proofs.YtabmgpillccfaaaGreatDoor
