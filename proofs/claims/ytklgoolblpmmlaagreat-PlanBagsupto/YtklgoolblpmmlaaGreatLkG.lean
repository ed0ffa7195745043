import Derived.Test.YtklgoolblpmmlaaGreatLkD
set_option linter.all false
set_option maxHeartbeats 8000000
set_option maxRecDepth 100000
namespace Go.Proofs.YtklgoolblpmmlaaGreat
open Go.RowKit Go.Sort Go.Proofs.Tryz Go.Lib
variable{W X w:World}{j k m n:Nat}{u v:Value}{p:Pl}{g:Pm}{a:Option Addr}{C K:List Int}{e:Ex}{T:List Tb}{I:Int}{P Q:Nat->Prop}{r:List (List aH)}
theorem VL{row:Option Nat}(h:w.cell? ⟨n,m,none⟩=some v)(a:w.grownBy W row)(b:¬some n=row):W.cell? ⟨n,m,none⟩=some v:=by rw[World.cell?_of_block (w:=w) (w':=W) (a.block n (ck _ _ h) b)];exact h
theorem dL.grown{row:Option Nat}(h:dL w n m p g)(a:w.grownBy W row)(b:¬some n=row):dL W n m p g:=
 ⟨VL h.c0 a b,VL h.c1 a b,VL h.c2 a b,VL h.c3 a b,VL h.c4 a b,VL h.c5 a b,VL h.c6 a b,VL h.c7 a b,VL h.c8 a b,VL h.c9 a b,VL h.c10 a b⟩
theorem ge.grown{x:Nv}{row:Option Nat}(h:ge w n m x)(a:w.grownBy W row)(b:¬some n=row):ge W n m x:=
 ⟨h.e.grown a b,⟨VL h.t.c0 a b,VL h.t.c1 a b,VL h.t.c2 a b⟩,VL h.k a b,VL h.a a b⟩
theorem jx.grown{f:List Nv}{row:Option Nat}(h:jx w a f)(i:w.grownBy W row)(m:∀b c,a=some ⟨b,c,none⟩->¬some b=row)(l:∀d∈f,∀b c,d.k.1=some ⟨b,c,none⟩->¬some b=row):jx W a f:=by
 rcases h with h|⟨b,g,h⟩;.exact .inl h
 .exact .inr ⟨b,g,λj d e=>⟨(h j d e).1.grown i (m b 0 g),(h j d e).2.grown i λb c k _=>l d (VQ e) b c k⟩⟩
theorem e4(b:World)(a e:Nat)(f:Value):b.grownBy (b.setCell ⟨a,e,none⟩ f) (some a):=⟨rfl,rfl,rfl,by simp[World.setCell],λi g d=>Below.heap_setCell _ _ _ _ (λc=>d (by rw[c]))⟩
structure ii(w:World)(b:Nat)(x:Nv):Prop where
 s:ge w b 0 x
 f:∀o,w.frozen? ⟨b,o,none⟩=false
theorem ii.aa{x:Nv}(h:ii w n x)(a:Bw w W):ii W n x:=⟨h.s.aa a,λb=>by rw[(cO a).2 n b (ck _ _ h.s.e.c0)];exact h.f b⟩
theorem ii.grown{x:Nv}{row:Option Nat}(h:ii w n x)(a:w.grownBy W row)(b:¬some n=row):ii W n x:=⟨h.s.grown a b,λc=>by
 rw[World.frozen?_of_block (w:=w) (w':=W) (a.block n (ck _ _ h.s.e.c0) b)];exact h.f c⟩
theorem ii.kinds{x:Nv}(h:ii w n x)(a:Ls):ii (w.setCell ⟨n,14,none⟩ (.slice a.1 a.2.2.length a.2.1)) n { x with k:=a }:=by
 obtain⟨⟨⟨d,e,g,c3,i,j,k,l,m,o,f⟩,⟨p,q,r⟩,c,s⟩,t⟩:=h;simp only[bI,Nat.reduceAdd] at d e g c3 i j k l m o f p q r c s;have u:∀b,b≠14->(w.setCell ⟨n,14,none⟩ (.slice a.1 a.2.2.length a.2.1)).cell? ⟨n,b,none⟩=w.cell? ⟨n,b,none⟩:=λb v=>bo _ _ _ _ _ _ (by simp[v]);refine⟨⟨⟨?_,?_,?_,?_,?_,?_,?_,?_,?_,?_,?_⟩,⟨?_,?_,?_⟩,?_,?_⟩,λb=>by rw[bN];exact t b⟩
 all_goals first
  | (try simp only [bI, Nat.reduceAdd]
     rw [u _ (by decide)]
     assumption)
  | exact b5 c
theorem s2(a:List Int)(e:Option Addr)(f d:Nat)(c:Int)(j:a.length<=1000)(b:World)(k:b.cell? ⟨d,0,none⟩=some (.slice e a.length f)):Calls prog 68 #[.int .i64 c,.pointer (some ⟨d,0,none⟩)] b λg i=>g=.returned (.bool (decide ((a.length:Int)<=c)))/\Bw b i:=by
 by_cases h:(a.length:Int)<=c;.rw[decide_eq_true h];go_enter func68,ntmps68;go_wp2;go_ret;exact⟨rfl,VS⟩
 .rw[decide_eq_false h];go_enter func68,ntmps68;go_wp2;go_ret;exact⟨rfl,VS⟩
theorem fp(c e:List Int)(i:Option Addr)(j f:Nat)(p:c.length<=140737488355328)(m:e.length<=1000)(g:Option Addr)(b:Nat)(a:World)(o:bP a g c)(q:a.cell? ⟨f,0,none⟩=some (.slice i e.length j)):Calls prog 66 #[.slice g c.length b,.func (.func 68) #[] #[.pointer (some ⟨f,0,none⟩)]] a λs t=>s=.returned (.bool (c.any λb=>decide ((e.length:Int)<=b)))/\Bw a t:=by have h:=o1 (c.map λu=>.int .i64 u) (c.map λb=>decide ((e.length:Int)<=b)) (by simp) g b (.func (.func 68) #[] #[.pointer (some ⟨f,0,none⟩)]) a (by simpa using p) (DC o) ⟨68,_,rfl,λargs a=>by kernel_rfl,λx y w l k d n=>by rw[bL] at k d;obtain⟨v,r,rfl⟩:=Option.map_eq_some_iff.1 k;rw[r] at d;injection d with d;subst d;exact s2 e i j f v m l (ae q n)⟩;rw[bQ,List.any_map] at h;exact h
def cG(b:Pl)(d:Tb)(a:List Int)(ins:List (List Int)):Int:=if (cq b).any (λc=>decide ((a.length:Int)<=c)) then 1 else if 32<(VO b d a).length then 1 else if cT b a ins then 0 else 4
def Ez(d:Nat)(x:Nv)(a:List Int)(f:Int)(g:World)(i:Ending)(b:World):Prop:=i=.returned (.int .i64 f)/\g.grownBy b (some d)/\(f=0->∃c e,ii b d { x with k:=(c,e,a) }/\cm b g.heap.size (.slice c a.length e) a)
theorem yi{c:List Nv}(b:hm p)(n:c.length=p.args.length)(l:∀f∈c,i5 f.k.2.2):(cD p.op (bT c)).length<=64:=by
 have e:∀j∈bT c,i5 j:=by intro j i;unfold bT at i;obtain⟨f,m,rfl⟩:=b6 i;exact l f m
 have o:(bT c).length=p.args.length:=by unfold bT;rw[bQ,n]
 unfold cD;split;.simp
 .rename_i d;split;(.rename_i g;simp only[Bool.or_eq_true,beq_iff_eq] at g;(have k:p.args.length=2:=by(rcases g with a|a;. exact(h3 a b).1);. exact(Vp a b).1);rw[bG];have:=(dN e (by omega)).hi;have:=(pU e (by omega)).hi;omega);.simp only[Bool.or_eq_true,beq_iff_eq,not_or] at d;(have k:1<=p.args.length:=by rcases fN b with a|a|a|a|a|a|a|a|a|a|a|a;(.exact absurd a d.1);(.have:=(jc a b).1;omega);(.have:=(jU a b).1;omega);(.have:=(h3 a b).1;omega);(.have:=(Vp a b).1;omega);(.have:=(Vq a b).1;omega);(.have:=jT a b;omega);(.have:=ru a b;omega);(.have:=jS a b;omega);(.have:=(gd a b).1;omega);(.have:=iy a b;omega);.exact absurd a d.2);have:=(dN e (by omega)).hi;omega
theorem tZ(a:p.fin)(m:p.ex.length<=32):(cq p).length<=4000000:=by
 obtain⟨⟨b,c,d,e,f,g,i,k,l,j⟩,n,_⟩:=Pl.an a;unfold cq;split;.simp;omega
 split;.simp;omega
 split;.simp;omega
 .have:=uQ p.ex;omega
theorem yA(k:Nat)(x:Nv)(E:List Nv)(Wj:x.q.fin)(Wq:hm x.q)(WS:x.q.ex.length<=32)(WT:x.nl=x.q.args.length)(WM:E.length=x.q.args.length)(Wy:∀D∈E,i5 D.k.2.2)(Wd n:World)(Wp:Bw Wd n)(WR:Wd.heap.size<=k)(Wk:ii n k x)(Wz:iO Wd x.q x.m)(WQ:Vs Wd x.tm.aC x.t.cols)(W2:x.t.cols.length<=1048576)(WN:jx n x.na E)(WV:∀a o,x.na=some ⟨a,o,none⟩->k<a)(WW:∀D∈E,∀a o,D.k.1=some ⟨a,o,none⟩->k<a):Calls prog 39 #[.pointer (some ⟨k,0,none⟩)] n (Ez k x (VO x.q x.t (cD x.q.op (bT E))) (cG x.q x.t (cD x.q.op (bT E)) (bT E)) n):=by
 have WZ:k<n.heap.size:=ck _ _ Wk.s.e.c0;have WK:=yi Wq WM Wy;have Wn:=H (yj k x E Wq WT WM Wy n Wk.s WN);have W5:=(Pl.an Wj).1.2.2.2.2.2.1;have W1:=tZ Wj WS;obtain⟨f,WU⟩:=bn (cD x.q.op (bT E));rw[<-WU] at Wn WK ⊢;obtain⟨g,Wx⟩:=bn (VO x.q x.t f);obtain⟨Wi,WH⟩:=bn (cG x.q x.t f (bT E));obtain⟨V8,WG⟩:=bn (cq x.q);obtain⟨WD,WI⟩:=bn (cT x.q f (bT E));have Wl:=H (λ(I:World) (V9:Bw n I)=>r5 k x.q x.m Wj WS I (Wk.s.e.aa V9) (Wz.aa (ac Wp V9)));have Wh:=H (λ(WL:∀W∈cq x.q,W<(f.length:Int)) (d:Option Addr) (e:Nat) (I:World) (V9:Bw n I) (WF:cm I n.heap.size (.slice d f.length e) f)=>nO k x Wj Wq f WK d e n.heap.size I (Wk.s.aa V9) (Wz.aa (ac Wp V9)) (WQ.aa (ac Wp V9)) W2 WF V9.size (λ_=>WL));have V0:=H (λ(WL:∀W∈cq x.q,W<(f.length:Int)) (WA:Ls) (d:Option Addr) (e:Nat) (I:World) (WX:Bw Wd I) (W3:ge I k 0 { x with k:=WA }) (W4:jx I x.na E) (WF:bP I d f)=>wz k { x with k:=WA } E Wj Wq (by show x.nl=_;rw[WT,WM]) (by omega) (λD X=>by have:=(Wy D X).hi;omega) f WK d e I W3 (Wz.aa WX) W4 WF (λ_=>WL));simp only at V0;rw[<-WG] at Wl Wh V0 W1;rw[<-Wx] at Wh;rw[<-WI] at V0;have Wm:Hid (Wi=if V8.any (λW=>decide ((f.length:Int)<=W)) then 1 else if 32<g.length then 1 else if WD then 0 else 4):=by show _=_;rw[WH,WG,Wx,WI];rfl
 rw[<-WH,<-Wx];have Wv:=H Wk;have Ww:=H WN;have Wt:=H WV;have Wu:=H WW;have Y:=H Wp;have Wr:=H WR;have F:=H WZ;clear Wk WN WV WW Wp WR Wz WQ Wj Wq Wy WU Wx WH WG WI;cases Wb:V8.any (λW=>decide ((f.length:Int)<=W))
 case true=>
  obtain rfl:Wi=1:=by rw[U Wm,Wb];rfl
  go_enter func39,ntmps39
  go_wp2_with (first
   | (go_at_call 70;refine(U V0 (U Z) (j,l,g) d e _ ((U Y).trans (U VW)) (U G).s (U V3) (U V1)).mono ?_;rintro t WO ⟨rfl,Wa⟩)
   | (go_at_call 69;refine(U Wh (U Z) d e Wf (U u) (U M)).mono ?_;rintro t V ⟨j,l,rfl,w,P,B⟩;have T:=bB B (U u).size (λa s=>(U L a s).1);have p:=(U u).trans T;have q:=(U Wv).aa p;have G:=H (q.kinds (j,l,g));have O:=VL (U VZ) B (λb=>by have:=(U L _ b.symm).2;omega);have i:=e4 V k 14 (.slice j g.length l);have WC:=VL O i (λb=>by injection b with b;have:=U F;have:=(U v).size;have WJ:=ck _ _ O;(have C:=(U VX);omega));have V1:=H (P.grown i (λa o b _ c=>by injection c with c;subst c;(have C:=Vu (U M) b;have:=U F;omega)));have Wg:=H (bO (bU (some k) p) i);have Ws:Hid (cm (V.setCell ⟨k,14,none⟩ (.slice j g.length l)) n.heap.size (.slice j g.length l) g):=(World.ownsRow.kept w i (by cases C:(Value.slice j g.length l).ownBlock with|none=>exact .inl rfl|some a=>exact .inr (by have:=(World.ownsRow.lt w a C).1;have:=U F;simp;omega)));have V3:=H (((U Ww).aa p).grown i (λa o b c=>by injection c with c;have:=U Wt a o b;omega) (λD X a o b c=>by injection c with c;have:=U Wu D X a o b;omega));have VW:=H (bB (bO (bU (some k) p) i) (U Y).size (λa s=>by injection s with s;have:=U Wr;omega));have WB:=q.f 14;have V5:=q.s.k;simp only[bI] at V5;have Wc:=(U G).s.k;simp only[bI] at Wc;clear w P B T q i)
   | (go_at_call 66;refine(U J).mono ?_;rintro t Wf ⟨rfl,S⟩;have r:=ac (U VY) S;have u:=H (ac (U v) r);have M:=H ((U V2).aa r);have V7:=ae (U K) r;have VZ:=H V7;clear S r)
   | (go_at_call 67;refine(U Wl _ (U v)).mono ?_;rintro t We ⟨V4,V6,rfl,Q,z⟩;have J:=H (fp V8 f d e m.heap.size (by omega) (by omega) V4 V6 We Q.ints (ae (U K) z));rw[Wb] at J;have VY:=H z;clear Q z)
   | (go_at_call 65;refine(U Wn).mono ?_;rintro t m ⟨d,e,rfl,y,R⟩;have A:=am (VT _ m) (.cells #[.slice d f.length e] 23);have v:=H (ac R A);have VX:Hid (n.heap.size<=m.heap.size):=R.size;have V2:=H (y.aa A);have N:(m.alloc (.cells #[.slice d f.length e] 23)).cell? ⟨m.heap.size,0,none⟩=some (.slice d f.length e):=(by simp[go_sem]);have K:=H N;have L:Hid (∀a,(Value.slice d f.length e).ownBlock=some a->n.heap.size<=a/\a<m.heap.size):=(World.ownsRow.lt y);clear y A N))
  go_ret;exact⟨rfl,bU _ (U u),λb=>by cases b⟩
 have Z:Hid (∀W∈V8,W<(f.length:Int)):=λW W0=>by have:=cL Wb W0;simp only[decide_eq_false_iff_not] at this;omega
 rw[Wb] at Wm;by_cases WE:32<g.length
 case pos=>
  obtain rfl:Wi=1:=by rw[U Wm,VU (by decide),ba WE]
  have WY:(32:Int)<(g.length:Int):=by omega
  go_enter func39,ntmps39
  go_wp2_with (first
   | (go_at_call 70;refine(U V0 (U Z) (j,l,g) d e _ ((U Y).trans (U VW)) (U G).s (U V3) (U V1)).mono ?_;rintro t WO ⟨rfl,Wa⟩)
   | (go_at_call 69;refine(U Wh (U Z) d e Wf (U u) (U M)).mono ?_;rintro t V ⟨j,l,rfl,w,P,B⟩;have T:=bB B (U u).size (λa s=>(U L a s).1);have p:=(U u).trans T;have q:=(U Wv).aa p;have G:=H (q.kinds (j,l,g));have O:=VL (U VZ) B (λb=>by have:=(U L _ b.symm).2;omega);have i:=e4 V k 14 (.slice j g.length l);have WC:=VL O i (λb=>by injection b with b;have:=U F;have:=(U v).size;have WJ:=ck _ _ O;(have C:=(U VX);omega));have V1:=H (P.grown i (λa o b _ c=>by injection c with c;subst c;(have C:=Vu (U M) b;have:=U F;omega)));have Wg:=H (bO (bU (some k) p) i);have Ws:Hid (cm (V.setCell ⟨k,14,none⟩ (.slice j g.length l)) n.heap.size (.slice j g.length l) g):=(World.ownsRow.kept w i (by cases C:(Value.slice j g.length l).ownBlock with|none=>exact .inl rfl|some a=>exact .inr (by have:=(World.ownsRow.lt w a C).1;have:=U F;simp;omega)));have V3:=H (((U Ww).aa p).grown i (λa o b c=>by injection c with c;have:=U Wt a o b;omega) (λD X a o b c=>by injection c with c;have:=U Wu D X a o b;omega));have VW:=H (bB (bO (bU (some k) p) i) (U Y).size (λa s=>by injection s with s;have:=U Wr;omega));have WB:=q.f 14;have V5:=q.s.k;simp only[bI] at V5;have Wc:=(U G).s.k;simp only[bI] at Wc;clear w P B T q i)
   | (go_at_call 66;refine(U J).mono ?_;rintro t Wf ⟨rfl,S⟩;have r:=ac (U VY) S;have u:=H (ac (U v) r);have M:=H ((U V2).aa r);have V7:=ae (U K) r;have VZ:=H V7;clear S r)
   | (go_at_call 67;refine(U Wl _ (U v)).mono ?_;rintro t We ⟨V4,V6,rfl,Q,z⟩;have J:=H (fp V8 f d e m.heap.size (by omega) (by omega) V4 V6 We Q.ints (ae (U K) z));rw[Wb] at J;have VY:=H z;clear Q z)
   | (go_at_call 65;refine(U Wn).mono ?_;rintro t m ⟨d,e,rfl,y,R⟩;have A:=am (VT _ m) (.cells #[.slice d f.length e] 23);have v:=H (ac R A);have VX:Hid (n.heap.size<=m.heap.size):=R.size;have V2:=H (y.aa A);have N:(m.alloc (.cells #[.slice d f.length e] 23)).cell? ⟨m.heap.size,0,none⟩=some (.slice d f.length e):=(by simp[go_sem]);have K:=H N;have L:Hid (∀a,(Value.slice d f.length e).ownBlock=some a->n.heap.size<=a/\a<m.heap.size):=(World.ownsRow.lt y);clear y A N))
  go_ret;exact⟨rfl,U Wg,λb=>by cases b⟩
 have WY:(g.length:Int)<=32:=by omega
 have WP:Hid (Wi=if WD then 0 else 4):=by show _=_;rw[U Wm,VU (by decide),VU WE]
 clear Wm WE;cases WD
 .obtain rfl:Wi=4:=U WP;go_enter func39,ntmps39
  go_wp2_with (first
   | (go_at_call 70;refine(U V0 (U Z) (j,l,g) d e _ ((U Y).trans (U VW)) (U G).s (U V3) (U V1)).mono ?_;rintro t WO ⟨rfl,Wa⟩)
   | (go_at_call 69;refine(U Wh (U Z) d e Wf (U u) (U M)).mono ?_;rintro t V ⟨j,l,rfl,w,P,B⟩;have T:=bB B (U u).size (λa s=>(U L a s).1);have p:=(U u).trans T;have q:=(U Wv).aa p;have G:=H (q.kinds (j,l,g));have O:=VL (U VZ) B (λb=>by have:=(U L _ b.symm).2;omega);have i:=e4 V k 14 (.slice j g.length l);have WC:=VL O i (λb=>by injection b with b;have:=U F;have:=(U v).size;have WJ:=ck _ _ O;(have C:=(U VX);omega));have V1:=H (P.grown i (λa o b _ c=>by injection c with c;subst c;(have C:=Vu (U M) b;have:=U F;omega)));have Wg:=H (bO (bU (some k) p) i);have Ws:Hid (cm (V.setCell ⟨k,14,none⟩ (.slice j g.length l)) n.heap.size (.slice j g.length l) g):=(World.ownsRow.kept w i (by cases C:(Value.slice j g.length l).ownBlock with|none=>exact .inl rfl|some a=>exact .inr (by have:=(World.ownsRow.lt w a C).1;have:=U F;simp;omega)));have V3:=H (((U Ww).aa p).grown i (λa o b c=>by injection c with c;have:=U Wt a o b;omega) (λD X a o b c=>by injection c with c;have:=U Wu D X a o b;omega));have VW:=H (bB (bO (bU (some k) p) i) (U Y).size (λa s=>by injection s with s;have:=U Wr;omega));have WB:=q.f 14;have V5:=q.s.k;simp only[bI] at V5;have Wc:=(U G).s.k;simp only[bI] at Wc;clear w P B T q i)
   | (go_at_call 66;refine(U J).mono ?_;rintro t Wf ⟨rfl,S⟩;have r:=ac (U VY) S;have u:=H (ac (U v) r);have M:=H ((U V2).aa r);have V7:=ae (U K) r;have VZ:=H V7;clear S r)
   | (go_at_call 67;refine(U Wl _ (U v)).mono ?_;rintro t We ⟨V4,V6,rfl,Q,z⟩;have J:=H (fp V8 f d e m.heap.size (by omega) (by omega) V4 V6 We Q.ints (ae (U K) z));rw[Wb] at J;have VY:=H z;clear Q z)
   | (go_at_call 65;refine(U Wn).mono ?_;rintro t m ⟨d,e,rfl,y,R⟩;have A:=am (VT _ m) (.cells #[.slice d f.length e] 23);have v:=H (ac R A);have VX:Hid (n.heap.size<=m.heap.size):=R.size;have V2:=H (y.aa A);have N:(m.alloc (.cells #[.slice d f.length e] 23)).cell? ⟨m.heap.size,0,none⟩=some (.slice d f.length e):=(by simp[go_sem]);have K:=H N;have L:Hid (∀a,(Value.slice d f.length e).ownBlock=some a->n.heap.size<=a/\a<m.heap.size):=(World.ownsRow.lt y);clear y A N))
  go_ret;exact⟨rfl,bO (U Wg) (bU _ Wa),λb=>by cases b⟩
 .obtain rfl:Wi=0:=U WP;go_enter func39,ntmps39
  go_wp2_with (first
   | (go_at_call 70;refine(U V0 (U Z) (j,l,g) d e _ ((U Y).trans (U VW)) (U G).s (U V3) (U V1)).mono ?_;rintro t WO ⟨rfl,Wa⟩)
   | (go_at_call 69;refine(U Wh (U Z) d e Wf (U u) (U M)).mono ?_;rintro t V ⟨j,l,rfl,w,P,B⟩;have T:=bB B (U u).size (λa s=>(U L a s).1);have p:=(U u).trans T;have q:=(U Wv).aa p;have G:=H (q.kinds (j,l,g));have O:=VL (U VZ) B (λb=>by have:=(U L _ b.symm).2;omega);have i:=e4 V k 14 (.slice j g.length l);have WC:=VL O i (λb=>by injection b with b;have:=U F;have:=(U v).size;have WJ:=ck _ _ O;(have C:=(U VX);omega));have V1:=H (P.grown i (λa o b _ c=>by injection c with c;subst c;(have C:=Vu (U M) b;have:=U F;omega)));have Wg:=H (bO (bU (some k) p) i);have Ws:Hid (cm (V.setCell ⟨k,14,none⟩ (.slice j g.length l)) n.heap.size (.slice j g.length l) g):=(World.ownsRow.kept w i (by cases C:(Value.slice j g.length l).ownBlock with|none=>exact .inl rfl|some a=>exact .inr (by have:=(World.ownsRow.lt w a C).1;have:=U F;simp;omega)));have V3:=H (((U Ww).aa p).grown i (λa o b c=>by injection c with c;have:=U Wt a o b;omega) (λD X a o b c=>by injection c with c;have:=U Wu D X a o b;omega));have VW:=H (bB (bO (bU (some k) p) i) (U Y).size (λa s=>by injection s with s;have:=U Wr;omega));have WB:=q.f 14;have V5:=q.s.k;simp only[bI] at V5;have Wc:=(U G).s.k;simp only[bI] at Wc;clear w P B T q i)
   | (go_at_call 66;refine(U J).mono ?_;rintro t Wf ⟨rfl,S⟩;have r:=ac (U VY) S;have u:=H (ac (U v) r);have M:=H ((U V2).aa r);have V7:=ae (U K) r;have VZ:=H V7;clear S r)
   | (go_at_call 67;refine(U Wl _ (U v)).mono ?_;rintro t We ⟨V4,V6,rfl,Q,z⟩;have J:=H (fp V8 f d e m.heap.size (by omega) (by omega) V4 V6 We Q.ints (ae (U K) z));rw[Wb] at J;have VY:=H z;clear Q z)
   | (go_at_call 65;refine(U Wn).mono ?_;rintro t m ⟨d,e,rfl,y,R⟩;have A:=am (VT _ m) (.cells #[.slice d f.length e] 23);have v:=H (ac R A);have VX:Hid (n.heap.size<=m.heap.size):=R.size;have V2:=H (y.aa A);have N:(m.alloc (.cells #[.slice d f.length e] 23)).cell? ⟨m.heap.size,0,none⟩=some (.slice d f.length e):=(by simp[go_sem]);have K:=H N;have L:Hid (∀a,(Value.slice d f.length e).ownBlock=some a->n.heap.size<=a/\a<m.heap.size):=(World.ownsRow.lt y);clear y A N))
  go_ret;exact⟨rfl,bO (U Wg) (bU _ Wa),λ_=>⟨j,l,(U G).aa Wa,(U Ws).aa Wa⟩⟩
theorem sw(g n:Nat):(⟨g,0,none⟩:Addr).add n=⟨g,n,none⟩:=by by_cases h:n=0<;>simp[Addr.add,h]
def bS:Nv:=⟨.mk 0 ⟨#[]⟩ [] [] [] [] 0 0 0 0 [],⟨none,0,none,0,none,0,none,0,none,0⟩,⟨⟨#[]⟩,[],[]⟩,⟨none,0,none,0⟩,(none,0,[]),none,0,0⟩
theorem lM:bS.v=.agg #[.int .i64 0,.string ⟨#[]⟩,.slice none 0 0,.slice none 0 0,.slice none 0 0,.slice none 0 0,.int .i64 0,.int .i64 0,.int .i64 0,.int .i64 0,.slice none 0 0,.string ⟨#[]⟩,.slice none 0 0,.slice none 0 0,.slice none 0 0,.slice none 0 0]:=rfl
theorem uK:(Tryz.prog.info? 66).map (λi=>(i.zero,i.size,i.bytes))=some (some bS.v,16,288):=by kernel_rfl
theorem iG(x:Nv):x.cs.length=16:=rfl
theorem zm(x:Nv):∀u∈x.cs,u.oneCell'=true:=by
 intro u a
 simp only[Nv.cs,List.mem_cons,List.not_mem_nil,or_false] at a
 rcases a with rfl|rfl|rfl|rfl|rfl|rfl|rfl|rfl|rfl|rfl|rfl|rfl|rfl|rfl|rfl|rfl<;>rfl
theorem ii.here{w:World}{b:Nat}{x:Nv}(h:ii w b x):∀j,j<16->(w.cell? ⟨b,j,none⟩).isSome=true:=by
 obtain⟨⟨⟨c0,c1,c2,c3,c4,c5,c6,c7,c8,c9,c10⟩,⟨a,c,d⟩,e,ha⟩,hf⟩:=h
 simp only[bI,Nat.reduceAdd] at c0 c1 c2 c3 c4 c5 c6 c7 c8 c9 c10 a c d e ha
 intro j f
 match j,f with
 | 0,_=>rw[c0];rfl
 | 1,_=>rw[c1];rfl
 | 2,_=>rw[c2];rfl
 | 3,_=>rw[c3];rfl
 | 4,_=>rw[c4];rfl
 | 5,_=>rw[c5];rfl
 | 6,_=>rw[c6];rfl
 | 7,_=>rw[c7];rfl
 | 8,_=>rw[c8];rfl
 | 9,_=>rw[c9];rfl
 | 10,_=>rw[c10];rfl
 | 11,_=>rw[a];rfl
 | 12,_=>rw[c];rfl
 | 13,_=>rw[d];rfl
 | 14,_=>rw[e];rfl
 | 15,_=>rw[ha];rfl
 | j+16,h=>omega
theorem xE{w:World}{b off:Nat}{x:Nv}(h:∀j v,x.cs[j]?=some v->w.cell? ⟨b,off+j,none⟩=some v):ge w b off x:=
 ⟨⟨h 0 _ rfl,h 1 _ rfl,h 2 _ rfl,h 3 _ rfl,h 4 _ rfl,h 5 _ rfl,h 6 _ rfl,h 7 _ rfl,h 8 _ rfl,h 9 _ rfl,h 10 _ rfl⟩,⟨h 11 _ rfl,by rw[Nat.add_assoc];exact h 12 _ rfl,by rw[Nat.add_assoc];exact h 13 _ rfl⟩,h 14 _ rfl,h 15 _ rfl⟩
theorem ii.store{w:World}{b:Nat}{y:Nv}(h:ii w b y)(x:Nv):ii (w.setCells b 0 x.cs) b x:=by
 refine⟨xE λj v c=>?_,λo=>by rw[World.frozen?_setCells];exact h.f o⟩
 have a:=(bD c)
 obtain⟨hl,c⟩:=a
 rw[World.cell?_setCells_in b x.cs 0 w (λj a=>by rw[bI];exact h.here j (by rw[iG] at a;exact a)) j hl,c]
theorem g7{w:World}{b off:Nat}(x:Nv)(h1:∀j,j<16->(w.cell? ⟨b,off+j,none⟩).isSome=true)(h2:∀j,j<16->w.frozen? ⟨b,off+j,none⟩=false):(Instr.storeAt 66 (.pointer (some ⟨b,off,none⟩)) x.v).run prog w=.ok () (w.setCells b off x.cs):=by
 obtain⟨i,hi,d,hs,_⟩:=info_parts uK
 have hst:=run_storeCells_cells (P:=prog) b off x.cs 0 w (λj a=>by rw[Nat.add_zero];exact h1 j (by rw[iG] at a;exact a)) (λj a=>by rw[Nat.add_zero];exact h2 j (by rw[iG] at a;exact a)) (zm x)
 rw[Nat.add_zero] at hst
 have c:x.v.cells.toList=x.cs:=rfl
 have hcs:x.v.cells.size=16:=rfl
 simp[Instr.storeAt,storeVar,Instr.sureAddr,sizeOf,typeInfo,hi,hs,hcs,c,hst]
theorem ii.aF{w:World}{b:Nat}{y:Nv}(h:ii w b y)(x:Nv):(Instr.storeAt 66 (.pointer (some ⟨b,0,none⟩)) x.v).run prog w=.ok () (w.setCells b 0 x.cs):=
 g7 x (λj a=>by rw[bI];exact h.here j a) (λj _=>h.f _)
theorem VJ(w:World)(b o:Nat)(vs:List Value):w.grownBy (w.setCells b o vs) (some b):=by
 induction vs generalizing w o with
 | nil=>exact⟨rfl,rfl,rfl,bi,λ_ _ _=>rfl⟩
 | cons v vs a=>rw[World.setCells];exact bO (e4 w b o v) (a _ _)
theorem ii.new(w:World)(x:Nv):ii (w.alloc x.box) w.heap.size x:=
 ⟨⟨⟨by simp[go_sem],by simp[go_sem],by simp[go_sem],by simp[go_sem],by simp[go_sem],by simp[go_sem],by simp[go_sem],by simp[go_sem],by simp[go_sem],by simp[go_sem],by simp[go_sem]⟩,⟨by simp[go_sem],by simp[go_sem],by simp[go_sem]⟩,by simp[go_sem],by simp[go_sem]⟩,λo=>by simp[go_sem]⟩
theorem ii.args{w:World}{b:Nat}{x:Nv}(h:ii w b x)(na:Option Addr)(nl nc:Nat):ii (w.setCell ⟨b,15,none⟩ (.slice na nl nc)) b { x with na:=na,nl:=nl,nc:=nc }:=by
 obtain⟨⟨⟨c0,c1,c2,c3,c4,c5,c6,c7,c8,c9,c10⟩,⟨a,c,d⟩,e,ha⟩,hf⟩:=h
 simp only[bI,Nat.reduceAdd] at c0 c1 c2 c3 c4 c5 c6 c7 c8 c9 c10 a c d e ha
 have hn:∀o,o≠15->(w.setCell ⟨b,15,none⟩ (.slice na nl nc)).cell? ⟨b,o,none⟩=w.cell? ⟨b,o,none⟩:=λo f=>bo _ _ _ _ _ _ (by simp[f])
 refine⟨⟨⟨?_,?_,?_,?_,?_,?_,?_,?_,?_,?_,?_⟩,⟨?_,?_,?_⟩,?_,?_⟩,λo=>by rw[bN];exact hf o⟩
 all_goals first
  | (try simp only [bI, Nat.reduceAdd]
     rw [hn _ (by decide)]
     assumption)
  | exact b5 ha
def eN(w:World)(base:Nat)(v:Value)(ys:List Nv):Prop:=w.ownsRow base 66 16 v ys.length (ys.flatMap Nv.cs)
theorem y2(ys:List Nv):(ys.flatMap Nv.cs).length=ys.length*16:=by
 induction ys with
 | nil=>rfl
 | cons y ys a=>rw[eA,bG,a,iG,dY];omega
theorem jp:∀{ys:List Nv} {i:Nat} {y:Nv} {j:Nat} {v:Value},ys[i]?=some y->y.cs[j]?=some v->(ys.flatMap Nv.cs)[i*16+j]?=some v
 | [],i,y,j,v,h,_=>by simp at h
 | z::ys,0,y,j,v,h,a=>by
  simp at h
  subst h
  have b:=(bD a).1
  rw[eA,Nat.zero_mul,bI,eK b]
  exact a
 | z::ys,i+1,y,j,v,h,a=>by
  rw[eA,ez (by rw[iG];omega),iG,show (i+1)*16+j-16=i*16+j by omega]
  exact jp (by simpa using h) a
theorem eN.sxt{w:World}{base g n cap i:Nat}{ys:List Nv}{y:Nv}(h:eN w base (.slice (some ⟨g,0,none⟩) n cap) ys)(c:ys[i]?=some y):ge w g (i*16) y:=
 xE λj v b=>by
  have a:=World.ownsRow.cells h rfl (i*16+j) v (jp c b)
  rw[sw] at a
  exact a
theorem eN.slice{w:World}{base:Nat}{v:Value}{L:List Nv}(h:eN w base v L):∃a cap,v=.slice a L.length cap:=by
 rcases h.2 with ⟨rfl,b⟩|⟨g,cap,cur,rfl,_⟩
 .have:L=[]:=dF b
  subst this
  exact⟨none,0,rfl⟩
 .exact⟨_,cap,rfl⟩
theorem eN.blk{w:World}{base n cap:Nat}{a:Option Addr}{L:List Nv}(h:eN w base (.slice a n cap) L)(hl:1<=L.length):∃g,a=some ⟨g,0,none⟩:=by
 rcases h.2 with ⟨e,b⟩|⟨g,cap',cur,e,_⟩
 .omega
 .injection e with e1
  exact⟨g,e1⟩
def xR(xs:List Value):Nat->List Value->List Value
 | _,[]=>xs
 | o,v::r=>xR (xs.set o v) (o+1) r
theorem q8:∀(vs Z A:List Value),Z.length=vs.length->xR (A++Z) A.length vs=A++vs
 | [],Z,A,h=>by
  have:Z=[]:=dF (by simpa using h)
  subst this
  rfl
 | v::vs,[],A,h=>by simp at h
 | v::vs,z::Z,A,h=>by
  rw[xR,List.set_append_right _ _ bi,Nat.sub_self,List.set_cons_zero]
  have e:A++v::Z=(A++[v])++Z:=by simp
  rw[e,show A.length+1=(A++[v]).length by simp,q8 vs Z (A++[v]) (by simpa using h)]
  simp
theorem rk{base e size g n cap:Nat}:∀(vs:List Value) (o:Nat) (w:World) (xs:List Value),w.ownsRow base e size (.slice (some ⟨g,0,none⟩) n cap) n xs->(w.setCells g o vs).ownsRow base e size (.slice (some ⟨g,0,none⟩) n cap) n (xR xs o vs)
 | [],_,_,_,h=>h
 | v::vs,o,w,xs,h=>by
  rw[World.setCells,xR]
  exact rk vs (o+1) _ _ (World.ownsRow.stored h o v).1
theorem eN.put{w:World}{base g cap k:Nat}{ys:List Nv}{z:Nv}(h:eN w base (.slice (some ⟨g,0,none⟩) (k+1) cap) (ys++[z]))(a:ys.length=k)(y:Nv):eN (w.setCells g (k*16) y.cs) base (.slice (some ⟨g,0,none⟩) (k+1) cap) (ys++[y]):=by
 unfold eN at h ⊢
 have e1:(ys++[z]).length=k+1:=by rw[bG,a];rfl
 have c:(ys++[y]).length=k+1:=by rw[bG,a];rfl
 rw[e1] at h
 rw[c]
 have b:=rk y.cs (k*16) w _ h
 rw[List.flatMap_append,<-a,<-y2 ys,q8 y.cs _ _ (by simp[iG])] at b
 rw[List.flatMap_append]
 have d:List.flatMap Nv.cs [y]=y.cs:=by simp
 rw[d,<-a]
 rw[<-y2 ys]
 exact b
theorem vK{w:World}{base g cap k:Nat}{ys:List Nv}{z:Nv}(h:eN w base (.slice (some ⟨g,0,none⟩) (k+1) cap) (ys++[z]))(a:ys.length=k):(∀j,j<16->(w.cell? ⟨g,k*16+j,none⟩).isSome=true)/\∀j,j<16->w.frozen? ⟨g,k*16+j,none⟩=false:=by
 have hs:=h.sxt (i:=k) (y:=z) (by rw[<-a];simp)
 refine⟨λj c=>?_,λj c=>?_⟩
 .obtain⟨v,d⟩:∃v,z.cs[j]?=some v:=⟨_,VR (by rw[iG];exact c)⟩
  have b:=World.ownsRow.cells h rfl (k*16+j) v (jp (by rw[<-a];simp) d)
  rw[sw] at b
  rw[b];rfl
 .have e1:(ys++[z]).length=k+1:=by rw[bG,a];rfl
  unfold eN at h
  rw[e1] at h
  exact World.ownsRow.frozenAt h _
theorem pD{o:Oper}{a:Act}{w:World}{K:Act->World->Prop}{Q:Exit->Act->World->Prop}(s x:Operand)(k:o.op=.call { callee:=.builtin .append,args:=#[s,x],argTypes:=#[64,64] })
  (base:Nat) (v:Value) (L:List Nv) (z:Nv) (g c:Nat) (hs:a.eval s=v) (hown:eN w base v L) (l:a.eval x=.slice (some ⟨g,0,none⟩) 1 c) (f:∀j u,z.cs[j]?=some u->w.cell? ⟨g,j,none⟩=some u) (hl:L.length<=2000000) (hbase:base<=w.heap.size)
  (h:∀v' w',eN w' base v' (L++[z])->w.grownBy w' v.ownBlock->(v'.ownBlock=v.ownBlock∨v'.ownBlock=some w.heap.size)->K (a.put o.dst v') w'):o.wp prog a w K Q:=by
 obtain⟨m,hi4,z40,z41,z42⟩:=info_parts uK
 obtain⟨v',w',hr,h2,e,h4,h5⟩:=run_append_own_at (P:=prog) w base 64 o.type 66 m bS.v 16 288 underlying64 hi4 z40 z41 z42 rfl (by decide) v L.length (L.flatMap Nv.cs) hown ⟨g,0,none⟩ 1 c z.cs rfl (λj u i=>by
  have d:(⟨g,0,none⟩:Addr).add j=⟨g,j,none⟩:=by
   by_cases h:j=0<;>simp[Addr.add,h]
  rw[d]
  exact f j u i) (zm z) (by unfold maxLen;omega) (by omega) hbase
 unfold Oper.wp execOp
 simp only[k,resolve,invoke,builtin,Sem.run_bind,Sem.run_pure,Result.andThen_ok,List.map_toArray,dX,List.map_nil,hs,l,hr]
 refine h v' w' ?_ e h5
 unfold eN
 rw[bG,List.flatMap_append]
 have b:List.flatMap Nv.cs [z]=z.cs:=by simp
 rw[b]
 exact h2
theorem eW{P:Program}{o:Oper}{a:Act}{w w':World}{K:Act->World->Prop}{Q:Exit->Act->World->Prop}(t:TypeId)(p q:Operand)(hop:o.op=Op.store t p q)(ad v:Value)(b:a.eval p=ad)(c:a.eval q=v)(hrun:(Instr.storeAt t ad v).run P w=.ok () w')
  (hK:K (a.put o.dst (.tuple #[])) w'):o.wp P a w K Q:=by
 unfold Oper.wp
 simp only[execOp,hop,b,c,Sem.run_bind,hrun,Result.andThen]
 exact hK
theorem cV{P:Program}{ops:Array Oper}{rest:List Oper}{o:Oper}{a:Act}{w w':World}{Q:Exit->Act->World->Prop}(b:o.guard=none)(t:TypeId)(p q:Operand)(hop:o.op=Op.store t p q)(ad v:Value)(c:a.eval p=ad)(d:a.eval q=v)(hrun:(Instr.storeAt t ad v).run P w=.ok () w')
  (hK:wpList P ops Q rest (a.put o.dst (.tuple #[])) w'):wpList P ops Q (o::rest) a w:=by
 refine wpList_plain b λK hK'=>?_
 exact eW t p q hop ad v c d hrun (hK' _ _ hK)
def fi(c:List Tb)(a:Pl)(ins:List (List Int)):Int×List Int:=
 if a.op == 1 then (match c.find? (λb=>decide (b.name=a.au)) with
  | some b=>(cG a b (cD a.op ins) ins,VO a b (cD a.op ins))
  | none=>(8,[]))
 else (cG a bS.t (cD a.op ins) ins,VO a bS.t (cD a.op ins))
theorem xM(h:fD p=true):p.ex.length=if rT p.op then p.ex.length else 0:=by
 unfold fD at h;simp only[cc] at h;have a:=h.2;unfold k5 qz at a;simp only[cc,cF] at a;have b:=a.1.1.1.1.1.1.1.2;change p.ex.length=(if rT p.op then p.ex else []).length at b;cases c:rT p.op with
 | true=>rw[ba rfl]
 | false=>rw[c] at b;rw[VU (by simp)];simpa using b
theorem oB(h:fD p=true)(b:rT p.op=false):p.ex=[]:=by have a:=xM h;rw[b] at a;exact dF a
theorem DO(h:fD p=true):p.ex.length<=32:=by
 have b:=gF h;rcases fN b with a|a|a|a|a|a|a|a|a|a|a|a
 all_goals first
  | (have:=oB h (by rw[a];rfl);rw[this];simp;done)
  | (have:=(jc a b).2;omega)
  | (have:=(jU a b).2;omega)
  | (have:=(h3 a b).2;omega)
  | (have:=(Vp a b).2;omega)
def BU(b:List Int):Prop:=∀a∈b,a=1∨a=2
theorem Cx(h:BU C):C.any tj=false:=by rw[List.any_eq_false];intro b a;rcases h b a with rfl|rfl<;>decide
theorem jm(h:hg e=false):bJ e=true:=by unfold hg at h;simp only[Bool.or_eq_false_iff,Bool.not_eq_false'] at h;exact h.1
theorem AJ(f:bJ e=true)(d:Nat):(fI e).any (λa=>decide ((d:Int)<=a))=!gg e d:=by
 unfold fI gg;rw[f,ba rfl];have c:=(lN (dj e)).2.1;rw[Bool.eq_iff_iff,List.any_eq_true,Bool.not_eq_true',List.all_eq_false];constructor;.rintro⟨a,b,h⟩;exact⟨a,(c a).1 b,by simp only[cF] at h;simp;omega⟩
 .rintro⟨a,b,h⟩;exact⟨a,(c a).2 b,by simp at h;simp only[cF];omega⟩
theorem mU(c:BU C)(a:bJ e=true):(cY C e=1 ↔ (fI e).any (λb=>decide ((C.length:Int)<=b))=true):=by
 rw[AJ a];unfold cY;rw[a,Cx c];simp only[Bool.not_false,Bool.and_self,Bool.true_and];cases gg e (C.length:Int) with
 | true=>simp;split<;>simp
 | false=>simp
theorem iL{α:Type}(b c:List α)(a:α->Bool):(b++c).any a=(b.any a || c.any a):=List.any_append
theorem y1(a:List Ex)(c:Int->Bool):(a.flatMap fI).any c=a.any λb=>(fI b).any c:=by
 induction a with
 | nil=>rfl
 | cons b a d=>rw[eA,List.any_append,List.any_cons,d]
theorem jr(i:BU C)(g:bJ e=true):jf C e=if (fI e).any (λa=>decide ((C.length:Int)<=a)) then 1 else if (cY C e == 0 && kK C e != 2) then 0 else 4:=by
 have d:=mU i g;cases c:(fI e).any (λa=>decide ((C.length:Int)<=a)) with
 | true=>have b:=d.2 c;unfold jf;rw[b];simp
 | false=>(have b:¬cY C e=1:=λh=>by rw[d.1 h] at c;cases c);unfold jf;rcases tw C e with h|h|h;(.rw[h];by_cases f:kK C e=2;(.simp[f]);.simp[f]);(.exact absurd h b);.rw[h];simp
theorem mR(b:BU C)(c:BU K):BU (C++K):=λa d=>by
 rcases cM d with h|h
 .exact b a h
 .exact c a h
theorem Cp(Y:eI T=true)(x:fD p=true)(o:p.ex.any hg=false){ins:List (List Int)}(s:∀d∈ins,i5 d)(Z:ins.length=p.args.length):(fi T p ins).1=(bA T p ins).1/\((bA T p ins).1=0->(fi T p ins).2=(bA T p ins).2):=by
 have t:=gF x;have B:∀b∈p.ex,bJ b=true:=λb f=>jm (cL o f);rcases fN t with a|a|a|a|a|a|a|a|a|a|a|a
 .have w:=oB x (by rw[a];rfl)
  have S:cq p=[]:=by unfold cq;rw[a,w];rfl
  have e:bA T p ins=nI T p.au:=by unfold bA;rw[a];rfl
  rw[e]
  unfold fi nI
  rw[a]
  simp only[beq_self_eq_true,if_true]
  cases D:T.find? (λF=>decide (F.name=p.au)) with
  | none=>exact⟨rfl,λ_=>rfl⟩
  | some F=>
   have c:=i5.ofB (qJ Y (List.mem_of_find?_eq_some D))
   have M:∀E,VO p F E=F.cols.map Prod.snd:=λE=>by unfold VO;rw[a];rfl
   have W:∀E,cT p E ins=true:=λE=>by unfold cT;rw[a];rfl
   refine⟨?_,λ_=>M _⟩
   show cG p F _ ins=0
   unfold cG
   rw[S,M,W,VU (by simp),VU (by have:=c.hi;omega)]
   rfl
 .obtain⟨v,u⟩:=jc a t;obtain⟨b,f⟩:∃b,p.ex=[b]:=List.length_eq_one_iff.1 u;have c:=dN s (by omega);have C:=B b (by rw[f];exact List.mem_singleton.2 rfl);(have e:bA T p ins=(jf (bV ins) b,bV ins):=by unfold bA ke;rw[a,f];rfl);(have i:fi T p ins=(cG p bS.t (bV ins) ins,bV ins):=by unfold fi cD VO;rw[a];rfl);(have j:cq p=fI b:=by unfold cq;rw[a,f];simp);(have k:cT p (bV ins) ins=(cY (bV ins) b == 0 && kK (bV ins) b != 2):=by unfold cT;rw[a,f];rfl);(have l:VO p bS.t (bV ins)=bV ins:=by unfold VO;rw[a];rfl);rw[e,i];refine⟨?_,λ_=>rfl⟩;show cG p bS.t (bV ins) ins=jf (bV ins) b;rw[jr c.k C];unfold cG;rw[j,k,l,VU (show ¬32<(bV ins).length by have:=c.hi;omega)]
 .obtain⟨v,u,G⟩:=jU a t;have c:=dN s (by omega);(have e:bA T p ins=(mj (bV ins) p.ex,fx (bV ins) p.ex):=by unfold bA;rw[a];rfl);(have i:fi T p ins=(cG p bS.t (bV ins) ins,fx (bV ins) p.ex):=by unfold fi cD VO;rw[a];rfl);(have j:cq p=p.ex.flatMap fI:=by unfold cq;rw[a];rfl);(have k:cT p (bV ins) ins=!p.ex.any (λb=>decide (¬cY (bV ins) b=0)):=by unfold cT;rw[a];rfl);(have l:(VO p bS.t (bV ins)).length=p.ex.length:=by unfold VO;rw[a];show (fx _ _).length=_;unfold fx;simp);(have r:(p.ex.flatMap fI).any (λm=>decide (((bV ins).length:Int)<=m))=p.ex.any (λb=>decide (cY (bV ins) b=1)):=by rw[y1,Bool.eq_iff_iff,List.any_eq_true,List.any_eq_true];constructor;(.rintro⟨b,f,h⟩;exact⟨b,f,decide_eq_true ((mU c.k (B b f)).2 h)⟩);.rintro⟨b,f,h⟩;exact⟨b,f,(mU c.k (B b f)).1 (of_decide_eq_true h)⟩);rw[e,i];refine⟨?_,λ_=>rfl⟩;show cG p bS.t (bV ins) ins=mj (bV ins) p.ex;unfold cG mj;rw[j,r,k,l,VU (show ¬32<p.ex.length by omega)];cases p.ex.any (λb=>decide (¬cY (bV ins) b=0))<;>rfl
 .obtain⟨v,u⟩:=h3 a t
  obtain⟨b,f⟩:∃b,p.ex=[b]:=List.length_eq_one_iff.1 u
  have c:BU (bV ins++gU ins):=mR (dN s (by omega)).k (pU s (by omega)).k
  have C:=B b (by rw[f];exact List.mem_singleton.2 rfl)
  have e:bA T p ins=(je (bV ins++gU ins) p,bV ins++gU ins):=by unfold bA;rw[a];rfl
  have i:fi T p ins=(cG p bS.t (bV ins++gU ins) ins,bV ins++gU ins):=by unfold fi cD VO;rw[a];rfl
  have j:cq p=fI b:=by unfold cq;rw[a,f];simp
  have k:cT p (bV ins++gU ins) ins=(cY (bV ins++gU ins) b == 0 && kK (bV ins++gU ins) b != 2):=by unfold cT;rw[a,f];rfl
  have l:VO p bS.t (bV ins++gU ins)=bV ins++gU ins:=by unfold VO;rw[a];rfl
  have r:ke (bV ins++gU ins) p=jf (bV ins++gU ins) b:=by unfold ke;rw[f];rfl
  rw[e,i]
  refine⟨?_,λ_=>rfl⟩
  show cG p bS.t (bV ins++gU ins) ins=je (bV ins++gU ins) p
  unfold cG je
  rw[j,k,l,r,jr c C]
  generalize bV ins++gU ins=q at *
  cases (fI b).any (λm=>decide ((q.length:Int)<=m)) with
  | true=>simp
  | false=>
   by_cases n:32<q.length
   .cases (cY q b == 0 && kK q b != 2)<;>simp[n]
   .cases (cY q b == 0 && kK q b != 2)<;>simp[n]
 .obtain⟨v,u⟩:=Vp a t
  obtain⟨b,f⟩:∃b,p.ex=[b]:=List.length_eq_one_iff.1 u
  have c:BU (bV ins++gU ins):=mR (dN s (by omega)).k (pU s (by omega)).k
  have C:=B b (by rw[f];exact List.mem_singleton.2 rfl)
  have e:bA T p ins=(je (bV ins++gU ins) p,bV ins++gU ins):=by unfold bA;rw[a];rfl
  have i:fi T p ins=(cG p bS.t (bV ins++gU ins) ins,bV ins++gU ins):=by unfold fi cD VO;rw[a];rfl
  have j:cq p=fI b:=by unfold cq;rw[a,f];simp
  have k:cT p (bV ins++gU ins) ins=(cY (bV ins++gU ins) b == 0 && kK (bV ins++gU ins) b != 2):=by unfold cT;rw[a,f];rfl
  have l:VO p bS.t (bV ins++gU ins)=bV ins++gU ins:=by unfold VO;rw[a];rfl
  have r:ke (bV ins++gU ins) p=jf (bV ins++gU ins) b:=by unfold ke;rw[f];rfl
  rw[e,i]
  refine⟨?_,λ_=>rfl⟩
  show cG p bS.t (bV ins++gU ins) ins=je (bV ins++gU ins) p
  unfold cG je
  rw[j,k,l,r,jr c C]
  generalize bV ins++gU ins=q at *
  cases (fI b).any (λm=>decide ((q.length:Int)<=m)) with
  | true=>simp
  | false=>
   by_cases n:32<q.length
   .cases (cY q b == 0 && kK q b != 2)<;>simp[n]
   .cases (cY q b == 0 && kK q b != 2)<;>simp[n]
 .obtain⟨v,u,G,A⟩:=Vq a t
  have c:=dN s (by omega)
  have X:=c.lo
  have e:bA T p ins=(pY (bV ins) p.cols p.aggs,hS (bV ins) p.cols p.aggs):=by unfold bA;rw[a];rfl
  have i:fi T p ins=(cG p bS.t (bV ins) ins,hS (bV ins) p.cols p.aggs):=by unfold fi cD VO;rw[a];rfl
  have j:cq p=p.cols++p.aggs.map Prod.snd:=by unfold cq;rw[a];rfl
  have k:cT p (bV ins) ins=!p.aggs.any (gR (bV ins)):=by unfold cT;rw[a];rfl
  have l:(VO p bS.t (bV ins)).length=p.cols.length+p.aggs.length:=by unfold VO;rw[a];show (hS _ _ _).length=_;unfold hS;simp
  have r:(p.aggs.map Prod.snd).any (λm=>decide (((bV ins).length:Int)<=m))=p.aggs.any (hj (bV ins).length):=by
   rw[List.any_map,Bool.eq_iff_iff,List.any_eq_true,List.any_eq_true]
   constructor
   .rintro⟨g,o,h⟩
    refine⟨g,o,?_⟩
    simp only[Function.comp,cF] at h
    unfold hj
    have:¬g.1=1:=λb=>by have:=(A g o).2 b;omega
    have z:(g.1 != 1)=true:=by simpa using this
    rw[z,Bool.true_and]
    exact decide_eq_true h
   .rintro⟨g,o,h⟩
    unfold hj at h
    simp only[cc] at h
    exact⟨g,o,h.2⟩
  rw[e,i]
  refine⟨?_,λ_=>rfl⟩
  show cG p bS.t (bV ins) ins=pY (bV ins) p.cols p.aggs
  unfold cG pY
  rw[j,iL,r,k,l]
  cases K:p.cols.any (λm=>decide (((bV ins).length:Int)<=m)) with
  | true=>rfl
  | false=>
   cases Q:p.aggs.any (hj (bV ins).length) with
   | true=>
    by_cases n:32<p.cols.length+p.aggs.length
    .simp[n]
    .simp[n]
   | false=>
    by_cases n:32<p.cols.length+p.aggs.length
    .simp[n]
    .have O:p.aggs.any (gR (bV ins))=p.aggs.any (su (bV ins)):=by
      rw[Bool.eq_iff_iff,List.any_eq_true,List.any_eq_true]
      have R:∀g∈p.aggs,g.1=3->h6 (bV ins) g.2=1∨h6 (bV ins) g.2=2:=by
       intro g o h
       have:=cL Q o
       unfold hj at this
       have z:(g.1 != 1)=true:=by rw[h];rfl
       rw[z,Bool.true_and,decide_eq_false_iff_not] at this
       exact c.at (A g o).1 (by omega)
      constructor
      .rintro⟨g,o,h⟩
       refine⟨g,o,?_⟩
       unfold gR at h
       simp only[cc,beq_iff_eq] at h
       unfold su
       have I:h6 (bV ins) g.2=2:=h.2
       rw[I,h.1];rfl
      .rintro⟨g,o,h⟩
       refine⟨g,o,?_⟩
       unfold su at h
       simp only[cc,beq_iff_eq,bne_iff_ne] at h
       have I:h6 (bV ins) g.2=2:=by
        rcases R g o h.1 with J|J
        .exact absurd J h.2
        .exact J
       unfold gR
       change (g.1 == 3 && h6 (bV ins) g.2 == 2)=true
       rw[I,h.1];rfl
     rw[O]
     simp only[Bool.false_or,n,decide_false,Bool.or_self,if_false]
     cases p.aggs.any (su (bV ins))<;>rfl
 .have v:=jT a t;have c:=dN s (by omega);have w:=oB x (by rw[a];rfl);(have e:bA T p ins=(0,bV ins):=by unfold bA;rw[a];rfl);(have i:fi T p ins=(cG p bS.t (bV ins) ins,bV ins):=by unfold fi cD VO;rw[a];rfl);(have j:cq p=[]:=by unfold cq;rw[a,w];rfl);(have k:cT p (bV ins) ins=true:=by unfold cT;rw[a];rfl);(have l:VO p bS.t (bV ins)=bV ins:=by unfold VO;rw[a];rfl);rw[e,i];refine⟨?_,λ_=>rfl⟩;show cG p bS.t (bV ins) ins=0;unfold cG;rw[j,k,l,VU (by simp),VU (show ¬32<(bV ins).length by have:=c.hi;omega)];rfl
 .have v:1<=p.args.length:=by have:=ru a t;omega
  have c:=dN s (by omega);have w:=oB x (by rw[a];rfl);have e:bA T p ins=(if (ins.drop 1).any (λd=>!decide (d=bV ins)) then 4 else 0,bV ins):=by unfold bA;rw[a];rfl
  have i:fi T p ins=(cG p bS.t (bV ins) ins,bV ins):=by unfold fi cD VO;rw[a];rfl
  have j:cq p=[]:=by unfold cq;rw[a,w];rfl
  have k:cT p (bV ins) ins=!ins.any (λd=>!decide (d=bV ins)):=by unfold cT;rw[a];rfl
  have l:VO p bS.t (bV ins)=bV ins:=by unfold VO;rw[a];rfl
  have r:ins.any (λd=>!decide (d=bV ins))=(ins.drop 1).any (λd=>!decide (d=bV ins)):=by
   cases ins with
   | nil=>rfl
   | cons y L=>
    have:bV (y::L)=y:=rfl
    rw[this,List.any_cons,List.drop_succ_cons,List.drop_zero]
    simp
  rw[e,i];refine⟨?_,λ_=>rfl⟩;show cG p bS.t (bV ins) ins=if (ins.drop 1).any (λd=>!decide (d=bV ins)) then 4 else 0;unfold cG;rw[j,k,l,r,VU (by simp),VU (show ¬32<(bV ins).length by have:=c.hi;omega)];cases (ins.drop 1).any (λd=>!decide (d=bV ins))<;>rfl
 .have v:=jS a t;have c:=dN s (by omega);(have e:bA T p ins=(if (p.keys.map Prod.fst).any (λm=>decide (((bV ins).length:Int)<=m)) then 1 else 0,bV ins):=by unfold bA;rw[a];rfl);(have i:fi T p ins=(cG p bS.t (bV ins) ins,bV ins):=by unfold fi cD VO;rw[a];rfl);(have j:cq p=p.keys.map Prod.fst:=by unfold cq;rw[a];rfl);(have k:cT p (bV ins) ins=true:=by unfold cT;rw[a];rfl);(have l:VO p bS.t (bV ins)=bV ins:=by unfold VO;rw[a];rfl);rw[e,i];refine⟨?_,λ_=>rfl⟩;show cG p bS.t (bV ins) ins=if (p.keys.map Prod.fst).any (λm=>decide (((bV ins).length:Int)<=m)) then 1 else 0;unfold cG;rw[j,k,l,VU (show ¬32<(bV ins).length by have:=c.hi;omega),ba rfl]
 .obtain⟨v,u,G⟩:=gd a t
  have c:=dN s (by omega)
  have X:=c.lo
  have e:bA T p ins=(pn (bV ins) p.cols (p.keys.map Prod.fst) p.fn p.aj,hM (bV ins) p.fn p.aj):=by unfold bA;rw[a];rfl
  have i:fi T p ins=(cG p bS.t (bV ins) ins,hM (bV ins) p.fn p.aj):=by unfold fi cD VO;rw[a];rfl
  have j:cq p=(p.cols++p.keys.map Prod.fst)++[p.aj]:=by unfold cq;rw[a];rfl
  have k:cT p (bV ins) ins=(p.fn != 4 || h6 (bV ins) p.aj != 2):=by unfold cT;rw[a];rfl
  have l:(VO p bS.t (bV ins)).length=(bV ins).length+1:=by unfold VO;rw[a];show (hM _ _ _).length=_;unfold hM;simp
  have r:[p.aj].any (λm=>decide (((bV ins).length:Int)<=m))=(decide (4<=p.fn) && decide (((bV ins).length:Int)<=p.aj)):=by
   rw[List.any_cons,List.any_nil,Bool.or_false]
   by_cases A:4<=p.fn
   .rw[decide_eq_true A,Bool.true_and]
   .have:=G (by omega)
    rw[decide_eq_false A,Bool.false_and]
    exact decide_eq_false (by omega)
  rw[e,i]
  refine⟨?_,λ_=>rfl⟩
  show cG p bS.t (bV ins) ins=pn (bV ins) p.cols (p.keys.map Prod.fst) p.fn p.aj
  unfold cG pn
  rw[j,iL,iL,r,k,l]
  cases K:(p.cols.any (λm=>decide (((bV ins).length:Int)<=m)) || (p.keys.map Prod.fst).any (λm=>decide (((bV ins).length:Int)<=m)) || (decide (4<=p.fn) && decide (((bV ins).length:Int)<=p.aj))) with
  | true=>rfl
  | false=>
   by_cases n:32<=(bV ins).length
   .have:32<(bV ins).length+1:=by omega
    simp[n,this]
   .have P:¬32<(bV ins).length+1:=by omega
    simp only[Bool.false_or,decide_eq_false n,VU P,Bool.false_eq_true,if_false]
    by_cases D:p.fn=4
    .have V:p.aj<((bV ins).length:Int):=by
      simp only[Bool.or_eq_false_iff,Bool.and_eq_false_iff,decide_eq_false_iff_not] at K
      rcases K.2 with h|h
      .omega
      .omega
     rw[D]
     rcases c.at u V with h|h
     .rw[h];rfl
     .rw[h];rfl
    .have z:(p.fn != 4)=true:=by simpa using D
     have N:(p.fn == 4)=false:=by simpa using D
     rw[z,N];rfl
 .have v:1<=p.args.length:=by have:=iy a t;omega
  have c:=dN s (by omega);have w:=oB x (by rw[a];rfl);have e:bA T p ins=(if (ins.drop 1).any (λd=>!decide (d=bV ins)) then 4 else 0,bV ins):=by unfold bA;rw[a];rfl
  have i:fi T p ins=(cG p bS.t (bV ins) ins,bV ins):=by unfold fi cD VO;rw[a];rfl
  have j:cq p=[]:=by unfold cq;rw[a,w];rfl
  have k:cT p (bV ins) ins=!ins.any (λd=>!decide (d=bV ins)):=by unfold cT;rw[a];rfl
  have l:VO p bS.t (bV ins)=bV ins:=by unfold VO;rw[a];rfl
  have r:ins.any (λd=>!decide (d=bV ins))=(ins.drop 1).any (λd=>!decide (d=bV ins)):=by
   cases ins with
   | nil=>rfl
   | cons y L=>
    have:bV (y::L)=y:=rfl
    rw[this,List.any_cons,List.drop_succ_cons,List.drop_zero]
    simp
  rw[e,i];refine⟨?_,λ_=>rfl⟩;show cG p bS.t (bV ins) ins=if (ins.drop 1).any (λd=>!decide (d=bV ins)) then 4 else 0;unfold cG;rw[j,k,l,r,VU (by simp),VU (show ¬32<(bV ins).length by have:=c.hi;omega)];cases (ins.drop 1).any (λd=>!decide (d=bV ins))<;>rfl
 .obtain⟨v,u⟩:=Ux a t;have c:=i5.ofB u;have w:=oB x (by rw[a];rfl);(have e:bA T p ins=(0,p.cols):=by unfold bA;rw[a];rfl);(have i:fi T p ins=(cG p bS.t [] ins,p.cols):=by unfold fi cD VO;rw[a];rfl);(have j:cq p=[]:=by unfold cq;rw[a,w];rfl);(have k:cT p [] ins=true:=by unfold cT;rw[a];rfl);(have l:VO p bS.t []=p.cols:=by unfold VO;rw[a];rfl);rw[e,i];refine⟨?_,λ_=>rfl⟩;show cG p bS.t [] ins=0;unfold cG;rw[j,k,l,VU (by simp),VU (show ¬32<p.cols.length by have:=c.hi;omega)];rfl
theorem vZ(b:Tb)(g:Tm)(d:ByteArray)(i:Nat)(a:World)(f:a.cell? ⟨i,1,none⟩=some (.string d)):Calls prog 38 #[b.val g,.pointer (some ⟨i,0,none⟩)] a λl m=>l=.returned (.bool (decide (b.name=d)))/\Bw a m:=by have c:=am (VT _ a) (b.box g);have k:=ae f c;have e:=H c;have j:=H (iE b.name d);rw[<-U j,Tb.ad];unfold Tb.box at e k;clear f c;go_enter func38,ntmps38;go_wp2;go_ret;exact⟨rfl,U e⟩
theorem rM(b:List Tb)(B:b.length<=1048576)(d:ByteArray)(c:Nat)(e:Option Addr)(g:Nat)(a:World)(p:lZ a e b)(r:a.cell? ⟨c,1,none⟩=some (.string d)):Calls prog 37 #[.slice e b.length g,.func (.func 38) #[] #[.pointer (some ⟨c,0,none⟩)]] a λw z=>∃k:Int,w=.returned (.int .i64 k)/\di (b.map λf=>decide (f.name=d)) k/\Bw a z:=by obtain⟨y,j,q,s⟩:=uk p;have h:=yP y (b.map λf=>decide (f.name=d)) (by rw[bQ,j]) e g (.func (.func 38) #[] #[.pointer (some ⟨c,0,none⟩)]) a (by omega) q ⟨38,_,rfl,λargs a=>by kernel_rfl,λu x A m n i o=>by rw[bL] at i;obtain⟨l,t,rfl⟩:=Option.map_eq_some_iff.1 i;obtain⟨v,rfl,_⟩:=s u l x t n;exact vZ l v d c m (ae r o)⟩;rw[j] at h;exact h
theorem ww{e:ByteArray}(h:di (T.map λa=>decide (a.name=e)) I):(∃(b:Nat) (a:Tb),I=(b:Int)/\T[b]?=some a/\T.find? (λa=>decide (a.name=e))=some a)∨(I=-1/\T.find? (λa=>decide (a.name=e))=none):=by
 rcases h with ⟨b,rfl,i,f⟩|⟨rfl,f⟩
 .rw[bL] at i;obtain⟨a,c,j⟩:=Option.map_eq_some_iff.1 i;refine .inl ⟨b,a,rfl,c,uS (k:=b) (λd l g k=>?_) c j⟩;exact f d g _ (by rw[bL,k];rfl)
 .refine .inr ⟨rfl,?_⟩;rw[List.find?_eq_none];intro a c;obtain⟨d,g,rfl⟩:=List.mem_iff_getElem.1 c;have:decide (T[d].name=e)=false:=f d _ (by rw[bL,VR g];rfl);rw[this];decide
inductive Dd (w:World) (ts:List Tb):Pl->Nv->Prop
 | mk (p:Pl) (x:Nv) (q:x.q=p) (o:iO w p x.m) (t:p.op=1->ts.find? (λt=>decide (t.name=p.au))=some x.t/\ga w x.tm.aR x.t.rows) (t':¬p.op=1->x.t.rows=[])
   (k:x.k.2.2=(bK ts p).2) (ki:bP w x.k.1 x.k.2.2) (nl:x.nl=p.args.length) (g:Nat) (ys:List Nv) (yl:ys.length=p.args.length) (na:p.args=[]∨x.na=some ⟨g,0,none⟩)
   (s:∀(i:Nat) y,ys[i]?=some y->ge w g (i*16) y) (a:∀(i:Nat) c y,p.args[i]?=some c->ys[i]?=some y->Dd w ts c y):Dd w ts p x
def zY(c:World)(f:List Tb)(d:Nat->Prop)(g:World)(e:Pl)(x:Nv):Prop:=∀a,Bw c a->(∀b,d b->a.heap[b]?=g.heap[b]?)->Dd a f e x
theorem zY.on{x:Nv}(h:zY w T P W p x)(g:∀a,P a->X.heap[a]?=W.heap[a]?)(f:∀a,P a->Q a):zY w T Q X p x:=
 λc d e=>h c d λa b=>(e a (f a b)).trans (g a b)
def xi(i:World)(f:List Tb)(base:Nat)(g:Value)(d:World)(e:Pl)(j:Nv):Prop:=∃a:Nat->Prop,(∀b,a b->base<=b/\b<d.heap.size)/\(∀c,g.ownBlock=some c->¬a c)/\zY i f a d e j
theorem xi.aa{base:Nat}{f:Nv}(h:xi w T base v W p f)(d:Bw W X):xi w T base v X p f:=by obtain⟨g,b,i,j⟩:=h;exact⟨g,λe a=>⟨(b e a).1,cN (b e a).2 d.size⟩,i,j.on (λc a=>d.block c (b c a).2) λ_ a=>a⟩
theorem xi.low{base:Nat}{f:Nv}(h:xi w T base v W p f)(e:W.grownBy X (some n))(k:n<base):xi w T base v X p f:=by obtain⟨g,c,i,j⟩:=h;exact⟨g,λb a=>⟨(c b a).1,cN (c b a).2 e.size⟩,i,j.on (λb a=>e.block b (c b a).2 (λd=>by injection d with d;have:=(c b a).1;omega)) λ_ a=>a⟩
theorem xi.list{base:Nat}{u:Value}{i:Nv}(h:xi w T base u W p i)(g:W.grownBy X u.ownBlock)(l:∀b,v.ownBlock=some b->u.ownBlock=some b∨W.heap.size<=b):xi w T base v X p i:=by
 obtain⟨j,e,f,k⟩:=h;refine⟨j,λd a=>⟨(e d a).1,cN (e d a).2 g.size⟩,λb c a=>?_,k.on (λd a=>g.block d (e d a).2 (λc=>f d c.symm a)) λ_ a=>a⟩;rcases l b c with c|c;.exact f b c a
 .have:=(e b a).2;omega
theorem pA{b1 b2:Nat}{g:List Nv}(c:cm w b1 v C)(d:eN w b2 u g):v.ownBlock=none∨v.ownBlock≠u.ownBlock:=by
 rcases c.2 with ⟨rfl,_⟩|⟨m,i,k,rfl,_,f,_⟩
 .exact .inl rfl
 ·(rcases d.2 with ⟨rfl,_⟩|⟨n,j,l,rfl,_,a,_⟩);(.exact .inr (by simp[Value.ownBlock]));.refine .inr λb=>?_;simp[Value.ownBlock] at b;subst b;rw[f] at a;injection a with a;injection a with _ e;exact absurd e (by decide)
structure Kd(w0:World)(ts:List Tb)(p:Pl)(u:Value)(w:World)(base:Nat)(y:Nv):Prop where
 o:cm w base (.slice y.k.1 y.k.2.2.length y.k.2.1) y.k.2.2
 k:xi w0 ts base u w p y
theorem Kd.aa{base:Nat}{b:Nv}(h:Kd w T p v W base b)(a:Bw W X):Kd w T p v X base b:=⟨h.o.aa a,h.k.aa a⟩
structure KS(w0:World)(ts:List Tb)(ps:List Pl)(u:Value)(w:World)(base:Nat)(ys:List Nv):Prop where
 o:∀y∈ys,cm w base (.slice y.k.1 y.k.2.2.length y.k.2.1) y.k.2.2
 k:∀(i:Nat) y p,ys[i]?=some y->ps[i]?=some p->xi w0 ts base u w p y
theorem KS.nil{b:List Pl}{base:Nat}:KS w T b v W base []:=⟨λc a=>(by cases a),λd c e a=>(by simp at a)⟩
theorem KS.aa{d:List Pl}{base:Nat}{e:List Nv}(h:KS w T d v W base e)(c:Bw W X):KS w T d v X base e:=⟨λb a=>(h.o b a).aa c,λg b i a f=>(h.k g b i a f).aa c⟩
theorem KS.list{d:List Pl}{base b2:Nat}{e l:List Nv}{u:Value}(h:KS w T d u W base e)(c:W.grownBy X u.ownBlock)(i:eN W b2 u l):KS w T d u X base e:=
 ⟨λb a=>World.ownsRow.kept (h.o b a) c (pA (h.o b a) i),λj b k a g=>(h.k j b k a g).list c λm f=>.inl f⟩
theorem KS.low{e:List Pl}{base:Nat}{f:List Nv}(h:KS w T e v W base f)(d:W.grownBy X (some n))(i:n<base):KS w T e v X base f:=
 ⟨λa b=>World.ownsRow.kept (h.o a b) d (by
  cases k:(Value.slice a.k.1 a.k.2.2.length a.k.2.1).ownBlock with
  | none=>exact .inl rfl
  | some g=>refine .inr λc=>?_;injection c with c;have:=(World.ownsRow.lt (h.o a b) g k).1;omega),λl a m b j=>(h.k l a m b j).low d i⟩
theorem KS.push{l:List Pl}{base b2:Nat}{b x:List Nv}{o:Nv}(h:KS w T l v W base b)(f:W.grownBy X v.ownBlock)(m:eN W b2 v x)(n:∀i,u.ownBlock=some i->v.ownBlock=some i∨W.heap.size<=i)(r:l[b.length]?=some p)(k:Kd w T p v W base o):KS w T l u X base (b++[o]):=by
 refine⟨λg a=>?_,λe g t a d=>?_⟩;.rcases cM a with c|c;(.exact World.ownsRow.kept (h.o g c) f (pA (h.o g c) m));.simp at c;subst c;exact World.ownsRow.kept k.o f (pA k.o m)
 .rcases Nat.lt_or_ge e b.length with j|j;.rw[eK j] at a;exact(h.k e g t a d).list f n
  .rw[ez j] at a
   have q:e-b.length=0:=by
    cases s:e-b.length with
    | zero=>rfl
    | succ y=>rw[s] at a;simp at a
   rw[q] at a;simp at a;subst a;(obtain rfl:e=b.length:=by omega);rw[r] at d;injection d with d;subst d;exact k.k.list f n
def Ej(j:World)(i:List Tb)(f:Pl)(d:Int×List Int)(b:World)(g:Ending)(c:World):Prop:=∃a:Nv,g=.returned (.tuple #[a.v,.int .i64 d.1])/\(d.1=0->a.k.2.2=d.2/\cm c b.heap.size (.slice a.k.1 a.k.2.2.length a.k.2.1) a.k.2.2/\zY j i (λe=>b.heap.size<=e/\e<c.heap.size) c f a)/\Bw b c
theorem ty{base:Nat}(h:cm w base (.slice a n m) C)(k:∀b,base<=b->b<w.heap.size->W.heap[b]?=w.heap[b]?):bP W a C:=by
 rcases h.ints with e|⟨b,j,rfl,e⟩;.exact .inl e
 .refine .inr ⟨b,j,rfl,λi o l=>?_⟩;have g:=e i o l;(have f:base<=b:=by(rcases h.2 with ⟨d,_⟩|⟨r,p,q,d,f,_⟩);(.cases d);.injection d with c;injection c with c;injection c with c;rw[c];exact f);rw[World.cell?_of_block (w:=w) (a:=⟨b,j+i,none⟩) (k b f (ck _ _ g))];exact g
theorem vn{x:Nv}(h:ge w n m x)(v:W.heap[n]?=w.heap[n]?):ge W n m x:=by
 have a:∀{b:Nat} {c:Value},w.cell? ⟨n,b,none⟩=some c->W.cell? ⟨n,b,none⟩=some c:=λ{b c} u=>by rw[World.cell?_of_block (w:=w) (a:=⟨n,b,none⟩) v];exact u
 obtain⟨⟨e,f,i,c3,j,k,l,o,p,q,g⟩,⟨r,s,t⟩,y,d⟩:=h;exact⟨⟨a e,a f,a i,a c3,a j,a k,a l,a o,a p,a q,a g⟩,⟨a r,a s,a t⟩,a y,a d⟩
theorem zY.mk{w0:World}{ts:List Tb}{p:Pl}{m:Pm}{X:Nv}{lo base:Nat}{na:Option Addr}{nc:Nat}{ys:List Nv}{w:World}(I:X.q=p)(C:X.m=m)(F:iO w0 p m)(n:p.op=1->ts.find? (λL=>decide (L.name=p.au))=some X.t/\ga w0 X.tm.aR X.t.rows)(K:¬p.op=1->X.t.rows=[])(A:X.k.2.2=(bK ts p).2)(B:cm w lo (.slice X.k.1 X.k.2.2.length X.k.2.1) X.k.2.2)(E:X.nl=p.args.length)(D:X.na=na)(e:ys.length=p.args.length)(i:eN w base (.slice na p.args.length nc) ys)(x:KS w0 ts p.args (.slice na p.args.length nc) w base ys)(N:lo<=base):zY w0 ts (λb=>lo<=b/\b<w.heap.size) w p X:=by
 intro s g j;have J:∀a,na=some ⟨a,0,none⟩->base<=a/\a<w.heap.size:=λa f=>World.ownsRow.lt i a (by rw[f];rfl);have z:p.args=[]∨∃a,na=some ⟨a,0,none⟩:=by by_cases l:p.args=[];(.exact .inl l);.exact .inr (i.blk (by rw[e];cases G:p.args with|nil=>exact absurd G l|cons _ _=>simp))
 obtain⟨a,k⟩:∃a,p.args=[]∨na=some ⟨a,0,none⟩:=by rcases z with h|⟨a,h⟩;(.exact⟨0,.inl h⟩);.exact⟨a,.inr h⟩
 refine Dd.mk p X I (C ▸ F.aa g) (λh=>⟨(n h).1,(n h).2.aa g⟩) K A (ty B λb d u=>j b ⟨d,u⟩) E a ys e (k.imp id λf=>D.trans f) (λo r c=>?_) λo t r y c=>?_;.rcases k with h|h;(.rw[h] at e;rw[dF e] at c;simp at c);.subst h;have:=J a rfl;exact vn (i.sxt c) (j a ⟨by omega,by omega⟩)
 .obtain⟨M,d,_,v⟩:=x.k o r t c y;exact v s g λb q=>j b ⟨by have:=(d b q).1;omega,(d b q).2⟩
theorem zj{x:Nv}(i:ge w n m x)(j:x.q.op=1)(c:cU 71 w n m k r):cU 40 w n m k r:=by intro s v q l y t b d a e f;have o:=H (c s v q l y t b d a e f);obtain⟨C,A,B,rfl⟩:=b.fn;have u:=ae i.e.c0 a;rw[j] at u;clear c b d a e f i j;go_enter func40,ntmps40;go_wp2_with (go_at_call 71;refine(U o).mono ?_;rintro z D g;have p:=H g;obtain⟨rfl,_⟩:=g);go_end0;exact U p
theorem zi{x:Nv}(i:ge w n m x)(j:x.q.op=2)(c:cU 72 w n m k r):cU 40 w n m k r:=by intro s v q l y t b d a e f;have o:=H (c s v q l y t b d a e f);obtain⟨C,A,B,rfl⟩:=b.fn;have u:=ae i.e.c0 a;rw[j] at u;clear c b d a e f i j;go_enter func40,ntmps40;go_wp2_with (go_at_call 72;refine(U o).mono ?_;rintro z D g;have p:=H g;obtain⟨rfl,_⟩:=g);go_end0;exact U p
theorem zh{x:Nv}(i:ge w n m x)(j:x.q.op=3)(c:cU 73 w n m k r):cU 40 w n m k r:=by intro s v q l y t b d a e f;have o:=H (c s v q l y t b d a e f);obtain⟨C,A,B,rfl⟩:=b.fn;have u:=ae i.e.c0 a;rw[j] at u;clear c b d a e f i j;go_enter func40,ntmps40;go_wp2_with (go_at_call 73;refine(U o).mono ?_;rintro z D g;have p:=H g;obtain⟨rfl,_⟩:=g);go_end0;exact U p
theorem zg{x:Nv}(i:ge w n m x)(j:x.q.op=4)(c:cU 74 w n m k r):cU 40 w n m k r:=by intro s v q l y t b d a e f;have o:=H (c s v q l y t b d a e f);obtain⟨C,A,B,rfl⟩:=b.fn;have u:=ae i.e.c0 a;rw[j] at u;clear c b d a e f i j;go_enter func40,ntmps40;go_wp2_with (go_at_call 74;refine(U o).mono ?_;rintro z D g;have p:=H g;obtain⟨rfl,_⟩:=g);go_end0;exact U p
theorem zf{x:Nv}(i:ge w n m x)(j:x.q.op=5)(c:cU 74 w n m k r):cU 40 w n m k r:=by intro s v q l y t b d a e f;have o:=H (c s v q l y t b d a e f);obtain⟨C,A,B,rfl⟩:=b.fn;have u:=ae i.e.c0 a;rw[j] at u;clear c b d a e f i j;go_enter func40,ntmps40;go_wp2_with (go_at_call 74;refine(U o).mono ?_;rintro z D g;have p:=H g;obtain⟨rfl,_⟩:=g);go_end0;exact U p
theorem ze{x:Nv}(i:ge w n m x)(j:x.q.op=6)(c:cU 75 w n m k r):cU 40 w n m k r:=by intro s v q l y t b d a e f;have o:=H (c s v q l y t b d a e f);obtain⟨C,A,B,rfl⟩:=b.fn;have u:=ae i.e.c0 a;rw[j] at u;clear c b d a e f i j;go_enter func40,ntmps40;go_wp2_with (go_at_call 75;refine(U o).mono ?_;rintro z D g;have p:=H g;obtain⟨rfl,_⟩:=g);go_end0;exact U p
theorem za{x:Nv}(i:ge w n m x)(j:x.q.op=9)(c:cU 75 w n m k r):cU 40 w n m k r:=by intro s v q l y t b d a e f;have o:=H (c s v q l y t b d a e f);obtain⟨C,A,B,rfl⟩:=b.fn;have u:=ae i.e.c0 a;rw[j] at u;clear c b d a e f i j;go_enter func40,ntmps40;go_wp2_with (go_at_call 75;refine(U o).mono ?_;rintro z D g;have p:=H g;obtain⟨rfl,_⟩:=g);go_end0;exact U p
theorem wJ{x:Nv}(i:ge w n m x)(j:x.q.op=10)(c:cU 75 w n m k r):cU 40 w n m k r:=by intro s v q l y t b d a e f;have o:=H (c s v q l y t b d a e f);obtain⟨C,A,B,rfl⟩:=b.fn;have u:=ae i.e.c0 a;rw[j] at u;clear c b d a e f i j;go_enter func40,ntmps40;go_wp2_with (go_at_call 75;refine(U o).mono ?_;rintro z D g;have p:=H g;obtain⟨rfl,_⟩:=g);go_end0;exact U p
theorem zc{x:Nv}(i:ge w n m x)(j:x.q.op=7)(c:cU 76 w n m k r):cU 40 w n m k r:=by intro s v q l y t b d a e f;have o:=H (c s v q l y t b d a e f);obtain⟨C,A,B,rfl⟩:=b.fn;have u:=ae i.e.c0 a;rw[j] at u;clear c b d a e f i j;go_enter func40,ntmps40;go_wp2_with (go_at_call 76;refine(U o).mono ?_;rintro z D g;have p:=H g;obtain⟨rfl,_⟩:=g);go_end0;exact U p
theorem wI{x:Nv}(i:ge w n m x)(j:x.q.op=11)(c:cU 77 w n m k r):cU 40 w n m k r:=by intro s v q l y t b d a e f;have o:=H (c s v q l y t b d a e f);obtain⟨C,A,B,rfl⟩:=b.fn;have u:=ae i.e.c0 a;rw[j] at u;clear c b d a e f i j;go_enter func40,ntmps40;go_wp2_with (go_at_call 77;refine(U o).mono ?_;rintro z D g;have p:=H g;obtain⟨rfl,_⟩:=g);go_end0;exact U p
theorem wH{x:Nv}(d:ge w n m x)(e:x.q.op=12):cU 40 w n m k []:=by intro p r o f v q c b a j l;obtain⟨u,s,t,rfl⟩:=c.fn;have i:=ae d.e.c0 a;rw[e] at i;have g:=H b;clear c b a j l d e;go_enter func40,ntmps40;go_wp2;go_end0;exact⟨rfl,f,by rw[VI];exact U g,Nw.refl _ _,Ky.refl _ _⟩
structure D7(Inv:(Nat->Prop)->List (List aH)->World->Prop)(F:Nat->Prop)(zs:List (List aH))(ss:List (List (List aH)))(W:World)(k:Nat)(F':Nat->Prop)(wr:World):Prop where
 i:Inv F' (zs++(ss.take k).flatten) wr
 nw:Nw F F' W
 ky:Ky F W wr
theorem m5{a:List (List (List aH))}(h:a[n]?=some r):(a.take (n+1)).flatten=(a.take n).flatten++r:=by rw[List.take_add_one,h,List.flatten_append];simp
theorem wy(a:List (List (List aH)))(b:Nat):(a.take b).flatten <+: a.flatten:=by
 conv=>rhs;rw[<-List.take_append_drop b a,List.flatten_append]
 exact List.prefix_append _ _
theorem zb{x:Nv}{c:List (List (List aH))}(z:ge w n m x)(V:x.q.op=8)(R:x.na=some ⟨j,0,none⟩)(S:x.nl=c.length)(V2:c.length<=1048576)(L:∀(T:Nat) ys,c[T]?=some ys->cU 40 w j (T*16) k ys):cU 40 w n m k c.flatten:=by
 intro VY K g e l f r y p M N;obtain⟨d,s⟩:=bj c.length;have VZ:=ae z.e.c0 p;have u:=z.a;rw[V] at VZ;rw[R,S,s] at u;have E:Hid (∀t,Bw w t->t.cell? ⟨n,m+15,none⟩=some (.slice (some ⟨j,0,none⟩) d x.nc)):=λt h=>ae u h;have v:=U E f p;have D:Hid (∀a b wr,D7 g e l c f a b wr->Bw w wr):=λa b wr h=>p.trans (h.ky.below (λV5 W=>(r.stb.foot y V5 W).1) p.size);have VW:Hid (∀a b wr,a<d->D7 g e l c f a b wr->Bw w wr/\Calls prog 40 #[.pointer (some ⟨j,a*16,none⟩),K] wr λJ X=>J=.returned (.tuple #[])/\∃o,D7 g e l c f (a+1) o X):=by intro a b wr Q h;have q:=U D a b wr h;refine⟨q,?_⟩;obtain⟨C,A⟩:∃C,c[a]?=some C:=⟨_,VR (by rw[s];exact Q)⟩;refine(L a C A VY K g b _ wr r h.i q ?_ N).mono ?_;(.rw[cI,<-m5 A];exact((List.prefix_append_right_inj l).2 (wy c (a+1))).trans M);.rintro J X ⟨V1,o,V4,V7,V6⟩;refine⟨V1,o,?_,h.nw.trans V7 h.ky.size,h.ky.trans V6 h.nw⟩;rw[m5 A,<-cI];exact V4
 have F:Hid (D7 g e l c f 0 e f):=⟨by simpa using y,Nw.refl _ _,Ky.refl _ _⟩;have VX:=H s;obtain⟨W,Wb,Wd,rfl⟩:=r.fn;have Wc:d<=1048576:=by omega
 clear r y p M N z V u R S L s V2;go_enter func40,ntmps40;go_wp2_with fail;go_loopw[50] (λB wr=>∃(a:Nat) (b:Nat->Prop),a<=d/\B=.int .i64 (a:Int)/\Hid (D7 g e l c f a b wr)/\Hid (wr.cell? ⟨n,m+15,none⟩=some (.slice (some ⟨j,0,none⟩) d x.nc))) (λB _=>d-(intOf B).toNat);case atStart=>exact⟨0,e,bt,rfl,F,v⟩
 case round=>clear F v;obtain⟨a,b,Q,rfl,G,Z⟩:=hrel;by_cases V3:a<d;(·(have V0:(a:Int)<(d:Int):=by omega);have v:=U Z;obtain⟨q,O⟩:=U VW a b wr V3 (U G);have Y:=H O;have V9:=H q;clear q O;go_wp2_with (go_at_call 40;refine(U Y).mono ?_;rintro Wa V8 ⟨rfl,o,i⟩;have I:=H i;clear i);refine⟨⟨a+1,o,by omega,by go_num,I,?_⟩,by simp[intOf];omega⟩;exact U E V8 (U D _ _ _ (U I)));·(have V0:¬(a:Int)<(d:Int):=by omega);(obtain rfl:a=d:=by omega);go_wp2;go_end0;have i:=U G;have P:=i.i;rw[<-U VX,dy] at P;exact⟨rfl,b,P,i.nw,i.ky⟩
end Go.Proofs.YtklgoolblpmmlaaGreat
