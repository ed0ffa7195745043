import Derived.Test.YtabmgpillccfaaaGreatDoorTxK
set_option linter.all false
set_option maxHeartbeats 4000000
set_option maxRecDepth 100000
namespace Go.Proofs.YtabmgpillccfaaaGreatDoor
open Go.RowKit Go.Sort Go.Proofs.Tryz
theorem SL.one(a:World)(b:List UInt8):SL (a.alloc (.cells #[.string (bs b)] 9)) a.heap.size (.slice (some ⟨a.heap.size,0,none⟩) 1 1) [b]:=SL.lit a [b] (by simp)
structure PB(W:World)(b:Nat)(v0 v1 v2 v3 v4 v5 v6 v7 v8 v9 v10:Value):Prop where
 c0:W.cell? ⟨b,0,none⟩=some v0
 c1:W.cell? ⟨b,1,none⟩=some v1
 c2:W.cell? ⟨b,2,none⟩=some v2
 c3:W.cell? ⟨b,3,none⟩=some v3
 c4:W.cell? ⟨b,4,none⟩=some v4
 c5:W.cell? ⟨b,5,none⟩=some v5
 c6:W.cell? ⟨b,6,none⟩=some v6
 c7:W.cell? ⟨b,7,none⟩=some v7
 c8:W.cell? ⟨b,8,none⟩=some v8
 c9:W.cell? ⟨b,9,none⟩=some v9
 c10:W.cell? ⟨b,10,none⟩=some v10
variable{W w:World}{m n:Nat}{V u v:Value}{a:Option Addr}
theorem PB.aa{c d e f g i j b:Value}(h:PB w n v u V c d e f g i j b)(a:Bw w W):PB W n v u V c d e f g i j b:=⟨aG h.c0 a,aG h.c1 a,aG h.c2 a,aG h.c3 a,aG h.c4 a,aG h.c5 a,aG h.c6 a,aG h.c7 a,aG h.c8 a,aG h.c9 a,aG h.c10 a⟩
theorem PB.new(m:World)(a b d e f g i j k l c:Value):PB (m.alloc (.cells #[a,b,d,e,f,g,i,j,k,l,c] 28)) m.heap.size a b d e f g i j k l c:=⟨by simp[go_sem],by simp[go_sem],by simp[go_sem],by simp[go_sem],by simp[go_sem],by simp[go_sem],by simp[go_sem],by simp[go_sem],by simp[go_sem],by simp[go_sem],by simp[go_sem]⟩
theorem oG{d:ByteArray}(h:w.cell? ⟨n,0,none⟩=some (.string d)):∀a c,[d.data.toList][a]?=some c->w.cell? ⟨n,a,none⟩=some (.string (bs c)):=λa c b=>by
 cases a with
 | zero=>simp at b;subst b;rw[sa];exact h
 | succ a=>simp at b
theorem PB.kept{d e f g i j k c:Value}(h:PB w n v u V d e f g i j k c)(b:n<m)(a:Below m w W):PB W n v u V d e f g i j k c:=⟨by rw[a.cell (p:=⟨n,0,none⟩) b];exact h.c0,by rw[a.cell (p:=⟨n,1,none⟩) b];exact h.c1,by rw[a.cell (p:=⟨n,2,none⟩) b];exact h.c2,by rw[a.cell (p:=⟨n,3,none⟩) b];exact h.c3,by rw[a.cell (p:=⟨n,4,none⟩) b];exact h.c4,by rw[a.cell (p:=⟨n,5,none⟩) b];exact h.c5,by rw[a.cell (p:=⟨n,6,none⟩) b];exact h.c6,by rw[a.cell (p:=⟨n,7,none⟩) b];exact h.c7,by rw[a.cell (p:=⟨n,8,none⟩) b];exact h.c8,by rw[a.cell (p:=⟨n,9,none⟩) b];exact h.c9,by rw[a.cell (p:=⟨n,10,none⟩) b];exact h.c10⟩
theorem lI(p:Pl)(V1:p.op=7)(f:mA p)(D:p.fin)(a:Pm)(b:World)(VY:dN b p a)(z:GT b)(Z:((p.args.map cX).map λWv=>Wv.length+1).sum<=268435456*400) (i:∀c,Bw b c->Calls prog 36 #[.slice a.aP p.args.length a.cP,.func (.func 11) #[] #[]] c (e5 (p.args.map cX) c)):Calls prog 11 #[p.val a] b λj P=>j=.returned (.string (bs (cX p)))/\Bw b P:=by
 have V0:=dK f D;obtain⟨⟨Wj,Wm,Wn,Wo,Wp,Wq,Wr,Ws,Wt,Wk⟩,Wl,_⟩:=Pl.af D;have V5:=b3 b4 p.op;have k:=VV λ(c:World) (C:Bw b c)=>dg bE p.op c (z.aa C) (by decide) (by kernel_rfl) ⟨by have:=f.op;omega,by have:=f.op;omega⟩ f.op.1 (by rw[aZ,a7];exact f.op.2);rw[aZ] at k;unfold bE at k;have Wy:=VV λ(c:World) (C:Bw b c)=>z.aa C;have WA:=VV f;have Wx:=VV VY.o;have m:=ck (VO aX p.op::(df p++p.args.map cX));rw[bi,bX,List.sum_cons,List.sum_append] at m;rw[eL,Pl.ad];have A:df p=ef p.op p.tab (p.ex.map eT) p.cols p.keys p.aggs p.fn p.col p.n p.off:=rfl;obtain⟨e,W⟩:=al (VO aX p.op);obtain⟨o,VW⟩:=al (df p);have q:(p.args.map cX).length=p.args.length:=VP ..;obtain⟨n,Y⟩:=al (p.args.map cX);unfold e5 at i;rw[<-W] at k V5 m ⊢;rw[<-VW] at V0 m A ⊢;rw[<-Y] at i Z m q ⊢;have Wb:Hid (∀(c:World) (y:Nat) (u:Value),SL c y u (e::(o++n))->Calls prog 35 #[u] c λj P=>j=.returned (.string (bs (VU (e::(o++n)))))/\Bw c P):=λc y u h=>bJ _ y u c h (by omega) (by rw[a1,bj];omega);obtain⟨l,B⟩:=al n.length;rw[<-B] at i q;rw[<-q] at i ⊢;have Wh:=VV i;have Wc:=VV B;have Wa:Hid ((e::o).length+l<=4398046511104):=by show _<=_;rw[a1];omega
 obtain⟨x,r⟩:=bq (b.alloc (.cells #[.int .i64 p.op,.string p.tab,.slice a.aE p.ex.length a.cE,.slice a.aC p.cols.length a.cC,.slice a.aK p.keys.length a.cK,.slice a.aA p.aggs.length a.cA,.int .i64 p.fn,.int .i64 p.col,.int .i64 p.n,.int .i64 p.off,.slice a.aP l a.cP] 28));have VZ:Bw b x:=by rw[<-r];exact ae aN _
 have R:=VV VZ;have V3:PB x b.heap.size (.int .i64 p.op) (.string p.tab) (.slice a.aE p.ex.length a.cE) (.slice a.aC p.cols.length a.cC) (.slice a.aK p.keys.length a.cK) (.slice a.aA p.aggs.length a.cA) (.int .i64 p.fn) (.int .i64 p.col) (.int .i64 p.n) (.int .i64 p.off) (.slice a.aP l a.cP):=by rw[<-r];exact PB.new ..
 have T:=VV V3;have w:=VV r;obtain⟨t,E,G,I,J,K,L,M,N,O,F⟩:=V3;have Wi:o=[]:=by rw[A];unfold ef;simp[V1]
 clear A;subst Wi;rw[V1] at k T t w ⊢;clear V0 V5 Z m W Y q B i VZ r f VY z D Wj Wm Wn Wo Wp Wq Wr Ws Wt Wk Wl VW;go_enter func11,ntmps11;go_upto_region 1 with fail;rw[U w];go_upto_region 19 with (go_at_call 25;refine(U k _ (U R)).mono ?_;rintro j g ⟨rfl,d⟩;have Q:=VV (ac (U R) d);have s:=ae (ar _ g) (.cells #[.string (bs e)] 9);have V:=VV (SL.one g e);have v:=VV (ac (U Q) s);have V2:=((U T).aa d).aa s;have Wd:=VV V2;clear t E G I J K L M N O F;obtain⟨t,E,G,I,J,K,L,M,N,O,F⟩:=V2;have S:=VV s.size;have V9:=VV (U Q).size;have Wz:Hid (b.heap.size<g.heap.size):=be (by rw[<-U w];simp) (ac (ar _ x) d).size;clear d s);generalize Wu:g.alloc (.cells #[.string (bs e)] 9)=WB at V v Wd S t E G I J K L M N O F ⊢;clear Wu
 go_wp2_with (first
  | (go_at_call 36;refine(U Wh _ (U v)).mono ?_;rintro j Ww ⟨rfl,V4,d⟩;have Wg:=VV V4;have V6:=VV (ac (U v) d);have We:=VV ((U V).aa d);have V8:Hid (g.heap.size<=Ww.heap.size):=aQ (U S) d.size;clear V4 d)
  | (refine bo _ rfl (.tmp 90) (.tmp 93) rfl g.heap.size (.slice (some ⟨g.heap.size,0,none⟩) 1 1) [e] n _ l l rfl (U We) rfl (U Wc) (U Wg).cells (U Wa) (U V8) ?_;intro WC WD VX X;have Wf:=VV VX;have V7:=VV ((U V6).trans (X.mono (U V9)));clear VX X)
  | (go_at_call 35;refine(U Wb _ _ _ (U Wf)).mono ?_;rintro j WE ⟨rfl,d⟩))
 go_ret;exact⟨rfl,ac (U V7) d⟩
theorem lO(p:Pl)(V7:p.op=1)(i:mA p)(Q:p.fin)(a:Pm)(b:World)(V4:dN b p a)(M:GT b)(V2:((p.args.map cX).map λWE=>WE.length+1).sum<=268435456*400) (j:∀c,Bw b c->Calls prog 36 #[.slice a.aP p.args.length a.cP,.func (.func 11) #[] #[]] c (e5 (p.args.map cX) c)):Calls prog 11 #[p.val a] b λl R=>l=.returned (.string (bs (cX p)))/\Bw b R:=by
 have V6:=dK i Q;obtain⟨⟨Wr,Wu,Wv,Ww,Wx,Wy,Wz,WA,WB,Ws⟩,Wt,_⟩:=Pl.af Q;have Wb:=b3 b4 p.op;have m:=VV λ(c:World) (P:Bw b c)=>dg bE p.op c (M.aa P) (by decide) (by kernel_rfl) ⟨by have:=i.op;omega,by have:=i.op;omega⟩ i.op.1 (by rw[aZ,a7];exact i.op.2);rw[aZ] at m;unfold bE at m;have WJ:=VV λ(c:World) (P:Bw b c)=>M.aa P;have WK:=VV i;have WI:=VV V4.o;have q:=ck (VO aX p.op::(df p++p.args.map cX));rw[bi,bX,List.sum_cons,List.sum_append] at q;rw[eL,Pl.ad];have N:df p=ef p.op p.tab (p.ex.map eT) p.cols p.keys p.aggs p.fn p.col p.n p.off:=rfl;obtain⟨f,V0⟩:=al (VO aX p.op);obtain⟨D,V3⟩:=al (df p);have E:(p.args.map cX).length=p.args.length:=VP ..;obtain⟨C,V1⟩:=al (p.args.map cX);unfold e5 at j;rw[<-V0] at m Wb q ⊢;rw[<-V3] at V6 q N ⊢;rw[<-V1] at j V2 q E ⊢;have Wj:Hid (∀(c:World) (L:Nat) (I:Value),SL c L I (f::(D++C))->Calls prog 35 #[I] c λl R=>l=.returned (.string (bs (VU (f::(D++C)))))/\Bw c R):=λc L I h=>bJ _ L I c h (by omega) (by rw[a1,bj];omega);obtain⟨n,O⟩:=al C.length;rw[<-O] at j E;rw[<-E] at j ⊢;have Wp:=VV j;have Wk:=VV O;have Wi:Hid ((f::D).length+n<=4398046511104):=by show _<=_;rw[a1];omega
 obtain⟨K,F⟩:=bq (b.alloc (.cells #[.int .i64 p.op,.string p.tab,.slice a.aE p.ex.length a.cE,.slice a.aC p.cols.length a.cC,.slice a.aK p.keys.length a.cK,.slice a.aA p.aggs.length a.cA,.int .i64 p.fn,.int .i64 p.col,.int .i64 p.n,.int .i64 p.off,.slice a.aP n a.cP] 28));have V5:Bw b K:=by rw[<-F];exact ae aN _
 have W:=VV V5;have V9:PB K b.heap.size (.int .i64 p.op) (.string p.tab) (.slice a.aE p.ex.length a.cE) (.slice a.aC p.cols.length a.cC) (.slice a.aK p.keys.length a.cK) (.slice a.aA p.aggs.length a.cA) (.int .i64 p.fn) (.int .i64 p.col) (.int .i64 p.n) (.int .i64 p.off) (.slice a.aP n a.cP):=by rw[<-F];exact PB.new ..
 have VW:=VV V9;have J:=VV F;obtain⟨k,r,t,u,v,w,x,y,z,A,s⟩:=V9;have Wq:D=[p.tab.data.toList]:=by rw[N];unfold ef;simp[V7]
 clear N;subst Wq;rw[V7] at m VW k J ⊢;clear V6 Wb V2 q V0 V1 E O j V5 F i V4 M Q Wr Wu Wv Ww Wx Wy Wz WA WB Ws Wt V3;go_enter func11,ntmps11;go_upto_region 1 with fail;rw[U J];go_upto_region 4 with (go_at_call 25;refine(U m _ (U W)).mono ?_;rintro l e ⟨rfl,d⟩;have S:=VV (ac (U W) d);have G:=ae (ar _ e) (.cells #[.string (bs f)] 9);have VY:=VV (SL.one e f);have T:=VV (ac (U S) G);have V8:=((U VW).aa d).aa G;have VX:=VV V8;clear k r t u v w x y z A s;obtain⟨k,r,t,u,v,w,x,y,z,A,s⟩:=V8;have X:=VV G.size;have Z:=VV (U S).size;have Wh:Hid (b.heap.size<e.heap.size):=be (by rw[<-U J];simp) (ac (ar _ K) d).size;clear d G);generalize WC:e.alloc (.cells #[.string (bs f)] 9)=VZ at VY T VX X k r t u v w x y z A s ⊢;clear WC;have B:=VV (ae (ar _ VZ) (.cells #[.string p.tab] 9));have We:=VV (ac (U T) (U B));have Y:Hid (e.heap.size<=(VZ.alloc (.cells #[.string p.tab] 9)).heap.size):=aQ (U X) (U B).size;go_upto_region 19 with (refine bo _ rfl (.tmp 12) (.tmp 15) rfl e.heap.size (.slice (some ⟨e.heap.size,0,none⟩) 1 1) [f] [p.tab.data.toList] _ 1 1 rfl ((U VY).aa (U B)) rfl rfl (oG (by simp[go_sem])) (by simp) (U Y) ?_;intro WF WG o g;have Wl:=VV o;have V:=VV ((U We).trans (g.mono (U Z)));have Wf:Hid (e.heap.size<=WG.heap.size):=aQ (U Y) g.size;have WD:=((U VX).aa (U B)).kept (U Wh) g;clear k r t u v w x y z A s;obtain⟨k,r,t,u,v,w,x,y,z,A,s⟩:=WD;clear o g)
 go_wp2_with (first
  | (go_at_call 36;refine(U Wp _ (U V)).mono ?_;rintro l WH ⟨rfl,Wa,d⟩;have Wo:=VV Wa;have Wc:=VV (ac (U V) d);have Wm:=VV ((U Wl).aa d);have Wg:Hid (e.heap.size<=WH.heap.size):=aQ (U Wf) d.size;clear Wa d)
  | (refine bo _ rfl (.tmp 90) (.tmp 93) rfl e.heap.size WF [f,p.tab.data.toList] C _ n n rfl (U Wm) rfl (U Wk) (U Wo).cells (U Wi) (U Wg) ?_;intro WL WM o g;have Wn:=VV o;have Wd:=VV ((U Wc).trans (g.mono (U Z)));clear o g)
  | (go_at_call 35;refine(U Wj _ _ _ (U Wn)).mono ?_;rintro l WN ⟨rfl,d⟩))
 go_ret;exact⟨rfl,ac (U Wd) d⟩
mutual
def fS:Ex->Nt
 | .mk a c d b=>if a=1 then bz (bs (35::Lib.itoa c)) else if a=2 then bz (bs (gY d)) else cY (bz (bs (VO bV (a-2)))::lm b)
def lm:List Ex->List Nt
 | []=>[]
 | a::b=>fS a::lm b
end
theorem ll:∀a:List Ex,lm a=a.map fS
 | []=>by rw[lm];rfl
 | b::a=>by rw[lm,ll a];rfl
mutual
theorem mU:∀a:Ex,gQ (fS a)=eT a
 | .mk d c e b=>by rw[fS,eT];split;(.rw[fW]);.split;(.rw[fW]);.rw[eX,bi,fW,nS b]
theorem nS:∀a:List Ex,(lm a).map gQ=gZ a
 | []=>by rw[lm,gZ];rfl
 | b::a=>by rw[lm,gZ,bi,mU b,nS a]
end
structure RC(W:World)(g:Nat):Prop where
 c0:W.cell? ⟨g,0,none⟩=some (.bool false)
 c1:W.cell? ⟨g,1,none⟩=some (.string ⟨#[]⟩)
 c2:W.cell? ⟨g,2,none⟩=some (.slice none 0 0)
 f0:W.frozen? ⟨g,0,none⟩=false
 f1:W.frozen? ⟨g,1,none⟩=false
 f2:W.frozen? ⟨g,2,none⟩=false
theorem RC.aa(h:RC w n)(a:Below m w W)(b:n<m):RC W n:=
 ⟨by rw[a.cell (p:=⟨n,0,none⟩) b];exact h.c0,by rw[a.cell (p:=⟨n,1,none⟩) b];exact h.c1,by rw[a.cell (p:=⟨n,2,none⟩) b];exact h.c2,by rw[a.frozen (p:=⟨n,0,none⟩) b];exact h.f0,by rw[a.frozen (p:=⟨n,1,none⟩) b];exact h.f1,by rw[a.frozen (p:=⟨n,2,none⟩) b];exact h.f2⟩
theorem RC.new(a:World):RC (a.alloc (.cells #[.bool false,.string ⟨#[]⟩,.slice none 0 0] 46)) a.heap.size:=⟨by simp[go_sem],by simp[go_sem],by simp[go_sem],by simp[go_sem],by simp[go_sem],by simp[go_sem]⟩
theorem bT(h:Below n w W)(a:n<=m)(b c d:Value):Below n w (((W.setCell ⟨m,0,none⟩ b).setCell ⟨m,1,none⟩ c).setCell ⟨m,2,none⟩ d):=((h.setCell (p:=⟨m,0,none⟩) a b).setCell (p:=⟨m,1,none⟩) a c).setCell (p:=⟨m,2,none⟩) a d
theorem qR:bV=[[110,101,103],[110,111,116],[105,115,110,117,108,108],[108,101,110],[97,100,100],[115,117,98],[109,117,108],[100,105,118],[109,111,100],[101,113],[110,101],[108,116],[108,101],[103,116],[103,101],[99,97,116],[97,110,100],[111,114],[105,102]]:=by kernel_rfl
theorem fw(a:World):Calls prog 86 #[] a λi f=>i=.returned (.slice (some ⟨a.heap.size,0,none⟩) 19 19)/\(∀d e,bV[d]?=some e->f.cell? ⟨a.heap.size,d,none⟩=some (.string (bs e)))/\Bw a f:=by have b:=VV (SL.lit a bV (by rw[d5];omega)).cells;have c:=VV (ae (ar _ a) (.cells (bV.map λg=>Value.string (bs g)).toArray 9));rw[qR] at b c ⊢;go_enter func86,ntmps86;go_wp2;go_ret;exact⟨rfl,U b,U c⟩
theorem NL.lit(b:World)(a:ByteArray)(base:Nat)(d:base<=b.heap.size):NL (b.alloc (.cells #[.bool false,.string a,.slice none 0 0] 46)) base (.slice (some ⟨b.heap.size,0,none⟩) 1 1) [bz a]:=by have h:=World.ownsRow_lit (base:=base) (e:=46) (size:=3) b #[.bool false,.string a,.slice none 0 0] 1 d (by unfold maxLen;omega) rfl;exact⟨[(bz a,none,0)],rfl,h,λf c=>by rw[List.mem_singleton] at c;subst c;show Nt.aj _ _ none [];rw[Nt.aj];trivial⟩
theorem NL.lt{base:Nat}{d:List Nt}(h:NL w base v d):∀a,v.ownBlock=some a->a<w.heap.size:=by obtain⟨e,_,c,_⟩:=h;exact λa b=>(World.ownsRow.lt c a b).2
theorem NL.fresh{wr:World}{base:Nat}{g d:List Nt}(h:NL wr base v g)(k:base<=wr.heap.size)(f:Nt.aj (λb=>n<=b/\b<w.heap.size) w a d)(i:wr.heap.size<=n)(c:Bw w W):Nt.aj (NS W base v) W a d:=
 Nt.aq (Nt.au f c) λb j=>⟨by omega,by have:=c.size;omega,λe=>by have:=h.lt b e;omega⟩
theorem eJ{d:Nt}(f:w.cell? ⟨n,0,none⟩=some (.bool d.b))(g:w.cell? ⟨n,1,none⟩=some (.string d.s))(i:w.cell? ⟨n,2,none⟩=some (.slice a d.l.length m)):∀c e,(cl (d,a,m))[c]?=some e->w.cell? ⟨n,c,none⟩=some e:=λc e b=>by
 match c,b with
 | 0,b=>simp[cl] at b;subst b;exact f
 | 1,b=>simp[cl] at b;subst b;exact g
 | 2,b=>simp[cl] at b;subst b;exact i
 | c+3,b=>simp[cl] at b
theorem k1:∀(V8:Nat) (s:Ex),s.size<=V8->pR s->s.fin->∀(WF:Option Addr) (Xl:Nat) (a:World),Ex.all a WF s.args->GT a->Calls prog 39 #[s.val WF Xl] a (h5 (fS s) a):=by
 intro V8;induction V8 with
 | zero=>intro s h;exact absurd h (by rw[Ex.am];omega)
 | succ V8 N=>
 intro s T p t VY Wc a P D;obtain⟨Xz,Wr⟩:=al (h5 (fS s) a);rw[<-Wr];have VX:=VV Wr;clear Wr;obtain⟨e,n,b,f⟩:=s;rw[pR] at p;rw[Ex.fin] at t;obtain⟨c,d⟩:=bq ((a.alloc (.cells #[.int .i64 e,.int .i64 n,.int .i64 b.k,.int .i64 b.n,.string b.s,.slice VY f.length Wc] 72)).alloc (.cells #[.bool false,.string ⟨#[]⟩,.slice none 0 0] 46));have G:Bw a c:=by rw[<-d];exact ae (ae aN _) _
 have X:=VV G;have S:RC c (a.heap.size+1):=by rw[<-d];have:=RC.new (a.alloc (.cells #[.int .i64 e,.int .i64 n,.int .i64 b.k,.int .i64 b.n,.string b.s,.slice VY f.length Wc] 72));simpa using this
 have Z:=VV S;have R:a.heap.size+1<c.heap.size:=by rw[<-d];simp
 have Y:=VV R;have WH:c.cell? ⟨a.heap.size,0,none⟩=some (.int .i64 e):=by rw[<-d];simp[go_sem]
 have Xn:c.cell? ⟨a.heap.size,1,none⟩=some (.int .i64 n):=by rw[<-d];simp[go_sem]
 have w:c.cell? ⟨a.heap.size,2,none⟩=some (.int .i64 b.k):=by rw[<-d];simp[go_sem]
 have Wa:c.cell? ⟨a.heap.size,3,none⟩=some (.int .i64 b.n):=by rw[<-d];simp[go_sem]
 have Xo:c.cell? ⟨a.heap.size,4,none⟩=some (.string b.s):=by rw[<-d];simp[go_sem]
 have Wb:c.cell? ⟨a.heap.size,5,none⟩=some (.slice VY f.length Wc):=by rw[<-d];simp[go_sem]
 rw[Ex.ad];show Calls prog 39 #[.agg #[.int .i64 e,.int .i64 n,.int .i64 b.k,.int .i64 b.n,.string b.s,.slice VY f.length Wc]] a _;by_cases C:e=1
 .subst C;have j:Hid (fS (.mk 1 n b f)=bz (bs (35::Lib.itoa n))):=by show _=_;rw[fS];simp
  have r:=VV (dv n t.1.2.2.2 c (D.aa G));have WS:=dj t.1.2.2.2;obtain⟨o,E⟩:=al (Lib.itoa n);rw[<-E] at r WS j;have XC:(⟨#[35]⟩:ByteArray)++bs o=bs (35::o):=by rw[show (⟨#[35]⟩:ByteArray)=bs [35] from rfl,eg];rfl
  have V:¬9223372036854775807<1+(bs o).size:=by rw[bx];omega
  have u:=VV d;clear G D t p P d N T R S E WS;go_enter func39,ntmps39;go_upto_region 1 with fail;rw[U u]
  go_wp2_with (first
   | (go_at_call 29;refine(U r).mono ?_;rintro J V1 ⟨rfl,F⟩;have K:=VV F;clear F)
   | (go_at_call 41;refine(bI _ _).mono ?_;rintro J V2 ⟨rfl,k⟩;have i:=VV (ac (U K) k);obtain⟨y,z,A,We,Wf,Wg⟩:=(U Z).aa (U i) (U Y);clear k))
  have x:=bT (ac (U X) (U i)) (Nat.le_succ a.heap.size) (.bool false) (.string (bs (35::o))) (.slice none 0 0);refine aM (v:=.agg #[.bool false,.string (bs (35::o)),.slice none 0 0]) (by simp[results,results39,go_sem,y,z,A]) rfl ?_;rw[U VX];exact⟨none,0,by rw[U j];rfl,by rw[U j];show Nt.aj _ _ _ [];rw[Nt.aj];trivial,x⟩
 by_cases Wo:e=2
 .subst Wo;by_cases V:b.k=1
  ·(have j:Hid (fS (.mk 2 n b f)=bz (bs (Lib.itoa b.n))):=by show _=_;rw[fS];simp[gY,V]);have r:=VV (ew b.n t.1.2.2.1 c (D.aa G));obtain⟨o,E⟩:=al (Lib.itoa b.n);rw[<-E] at r j;rw[V] at w d ⊢;have u:=VV d;clear G D t p P d N T R S E V C;go_enter func39,ntmps39;go_upto_region 1 with fail;rw[U u]
   go_wp2_with (first
    | (go_at_call 84;refine(U r).mono ?_;rintro J V1 ⟨rfl,F⟩;have K:=VV F;clear F)
    | (go_at_call 41;refine(bI _ _).mono ?_;rintro J V2 ⟨rfl,k⟩;have i:=VV (ac (U K) k);obtain⟨y,z,A,We,Wf,Wg⟩:=(U Z).aa (U i) (U Y);clear k))
   have x:=bT (ac (U X) (U i)) (Nat.le_succ a.heap.size) (.bool false) (.string (bs o)) (.slice none 0 0);refine aM (v:=.agg #[.bool false,.string (bs o),.slice none 0 0]) (by simp[results,results39,go_sem,y,z,A]) rfl ?_;rw[U VX];exact⟨none,0,by rw[U j];rfl,by rw[U j];show Nt.aj _ _ _ [];rw[Nt.aj];trivial,x⟩
  by_cases V0:b.k=2
  ·(have j:Hid (fS (.mk 2 n b f)=bz (bs (fV b.s.data.toList))):=by show _=_;rw[fS];simp[gY,V0]);have r:=VV (iA b.s (aQ (p.2.1 rfl V0) (by decide)) c);obtain⟨o,E⟩:=al (fV b.s.data.toList);rw[<-E] at r j;rw[V0] at w d ⊢;have u:=VV d;clear G D t p P d N T R S E V0 V C;go_enter func39,ntmps39;go_upto_region 1 with fail;rw[U u]
   go_wp2_with (first
    | (go_at_call 85;refine(U r).mono ?_;rintro J V1 ⟨rfl,F⟩;have K:=VV F;clear F)
    | (go_at_call 41;refine(bI _ _).mono ?_;rintro J V2 ⟨rfl,k⟩;have i:=VV (ac (U K) k);obtain⟨y,z,A,We,Wf,Wg⟩:=(U Z).aa (U i) (U Y);clear k))
   have x:=bT (ac (U X) (U i)) (Nat.le_succ a.heap.size) (.bool false) (.string (bs o)) (.slice none 0 0);refine aM (v:=.agg #[.bool false,.string (bs o),.slice none 0 0]) (by simp[results,results39,go_sem,y,z,A]) rfl ?_;rw[U VX];exact⟨none,0,by rw[U j];rfl,by rw[U j];show Nt.aj _ _ _ [];rw[Nt.aj];trivial,x⟩
  have j:Hid (fS (.mk 2 n b f)=bz (bs n3)):=by show _=_;rw[fS];simp[gY,V,V0]
  have K:=VV (ar c.heap.size c);unfold n3 bs at j;have u:=VV d;clear G D t p P d N T R S C;go_enter func39,ntmps39;go_upto_region 1 with fail;rw[U u]
  go_wp2_with (first
   | (go_at_call 41;refine(bI _ _).mono ?_;rintro J V2 ⟨rfl,k⟩;have i:=VV (ac (U K) k);obtain⟨y,z,A,We,Wf,Wg⟩:=(U Z).aa (U i) (U Y);clear k))
  have x:=bT (ac (U X) (U i)) (Nat.le_succ a.heap.size) (.bool false) (.string ⟨#[110,117,108,108]⟩) (.slice none 0 0);refine aM (v:=.agg #[.bool false,.string ⟨#[110,117,108,108]⟩,.slice none 0 0]) (by simp[results,results39,go_sem,y,z,A]) rfl ?_;rw[U VX];exact⟨none,0,by rw[U j];rfl,by rw[U j];show Nt.aj _ _ _ [];rw[Nt.aj];trivial,x⟩
 have XI:3<=e/\e<=21:=by have:=p.1;omega
 obtain⟨q,WT⟩:∃q:Nat,e=(q:Int)+3:=⟨(e-3).toNat,by omega⟩;have XF:q<19:=by omega
 have j:Hid (fS (.mk e n b f)=cY (bz (bs (VO bV (e-2)))::f.map fS)):=by show _=_;rw[fS,ll];simp[C,Wo]
 obtain⟨B,Wp⟩:=al (VO bV (e-2));have WJ:bV[q]?=some B:=by have XH:=d5;rw[Wp];unfold VO;rw[show (e-2-1).toNat=q by omega,fC,ba (by omega)];rfl
 rw[<-Wp] at j;obtain⟨W,Wv⟩:=al f.length;have Xw:f.length<=3:=by have:=(jB (op:=e) (by have:=p.2.2.1;omega)).2.2;have:=p.2.2.1;omega
 have Wl:=VV Wv;rw[<-Wv] at Wb d Xw ⊢;have r:=VV λ(VZ:Nat) (g:Ex) (M:f[VZ]?=some g) (O:Option Addr) (w:Nat) (V9:World) (Xs:Ex.all a O g.args) (WI:Bw a V9)=>by have Wt:=a8 M;have XK:=Ex.an Wt;rw[Ex.size] at T;exact N g (by omega) (eB p.2.2.2 Wt) (Ex.ag t.2 Wt) O w V9 (Ex.ab _ Xs WI) (D.aa WI)
 have Wy:=VV (show Ex.all a VY f from P);have Xk:=VV WJ;have WB:Hid (Bw c c.drew):=(aN).drew;have V6:Hid (c.drew.cell? ⟨a.heap.size,0,none⟩=some (.int .i64 e)):=aG WH (U WB);have Xj:=VV (fw c.drew);have Xa:=VV Wb;have u:=VV d;have Xc:=VV WT;have XE:(q:Int)<19:=by omega
 clear G D t p P d N T R S Wp WJ Wv WT;go_enter func39,ntmps39;go_upto_region 1 with fail;rw[U u];go_upto_region 11 with fail;clear WH Xn w Wa Xo Wb C Wo;refine VR (λV9:World=>V9.cell? ⟨a.heap.size,0,none⟩=some (.int .i64 e)) 8 ?_;refine ai 1 (.pointer (some ⟨a.heap.size,0,none⟩)) rfl (U V6) ?_;refine ai 2 (.int .i64 e) rfl (U V6) ?_;refine ai 3 (.int .i64 (q:Int)) rfl (U V6) ?_ λXy Xt=>by go_simp;rw[show e-3=(q:Int) by have:=U Xc;omega,ms _ (by omega)]
 refine ap 0 rfl λv m=>?_;go_simp;refine(U Xj).mono ?_;rintro _ V1 ⟨rfl,WR,L⟩;have W8:=VV (ac (U WB) L);have Xb:=VV (WR q B (U Xk));have V7:Hid (V1.cell? ⟨a.heap.size,0,none⟩=some (.int .i64 e)):=aG (U V6) L;clear WR L;go_simp;refine aO m (U V7) ?_;clear m v;refine ai 4 (.pointer (some ⟨c.heap.size,q,none⟩)) rfl (U V7) ?_ λXy Xt=>by go_simp
 refine ap 5 rfl λv m=>?_;have Xv:V1.cell? ⟨c.heap.size,q,none⟩=some (.string (bs B)):=U Xb;go_simp;refine aO m (U V7) ?_;clear m v Xv;refine ap 6 rfl λv m=>?_;go_simp;refine(bI _ _).mono ?_;rintro _ Ww ⟨rfl,L⟩;have WA:=VV (ac (U W8) L);have WC:Hid (Ww.cell? ⟨a.heap.size,0,none⟩=some (.int .i64 e)):=aG (U V7) L;clear L;go_simp;refine aO m (U WC) ?_;clear m v;refine ap 7 rfl λv m=>?_;go_simp;refine aO m (aG (U WC) (ae aN _)) ?_;clear m v;refine ap 8 rfl λv m=>?_;go_simp;refine aS m ?_;clear m v;refine bh ?_;have Q:=ae (ar _ Ww) (.cells #[.bool false,.string (bs B),.slice none 0 0] 46);have Wi:=VV (ac (U WA) Q);have Xi:=VV (NL.lit Ww (bs B) c.heap.size (U WA).size);have Wb:=aG (U Xa) (U Wi);clear Q;go_wp2;generalize WO:c.heap.size=base at *;have V4:=VV (show a.heap.size+1<base from U Y);have WV:a.heap.size<=base:=by have:=U V4;omega
 have Xf:=VV WV;have WD:Hid (base=c.heap.size):=WO.symm;clear WO WV;go_loopw[3,46] (λW4 VZ Wx=>∃(l:Nat),l<=W/\VZ=.int .i64 l/\Hid (NL Wx base W4 (bz (bs B)::(f.take l).map fS))/\Hid (Below base c Wx)) (λW4 VZ Wx=>W-(intOf VZ).toNat);case atStart=>exact⟨0,bf,rfl,Xi,by first|exact Wi | (rw[U WD];exact Wi)⟩
 case round=>
  obtain⟨l,XG,rfl,Wk,V3⟩:=hrel;have Wj:Hid (Bw a wr):=(U X).trans ((U V3).mono (U Xf));have VW:Hid (base<=wr.heap.size):=by have:=(U V3).size;rw[<-U WD] at this;exact this
  by_cases C:l<W
  ·(have Xx:(l:Int)<(W:Int):=by omega);obtain⟨g,M⟩:∃g,f[l]?=some g:=⟨_,ba (by rw[<-U Wl];exact C)⟩;have WE:=VV (em fS M);(have Xg:Hid ((bz (bs B)::(f.take l).map fS).length+1<=1099511627776):=by show _<=_;rw[a1,VP,List.length_take,<-U Wl];omega);obtain⟨XA,XL,Wn,Xu⟩:=Ex.all_get (Ex.ab _ (U Wy) (U Wj)) M;obtain⟨XB,XM,Wd,WM⟩:=Ex.all_get (U Wy) M;obtain⟨O,w,⟨WY,WZ,W0,W1,W2,W3⟩,WK⟩:=Ex.ao WM;rw[Wn] at Wd;injection Wd with Wd;injection Wd with Xp Xq;subst Xp Xq;have I:=U Wj;replace WY:=aG WY I;replace WZ:=aG WZ I;replace W0:=aG W0 I;replace W1:=aG W1 I;replace W2:=aG W2 I;replace W3:=aG W3 I;have V5:=VV (U r l g M O w (wr.alloc (.cells #[.int .i64 g.op,.int .i64 g.n,.int .i64 g.v.k,.int .i64 g.v.n,.string g.v.s,.slice O g.args.length w] 72)) WK (ac I (ae aN _)));have Wz:=VV (ae (ar _ wr) (.cells #[.int .i64 g.op,.int .i64 g.n,.int .i64 g.v.k,.int .i64 g.v.n,.string g.v.s,.slice O g.args.length w] 72));unfold h5 at V5;rw[Ex.ad] at V5;obtain⟨Wh,WW⟩:=al (fS g);rw[<-WW] at V5 WE;rw[Wn];clear Wn Xu WM WK M WW I
   go_wp2_with (first
    | (go_at_call 39;refine(U V5).mono ?_;rintro J W5 ⟨WG,Wa,rfl,WL,WP⟩;rw[Nt.ad];have Q:=ae (ar _ W5) (.cells #[.bool Wh.b,.string Wh.s,.slice WG Wh.l.length Wa] 46);have W6:=VV ((U Wk).fresh (U VW) WL (U Wz).size Q);have i:=VV (ac (ac (U Wz) WP) Q);have Xd:=VV ((U Wk).aa (U i));clear WP Q WL)
    | (refine cM _ rfl (.tmp 50) (.tmp 53) rfl base u3 _ (Wh,WG,Wa) W5.heap.size rfl (U Xd) rfl (U W6) (eJ (by simp[go_sem]) (by simp[go_sem]) (by simp[go_sem])) (U Xg) (aQ (U VW) (U i).size) ?_;intro XN XO WU WQ;have Xe:=VV WU;have W9:=VV ((U V3).trans (((U i).mono (U VW)).trans WQ));clear WU WQ))
   go_roundw;(case rel=>exact⟨l+1,by omega,by go_num,(by rw[U WE];exact Xe),W9⟩);case measure=>simp[intOf]<;>omega
  ·(have Xx:¬(l:Int)<(W:Int):=by omega);(have Xr:l=W:=by omega);have Wq:=U Wk;rw[show (f.take l).map fS=f.map fS by rw[Xr,U Wl,gJ]] at Wq;obtain⟨Wm,cv,rfl,WN⟩:=Wq.node;have W7:=VV WN;obtain⟨WX,Wu⟩:=al ((bz (bs B)::f.map fS).length);have Xh:=VV Wu;rw[<-Wu];clear Wq WN Wu;go_wp2_with (go_at_call 42;refine(cc _ _ _ _).mono ?_;rintro J V2 ⟨rfl,k⟩;obtain⟨y,z,A,We,Wf,Wg⟩:=((U Z).aa (U V3) (U V4)).aa k (be (U V4) (U VW));have i:=VV k;clear k);have XJ:=U VW;have XD:=U V4;have x:=bT (ac (U Wj) (U i)) (Nat.le_succ a.heap.size) (.bool true) (.string ⟨#[]⟩) (.slice Wm WX cv);refine aM (v:=.agg #[.bool true,.string ⟨#[]⟩,.slice Wm WX cv]) (by simp[results,results39,go_sem,y,z,A]) rfl ?_;rw[U VX];refine⟨Wm,cv,?_,?_,x⟩;(.rw[U j,kW,U Xh]);.rw[U j];refine Nt.ak (d4 V2 (a.heap.size+1) _ _ _) (λl Ws=>⟨by omega,be Ws.2 (by simp)⟩) _ (Nt.aq (Nt.au (U W7) (U i)) λl Ws=>⟨by omega,be Ws.2 (U i).size⟩)
def qB(a:Int×Bool):Nt:=if a.2 then cY [bz (bs cy),dS a.1] else dS a.1
def cR(a:List (Int×Bool)):Nt:=cY (a.map qB)
theorem hC(a:Int):gQ (dS a)=Lib.itoa a:=fW _
theorem lE(a:List Int):gQ (cO a)=fJ a:=by unfold cO fJ;rw[eX,List.map_map];congr 1
theorem sg(a:Int×Bool):gQ (qB a)=eY a:=by
 unfold qB eY;split;.rw[eX,bi,bi,List.map_nil,fW,hC]
 .rw[hC]
theorem lF(a:List (Int×Bool)):gQ (cR a)=VU (a.map eY):=by unfold cR;rw[eX,List.map_map];congr 1;exact List.map_congr_left λb _=>sg b
theorem eC(c:Int)(p:b2 c)(a:World)(k:GT a):Calls prog 40 #[.int .i64 c] a λf x=>f=.returned (.agg #[.bool false,.string (bs (Lib.itoa c)),.slice none 0 0])/\Bw a x:=by
 obtain⟨d,b⟩:=bq (a.alloc (.cells #[.bool false,.string ⟨#[]⟩,.slice none 0 0] 46));have e:Bw a d:=by rw[<-b];exact ae aN _
 have q:=VV e;have o:RC d a.heap.size:=by rw[<-b];exact RC.new a
 have t:=VV o;have s:Hid (a.heap.size<d.heap.size):=by show _<_;rw[<-b];simp
 have i:=VV (dv c p d (k.aa e));obtain⟨j,l⟩:=al (Lib.itoa c);rw[<-l] at i ⊢;have u:=VV b;clear e k b o l p;go_enter func40,ntmps40;go_upto_region 1 with fail;rw[U u]
 go_wp2_with (first
  | (go_at_call 29;refine(U i).mono ?_;rintro f E ⟨rfl,m⟩;have r:=VV m;clear m)
  | (go_at_call 41;refine(bI _ _).mono ?_;rintro f F ⟨rfl,n⟩;have g:=VV (ac (U r) n);obtain⟨y,z,A,B,C,D⟩:=(U t).aa (U g) (U s);clear n))
 have w:=bT (ac (U q) (U g)) (Nat.le_refl a.heap.size) (.bool false) (.string (bs j)) (.slice none 0 0);exact aM (v:=.agg #[.bool false,.string (bs j),.slice none 0 0]) (by simp[results,results40,go_sem,y,z,A]) rfl ⟨rfl,w⟩
theorem NL.two(c:World)(a b:ByteArray)(base:Nat)(f:base<=c.heap.size):NL (c.alloc (.cells #[.bool false,.string a,.slice none 0 0,.bool false,.string b,.slice none 0 0] 46)) base (.slice (some ⟨c.heap.size,0,none⟩) 2 2) [bz a,bz b]:=by have h:=World.ownsRow_lit (base:=base) (e:=46) (size:=3) c #[.bool false,.string a,.slice none 0 0,.bool false,.string b,.slice none 0 0] 2 f (by unfold maxLen;omega) rfl;exact⟨[(bz a,none,0),(bz b,none,0)],rfl,h,λg d=>by simp only[List.mem_cons,List.not_mem_nil,or_false] at d;rcases d with rfl|rfl<;>(show Nt.aj _ _ none [];rw[Nt.aj];trivial)⟩
theorem hQ(g:List (Int×Bool))(Xe:g.length<=1048576)(Ww:∀j∈g,b2 j.1)(Wr:Option Addr)(W2:Nat)(f:World)(Wy:cL f Wr g)(Wx:GT f):Calls prog 45 #[.slice Wr g.length W2] f (h5 (cR g) f):=by
 obtain⟨z,Wc⟩:=al g.length;rw[<-Wc] at Xe ⊢;have V5:=VV Wc;have WK:=VV Wy;have WJ:=VV λ(L:Nat) j (o:g[L]?=some j)=>Ww j (a8 o);have WR:=VV λ(j:Int) (o:b2 j) (x:World) (W9:Bw f x)=>dv j o x (Wx.aa W9);obtain⟨Xq,Wa⟩:=al (h5 (cR g) f);have W0:=VV Wa;rw[<-Wa];obtain⟨l,J⟩:=bq (f.alloc (.cells #[.bool false,.string ⟨#[]⟩,.slice none 0 0] 46));have WD:Bw f l:=by rw[<-J];exact ae aN _
 have WO:=VV WD;have WZ:Hid (RC l f.heap.size):=by show RC _ _;rw[<-J];exact RC.new f
 have V3:Hid (f.heap.size<l.heap.size):=by show _<_;rw[<-J];simp
 have W1:=VV J;have WM:=VV (ar l.heap.size l);clear Wc Wy Ww Wx Wa WD J;go_enter func45,ntmps45;go_upto_region 1 with fail;rw[U W1];go_wp2;go_loopw[3,9] (λM L Wf=>∃(c:Nat),c<=z/\L=.int .i64 c/\Hid (NL Wf l.heap.size M ((g.take c).map qB))/\Hid (Bw l Wf)) (λM L Wf=>z-(intOf L).toNat);case atStart=>exact⟨0,bf,rfl,NL.nil _ _,WM⟩
 case round=>
  obtain⟨c,Xt,rfl,T,D⟩:=hrel;have V1:Hid (Bw f wr):=ac (U WO) (U D);have q:Hid (l.heap.size<=wr.heap.size):=(U D).size;by_cases W6:c<z
  .have Xi:(c:Int)<(z:Int):=by omega
   obtain⟨j,o⟩:∃j,g[c]?=some j:=⟨_,ba (by rw[<-U V5];exact W6)⟩
   have Wo:=VV (em qB o)
   have Wm:Hid (((g.take c).map qB).length+1<=1099511627776):=by show _<=_;rw[VP,List.length_take,<-U V5];omega
   obtain⟨Ws,Xw,V,Xk,Xl⟩:=((U WK).aa (U V1)).get o
   have I:=U WR j.1 (U WJ c j o)
   obtain⟨v,N⟩:=j
   simp only at Xk Xl I
   obtain⟨b,W⟩:=al (Lib.itoa v)
   rw[<-W] at I
   have Wl:=VV (I (wr.alloc (.cells #[.int .i64 v,.bool N] 82)) (ac (U V1) (ae aN _)))
   have Wh:=VV (ae (ar _ wr) (.cells #[.int .i64 v,.bool N] 82))
   have Wp:Hid ((wr.alloc (.cells #[.int .i64 v,.bool N] 82)).cell? ⟨wr.heap.size,1,none⟩=some (.bool N)):=by show _=_;simp[go_sem]
   have Y:dS v=bz (bs b):=by rw[W];rfl
   cases N with
   | false=>
    have V4:Hid (qB (v,false)=bz (bs b)):=by show _=_;rw[<-Y];rfl
    rw[V]
    clear V o W I Y
    go_wp2_with (first
     | (go_at_call 29;refine(U Wl).mono ?_;rintro VY Xn ⟨rfl,t⟩;have V0:=VV (ac (U Wh) t);have V7:=VV (aG (U Wp) t);clear t)
     | (go_at_call 41;refine(bI _ _).mono ?_;rintro VY e ⟨rfl,u⟩;have i:=ae (ae (ar _ e) (.cells #[.bool false,.string (bs b),.slice none 0 0] 46)) (.cells #[.bool false,.string (bs b),.slice none 0 0] 46);have w:=VV (ac (ac (U V0) u) i);have WU:=VV ((U T).aa (U w));have Wg:=aG (aG (U V7) u) (ae (ar _ e) (.cells #[.bool false,.string (bs b),.slice none 0 0] 46));clear u i)
     | (refine cM _ rfl (.tmp 23) (.tmp 25) rfl l.heap.size u3 _ (bz (bs b),none,0) (e.heap.size+1) rfl (U WU) (by simp[Act.eval,go_sem]) (by show Nt.aj _ _ none [];rw[Nt.aj];trivial) (gM (by simp[go_sem]) (by simp[go_sem]) (by simp[go_sem])) (U Wm) (aQ (U q) (U w).size) ?_;intro XB d WG WC;have WV:=VV WG;have O:=VV ((U D).trans (((U w).mono (U q)).trans WC));clear WG WC))
    go_roundw
    case rel=>exact⟨c+1,by omega,by go_num,(by rw[U Wo,U V4];exact WV),O⟩
    case measure=>simp[intOf]<;>omega
   | true=>
    have V4:Hid (qB (v,true)=cY [bz (bs cy),bz (bs b)]):=by show _=_;rw[<-Y];rfl
    rw[V]
    clear V o W I Y
    go_upto_region 7 with (first
     | (go_at_call 29;refine(U Wl).mono ?_;rintro VY Xn ⟨rfl,t⟩;have V0:=VV (ac (U Wh) t);have V7:=VV (aG (U Wp) t);clear t)
     | (go_at_call 41;refine(bI _ _).mono ?_;rintro VY e ⟨rfl,u⟩;have Wi:=VV (ac (U V0) u);have Wg:=aG (aG (U V7) u) (ae (ar _ e) (.cells #[.bool false,.string (bs b),.slice none 0 0] 46));clear u))
    have Z:(e.alloc (.cells #[.bool false,.string (bs b),.slice none 0 0] 46)).heap.size=e.heap.size+1:=by simp
    have We:=(U Wi).size
    have WE:=ae (ar _ e) (.cells #[.bool false,.string (bs b),.slice none 0 0] 46)
    have VW:(e.alloc (.cells #[.bool false,.string (bs b),.slice none 0 0] 46)).cell? ⟨e.heap.size,0,none⟩=some (.bool false):=by simp[go_sem]
    have p1:(e.alloc (.cells #[.bool false,.string (bs b),.slice none 0 0] 46)).cell? ⟨e.heap.size,1,none⟩=some (.string (bs b)):=by simp[go_sem]
    have p2:(e.alloc (.cells #[.bool false,.string (bs b),.slice none 0 0] 46)).cell? ⟨e.heap.size,2,none⟩=some (.slice none 0 0):=by simp[go_sem]
    have VX:∀WH,(e.alloc (.cells #[.bool false,.string (bs b),.slice none 0 0] 46)).frozen? ⟨e.heap.size,WH,none⟩=false:=λWH=>by simp[go_sem]
    obtain⟨a,K⟩:=al e.heap.size
    have w:=VV (ac (U Wi) WE)
    rw[<-K] at Z VW p1 p2 VX We ⊢
    generalize Xa:e.alloc (.cells #[.bool false,.string (bs b),.slice none 0 0] 46)=s at Z VW p1 p2 VX Wg w ⊢
    have Q:Hid (Bw s s.drew):=(aN).drew
    have P:Hid (s.drew.cell? ⟨a,0,none⟩=some (.bool false)/\s.drew.cell? ⟨a,1,none⟩=some (.string (bs b))/\s.drew.cell? ⟨a,2,none⟩=some (.slice none 0 0)):=⟨aG VW (U Q),aG p1 (U Q),aG p2 (U Q)⟩
    have V6:=VV VX
    have Wn:=VV Z
    have WQ:=VV We
    clear WE Xa VW p1 p2 VX Wg Z K We
    refine VR (λx:World=>x.cell? ⟨a,0,none⟩=some (.bool false)/\x.cell? ⟨a,1,none⟩=some (.string (bs b))/\x.cell? ⟨a,2,none⟩=some (.slice none 0 0)) 2 ?_
    refine ai 1 (.agg #[.bool false,.string (bs b),.slice none 0 0]) rfl (U P) ?_ λXC W8=>by obtain⟨Xx,Xy,Xz⟩:=W8;go_simp
    refine ap 0 rfl λr m=>?_
    go_simp
    refine(bI _ _).mono ?_
    rintro _ d ⟨rfl,k⟩
    have O:=VV (ac (U Q) k)
    have R:Hid (d.cell? ⟨a,0,none⟩=some (.bool false)/\d.cell? ⟨a,1,none⟩=some (.string (bs b))/\d.cell? ⟨a,2,none⟩=some (.slice none 0 0)):=⟨aG (U P).1 k,aG (U P).2.1 k,aG (U P).2.2 k⟩
    clear k
    go_simp
    refine aO m (U R) ?_
    clear m r
    refine ap 2 rfl λr m=>?_
    go_simp
    refine aS m ?_
    clear m r
    have i:=ae (ar _ d) (.cells #[.bool false,.string ⟨#[100,101,115,99]⟩,.slice none 0 0,.bool false,.string (bs b),.slice none 0 0] 46)
    have WW:=VV (NL.two d ⟨#[100,101,115,99]⟩ (bs b) d.heap.size aV)
    have E:=VV (ac (U O) i)
    have V2:Hid (_/\_/\_):=⟨aG (U R).1 i,aG (U R).2.1 i,aG (U R).2.2 i⟩
    have Xp:=VV i.size
    clear i
    refine ap 3 rfl λr m=>?_
    go_simp
    refine(cc _ _ _ _).mono ?_
    rintro _ n ⟨rfl,k⟩
    have F:=VV (ac (U E) k)
    have A:=aG (U V2).1 k
    have B:=aG (U V2).2.1 k
    have C:=aG (U V2).2.2 k
    have WX:=VV ((U WW).aa k)
    clear k
    have X:a<s.heap.size:=by rw[U Wn];exact Nat.lt_succ_self _
    have Wt:n.frozen? ⟨a,0,none⟩=false:=by rw[(U F).frozen (p:=⟨a,0,none⟩) X];exact U V6 0
    have Wu:n.frozen? ⟨a,1,none⟩=false:=by rw[(U F).frozen (p:=⟨a,1,none⟩) X];exact U V6 1
    have Wv:n.frozen? ⟨a,2,none⟩=false:=by rw[(U F).frozen (p:=⟨a,2,none⟩) X];exact U V6 2
    go_simp
    refine aS m ?_
    clear m r
    refine ap 4 rfl λr m=>?_
    go_simp
    refine aS m ?_
    clear m r
    refine bh ?_
    have K:wr.heap.size<=a:=U WQ
    have Xg:=(U O).size
    have Xh:=(U F).size
    have Xf:=U Wn
    have Wj:=VV (bT (ac (U w) (U F)) K (.bool true) (.string ⟨#[]⟩) (.slice (some ⟨d.heap.size,0,none⟩) 2 2))
    have W3:(((n.setCell ⟨a,0,none⟩ (.bool true)).setCell ⟨a,1,none⟩ (.string ⟨#[]⟩)).setCell ⟨a,2,none⟩ (.slice (some ⟨d.heap.size,0,none⟩) 2 2)).cell? ⟨a,0,none⟩=some (.bool true):=by simp[go_sem,A,B,C]
    have W4:(((n.setCell ⟨a,0,none⟩ (.bool true)).setCell ⟨a,1,none⟩ (.string ⟨#[]⟩)).setCell ⟨a,2,none⟩ (.slice (some ⟨d.heap.size,0,none⟩) 2 2)).cell? ⟨a,1,none⟩=some (.string ⟨#[]⟩):=by simp[go_sem,A,B,C]
    have W5:(((n.setCell ⟨a,0,none⟩ (.bool true)).setCell ⟨a,1,none⟩ (.string ⟨#[]⟩)).setCell ⟨a,2,none⟩ (.slice (some ⟨d.heap.size,0,none⟩) 2 2)).cell? ⟨a,2,none⟩=some (.slice (some ⟨d.heap.size,0,none⟩) 2 2):=by simp[go_sem,A,B,C]
    obtain⟨Xr,Xs,G,Wz⟩:=(U WX).node
    injection G with G
    subst G
    have Wk:Hid (Nt.aj (λc=>d.heap.size<=c/\c<(((n.setCell ⟨a,0,none⟩ (.bool true)).setCell ⟨a,1,none⟩ (.string ⟨#[]⟩)).setCell ⟨a,2,none⟩ (.slice (some ⟨d.heap.size,0,none⟩) 2 2)).heap.size) (((n.setCell ⟨a,0,none⟩ (.bool true)).setCell ⟨a,1,none⟩ (.string ⟨#[]⟩)).setCell ⟨a,2,none⟩ (.slice (some ⟨d.heap.size,0,none⟩) 2 2)) (some ⟨d.heap.size,0,none⟩) [bz ⟨#[100,101,115,99]⟩,bz (bs b)]):=
     Nt.ak (S:=λc=>d.heap.size<=c/\c<n.heap.size) (λWs Xj M W7 Xd=>d4 n a _ _ _ Ws Xj M ⟨by omega,W7.2⟩ Xd) (λc y=>⟨y.1,be y.2 (by simp)⟩) _ Wz
    generalize Xb:((n.setCell ⟨a,0,none⟩ (.bool true)).setCell ⟨a,1,none⟩ (.string ⟨#[]⟩)).setCell ⟨a,2,none⟩ (.slice (some ⟨d.heap.size,0,none⟩) 2 2)=Wq at Wj W3 W4 W5 Wk ⊢
    have i:=ae (ar _ Wq) (.cells #[.bool true,.string ⟨#[]⟩,.slice (some ⟨d.heap.size,0,none⟩) 2 2] 46)
    have WP:=VV ((U T).fresh (U q) (U Wk) (by omega) i)
    have VZ:=VV (ac (U Wj) i)
    have WS:=VV ((U T).aa (U VZ))
    clear Xb i Wz A B C Wt Wu Wv X K Xg Xh Xf
    go_wp2_with (first
     | (refine cM _ rfl (.tmp 23) (.tmp 25) rfl l.heap.size u3 _ (cY [bz ⟨#[100,101,115,99]⟩,bz (bs b)],some ⟨d.heap.size,0,none⟩,2) Wq.heap.size rfl (U WS) (by simp[Act.eval,go_sem]) (U WP) (eJ (by simp[go_sem,cY,Nt.b]) (by simp[go_sem,cY,Nt.s]) (by simp[go_sem,cY,Nt.l])) (U Wm) (aQ (U q) (U VZ).size) ?_;intro XA XD WF WB;have WT:=VV WF;have WN:=VV ((U D).trans (((U VZ).mono (U q)).trans WB));clear WF WB))
    go_roundw
    case rel=>exact⟨c+1,by omega,by go_num,(by rw[U Wo,U V4];exact WT),WN⟩
    case measure=>simp[intOf]<;>omega
  ·(have Xi:¬(c:Int)<(z:Int):=by omega);(have G:c=z:=by omega);have V9:=U T;rw[show (g.take c).map qB=g.map qB by rw[G,U V5,gJ]] at V9;obtain⟨V8,cv,rfl,WA⟩:=V9.node;have WL:=VV WA;obtain⟨WI,Wd⟩:=al ((g.map qB).length);have WY:=VV Wd;rw[<-Wd];clear V9 WA Wd;go_wp2_with (go_at_call 42;refine(cc _ _ _ _).mono ?_;rintro VY Xo ⟨rfl,Wb⟩;obtain⟨A,B,C,Wt,Wu,Wv⟩:=((U WZ).aa (U D) (U V3)).aa Wb (be (U V3) (U q));have E:=VV Wb;clear Wb);have Xv:=U q;have Xu:=U V3;have Xc:=bT (ac (U V1) (U E)) (Nat.le_refl f.heap.size) (.bool true) (.string ⟨#[]⟩) (.slice V8 WI cv);refine aM (v:=.agg #[.bool true,.string ⟨#[]⟩,.slice V8 WI cv]) (by simp[results,results45,go_sem,A,B,C]) rfl ?_;rw[U W0];refine⟨V8,cv,?_,?_,Xc⟩;(.unfold cR;rw[kW,U WY]);.refine Nt.ak (d4 Xo f.heap.size _ _ _) (λc y=>⟨by omega,be y.2 (by simp)⟩) _ (Nt.aq (Nt.au (U WL) (U E)) λc y=>⟨by omega,be y.2 (U E).size⟩)
end Go.Proofs.YtabmgpillccfaaaGreatDoor
