import Derived.Test.YtklgoolblpmmlaaGreatGrF
set_option linter.all false
set_option maxHeartbeats 4000000
set_option maxRecDepth 100000
namespace Go.Proofs.YtklgoolblpmmlaaGreat
open Go.RowKit Go.Sort Go.Lib Go.Proofs.Tryz
structure Uv(w0:World)(gx mb:Nat)(p:Pl)(m:Pm)(l:List (List aH×List (List aH)))(n i0:Nat)(r:List aH)(v:Value)(cs:List Value)(gb:List Nat)(a0:Nat)(O:Nat->Prop)(mp:Nat->Nat->Option Nat)(W:World):Prop where
 e:dL W gx 0 p m
 c11:W.cell? ⟨gx,11,none⟩=some v
 o:W.ownsRow 0 245 2 v l.length (yW cs gb p.aggs.length)
 lc:cs.length=l.length
 lg:gb.length=l.length
 c:∀(i:Nat) (c:Value) q,cs[i]?=some c->l[i]?=some q->dx W 0 c q.1
 tb:∀b∈gb,Tg 270 W b
 g:∀(i:Nat) (b:Nat) q,gb[i]?=some b->l[i]?=some q->∀(a:Nat) f,p.aggs[a]?=some f->hJ W b (a*8) f.1 (g2 f.2 (if i=i0/\a<a0 then q.2++[r] else q.2)) (mp i a)
 dc:∀(i j:Nat) (u u':Value) (g:Nat),cs[i]?=some u->cs[j]?=some u'->u.ownBlock=some g->u'.ownBlock=some g->i=j
 dg:∀(i j b:Nat),gb[i]?=some b->gb[j]?=some b->i=j
 dm:∀i a i' a' k,mp i a=some k->mp i' a'=some k->i=i'/\a=a'
 bv:∀g,v.ownBlock=some g->O g
 bc:∀u∈cs,∀g,u.ownBlock=some g->O g
 bg:∀b∈gb,O b
 bm:∀i a k,mp i a=some k->O k/\i<l.length/\a<p.aggs.length/\k≠mb
 f:W.frozen? ⟨gx,11,none⟩=false
 t:Tg 224 W gx
 c12:W.cell? ⟨gx,12,none⟩=some (.map (some mb))
 m:nE W mb n (l.map λq=>bF q.1)
 ob:O gx/\O mb
 lim:∀k,O k->w0.heap.size<=k/\k<W.heap.size
variable{W X w:World}{i j k l m n s t:Nat}{p:Pl}{g:Pm}{P Q:Nat->Prop}{x y:List aH}{v:Value}{D N:List Value}{r:List (List aH)}{a:Option Addr}{c:aH}
theorem nZ.mid{f:List (List aH×List (List aH))}(h:nZ w n m p g P f k W)(v:Nat)(B:List aH):∃e b c d,Uv w n m p g f k v B e b c 0 P d W:=by obtain⟨e,b,c,d,l,a,q,r,s,t⟩:=h.s;exact⟨e,b,c,d,h.e,l,a.o,a.lc,a.lg,a.c,a.t,λu j x y z i o A=>by rw[VU (by omega)];exact a.g u j x y z i o A,a.dc,a.dg,a.dm,q,r,s,t,h.f,h.t,h.c12,h.m,h.o,h.lim⟩
theorem Uv.done{f:List (List aH×List (List aH))}{z:List Nat}{A:Nat->Nat->Option Nat}(h:Uv w n m p g f k j x v D z i P A W)(E:p.aggs.length<=i)(o:f[j]?=some (y,r)):nZ w n m p g P (f.set j (y,r++[x])) k W:=by
 have s:=(bD o).1;refine⟨h.e,⟨v,D,z,A,h.c11,⟨by rw[List.length_set];exact h.o,by simp[h.lc],by simp[h.lg],λc B d e a=>?_,h.tb,λc t d e a l u q=>?_,h.dc,h.dg,h.dm⟩,h.bv,h.bc,h.bg,λc l y b=>by rw[List.length_set];exact h.bm c l y b⟩,h.f,h.t,h.c12,?_,h.ob,h.lim⟩;.rw[List.getElem?_set] at a;by_cases b:j=c;(.subst b;rw[ba rfl,ba s] at a;injection a with a;subst a;exact h.c j B (y,r) e o);.rw[VU b] at a;exact h.c c B d e a
 .rw[List.getElem?_set] at a;by_cases b:j=c;(.subst b;rw[ba rfl,ba s] at a;injection a with a;subst a;have:=h.g j t (y,r) e o l u q;rw[ba ⟨rfl,by have:=(bD q).1;omega⟩] at this;exact this);.rw[VU b] at a;have:=h.g c t d e a l u q;rw[VU (by omega)] at this;exact this
 .have:(f.set j (y,r++[x])).map (λd=>bF d.1)=f.map λd=>bF d.1:=by
   rw[List.map_set]
   apply List.ext_getElem?
   intro C
   rw[List.getElem?_set]
   by_cases b:j=C
   .subst b
    rw[ba rfl,ba (by simpa using s),bL,o]
    rfl
   .rw[VU b]
  rw[this]
  exact h.m
theorem Uv.ky{q:List (List aH×List (List aH))}{l:List Nat}{r:Nat->Nat->Option Nat}(h:Uv w n m p g q k j x v D l i P r W)(a:Ky (λ_=>False) W X):Uv w n m p g q k j x v D l i P r X:=
 ⟨h.e.ky a id,a.cell h.c11 id,bM h.o a λ_ _=>id,h.lc,h.lg,λd t b e f=>bM (h.c d t b e f) a λ_ _=>id,λc y=>(h.tb c y).ky a id,λd c b e f s u z=>(h.g d c b e f s u z).ky a id λ_ _=>id,h.dc,h.dg,h.dm,h.bv,h.bc,h.bg,h.bm,VN a h.t.lt id h.f,h.t.ky a id,a.cell h.c12 id,h.m.ky a id,h.ob,λo b=>⟨(h.lim o b).1,cN (h.lim o b).2 a.size⟩⟩
theorem Uv.step{V1:List (List aH×List (List aH))}{VY:List Nat}{o:Nat->Nat->Option Nat}(h:Uv w n m p g V1 k j x v D VY i P o W){R:Int×Int}(K:VY[j]?=some l)(Wa:V1[j]?=some (y,r))(V9:p.aggs[i]?=some R){u:Option Nat} (V5:hJ X l (i*8) R.1 (g2 R.2 (r++[x])) u) (V0:∀y,u=some y->o j i=some y∨W.heap.size<=y) (s:Ky (λy=>y=l∨o j i=some y) W X) (V8:Kc W X l (i*8) (i*8+8)):∃VW Wt,Uv w n m p g V1 k j x v D VY (i+1) VW Wt X/\Nw P VW W/\Ky P W X/\∀e,P e->VW e:=by
 have V7:=VQ K;have Wj:=h.bg l V7;have M:=h.tb l V7;have Wn:=(bD Wa).1;have Wl:=(bD V9).1;have V:∀{a b y N e},o a b=some y->Tg N W e->e≠y:=λ{a b y N e} c S=>by obtain⟨_,Wd,We,_⟩:=h.bm a b y c;have Ww:=h.lg;(rcases(h.g a _ _ (VR (by omega)) (VR Wd) b _ (VR We)).m with ⟨f,_⟩|⟨G,f,_,q⟩);(.rw[c] at f;cases f);.rw[c] at f;injection f with f;subst f;exact q.tg S
 have C:∀{N e:Nat},Tg N W e->N≠270->¬(e=l∨o j i=some e):=λS Wq q=>by rcases q with q|q;(.exact S.ne M Wq q);.exact V q S rfl
 have Wk:∀e,(e=l∨o j i=some e)->P e:=λe q=>by rcases q with q|q;(.exact q ▸ Wj);.exact(h.bm j i e q).1
 have Wp:¬(m=l∨o j i=some m):=λq=>by rcases q with q|q;(.exact h.m.tg M q.symm);.exact(h.bm j i m q).2.2.2 rfl
 have Ww:=s.size;refine⟨λe=>P e∨(u=some e/\W.heap.size<=e),λa b=>if a=j/\b=i then u else o a b,⟨h.e.ky s (C h.t (by decide)),s.cell h.c11 (C h.t (by decide)),bM h.o s λJ c=>C (br h.o c) (by decide),h.lc,h.lg,λa V3 q A E=>bM (h.c a V3 q A E) s λJ c=>C (br (h.c a V3 q A E) c) (by decide),λt V6=>?_,λa t q A E b z Y=>?_,h.dc,h.dg,λa b T O y VX f=>?_,λJ c=>.inl (h.bv J c),λWu Ws J c=>.inl (h.bc Wu Ws J c),λl K=>.inl (h.bg l K),λa b y c=>?_,VN s h.t.lt (C h.t (by decide)) h.f,h.t.ky s (C h.t (by decide)),s.cell h.c12 (C h.t (by decide)),h.m.ky s Wp,⟨.inl h.ob.1,.inl h.ob.2⟩,λe q=>?_⟩,λe q=>q.imp id λq=>q.2,s.mono Wk,λe q=>.inl q⟩;.by_cases c:t=l;(.rw[c];exact V8.t 270 M);.exact(h.tb t V6).ky s λq=>by rcases q with q|q;(.exact c q);.exact V q (h.tb t V6) rfl
 .by_cases c:a=j;(.subst c;(have VX:t=l:=by rw[K] at A;exact(Option.some.inj A).symm);(have f:q=(y,r):=by rw[Wa] at E;exact(Option.some.inj E).symm);subst VX f;by_cases V4:b=i;(.subst V4;(have Wf:z=R:=by rw[V9] at Y;exact(Option.some.inj Y).symm);subst Wf;show hJ X t (b*8) z.1 (g2 z.2 (if a=a/\b<b+1 then r++[x] else r)) (if a=a/\b=b then u else o a b);rw[ba ⟨rfl,by omega⟩,ba ⟨rfl,rfl⟩];exact V5);.have L:=h.g a t (y,r) A E b z Y;show hJ X t (b*8) z.1 (g2 z.2 (if a=a/\b<i+1 then r++[x] else r)) (if a=a/\b=i then u else o a b);rw[VU (by omega:¬(a=a/\b=i))];(have Wi:(if a=a/\b<i+1 then r++[x] else r)=if a=a/\b<i then r++[x] else r:=by by_cases VZ:b<i;(.rw[ba ⟨rfl,by omega⟩,ba ⟨rfl,VZ⟩]);.rw[VU (by omega),VU (by omega)]);rw[Wi];refine⟨L.c.kc V8 (by omega),L.m.imp id λ⟨G,I,Wg,Q⟩=>⟨G,I,Wg,Q.ky s λq=>?_⟩⟩;rcases q with q|q;(.exact Q.tg M q.symm);.exact V4 (h.dm a b a i G I q).2);.have L:=h.g a t q A E b z Y;show hJ X t (b*8) z.1 (g2 z.2 (if a=j/\b<i+1 then q.2++[x] else q.2)) (if a=j/\b=i then u else o a b);rw[VU (λd=>c d.1),VU (λd=>c d.1)];rw[VU (λd=>c d.1)] at L;have Wm:¬t=l:=λf=>c (h.dg a j l (f ▸ A) K);have Wr:=h.tb t (VQ A);refine L.ky s (λd=>?_) λG I d=>?_;(.rcases d with d|d;(.exact Wm d);.exact V d Wr rfl);.rcases d with d|d;(.exact V I M d.symm);.exact c (h.dm a b j i G I d).1
 .have key:∀a b y,(if a=j/\b=i then u else o a b)=some y->(a=j/\b=i/\u=some y)∨(¬(a=j/\b=i)/\o a b=some y):=λa b y c=>by
   by_cases d:a=j/\b=i
   .rw[ba d] at c;exact .inl ⟨d.1,d.2,c⟩
   .rw[VU d] at c;exact .inr ⟨d,c⟩
  have Wb:∀a b y,o a b=some y->¬(a=j/\b=i)->¬u=some y:=λa b y c d f=>by
   rcases V0 y f with q|q
   .exact d (h.dm a b j i y c q)
   .have:=(h.lim y (h.bm a b y c).1).2;omega
  rcases key a b y VX with ⟨V2,Z,Wv⟩|⟨V2,Z⟩
  .rcases key T O y f with ⟨F,B,Wc⟩|⟨F,B⟩
   .exact⟨V2.trans F.symm,Z.trans B.symm⟩
   .exact absurd Wv (Wb T O y B F)
  .rcases key T O y f with ⟨F,B,Wc⟩|⟨F,B⟩
   .exact absurd Wc (Wb a b y Z V2)
   .exact h.dm a b T O y Z B
 .by_cases d:a=j/\b=i;(.have c:(if a=j/\b=i then u else o a b)=some y:=c;rw[ba d] at c;refine⟨?_,by rw[d.1];exact Wn,by rw[d.2];exact Wl,?_⟩;(.rcases V0 y c with q|q;(.exact .inl (h.bm j i y q).1);.exact .inr ⟨c,q⟩);.rcases V0 y c with q|q;(.exact(h.bm j i y q).2.2.2);.have:=(h.lim m h.ob.2).2;omega);.have c:(if a=j/\b=i then u else o a b)=some y:=c;rw[VU d] at c;obtain⟨F,B⟩:=h.bm a b y c;exact⟨.inl F,B⟩
 .rcases q with q|q;(.have:=h.lim e q;exact⟨this.1,by omega⟩);.have:=h.lim n h.ob.1;(have VZ:e<X.heap.size:=by(rcases V5.m with ⟨c,_⟩|⟨G,c,_,Q⟩);(.rw[c] at q;cases q.1);.rw[c] at q;injection q.1 with Wh;exact Wh ▸ Q.lt);exact⟨by omega,VZ⟩
structure Do(w0:World)(gx mb:Nat)(p:Pl)(m:Pm)(wd:Nat)(O:Nat->Prop)(ys:List (List aH))(W:World):Prop where
 x:nZ w0 gx mb p m O (df (g0 p.cols) p.cols ys) (ys.length+1) W
 ok:∀r∈ys,dH wd r
theorem Bd:qA w (Do w n m p g k):=
 ⟨λ{a f e b i} h c d=>⟨h.x.ky c d,h.ok⟩,λ{a e b} h=>h.x.lim⟩
structure sz(w0:World)(p:Pl)(m:Pm)(wd:Nat):Prop where
 c:bP w0 m.aC p.cols
 cl:p.cols.length<=1000000
 ci:∀i∈p.cols,0<=i/\i<(wd:Int)
 a:ft w0 m.aA p.aggs
 al:p.aggs.length<=1048576
 ai:∀f∈p.aggs,0<=f.2/\f.2<(wd:Int)
theorem yR(d:∀i∈r,dH n i):∀a∈df (g0 p.cols) p.cols r,∀b∈a.1,eO b:=λa e=>by
 rcases(gq p.cols r a.1).1 (fA e) with h|⟨j,f,c⟩
 .unfold g0 at h
  split at h
  .simp at h;rw[h];intro b g;cases g
  .cases h
 .rw[<-c]
  exact nx (d j f)
theorem A9(h:r.length+1<=2147483648):(df (g0 p.cols) p.cols r).length<=2147483649:=by have a:=hy (g0 p.cols) p.cols r;have b:=yZ p.cols;omega
def EH(r:World)(g l:Nat)(o:Pl)(k:Pm)(j:List (List aH×List (List aH)))(n i:Nat)(p:List aH)(q:Value)(e:List Value)(f:List Nat)(b:Nat->Prop)(c:World)(d:Nat)(wr:World):Prop:=∃a m,Uv r g l o k j n i p q e f d a m wr/\Nw b a c/\Ky b c wr
theorem Bg(S:sz w p g k)(O:Do w n m p g k P r W)(VY:Bw w W)(YV:k<=64)(Yr:r.length+1<=2147483648)(V0:dH k x)(Wx:bX W a x)(Xx:∀q Yy,a=some ⟨q,Yy,none⟩->x≠[]->¬P q)(Xd:sE a):Calls prog 248 #[.pointer (some ⟨n,0,none⟩),.slice a x.length j] W (gm (Do w n m p g k) P (r++[x]) W):=by
 have WO:=V0.len;have Xv:=nx (cols:=p.cols) V0;have WJ:(eC x p.cols).length=p.cols.length:=by simp[eC]
 have c3:=O.x.e.c3;have WK:=O.x.lim;have YE:=VY.size;have Xm:=S.cl;have Xl:=S.ci;have Wy:=S.al;have V7:=H (BR (c:=j) (cC:=g.cC) Wx (by omega) (S.c.aa VY) (by omega) (by rw[WO];exact Xl))
 have Wt:Hid (∀VX I,Bw W VX->e8 VX I (eC x p.cols)->W.heap.size<=I->Calls prog 200 #[.pointer (some ⟨n,0,none⟩),.slice (some ⟨I,0,none⟩) p.cols.length p.cols.length] VX λc Q=>∃i V2 V9,c=.returned (.int .i64 ((i:Nat):Int))/\nZ w n m p g V9 V2 (r.length+1+1) Q/\(∃u,V2[i]?=some (eC x p.cols,u)/\df (g0 p.cols) p.cols (r++[x])=V2.set i (eC x p.cols,u++[x])/\u.length<=2147483648/\∀d∈u,dH k d)/\Nw P V9 W/\Ky P W Q):=λVX I Wz WC Yi=>by
  have WP:Ky (λ_=>False) W VX:=Ky.ab Wz;unfold e8 at WC;rw[WJ] at WC;have Yl:=gy (rQ p.cols) p.cols r;refine(lf (O.x.ky WP λ_ _=>id) WC (λYP c=>by simp[Value.ownBlock] at c;subst c;exact⟨λb=>by have:=(WK I b).2;omega,by omega⟩) Xv (by rw[WJ];exact Xm) (yR O.ok) (by omega) (A9 Yr) Wy).mono ?_;rintro c Q ⟨i,V2,V9,rfl,T⟩;have Yj:=T.g;obtain⟨u,A⟩:=T.at_;refine⟨i,V2,V9,rfl,Yj,⟨u,A,?_,?_⟩,λYt b=>?_,(WP.mono λ_ b=>b.elim).trans T.ky (Nw.refl _ _)⟩;.rw[fS];rcases T.is_ with c|⟨XA,c,Wd⟩;(.rw[c] at A ⊢;exact nA Yl A);.rw[sx XA,c,Wd];(have:u=[]:=by rw[c,Wd,ez bi] at A;simpa using A.symm);rw[this]
  .have Yp:u=[]∨(eC x p.cols,u)∈df (g0 p.cols) p.cols r:=by
    rcases T.is_ with c|⟨XA,c,Wd⟩
    .rw[c] at A;exact .inr (VQ A)
    .rw[c,Wd,ez bi] at A
     exact .inl (by simpa using A.symm)
   rcases Yp with c|c
   .rw[c];exact⟨by simp,λd f=>by cases f⟩
   .have:=fh (tL p.cols) p.cols r _ c
    simp only at this
    rw[this]
    refine⟨?_,λd f=>O.ok d (List.mem_filter.1 f).1⟩
    have:=List.length_filter_le (λYz=>decide (eC Yz p.cols=eC x p.cols)) r
    omega
  .have YF:=WP.size;rcases T.nw Yt b with b|b|b;(.exact .inl b);(.simp[Value.ownBlock] at b;subst b;exact .inr Yi);.exact .inr (by omega)
 have X3:Hid (∀d∈r++[x],dH k d):=λd f=>by rcases cM f with f|f;(.exact O.ok d f);.simp at f;subst f;exact V0
 have X6:Hid (∀WU,Ky P W WU->bX WU a x):=λWU WG=>WG.row Wx Xx;have XQ:Hid (∀wr,Ky P W wr->Bw w wr):=λwr WG=>VY.trans (WG.below (λs b=>(WK s b).1) VY.size);have YG:=H Xd;have WZ:=H S;have X4:=H V0;have X1:Hid (r.length+1+1=(r++[x]).length+1):=by show _=_;simp
 obtain⟨YX,Xz⟩:=bj p.cols.length;obtain⟨l,WM⟩:=bj p.aggs.length;obtain⟨WT,Wi⟩:=bj x.length;rw[Xz] at V7 Wt c3;rw[Wi] at V7 ⊢;have YU:l<=1048576:=by rw[<-WM];exact Wy
 have V8:=H WM;have X5:=H Wi;have XF:WT=k:=by rw[<-Wi];exact WO
 have W1:=H XF;clear O VY S V0 Wx Xx Xd WO Xv WJ WK YE Xm Xl Wy Xz WM Wi XF;go_enter func248,ntmps248
 go_upto_region 1 with (first
  | (go_at_call 250;refine(U V7).mono ?_;rintro _ Y0 ⟨YQ,rfl,Xg,Xp,Xw⟩;have XO:=H Xg;have XZ:=H Xw;have XU:=H Xp;clear Xg Xw Xp)
  | (go_at_call 200;refine(U Wt _ _ (U XZ) (U XO) (U XU)).mono ?_;rintro _ X ⟨i,V,Wa,rfl,Xq,⟨u,Xt,Xo,XE⟩,Xy,Xu⟩;have WV:=H Xq;have Y:=H Xt;have XS:=H Xo;have W0:=H XE;have Ws:=H Xy;have XY:=H Xu;clear Xq Xt Xo XE Xy Xu))
 obtain⟨XM,Wb,We,Yu,M⟩:=(U WV).mid i x;have WF:=(bD (U Y)).1;have Wh:=M.o;obtain⟨Wf,Wm,Yq⟩:∃Wf Wm,XM=.slice (some ⟨Wf,0,none⟩) V.length Wm:=by(rcases Wh.2 with ⟨_,Wg⟩|⟨I,Yb,YM,c,_⟩);(.omega);.exact⟨I,Yb,c⟩
 subst Yq;obtain⟨Wc,WD⟩:∃Wc,Wb[i]?=some Wc:=⟨_,VR (by rw[M.lc];exact WF)⟩;obtain⟨q,WB⟩:∃q,We[i]?=some q:=⟨_,VR (by rw[M.lg];exact WF)⟩;obtain⟨Xb,Xc⟩:=tH Wb We p.aggs.length i Wc q WD WB;have Ww:=World.ownsRow.cellAt Wh (i*2) (by omega);have W5:=World.ownsRow.cellAt Wh (i*2+1) (by omega);rw[Xb] at Ww;rw[Xc,U V8] at W5;obtain⟨X9,Yc,Yg⟩:=d9 (M.c i Wc _ WD (U Y));subst Yg;have W4:=M.c11;obtain⟨Yx,WN⟩:=bj V.length;obtain⟨Yw,XB⟩:=bj ((eC x p.cols).length);rw[WN] at W4;rw[XB] at Ww;have YT:(i:Int)<(Yx:Int):=by omega
 have Wq:=H M;have YI:=H WN;have Wn:=H WB;clear M WF Wh Xb Xc WD WN XB WB V7 Wt WV;go_upto_region 2 with fail;obtain⟨F,Wl⟩:=bj (X.alloc (.cells #[.slice X9 Yw Yc,.slice (some ⟨q,0,none⟩) l l] 245));obtain⟨D,Wj⟩:=bj X.heap.size;have WA:Bw X F:=by rw[<-Wl];exact am VS _
 have C:F.cell? ⟨D,1,none⟩=some (.slice (some ⟨q,0,none⟩) l l):=by rw[<-Wl,<-Wj];simp[go_sem]
 rw[Wl,Wj];have WH:Ky (λ_=>False) X F:=Ky.ab WA;have WL:=(U Wq).ky WH;have Ya:=WL.e.c5;rw[U V8] at Ya;have WX:Hid (EH w n m p g V (r.length+1+1) i x (.slice (some ⟨Wf,0,none⟩) V.length Wm) Wb We Wa F 0 F):=⟨Wa,Yu,WL,Nw.refl _ _,Ky.refl _ _⟩;have Wp:Hid (Ky P W F):=(U XY).trans WH λ_ b=>b.elim;have X0:Hid (∀s,Wa s->w.heap.size<=s/\s<D):=λs b=>by have:=(U Wq).lim s b;omega
 have XR:=H C;have YH:=H WA;have YK:Hid (D<F.heap.size):=ck _ _ C;have YJ:Hid (X.heap.size=D):=Wj;clear WA WH WL Wl Wj C Ww W5 W4 Wq;go_upto_region 3 with fail;go_loopw[30] (λWu wr=>∃(o:Nat),o<=l/\Wu=.int .i64 (o:Int)/\Hid (EH w n m p g V (r.length+1+1) i x (.slice (some ⟨Wf,0,none⟩) V.length Wm) Wb We Wa F o wr)) (λWu _=>l-(intOf Wu).toNat);case atStart=>exact⟨0,bt,rfl,WX⟩
 case round=>clear WX;obtain⟨o,YR,rfl,Wr⟩:=hrel;by_cases Yk:o<l;(·(have Yf:(o:Int)<(l:Int):=by omega);obtain⟨W2,XK,R,N,B⟩:=U Wr;(have WI:Ky P W wr:=(U Wp).trans B λs b=>by rcases U Ws s b with b|b;(.exact .inl b);.exact .inr b);obtain⟨⟨G,Wv⟩,VZ⟩:∃Ye,p.aggs[o]?=some Ye:=⟨_,VR (by rw[U V8];exact Yk)⟩;obtain⟨Xi,Xj⟩:=(U WZ).ai _ (VQ VZ);obtain⟨e,Yh⟩:∃e:Nat,Wv=(e:Int):=⟨Wv.toNat,by have:0<=Wv:=Xi;omega⟩;subst Yh;(have Xn:e<k:=by have:(e:Int)<(k:Int):=Xj;omega);obtain⟨YL,YY,Xf,YN,YO⟩:=ft.get ((U WZ).a.aa (U XQ wr WI)) VZ;obtain⟨d,f⟩:∃d,x[e]?=some d:=⟨_,VR (by rw[U X5,U W1];exact Xn)⟩;have XD:=U X6 wr WI;(obtain⟨y,z,Yo⟩:∃y z,a=some ⟨y,z,none⟩:=by rcases XD with Wg|⟨W3,XL,c,_⟩;(.rw[Wg] at f;simp at f);.exact⟨W3,XL,c⟩);subst Yo;rcases XD with Wg|⟨W3,XL,c,XC⟩;(.rw[Wg] at f;simp at f);injection c with c;injection c with C Yd;subst C Yd;obtain⟨W6,W7,W8⟩:=XC e d f;(have YS:(e:Int)<(WT:Int):=by rw[U W1];omega);(have C:=B.cell (U XR) λb=>by have:=(U X0 D b).2;omega);have WE:=R.g i q _ (U Wn) (U Y) o _ VZ;rw[VU (by omega)] at WE;have XG:=(U X4).val d (VQ f);(have XH:∀XN∈g2 (e:Int) u,eO XN:=λXN XI=>by unfold g2 at XI;obtain⟨b,Ym,rfl⟩:=b6 XI;have Yn:=(U W0).2 b Ym;rw[cQ];rcases Ys:b[(e:Int).toNat]? with _|YD;(.exact⟨⟨by decide,by decide⟩,by decide,rfl⟩);.exact Yn.val YD (VQ Ys));(have Xs:x.getD (e:Int).toNat .null=d:=by rw[cQ,Int.toNat_natCast,f];rfl);(have XX:Hid (∀VW,Bw wr VW->Calls prog 251 #[.pointer (some ⟨q,o*8,none⟩),.int .i64 G,.agg #[.int .i64 d.k,.int .i64 d.n,.string d.s]] VW (EA VW q (o*8) G (g2 (e:Int) (u++[x])) (XK i o))):=λVW Wz=>by have XJ:Ky (λ_=>False) wr VW:=Ky.ab Wz;have:=yX (v:=d) (WE.ky XJ id λ_ _=>id) ((R.tb q (VQ (U Wn))).ky XJ id) XG XH (by simp[g2];exact(U W0).1);rw[wV,Xs,<-d.open_];exact this);rw[Xf];clear Xf;have X2:=H R;have WY:=H N;have WW:=H B;have XT:=H VZ;have Z:=H (And.intro C (And.intro W6 (And.intro W7 W8)));clear R N B WI VZ Xi Xj f WE XG XH Xs XC C W6 W7 W8 Wr Xn;go_upto_region 5 with fail;obtain⟨t,V1⟩:=bj (wr.alloc (.cells #[.int .i64 G,.int .i64 (e:Int)] 149));obtain⟨E,Wk⟩:=bj wr.heap.size;(have Xh:Bw wr t:=by rw[<-V1];exact am VS _);(have W9:t.cell? ⟨E,0,none⟩=some (.int .i64 G):=by rw[<-V1,<-Wk];simp[go_sem]);(have Xa:t.cell? ⟨E,1,none⟩=some (.int .i64 (e:Int)):=by rw[<-V1,<-Wk];simp[go_sem]);rw[V1,Wk];have L:Bw t t.drew:=(VS).drew;have K:=ac Xh L;have XW:=H (U XX t.drew K);have XP:=H K;have v:Hid (t.drew.cell? ⟨D,1,none⟩=some (.slice (some ⟨q,0,none⟩) l l)/\t.drew.cell? ⟨E,0,none⟩=some (.int .i64 G)/\t.drew.cell? ⟨E,1,none⟩=some (.int .i64 (e:Int))/\t.drew.cell? ⟨y,z+e*3,none⟩=some (.int .i64 d.k)/\t.drew.cell? ⟨y,z+e*3+1,none⟩=some (.int .i64 d.n)/\t.drew.cell? ⟨y,z+e*3+2,none⟩=some (.string d.s)):=⟨ae (U Z).1 K,ae W9 L,ae Xa L,ae (U Z).2.1 K,ae (U Z).2.2.1 K,ae (U Z).2.2.2 K⟩;clear Xh L K W9 Xa V1 Wk Z;refine bH (λW:World=>W.cell? ⟨D,1,none⟩=some (.slice (some ⟨q,0,none⟩) l l)/\W.cell? ⟨E,0,none⟩=some (.int .i64 G)/\W.cell? ⟨E,1,none⟩=some (.int .i64 (e:Int))/\W.cell? ⟨y,z+e*3,none⟩=some (.int .i64 d.k)/\W.cell? ⟨y,z+e*3+1,none⟩=some (.int .i64 d.n)/\W.cell? ⟨y,z+e*3+2,none⟩=some (.string d.s)) 11 ?_;refine ap 0 (.pointer (some ⟨D,1,none⟩)) rfl (U v) ?_;(refine ap 1 (.slice (some ⟨q,0,none⟩) l l) rfl (U v) ?_ λQ J=>by obtain⟨V3,V4,V5,V6,WR,WS⟩:=J;go_simp);refine ap 2 (.int .i64 (o:Int)) rfl (U v) ?_;refine ap 3 (.pointer (some ⟨q,o*8,none⟩)) rfl (U v) ?_;refine ap 4 (.pointer (some ⟨E,0,none⟩)) rfl (U v) ?_;(refine ap 5 (.int .i64 G) rfl (U v) ?_ λQ J=>by obtain⟨V3,V4,V5,V6,WR,WS⟩:=J;go_simp);refine ap 6 (.slice (some ⟨y,z,none⟩) WT j) rfl (U v) ?_;refine ap 7 (.pointer (some ⟨E,1,none⟩)) rfl (U v) ?_;(refine ap 8 (.int .i64 (e:Int)) rfl (U v) ?_ λQ J=>by obtain⟨V3,V4,V5,V6,WR,WS⟩:=J;go_simp);refine ap 9 (.pointer (some ⟨y,z+e*3,none⟩)) rfl (U v) ?_;(refine ap 10 (.agg #[.int .i64 d.k,.int .i64 d.n,.string d.s]) rfl (U v) ?_ λQ J=>by obtain⟨V3,V4,V5,V6,WR,WS⟩:=J;go_simp);refine bh 11 rfl λX7 Xe=>?_;go_simp;refine(U XW).mono ?_;rintro _ Y1 ⟨rfl,YW,Xr,N,B,Xk⟩;go_simp;have XV:=H (And.intro Xr (And.intro N (And.intro B Xk)));clear Xr N B Xk;refine bE Xe ?_;clear Xe X7;refine cf ?_;go_wp2;go_roundw;(case rel=>obtain⟨V3,V4,V5,V6⟩:=U XV;have WQ:Ky (λ_=>False) wr t.drew:=Ky.ab (U XP);obtain⟨X8,Yv,YA,YB,YC,YZ⟩:=((U X2).ky WQ).step (U Wn) (U Y) (U XT) V3 V4 V5 V6;refine⟨o+1,by omega,by go_num,X8,Yv,YA,λs b=>?_,((U WW).trans WQ λ_ b=>b.elim).trans YC (U WY)⟩;have YF:=(U WW).size;have Y2:=WQ.size;rcases YB s b with b|b;(.exact U WY s b);.exact .inr (by omega));case measure=>simp[intOf];omega);·(have Yf:¬(o:Int)<(l:Int):=by omega);(have c:o=l:=by omega);subst c;go_wp2;go_end0;obtain⟨W2,XK,R,N,B⟩:=U Wr;have L:=R.done (by rw[U V8];exact bi) (U Y);rw[<-U XS,U X1] at L;have Y3:=(U Wp).size;refine⟨rfl,W2,⟨L,U X3⟩,λs b=>?_,(U Wp).trans B (U Ws)⟩;rcases N s b with b|b;(.exact U Ws s b);.exact .inr (by omega)
def i1(b:List (Int×Int))(c e d:Nat)(a:List aH×List (List aH)):List aH:=if d<c then dO b a else if d=c then dO (b.take e) a else a.1
theorem oo(d:List (Int×Int))(a b:Nat)(c:List aH×List (List aH))(h:a<=b):i1 d a 0 b c=c.1:=by unfold i1 dO;rw[VU (by omega)];split<;>simp
theorem vy{b:List (Int×Int)}(h:b.length<=m)(a:Nat)(e:List aH×List (List aH)):i1 b n m a e=i1 b (n+1) 0 a e:=by
 unfold i1;by_cases c:a<n;.rw[ba c,ba (by omega)]
 .by_cases d:a=n;(.rw[VU c,ba d,ba (by omega),fz h]);.rw[VU c,VU d,VU (by omega)];split;(.simp[dO]);.rfl
structure nY(W:World)(O:Nat->Prop)(gx:Nat)(p:Pl)(m:Pm)(v:Value)(l:List (List aH×List (List aH)))(cs:List Value)(gb:List Nat)(mp:Nat->Nat->Option Nat)(R i k:Nat)(xs zs:List Value)(w:World):Prop where
 e:dL w gx 0 p m
 o:w.ownsRow 0 245 2 v l.length (yW cs gb p.aggs.length)
 lc:cs.length=l.length
 lg:gb.length=l.length
 tb:∀b∈gb,Tg 270 w b
 g:∀(i:Nat) (b:Nat) q,gb[i]?=some b->l[i]?=some q->∀(a:Nat) f,p.aggs[a]?=some f->hJ w b (a*8) f.1 (g2 f.2 q.2) (mp i a)
 r:w.ownsRow 0 40 1 (.slice (some ⟨R,0,none⟩) l.length l.length) l.length xs
 cz:∀j,i<j∨(j=i/\k=0)->zs[j]?=cs[j]?
 xz:∀j,j<i->xs[j]?=zs[j]?
 lz:zs.length=l.length
 z:∀(j:Nat) (u:Value) q,zs[j]?=some u->l[j]?=some q->dx w 0 u (i1 p.aggs i k j q)
 du:∀(i j:Nat) (u u':Value) (g:Nat),zs[i]?=some u->zs[j]?=some u'->u.ownBlock=some g->u'.ownBlock=some g->i=j
 bR:W.heap.size<=R
 bz:∀u∈zs,∀g,u.ownBlock=some g->O g∨W.heap.size<=g
 bv:(∀g,v.ownBlock=some g->O g)/\(∀b∈gb,O b)/\O gx
 bm:∀i a k,mp i a=some k->O k/\i<l.length/\a<p.aggs.length
 t:Tg 224 w gx
 lim:∀k,O k->k<W.heap.size
 k:Ky O W w
theorem nY.ky{i:List (List aH×List (List aH))}{f:List Nat}{l:Nat->Nat->Option Nat}{o:List Value}(h:nY w P n p g v i D f l m k j N o W)(a:Ky (λ_=>False) W X):nY w P n p g v i D f l m k j N o X:=
 ⟨h.e.ky a id,bM h.o a λ_ _=>id,h.lc,h.lg,λc s=>(h.tb c s).ky a id,λk c b d e q r u=>(h.g k c b d e q r u).ky a id λ_ _=>id,bM h.r a λ_ _=>id,h.cz,h.xz,h.lz,λt x b d e=>bM (h.z t x b d e) a λ_ _=>id,h.du,h.bR,h.bz,h.bv,h.bm,h.t.ky a id,h.lim,h.k.trans a λ_ b=>b.elim⟩
theorem nY.nm{r:List (List aH×List (List aH))}{o:List Nat}{d:Nat->Nat->Option Nat}{x:List Value}(h:nY w P n p g v r D o d m k j N x W){c:Nat}(b:d i l=some s)(q:Tg t W c):c≠s:=by
 obtain⟨_,e,f⟩:=h.bm i l s b;have z:=h.lg;rcases(h.g i _ _ (VR (by omega)) (VR e) l _ (VR f)).m with ⟨a,_⟩|⟨y,a,_,u⟩
 .rw[b] at a;cases a
 .rw[b] at a;injection a with a;subst a;exact u.tg q
theorem nY.put{s:List (List aH×List (List aH))}{q:List Nat}{u:Nat->Nat->Option Nat}{k:Nat}{y:List Value}(h:nY w P n p g v s D q u m j k N y W)(b:Value):nY w P n p g v s D q u m j k (N.set j b) y (W.setCell ⟨m,j,none⟩ b):=by have x:Tg 40 W m:=br h.r rfl;have d:Ky (λa=>a=m) W (W.setCell ⟨m,j,none⟩ b):=cS W m j b rfl;have e:∀{t a:Nat},Tg t W a->t≠40->¬a=m:=λG F c=>G.ne x F c;refine⟨h.e.ky d (e h.t (by decide)),bM h.o d λC c=>e (br h.o c) (by decide),h.lc,h.lg,λi r=>(h.tb i r).ky d (e (h.tb i r) (by decide)),λj i f l o z B I=>(h.g j i f l o z B I).ky d (e (h.tb i (VQ l)) (by decide)) λk c A=>h.nm c x A.symm,(World.ownsRow.stored h.r j b).1,h.cz,λa E=>?_,h.lz,λa b f l o=>bM (h.z a b f l o) d λC c=>e (br (h.z a b f l o) c) (by decide),h.du,h.bR,h.bz,h.bv,h.bm,h.t.ky d (e h.t (by decide)),h.lim,h.k.trans d λa f=>.inr (by rw[f];exact h.bR)⟩;rw[List.getElem?_set,VU (by omega)];exact h.xz a E
theorem nY.app{VW:List (List aH×List (List aH))}{VZ:List Nat}{V4:Nat->Nat->Option Nat}{L:List Value}(h:nY w Q n p g v VW D VZ V4 m k j N L W){x:Value}{e:List aH×List (List aH)}{F:Int×Int}(B:L[k]?=some x)(G:VW[k]?=some e)(V1:p.aggs[j]?=some F)(Ww:e.1.length<=1000000)(Wu:p.aggs.length<=1048576)(Wm:gV F.1 (g2 F.2 e.2)=c)(Wb:W.cell? ⟨i,0,none⟩=some (.int .i64 c.k))(Wc:W.cell? ⟨i,1,none⟩=some (.int .i64 c.n))(Wd:W.cell? ⟨i,2,none⟩=some (.string c.s))(V8:TypeId):∃t y,(Builtin.append_ #[40,40] V8 #[x,.slice (some ⟨i,0,none⟩) 1 1]).run prog W=.ok t y/\(∃E S,t=.slice E (e.1.length+j+1) S)/\Ky (λb=>x.ownBlock=some b) W y/\nY w Q n p g v VW D VZ V4 m k (j+1) N (L.set k t) y:=by
 have Z:=h.z k x e B G;have Wk:i1 p.aggs k j k e=dO (p.aggs.take j) e:=by unfold i1;rw[VU (by omega),ba rfl]
 have Wv:=(bD V1).1;have T:=(bD B).1;rw[Wk] at Z;have X:(dO (p.aggs.take j) e).length=e.1.length+j:=by unfold dO;simp;omega
 obtain⟨Wp,Wg,Wr,Ws,Wt⟩:=info_parts jo
 obtain⟨t,y,Wj,K,VX,_,I⟩:=run_append_own_at (P:=prog) W 0 40 V8 43 Wp _ 3 32 underlying40 Wg Wr Ws Wt rfl (by decide) x _ _ Z ⟨i,0,none⟩ 1 1 (c3 c) rfl (λj e q=>by
  match j,q with
  | 0,q=>simp[c3] at q;subst q;simpa [Addr.add] using Wb
  | 1,q=>simp[c3] at q;subst q;simpa [Addr.add] using Wc
  | 2,q=>simp[c3] at q;subst q;simpa [Addr.add] using Wd
  | j+3,q=>simp[c3] at q) (λe G=>by simp[c3] at G;rcases G with rfl|rfl|rfl<;>rfl) (by rw[X];unfold maxLen;omega) (by rw[X];omega) bt
 have r:Ky (λb=>x.ownBlock=some b) W y:=Ky.ao VX λd a=>a;have V3:dx y 0 t (dO (p.aggs.take j) e++[c]):=by unfold dx;rw[bG,List.flatMap_append];simpa using K
 have V2:∀d,t.ownBlock=some d->x.ownBlock=some d∨W.heap.size<=d:=λd a=>by rcases I with I|I;(.rw[I] at a;exact .inl a);.rw[I] at a;injection a with a;exact .inr (by omega)
 have V7:∀d,x.ownBlock=some d->Tg 43 W d:=λd a=>br Z a;have A:∀{V6 b:Nat},Tg V6 W b->V6≠43->¬x.ownBlock=some b:=λWl Wi a=>Wl.ne (V7 _ a) Wi rfl;have Wy:=h.k.size;have Wf:dO (p.aggs.take (j+1)) e=dO (p.aggs.take j) e++[c]:=by unfold dO;rw[List.take_add_one,V1];simp[Wm]
 refine⟨t,y,Wj,?_,r,h.e.ky r (A h.t (by decide)),bM h.o r λd a=>A (br h.o a) (by decide),h.lc,h.lg,λs V0=>(h.tb s V0).ky r (A (h.tb s V0) (by decide)),λk s e K VX E F Wq=>(h.g k s e K VX E F Wq).ky r (A (h.tb s (VQ K)) (by decide)) λj a u=>h.nm a (V7 j u) rfl,bM h.r r λd a=>A (br h.r a) (by decide),λb V=>?_,λb V=>?_,by simp[h.lz],λb o C f l=>?_,λb J o V9 d f l M O=>?_,h.bR,λo Y d a=>?_,h.bv,h.bm,h.t.ky r (A h.t (by decide)),h.lim,?_⟩;.obtain⟨E,S,a⟩:=d9 V3;exact⟨E,S,by rw[a,bG,X];simp⟩
 .rw[List.getElem?_set,VU (by omega)];exact h.cz b (by omega)
 .rw[List.getElem?_set,VU (by omega)];exact h.xz b V
 .rw[List.getElem?_set] at f;by_cases a:k=b;(.subst a;rw[ba rfl,ba T] at f;injection f with f;subst f;(have u:C=e:=by rw[G] at l;exact(Option.some.inj l).symm);subst u;(have:i1 p.aggs k (j+1) k C=dO (p.aggs.take (j+1)) C:=by unfold i1;rw[VU (by omega),ba rfl]);rw[this,Wf];exact V3);.rw[VU a] at f;have Wn:=h.z b o C f l;have Wh:¬b=k:=λu=>a u.symm;(have:i1 p.aggs k (j+1) b C=i1 p.aggs k j b C:=by simp only[i1,Wh,if_false]);rw[this];exact bM Wn r λd We u=>a (h.du k b x o d B f u We)
 .have V5:∀(b:Nat) (o:Value),k≠b->L[b]?=some o->o.ownBlock=some d->t.ownBlock=some d->False:=λb o a R VY Wa=>by
   rcases V2 d Wa with s|s
   .exact a (h.du k b x o d B R s VY)
   .have V:=(bD R).1
    have Wx:=h.lz
    have:=(World.ownsRow.lt (h.z b o _ R (VR (by omega))) d VY).2
    omega
  rw[List.getElem?_set] at f l
  by_cases a:k=b
  .subst a
   rw[ba rfl,ba T] at f
   injection f with f
   subst f
   by_cases z:k=J
   .exact z
   .rw[VU z] at l
    exact(V5 J V9 z l O M).elim
  .rw[VU a] at f
   by_cases z:k=J
   .subst z
    rw[ba rfl,ba T] at l
    injection l with l
    subst l
    exact(V5 b o a f M O).elim
   .rw[VU z] at l
    exact h.du b J o V9 d f l M O
 .rcases List.mem_or_eq_of_mem_set Y with Y|rfl;(.exact h.bz o Y d a);.rcases V2 d a with a|a;(.exact h.bz x (VQ B) d a);.exact .inr (by omega)
 .exact h.k.trans r λb e=>h.bz x (VQ B) b e
theorem nY.next{d:List (List aH×List (List aH))}{c:List Nat}{e:Nat->Nat->Option Nat}{b:List Value}(h:nY w P n p g v d D c e m k j N b W)(l:p.aggs.length<=j)(o:N[k]?=b[k]?):nY w P n p g v d D c e m (k+1) 0 N b W:=
 ⟨h.e,h.o,h.lc,h.lg,h.tb,h.g,h.r,λa i=>h.cz a (.inl (by omega)),λa i=>by
  by_cases f:a=k
  .rw[f];exact o
  .exact h.xz a (by omega),h.lz,λa t q r s=>by rw[<-vy l];exact h.z a t q r s,h.du,h.bR,h.bz,h.bv,h.bm,h.t,h.lim,h.k⟩
theorem nY.fin{a:List (List aH×List (List aH))}{t:List Nat}{z:Nat->Nat->Option Nat}{A:List Value}(h:nY w Q n p g v a D t z m a.length k N A W):∃l,vd l W (.slice (some ⟨m,0,none⟩) a.length a.length) (a.map (dO p.aggs))/\Ky Q w W/\Nw Q l w/\∀k,l k->k<W.heap.size:=by
 have y:N.length=a.length:=by have:=h.r.1;omega
 have q:(a.map (dO p.aggs)).length=a.length:=by simp
 have s:sy W (.slice (some ⟨m,0,none⟩) a.length a.length) (a.map (dO p.aggs)) N:=by refine⟨by rw[q];exact y,by rw[q];exact h.r,λd j C o b=>?_⟩;have e:=(bD o).1;rw[h.xz d (by omega)] at o;rw[bL] at b;rcases r:a[d]? with _|f;(.rw[r] at b;cases b);.rw[r] at b;simp only[Option.map_some,Option.some.injEq] at b;have:=h.z d j f o r;unfold i1 at this;rw[ba (by omega),b] at this;exact this
 refine⟨λk=>(Q k∨w.heap.size<=k)/\k<W.heap.size,?_,h.k,λk f=>f.1,λk f=>f.2⟩;have u:=s.lsp (P:=λk=>(Q k∨w.heap.size<=k)/\k<W.heap.size) (λi c=>⟨.inr (by simp[Value.ownBlock] at c;subst c;exact h.bR),(World.ownsRow.lt s.o i c).2⟩) λj x i c=>by obtain⟨d,e⟩:=f9 x;have B:=(bD e).1;refine⟨?_,(World.ownsRow.lt (s.r d j _ e (VR (by rw[q];omega))) i c).2⟩;rw[h.xz d (by omega)] at e;exact h.bz j (VQ e) i c
 exact u.lsq
theorem nZ.rgi{d:List (List aH×List (List aH))}(h:nZ w n m p g P d k W)(F:Bw W X){R:Nat}(C:X.ownsRow 0 40 1 (.slice (some ⟨R,0,none⟩) d.length d.length) d.length D)(E:W.heap.size<=R):∃j f q s,X.cell? ⟨n,11,none⟩=some j/\nY W P n p g j d f q s R 0 0 D f X:=by have v:Ky (λ_=>False) W X:=Ky.ab F;have i:=h.ky v λ_ _=>id;obtain⟨j,f,q,s,x,a,z,A,B,o⟩:=i.s;exact⟨j,f,q,s,x,i.e,a.o,a.lc,a.lg,a.t,a.g,C,λ_ _=>rfl,λu K=>by omega,a.lc,λu t e I J=>by rw[oo _ _ _ _ bt];exact a.c u t e I J,a.dc,E,λt G y b=>.inl (A t G y b),⟨z,B,i.o.1⟩,λr l c b=>⟨(o r l c b).1,(o r l c b).2.1,(o r l c b).2.2.1⟩,i.t,λc e=>(h.lim c e).2,v.mono λ_ e=>e.elim⟩
def EF(j:World)(g:Nat->Prop)(n:Nat)(s:Pl)(q:Pm)(t:Value)(p:List (List aH×List (List aH)))(l:List Value)(m:List Nat)(r:Nat->Nat->Option Nat)(i a:Nat)(d k c:Nat)(o:Nat)(b:World):Prop:=∃e f,nY j g n s q t p l m r i a o e f b/\e[a]?=f[a]?/\b.cell? ⟨d,1,none⟩=some (.slice (some ⟨k,0,none⟩) c c)/\Tg 245 b d
theorem wn(WA:sz w p g k)(XR:Do w n m p g k P r W)(WW:Bw w W)(YK:r.length<=2147483648):Calls prog 249 #[.pointer (some ⟨n,0,none⟩)] W λb S=>∃X V8,b=.returned X/\vd V8 S X (fk p r)/\Ky P W S/\Nw P V8 W/\∀i,V8 i->i<S.heap.size:=by
 obtain⟨I,Wi⟩:=bj (df (g0 p.cols) p.cols r);have V2:=XR.x;rw[Wi] at V2;have Yv:I.length<=2147483649:=by have WT:=hy (g0 p.cols) p.cols r;have YG:=yZ p.cols;rw[Wi] at WT;omega
 have XK:∀q∈I,q.1.length<=1000000:=λq VZ=>by rw[<-Wi] at VZ;rcases(gq p.cols r q.1).1 (fA VZ) with h|⟨YM,YJ,b⟩;(.unfold g0 at h;split at h;(.simp at h;rw[h];simp);.cases h);.rw[<-b];simp[eC];exact WA.cl
 obtain⟨d,Wj⟩:=bj I.length;have X2:Hid (fk p r=I.map (dO p.aggs)):=by show _=_;unfold fk;rw[Wi]
 have XL:=V2.lim;have XY:Hid (∀wr,Ky P W wr->Bw w wr):=λwr VY=>WW.trans (VY.below (λi q=>(XL i q).1) WW.size);obtain⟨Xh,WC⟩:∃Xh,W.cell? ⟨n,11,none⟩=some Xh:=by obtain⟨X,_,_,_,Wc,_⟩:=V2.s;exact⟨X,Wc⟩
 obtain⟨Wb,O,W5⟩:∃Wb O,Xh=.slice Wb d O:=by obtain⟨X,M,N,V4,Wc,Yu,_⟩:=V2.s;rw[Wc] at WC;injection WC with b;subst b;(rcases Yu.o.2 with ⟨rfl,Xz⟩|⟨B,Yj,Yk,rfl,_⟩);(.exact⟨none,0,by rw[<-Wj,Xz]⟩);.exact⟨_,_,by rw[Wj]⟩
 subst W5;rw[Wj] at Yv;have Yb:=H V2;have D:=H Wj;have Xl:=H WA;have X3:=H XK;obtain⟨e,W2⟩:=bj p.aggs.length;have YI:e<=1048576:=by rw[<-W2];exact WA.al
 have V7:=H W2;obtain⟨Yx,XH,XT,XU,XV⟩:=info_parts iB;have Wt:=H (And.intro XH (And.intro XT (And.intro XU XV)));clear XR WW WA V2 Wi XK Wj XL W2 XH XT XU XV;go_enter func249,ntmps249;go_upto_region 2 with (at_make;refine eD W rfl _ _ 31 rfl 40 Yx _ underlying31 (U Wt).1 (U Wt).2.1 1 (U Wt).2.2.1 .i64 .i64 d rfl rfl (by rw[(U Wt).2.2.2];omega) (by omega) ?_);obtain⟨Wq,WD⟩:=bj (W.alloc (.cells (madeCells #[.slice none 0 0] d) 40));obtain⟨c,WX⟩:=bj W.heap.size;have WY:Bw W Wq:=by rw[<-WD];exact am VS _
 have W4:=World.ownsRow_lit (base:=0) (e:=40) (size:=1) W (madeCells #[.slice none 0 0] d) d bt (by unfold maxLen;omega) (by rw[size_madeCells,Nat.mul_one]);rw[WD];rw[WD,WX] at W4;rw[WX];obtain⟨X,M,N,V4,WS,XN⟩:=(U Yb).rgi (R:=c) WY (by rw[U D];exact W4) (by omega);have W5:X=.slice Wb d O:=by have WT:=ae WC WY;rw[WT] at WS;exact(Option.some.inj WS).symm
 subst W5;have Xm:=H XN;clear WY W4 WD WX XN WC;go_upto_region 3 with fail;go_loopw[19] (λXb wr=>∃(a:Nat),a<=d/\Xb=.int .i64 (a:Int)/\Hid (∃Wr Ws,nY W P n p g (.slice Wb d O) I M N V4 c a 0 Wr Ws wr)) (λXb _=>d-(intOf Xb).toNat);case atStart=>exact⟨0,bt,rfl,_,_,Xm⟩
 case round=>clear Xm WS;obtain⟨a,YH,rfl,WQ⟩:=hrel;by_cases W1:a<d;(·(have WV:(a:Int)<(d:Int):=by omega);obtain⟨Wr,Ws,G⟩:=U WQ;obtain⟨q,VZ⟩:∃q,I[a]?=some q:=⟨_,VR (by rw[U D];exact W1)⟩;obtain⟨Ww,W0⟩:∃Ww,M[a]?=some Ww:=⟨_,VR (by rw[G.lc,U D];exact W1)⟩;obtain⟨l,C⟩:∃l,N[a]?=some l:=⟨_,VR (by rw[G.lg,U D];exact W1)⟩;have Xa:Ws[a]?=some Ww:=(G.cz a (.inr ⟨rfl,rfl⟩)).trans W0;have WZ:=G.z a Ww q Xa VZ;rw[oo _ _ _ _ bi] at WZ;obtain⟨Wa,We,Ys⟩:=d9 WZ;subst Ys;have Wl:=G.o;rw[U D] at Wl;(obtain⟨VX,Yr⟩:∃VX,Wb=some ⟨VX,0,none⟩:=by(rcases Wl.2 with ⟨_,Xz⟩|⟨B,Yj,Yk,b,_⟩);(.omega);.injection b with b _ _;exact⟨B,b⟩);subst Yr;obtain⟨Xx,Xy⟩:=tH M N p.aggs.length a _ l W0 C;have VW:=World.ownsRow.cellAt Wl (a*2) (by omega);have Wf:=World.ownsRow.cellAt Wl (a*2+1) (by omega);rw[Xx] at VW;rw[Xy,U V7] at Wf;obtain⟨Q,W3⟩:=bj q.1.length;rw[W3] at VW;have Xn:=H G;have Wv:=H VZ;have XX:=H C;have Yd:=H Xa;have WO:=H W3;clear G VZ W0 C Xa WZ Wl Xx Xy W3 WQ;go_upto_region 5 with fail;obtain⟨V5,V0⟩:=bj (wr.alloc (.cells #[.slice Wa Q We,.slice (some ⟨l,0,none⟩) e e] 245));obtain⟨s,Wm⟩:=bj wr.heap.size;(have XC:Bw wr V5:=by rw[<-V0];exact am VS _);(have Yl:V5.cell? ⟨s,0,none⟩=some (.slice Wa Q We):=by rw[<-V0,<-Wm];simp[go_sem]);(have Xs:V5.cell? ⟨s,1,none⟩=some (.slice (some ⟨l,0,none⟩) e e):=by rw[<-V0,<-Wm];simp[go_sem]);(have Xf:Tg 245 V5 s:=by rw[<-V0,<-Wm];exact⟨_,_,Go.Deep.blk_alloc_new _ _⟩);(try rw[V0]);rw[Wm];have WU:=(U Xn).ky (Ky.ab XC);have A:=WU.r;rw[U D] at A;(have WF:Wr.length=d:=by have:=A.1;omega);obtain⟨Y,V3⟩:∃Y,Wr[a]?=some Y:=⟨_,VR (by omega)⟩;have V:=World.ownsRow.cellAt A a (by omega);have Wx:=World.ownsRow.frozenAt A a;rw[V3] at V;have XA:=WU.put (.slice Wa Q We);(have Wu:Hid (EF W P n p g (.slice (some ⟨VX,0,none⟩) d O) I M N V4 c a s l e 0 (V5.setCell ⟨c,a,none⟩ (.slice Wa Q We))):=by refine⟨_,Ws,XA,?_,(bo _ _ _ _ _ _ (by have:=Xf.ne (br A rfl) (by decide);simp;exact λb=>absurd b this)).trans Xs,Xf.set _ _ _⟩;rw[List.getElem?_set,ba rfl,ba (by omega),U Yd,U WO]);clear XC Xs Xf WU A WF V3 XA VW Wf Wm V0 Xn;go_upto_region 6 with fail;obtain⟨YA,W6⟩:=bj (V5.setCell ⟨c,a,none⟩ (.slice Wa Q We));rw[W6] at Wu;(try rw[W6]);(have Yi:YA.cell? ⟨n,5,none⟩=some (.slice g.aA e g.cA):=by obtain⟨_,_,h,_⟩:=U Wu;have:=h.e.c5;rw[U V7] at this;simpa using this);clear V Wx Yl W6;go_upto_region 7 with fail;rename World=>w5x;go_loopw[35] (λXc wr=>∃(i:Nat),i<=e/\Xc=.int .i64 (i:Int)/\Hid (EF W P n p g (.slice (some ⟨VX,0,none⟩) d O) I M N V4 c a s l e i wr)) (λXc _=>e-(intOf Xc).toNat);(case atStart=>exact⟨0,bt,rfl,Wu⟩);case round=>clear Wu Yi;obtain⟨i,VY,rfl,WM⟩:=hrel;by_cases Yw:i<e;(·(have Yq:(i:Int)<(e:Int):=by omega);obtain⟨Z,V6,K,WG,Xv,WH⟩:=U WM;obtain⟨⟨E,Xq⟩,Wz⟩:∃Ym,p.aggs[i]?=some Ym:=⟨_,VR (by rw[U V7];exact Yw)⟩;obtain⟨YC,YL,XB,YD,YE⟩:=ft.get ((U Xl).a.aa (U XY wr K.k)) Wz;have A:=K.r;rw[U D] at A;(have WF:Z.length=d:=by have:=A.1;omega);obtain⟨Y,V3⟩:∃Y,Z[a]?=some Y:=⟨_,VR (by omega)⟩;have V:=World.ownsRow.cellAt A a (by omega);rw[V3] at V;have W8:V6[a]?=some Y:=WG ▸ V3;have W9:=K.z a Y q W8 (U Wv);(have XO:(i1 p.aggs a i a q).length=Q+i:=by unfold i1 dO;rw[VU (by omega),ba rfl];simp;rw[U WO,U V7];omega);obtain⟨v,x,XP⟩:=d9 W9;rw[XO] at XP;subst XP;obtain⟨o,Wk⟩:=bj (Q+i);have Xg:=br A rfl;have WI:∀B,(Value.slice v (Q+i) x).ownBlock=some B->Tg 43 wr B:=λB b=>br W9 b;obtain⟨y,W7⟩:=bj (gV E (g2 Xq q.2));have XG:=K.g a l q (U XX) (U Wv) i _ Wz;(have Ya:Hid (∀f,Bw wr f->Calls prog 252 #[.pointer (some ⟨l,i*8,none⟩),.int .i64 E] f λb S=>b=.returned (.agg #[.int .i64 y.k,.int .i64 y.n,.string y.s])/\Bw f S):=λf C=>by have:=tE (XG.ky (Ky.ab (F:=λ_=>False) C) id λ_ _=>id);rw[W7,y.open_] at this;exact this);(have XW:Hid (∀f,Bw wr f->∀Wp,f.cell? ⟨Wp,0,none⟩=some (.int .i64 y.k)->f.cell? ⟨Wp,1,none⟩=some (.int .i64 y.n)->f.cell? ⟨Wp,2,none⟩=some (.string y.s)->∃Xi Wq,(Builtin.append_ #[40,40] 40 #[.slice v o x,.slice (some ⟨Wp,0,none⟩) 1 1]).run prog f=.ok Xi Wq/\(∃Ye Wc,Xi=.slice Ye (o+1) Wc)/\Ky (λWn=>(Value.slice v o x).ownBlock=some Wn) f Wq/\nY W P n p g (.slice (some ⟨VX,0,none⟩) d O) I M N V4 c a (i+1) Z (V6.set a Xi) Wq):=λf C Wp Yf Yg Yh=>by have:=(K.ky (Ky.ab C)).app W8 (U Wv) Wz (U X3 q (VQ (U Wv))) (U Xl).al W7 Yf Yg Yh 40;rw[U WO,Wk] at this;exact this);(have WP:Hid ((¬(Value.slice v o x).ownBlock=some c)/\¬(Value.slice v o x).ownBlock=some s):=by rw[<-Wk];exact⟨λb=>(WI c b).ne Xg (by decide) rfl,λb=>(WI s b).ne WH (by decide) rfl⟩);have X8:Hid (∀B,(Value.slice v o x).ownBlock=some B->B<wr.heap.size):=λB b=>(WI B (Wk ▸ b)).lt;have X1:Hid (∀(j:World) {V9:Option Addr} {Wd:Nat},nY W P n p g (.slice (some ⟨VX,0,none⟩) d O) I M N V4 c a (i+1) Z (V6.set a (.slice V9 (o+1) Wd)) j->j.frozen? ⟨c,a,none⟩=false):=λj V9 Wd h=>World.ownsRow.frozenAt h.r a;have Xp:=H (And.intro Xv WH);have Yc:Hid (Z.length=d/\V6.length=d):=⟨WF,by rw[K.lz,U D]⟩;have YB:Hid (c<wr.heap.size/\s<wr.heap.size):=⟨Xg.lt,WH.lt⟩;rw[Wk] at V;rw[XB];have X4:=H V;clear XB K WG Xv WH A WF V3 W8 W9 XO Xg WI W7 XG Wz V WM Wk;go_upto_region 9 with fail;obtain⟨L,WE⟩:=bj (wr.alloc (.cells #[.int .i64 E,.int .i64 Xq] 149));obtain⟨R,WB⟩:=bj wr.heap.size;(have Wh:Bw wr L:=by rw[<-WE];exact am VS _);(have Wx:L.cell? ⟨R,0,none⟩=some (.int .i64 E):=by rw[<-WE,<-WB];simp[go_sem]);(try rw[WE]);rw[WB];have Wy:Bw L L.drew:=(VS).drew;have XF:=ac Wh Wy;have X9:=H (U Ya L.drew XF);have XZ:=H Wy;have X7:=H WB;have WR:Hid (∀f,Bw L f->f.cell? ⟨c,a,none⟩=some (.slice v o x)/\f.cell? ⟨s,1,none⟩=some (.slice (some ⟨l,0,none⟩) e e)/\f.cell? ⟨R,0,none⟩=some (.int .i64 E)):=λf C=>⟨ae (U X4) (ac Wh C),ae (U Xp).1 (ac Wh C),ae Wx C⟩;have z:=H (U WR L.drew Wy);have Xo:Hid (∀u j:World,(u.cell? ⟨c,a,none⟩=some (.slice v o x)/\u.cell? ⟨s,1,none⟩=some (.slice (some ⟨l,0,none⟩) e e)/\u.cell? ⟨R,0,none⟩=some (.int .i64 E))->Ky (λWn=>(Value.slice v o x).ownBlock=some Wn) u j->j.cell? ⟨c,a,none⟩=some (.slice v o x)/\j.cell? ⟨s,1,none⟩=some (.slice (some ⟨l,0,none⟩) e e)/\j.cell? ⟨R,0,none⟩=some (.int .i64 E)):=λu j h VY=>⟨VY.cell h.1 (U WP).1,VY.cell h.2.1 (U WP).2,VY.cell h.2.2 λb=>by have:=U X8 R b;have:=U X7;omega⟩;have X6:Hid (∀f,Bw wr f->f.cell? ⟨c,a,none⟩=some (.slice v o x)/\f.cell? ⟨s,1,none⟩=some (.slice (some ⟨l,0,none⟩) e e)/\f.cell? ⟨R,0,none⟩=some (.int .i64 E))∨True:=.inr trivial;have Xj:=H Wh;clear Wh Wy XF Wx WE WB X6;refine bH (λW:World=>W.cell? ⟨c,a,none⟩=some (.slice v o x)/\W.cell? ⟨s,1,none⟩=some (.slice (some ⟨l,0,none⟩) e e)/\W.cell? ⟨R,0,none⟩=some (.int .i64 E)) 15 ?_;refine ap 0 (.slice (some ⟨c,0,none⟩) d d) rfl (U z) ?_;refine ap 1 (.int .i64 (a:Int)) rfl (U z) ?_;refine ap 2 (.slice (some ⟨c,0,none⟩) d d) rfl (U z) ?_;refine ap 3 (.int .i64 (a:Int)) rfl (U z) ?_;refine ap 4 (.pointer (some ⟨c,a,none⟩)) rfl (U z) ?_;(refine ap 5 (.slice v o x) rfl (U z) ?_ λS Wg=>by obtain⟨Xd,Xe,XQ⟩:=Wg;go_simp);refine ap 6 (.pointer (some ⟨s,1,none⟩)) rfl (U z) ?_;(refine ap 7 (.slice (some ⟨l,0,none⟩) e e) rfl (U z) ?_ λS Wg=>by obtain⟨Xd,Xe,XQ⟩:=Wg;go_simp);refine ap 8 (.int .i64 (i:Int)) rfl (U z) ?_;refine ap 9 (.pointer (some ⟨l,i*8,none⟩)) rfl (U z) ?_;refine ap 10 (.pointer (some ⟨R,0,none⟩)) rfl (U z) ?_;(refine ap 11 (.int .i64 E) rfl (U z) ?_ λS Wg=>by obtain⟨Xd,Xe,XQ⟩:=Wg;go_simp);refine bh 12 rfl λJ t=>?_;go_simp;refine(U X9).mono ?_;rintro _ T ⟨rfl,XD⟩;go_simp;have Xk:=H (ac (U XZ) XD);have Xt:=U WR T (U Xk);have X0:=H Xt;clear XD Xt;refine VP t (U X0) ?_;clear t J;refine bh 13 rfl λJ t=>?_;go_simp;obtain⟨u,V1⟩:=bj (T.alloc (.cells #[.int .i64 y.k,.int .i64 y.n,.string y.s] 43));have XE:Bw T u:=(by rw[<-V1];exact am VS _);have VW:u.cell? ⟨T.heap.size,0,none⟩=some (.int .i64 y.k):=(by rw[<-V1];simp[go_sem]);have Wf:u.cell? ⟨T.heap.size,1,none⟩=some (.int .i64 y.n):=(by rw[<-V1];simp[go_sem]);have Xr:u.cell? ⟨T.heap.size,2,none⟩=some (.string y.s):=(by rw[<-V1];simp[go_sem]);(try rw[V1]);have WJ:=H (ac (U Xk) XE);have WK:=H (U WR u (U WJ));obtain⟨YN,j,XM,⟨V9,Wd,Yt⟩,XJ,XI⟩:=U XW u (ac (U Xj) (U WJ)) T.heap.size VW Wf Xr;subst Yt;have X5:=H XM;have WN:=H XJ;have WL:=H XI;clear XE VW Wf Xr V1 XM XJ XI;refine VP t (U WK) ?_;clear t J;refine bh 14 rfl λJ t=>?_;refine et (.tmp 45) (.tmp 53) #[40,40] rfl _ _ rfl rfl (U X5) ?_;have Xu:=U Xo u j (U WK) (U WN);have YF:=U X1 j (U WL);refine VP t Xu ?_;clear t J;refine bh 15 rfl λJ t=>?_;go_simp;refine bE t ?_;clear t J;refine bh 16 rfl λJ t=>?_;obtain⟨p1,p2,p3⟩:=Xu;go_simp;refine bE t ?_;clear t J;refine cf ?_;go_wp2;go_roundw;(case rel=>have WV:=(U WL).put (.slice V9 (o+1) Wd);obtain⟨Xd,Xe⟩:=U Yc;have Yy:Ky (λWn=>Wn=c) j (j.setCell ⟨c,a,none⟩ (.slice V9 (o+1) Wd)):=cS _ _ _ _ rfl;have Yz:Tg 40 j c:=br (U WL).r rfl;have XS:Tg 245 j s:=((U Xp).2.ky (Ky.ab (F:=λ_=>False) (ac (U Xj) (U WJ))) id).ky (U WN) (U WP).2;refine⟨i+1,by omega,by go_num,_,_,WV,?_,Yy.cell (U Xo u j (U WK) (U WN)).2.1 (XS.ne Yz (by decide)),XS.set _ _ _⟩;rw[List.getElem?_set,List.getElem?_set,ba rfl,ba rfl,ba (by omega),ba (by omega)]);case measure=>simp[intOf];omega);·(have Yq:¬(i:Int)<(e:Int):=by omega);go_wp2;go_roundw;(case rel=>obtain⟨Z,V6,K,WG,_,_⟩:=U WM;exact⟨a+1,by omega,by go_num,Z,V6,K.next (by rw[U V7];omega) WG⟩);case measure=>simp[intOf];omega);·(have WV:¬(a:Int)<(d:Int):=by omega);(have b:a=d:=by omega);subst b;go_wp2;go_ret;obtain⟨Wr,Ws,G⟩:=U WQ;rw[<-U D] at G;obtain⟨V8,Xw,Yn,Yo,Yp⟩:=G.fin;rw[<-U X2,U D] at Xw;exact⟨.slice (some ⟨c,0,none⟩) a a,rfl,V8,Xw,Yn,Yo,Yp⟩
theorem rO(a x:Value):xf (.func (.method "Add") #[.iface 202 a] #[]) x 248 #[a,x]:=λb=>by kernel_rfl
theorem pX(a:Value)(b:World):(invoke (.fn (.method "Rows") #[]) #[.iface 202 a]).run prog b=.ok (.enter 249 #[a]) b:=by kernel_rfl
theorem Ba{w0:World}{gx mb:Nat}{p:Pl}{m:Pm}{wd:Nat}(h:sz w0 p m wd)(hwd:wd<=64) :
  Dg w0 wd (.iface 202 (.pointer (some ⟨gx,0,none⟩))) (fk p) (Do w0 gx mb p m wd) where
 i:=⟨_,_,rfl⟩
 add O ys W a c r s hB hl hr ha hn hA:=⟨248,_,rO _ _,Bg h s hB hwd hl hr ha hn hA⟩
 rows:=⟨249,_,pX _,λO ys W s hB hl=>wn h s hB hl⟩
 stb:=Bd
theorem nK{p:Pl}{m:Pm}{wd:Nat}(C:Below w.heap.size w W)(V6:p.aggs.length<=1048576):Calls prog 184 #[p.val m] W λc V0=>∃Y Wb S,c=.returned (.pointer (some ⟨Y,0,none⟩))/\Do w Y Wb p m wd S [] V0/\(∀b,S b->W.heap.size<=b)/\Below W.heap.size W V0:=by
 obtain⟨a,k⟩:=bj (W.alloc (.cells #[.int .i64 p.op,.string p.au,.slice m.aE p.ex.length m.cE,.slice m.aC p.cols.length m.cC,.slice m.aK p.keys.length m.cK,.slice m.aA p.aggs.length m.cA,.int .i64 p.fn,.int .i64 p.aj,.int .i64 p.n,.int .i64 p.off,.slice m.aP p.args.length m.cP] 28));have D:Below W.heap.size W a:=by rw[<-k];exact am VS _
 have K:a.heap.size=W.heap.size+1:=by rw[<-k];simp
 have v:dL a W.heap.size 0 p m:=by rw[<-k];refine⟨?_,?_,?_,?_,?_,?_,?_,?_,?_,?_,?_⟩<;>simp[go_sem]
 have r:=H v.load;have Wj:=@run_makeMap prog;obtain⟨j,n⟩:=bj (a.alloc (.map #[] 0));have I:nE j a.heap.size 0 []:=by rw[<-n];exact nE.made a
 have f:j.heap.size=a.heap.size+1:=by rw[<-n];simp
 have x:Below a.heap.size a j:=by rw[<-n];exact am VS _
 obtain⟨N,g⟩:∃N:Obj,(.cells #[.int .i64 p.op,.string p.au,.slice m.aE p.ex.length m.cE,.slice m.aC p.cols.length m.cC,.slice m.aK p.keys.length m.cK,.slice m.aA p.aggs.length m.cA,.int .i64 p.fn,.int .i64 p.aj,.int .i64 p.n,.int .i64 p.off,.slice m.aP p.args.length m.cP,.slice none 0 0,.map (some a.heap.size)] 224)=N:=⟨_,rfl⟩;obtain⟨q,e⟩:=bj (j.alloc N);have s:Below j.heap.size j q:=by rw[<-e];exact am VS _
 have L:q.heap.size=j.heap.size+1:=by rw[<-e];simp
 have VX:=C.size;have y:nZ w (a.heap.size+1) a.heap.size p m (λb=>b=a.heap.size+1∨b=a.heap.size) [] 0 q:=by refine⟨?_,⟨.slice none 0 0,[],[],λ_ _=>none,?_,⟨World.ownsRow_nil _ _ _ _,rfl,rfl,λo Wi d h=>(by simp at h),λV V4=>(by cases V4),λo V d h=>(by simp at h),λo V9 VZ Wn X h=>(by simp at h),λo V9 V h=>(by simp at h),λo V3 Wl Wh b h=>(by cases h)⟩,λX c=>(by cases c),λVZ M=>(by cases M),λVZ M=>(by cases M),λo V3 b h=>(by cases h)⟩,?_,?_,?_,I.ky (Ky.ab s (F:=λ_=>False)) id,⟨.inl rfl,.inr rfl⟩,λb d=>by omega⟩;(.rw[<-f,<-e,<-g];refine⟨?_,?_,?_,?_,?_,?_,?_,?_,?_,?_,?_⟩<;>simp[go_sem]);(.rw[<-f,<-e,<-g];simp[go_sem]);(.rw[<-f,<-e,<-g];simp[go_sem]);(.rw[<-f,<-e,<-g];exact⟨_,_,Go.Deep.blk_alloc_new _ _⟩);.rw[<-f,<-e,<-g];simp[go_sem,f]
 have E:Below W.heap.size W q:=ac D (ac x s);have O:=H (lf y (cv:=.slice none 0 0) (k:=[]) ⟨rfl,.inl ⟨rfl,rfl⟩⟩ (λX c=>by cases c) (λWp V8=>by cases V8) (by simp) (λd V7=>by cases V7) (by omega) (by simp) V6);have c3:q.cell? ⟨W.heap.size,3,none⟩=some (.slice m.aC p.cols.length m.cC):=ae (ae v.c3 x) s;have z:=H E;have V2:=H y;have P:=H (And.intro K (And.intro f L));have u:=H k;have Q:=H n;have t:=H g;have R:=H e;rw[Pl.ad] at r ⊢;by_cases l:p.cols=[];·(have B:p.cols.length=0:=by rw[l];rfl);have A:=H l;rw[B] at c3 t u r;rw[B];clear v D K k C I f x g e n s L VX y E l B;go_enter func184,ntmps184;go_upto_region 1 with fail;rw[U u];go_upto_region 2 with (refine a1 (by rfl) 28 (.tmp 1) rfl _ (by rfl) _ (U r) ?_);rw[U Q,U t,U R];go_wp2_with (go_at_call 200;refine(U O).mono ?_;rintro _ Wg ⟨o,Wa,T,rfl,i⟩;have V1:=H i;clear i);go_ret;have i:=U V1;obtain⟨Wd,We,Wf⟩:=U P;(have V5:Wa=[([],[])]:=by rcases i.is_ with c|⟨_,c,_⟩;(.obtain⟨Wm,h⟩:=i.at_;rw[c] at h;simp at h);.exact c);subst V5;(have G:g0 p.cols=[([],[])]:=by unfold g0;rw[ba (U A)]);refine⟨a.heap.size+1,a.heap.size,T,rfl,⟨?_,λWc J=>by cases J⟩,λb d=>?_,?_⟩;(.show nZ w _ _ p m T (df (g0 p.cols) p.cols []) _ Wg;rw[show df (g0 p.cols) p.cols []=g0 p.cols from rfl,G];exact i.g);(.rcases i.nw b d with d|d|d;(.omega);(.cases d);.omega);.exact(U z).trans (i.ky.below (λb d=>by omega) (U z).size)
 .obtain⟨VY,VW⟩:=bj p.cols.length;(have Z:¬(VY:Int)=0:=by have:p.cols.length≠0:=λc=>l (dF c);omega);(have Wk:((VY:Int) == 0)=false:=by simpa using Z);have A:=H l;rw[VW] at c3 t u r;rw[VW];clear v D K k C I f x g e n s L VX y E l Z O;go_enter func184,ntmps184;go_upto_region 1 with fail;rw[U u];go_upto_region 2 with (refine a1 (by rfl) 28 (.tmp 1) rfl _ (by rfl) _ (U r) ?_);rw[U Q,U t,U R];go_wp2;go_ret;obtain⟨Wd,We,Wf⟩:=U P;(have G:g0 p.cols=[]:=by unfold g0;rw[VU (U A)]);refine⟨a.heap.size+1,a.heap.size,λb=>b=a.heap.size+1∨b=a.heap.size,rfl,⟨?_,λWc J=>by cases J⟩,λb d=>by omega,U z⟩;show nZ w _ _ p m _ (df (g0 p.cols) p.cols []) _ q;rw[show df (g0 p.cols) p.cols []=g0 p.cols from rfl,G];exact(U V2).mono bt
theorem tK(q:p.op=6)(o:Below w.heap.size w W)(h:sz w p g n)(G:n<=64):Calls prog 138 #[p.val g] W λF u=>∃t l b,F=.returned t/\Dg w n t (fk p) l/\l b [] u/\(∀d,b d->W.heap.size<=d)/\Below W.heap.size W u:=by
 obtain⟨f,a⟩:=bj (W.alloc (.cells #[.int .i64 p.op,.string p.au,.slice g.aE p.ex.length g.cE,.slice g.aC p.cols.length g.cC,.slice g.aK p.keys.length g.cK,.slice g.aA p.aggs.length g.cA,.int .i64 p.fn,.int .i64 p.aj,.int .i64 p.n,.int .i64 p.off,.slice g.aP p.args.length g.cP] 28));have j:Below W.heap.size W f:=by rw[<-a];exact am VS _
 have k:f.heap.size=W.heap.size+1:=by rw[<-a];simp
 have i:dL f W.heap.size 0 p g:=by rw[<-a];refine⟨?_,?_,?_,?_,?_,?_,?_,?_,?_,?_,?_⟩<;>simp[go_sem]
 have y:=H (nK (wd:=n) (p:=p) (m:=g) (ac o j) h.al);have z:=H i.load;have v:=H j;have C:=H k;have A:=H (λc e=>Ba (w0:=w) (gx:=c) (mb:=e) h G);have E:=H a;have J:=i.c0;have K:(p.op == 6)=true:=by rw[q];decide
 clear i j k a o q h;rw[Pl.ad];go_enter func138,ntmps138;go_upto_region 1 with fail;rw[U E]
 go_wp2_with (first
  | (refine a1 (by rfl) 28 (.tmp 1) rfl _ (by rfl) _ (U z) ?_)
  | (go_at_call 184;refine(U y).mono ?_;rintro _ L ⟨c,e,b,rfl,s,r,m⟩;have D:=H s;have B:=H r;have x:=H m;clear s r m))
 go_ret;have k:=U C;exact⟨_,_,b,rfl,U A c e,U D,λd I=>by have:=U B d I;omega,ac (U v) (U x)⟩
end Go.Proofs.YtklgoolblpmmlaaGreat
