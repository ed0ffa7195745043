import Derived.Test.YtklgoolblpmmlaaGreatWpA
import Derived.Test.YtklgoolblpmmlaaGreatBgY
import Derived.Laws.OwnMore
set_option linter.all false
set_option maxRecDepth 100000
namespace Go.Proofs.YtklgoolblpmmlaaGreat
open Go.RowKit Go.Sort Go.Lib Go.Proofs.Tryz
theorem CA:(Tryz.prog.info? 31).map (λa=>(a.zero,a.size,a.bytes))=some (some (.slice none 0 0),1,24):=by kernel_rfl
variable{W X w:World}{i j k m n:Nat}{p:Pl}{g:Pm}{v:Value}{D:List Value}{P Q:Nat->Prop}{x y:List aH}{r:List (List aH)}{I J:Int}
theorem dL.ky{F:Nat->Prop}(h:dL w n m p g)(a:Ky F w W)(b:¬F n):dL W n m p g:=
 ⟨a.cell h.c0 b,a.cell h.c1 b,a.cell h.c2 b,a.cell h.c3 b,a.cell h.c4 b,a.cell h.c5 b,a.cell h.c6 b,a.cell h.c7 b,a.cell h.c8 b,a.cell h.c9 b,a.cell h.c10 b⟩
structure BG(w:World)(v:Value)(L:List (List (List aH)))(us:List Value)(vss:List (List Value)):Prop where
 o:w.ownsRow 0 31 1 v L.length us
 lu:us.length=L.length
 lv:vss.length=L.length
 p:∀(i:Nat) (u:Value) rs vs,us[i]?=some u->L[i]?=some rs->vss[i]?=some vs->sy w u rs vs
 du:∀(i j:Nat) (u u':Value) (g:Nat),us[i]?=some u->us[j]?=some u'->u.ownBlock=some g->u'.ownBlock=some g->i=j
 dv:(vss.flatten.filterMap Value.ownBlock).Nodup
theorem BG.ky{G:Nat->Prop}{d:List (List (List aH))}{c:List (List Value)}(h:BG w v d D c)(e:Ky G w W)(l:∀a,v.ownBlock=some a->¬G a)(k:∀b∈D,∀a,b.ownBlock=some a->¬G a)(j:∀b∈c.flatten,∀a,b.ownBlock=some a->¬G a):BG W v d D c:=
 ⟨bM h.o e l,h.lu,h.lv,λn b p i f o g=>(h.p n b p i f o g).ky e (k b (VQ f)) λq m=>j q (List.mem_flatten.2 ⟨i,VQ g,m⟩),h.du,h.dv⟩
theorem BG.tu{d:List (List (List aH))}{i:List (List Value)}(h:BG w v d D i):∀b∈D,∀a,b.ownBlock=some a->Tg 40 w a:=λb f a e=>by
 obtain⟨g,c⟩:=f9 f
 have j:=(bD c).1
 have k:=h.lu
 have l:=h.lv
 exact br (h.p g b _ _ c (VR (by omega)) (VR (by omega))).o e
theorem BG.tv{i:List (List (List aH))}{g:List (List Value)}(h:BG w v i D g):∀c∈g.flatten,∀a,c.ownBlock=some a->Tg 43 w a:=λc b a j=>by
 obtain⟨n,k,b⟩:=List.mem_flatten.1 b
 obtain⟨l,d⟩:=f9 k
 obtain⟨m,e⟩:=f9 b
 have q:=h.lu
 have r:=h.lv
 have o:=(bD d).1
 have f:=h.p l _ _ n (VR (by omega)) (VR (by omega)) d
 have p:=(bD e).1
 have s:=f.l
 exact br (f.r m c _ e (VR (by omega))) j
structure sD(w0:World)(gx mb:Nat)(p:Pl)(m:Pm)(O:Nat->Prop)(l:List (List aH×List (List aH)))(n:Nat)(W:World):Prop where
 e:dL W gx 0 p m
 s:∃v us vss,W.cell? ⟨gx,11,none⟩=some v/\BG W v (l.map (·.2)) us vss/\(∀g,v.ownBlock=some g->O g)/\(∀u∈us,∀g,u.ownBlock=some g->O g)/\∀u∈vss.flatten,∀g,u.ownBlock=some g->O g
 f:W.frozen? ⟨gx,11,none⟩=false
 t:Tg 231 W gx
 c12:W.cell? ⟨gx,12,none⟩=some (.map (some mb))
 m:nE W mb n (l.map λq=>bF q.1)
 o:O gx/\O mb
 lim:∀k,O k->w0.heap.size<=k/\k<W.heap.size
theorem nE.tg{b:List ByteArray}(h:nE w n m b)(a:Tg k w j):j≠n:=by obtain⟨d,⟨g,e,c,l⟩,o⟩:=h;rintro rfl;obtain⟨f,i,a⟩:=a;rw[c] at a;injection a with a;cases a
theorem sD.ky{G:Nat->Prop}{q:List (List aH×List (List aH))}(h:sD w n m p g P q k W)(c:Ky G W X)(a:∀e,P e->¬G e):sD w n m p g P q k X:=by obtain⟨v,u,x,s,t,j,l,o⟩:=h.s;exact⟨h.e.ky c (a _ h.o.1),⟨v,u,x,c.cell s (a _ h.o.1),t.ky c (λb d=>a b (j b d)) (λi f b d=>a b (l i f b d)) (λi f b d=>a b (o i f b d)),j,l,o⟩,VN c h.t.lt (a _ h.o.1) h.f,h.t.ky c (a _ h.o.1),c.cell h.c12 (a _ h.o.1),h.m.ky c (a _ h.o.2),h.o,λe r=>⟨(h.lim e r).1,cN (h.lim e r).2 c.size⟩⟩
theorem ij{d:Array Oper}{rest:List Oper}{a:Oper}{b:Act}{c:Exit->Act->World->Prop}(k:a.guard=none)(e x:Operand)(f:Array TypeId)(l:a.op=.call { callee:=.builtin .append,args:=#[e,x],argTypes:=f })(g i:Value)(n:b.eval e=g)(o:b.eval x=i) (m:(Builtin.append_ f a.type #[g,i]).run prog w=.ok v W) (h:wpList prog d c rest (b.put a.dst v) W):wpList prog d c (a::rest) b w:=by refine wpList_plain k λp j=>?_;unfold Oper.wp;simp[execOp,l,resolve,invoke,builtin,n,o,m,Result.andThen];exact j _ _ h
theorem et{b:Oper}{a:Act}{c:Act->World->Prop}{i:Exit->Act->World->Prop}(d x:Operand)(e:Array TypeId)(j:b.op=.call { callee:=.builtin .append,args:=#[d,x],argTypes:=e })(f g:Value)(l:a.eval d=f)(m:a.eval x=g) (k:(Builtin.append_ e b.type #[f,g]).run prog w=.ok v W) (h:c (a.put b.dst v) W):b.wp prog a w c i:=by unfold Oper.wp execOp;simp only[j,resolve,invoke,builtin,Sem.run_bind,Sem.run_pure,Result.andThen_ok,List.map_toArray,dX,List.map_nil,l,m,k];exact h
theorem sD.grow{q:List (List aH×List (List aH))}(h:sD w n m p g Q q k W)(Wv:¬bF x∈q.map λd=>bF d.1)(Ww:cJ.ok (bF x))(WP:k<=2147483648)(WO:q.length<=2147483648):∃j f,(Instr.mapUpdate 50 (.map (some m)) (.string (bF x)) (.int .i64 (q.length:Int))).run prog W=.ok () j/\Ky (λc=>c=m) W j/\W.cell? ⟨n,11,none⟩=some f/\(∃D s,f=.slice D q.length s)/\j.cell? ⟨n,11,none⟩=some f/\∀y,Bw j y->y.cell? ⟨j.heap.size,0,none⟩=some (.slice none 0 0)->∀V3,∃r e Y,(Builtin.append_ #[229,229] V3 #[f,.slice (some ⟨j.heap.size,0,none⟩) 1 1]).run prog y=.ok r e/\(∃D s,r=.slice D (q.length+1) s)/\e.cell? ⟨n,11,none⟩=some f/\e.frozen? ⟨n,11,none⟩=false/\sD w n m p g Y (q++[(x,[])]) (k+1) (e.setCell ⟨n,11,none⟩ r)/\Nw Q Y W/\Ky Q W (e.setCell ⟨n,11,none⟩ r)/\(∀c,Q c->Y c):=by
 obtain⟨f,N,V4,s,B,Wc,Wq,Wr⟩:=h.s;obtain⟨j,Wd,Wx,Wt⟩:=h.m.put (by omega) (by simp;omega) Ww Wv;rw[bQ] at Wd;have A:Ky (λc=>c=m) W j:=Ky.ao Wt λc a=>by injection a with a;exact a.symm
 have E:n≠m:=h.m.tg h.t;have VZ:∀{t b},Tg t W b->¬b=m:=λWC=>h.m.tg WC;have WE:∃D s,f=.slice D q.length s:=by(rcases B.o.2 with ⟨rfl,Wb⟩|⟨b,Wk,Wl,rfl,_⟩);(.exact⟨none,0,by rw[<-Wb,bQ]⟩);.exact⟨_,_,by rw[bQ]⟩
 refine⟨j,f,Wd,A,s,WE,A.cell s E,λy Ws c3 V3=>?_⟩;have WA:BG j f (q.map (·.2)) N V4:=B.ky A (λb a=>VZ (br B.o a)) (λi o b a=>VZ (B.tu i o b a)) λi o b a=>VZ (B.tv i o b a);have F:Ky (λ_=>False) j y:=Ky.ab Ws;have l:=WA.ky F (λ_ _ d=>d) (λ_ _ _ _ d=>d) λ_ _ _ _ d=>d;obtain⟨WF,Wu,WK,WL,WM⟩:=info_parts CA;have VY:(q.map (·.2)).length=q.length:=by simp
 obtain⟨r,e,WB,V,WG,_,T⟩:=run_append_own_at (P:=prog) y 0 229 V3 31 WF (.slice none 0 0) 1 24 underlying229 Wu WK WL WM rfl (by decide) f _ N l.o ⟨j.heap.size,0,none⟩ 1 1 [.slice none 0 0] rfl (λc WJ J=>by
  match c,J with
  | 0,J=>simp at J;subst J;simpa [Addr.add] using c3
  | c+1,J=>simp at J) (λWJ Wh=>by simp at Wh;subst Wh;rfl) (by rw[VY];unfold maxLen;omega) (by rw[VY];omega) bt
 have C:Ky (λc=>f.ownBlock=some c) y e:=Ky.ao WG λb a=>a;have V1:Ky (λc=>c=m) W y:=A.trans F λ_ d=>d.elim;have M:Tg 231 y n:=(h.t.ky A E).ky F id;have I:¬f.ownBlock=some n:=λa=>(br l.o a).ne M (by decide) rfl;have V9:e.cell? ⟨n,11,none⟩=some f:=C.cell (F.cell (A.cell s E) id) I;have Wa:e.frozen? ⟨n,11,none⟩=false:=VN C M.lt I (VN V1 h.t.lt E h.f);have S:Ky (λc=>c=n) e (e.setCell ⟨n,11,none⟩ r):=cS e n 11 r rfl;have WH:Tg 231 e n:=M.ky C I;have Wi:=Wx.ky F id;have Wy:¬f.ownBlock=some m:=λa=>Wi.tg (br l.o a) rfl;have WQ:=C.size;have WS:=V1.size;have V6:=A.size;have Wg:∀b,r.ownBlock=some b->f.ownBlock=some b∨y.heap.size<=b:=λb a=>by rcases T with T|T;(.rw[T] at a;exact .inl a);.rw[T] at a;injection a with a;exact .inr (by omega)
 have Wf:=l.tu;have We:=l.tv;have WD:∃D s,r=.slice D (q.length+1) s:=by rw[VY] at V;(rcases V.2 with ⟨_,Wb⟩|⟨b,Wk,Wl,rfl,_⟩);(.omega);.exact⟨_,_,rfl⟩
 refine⟨r,e,λc=>Q c∨(y.heap.size<=c/\c<e.heap.size),WB,WD,V9,Wa,⟨?_,?_,by rw[bN];exact Wa,?_,?_,?_,⟨.inl h.o.1,.inl h.o.2⟩,?_⟩,λc d=>by rcases d with d|d;exact .inl d;exact .inr (by omega),?_,λc d=>.inl d⟩;.have v:dL e n 0 p g:=((h.e.ky A E).ky F id).ky C I;have u:∀{V2:Nat} {O:Value},V2≠11->e.cell? ⟨n,V2,none⟩=some O->(e.setCell ⟨n,11,none⟩ r).cell? ⟨n,V2,none⟩=some O:=λWz R=>(bo _ _ _ _ _ _ (by simp[Wz])).trans R;exact⟨u (by omega) v.c0,u (by omega) v.c1,u (by omega) v.c2,u (by omega) v.c3,u (by omega) v.c4,u (by omega) v.c5,u (by omega) v.c6,u (by omega) v.c7,u (by omega) v.c8,u (by omega) v.c9,u (by omega) v.c10⟩
 .refine⟨r,N++[.slice none 0 0],V4++[[]],b5 V9,⟨?_,?_,?_,λV0 i Wj G K X L=>?_,?_,?_⟩,λb a=>?_,λi o b a=>?_,λi o b a=>?_⟩;(.rw[ep,bG];refine bM V S λb a=>?_;rintro rfl;rcases Wg b a with a|a;(.exact I a);.have:=M.lt;omega);(.simp[B.lu]);(.simp[B.lv]);(.rcases de (vs:=N) K with K|⟨Wm,z⟩;(.have WN:=(bD K).1;have V5:=l.lu;have V6:=l.lv;rw[ep,eK (by omega)] at X;rw[eK (by omega)] at L;exact((l.p V0 i Wj G K X L).ky C (λb a z=>(Wf i (VQ K) b a).ne (br l.o z) (by decide) rfl) λO R b a z=>(We O (List.mem_flatten.2 ⟨G,VQ L,R⟩) b a).ne (br l.o z) (by decide) rfl).ky S (λb a z=>(Wf i (VQ K) b a).ne M (by decide) z) λO R b a z=>(We O (List.mem_flatten.2 ⟨G,VQ L,R⟩) b a).ne M (by decide) z);.have V5:=l.lu;have V6:=l.lv;subst Wm z;(have Wn:Wj=[]:=by rw[ep,ez (by omega)] at X;simpa [V5] using X.symm);(have Wp:G=[]:=by rw[ez (by omega)] at L;simpa [V5,V6] using L.symm);subst Wn Wp;exact sy.nil _);(.intro V0 c i WI b Z VW V7 V8;rcases de (vs:=N) Z with Z|⟨_,a⟩;(.rcases de (vs:=N) VW with VW|⟨_,a⟩;(.exact B.du V0 c i WI b Z VW V7 V8);.subst a;cases V8);.subst a;cases V7);(.simpa using B.dv);(.rcases Wg b a with VX | VX;(.exact .inl (Wc b VX));.exact .inr ⟨VX,(World.ownsRow.lt V b a).2⟩);(.rcases cM o with o|o;(.exact .inl (Wq i o b a));.simp at o;subst o;cases a);·(have:i∈V4.flatten:=by simpa using o);exact .inl (Wr i this b a)
 .exact WH.set _ _ _
 .exact(bo _ _ _ _ _ _ (by simp)).trans (C.cell (F.cell (A.cell h.c12 E) id) I)
 .rw[ep];exact(Wi.ky C Wy).ky S λa=>E a.symm
 .intro c d;have WR:=S.size;rcases d with d|d;(.have:=h.lim c d;exact⟨this.1,by omega⟩);.have:=h.lim n h.o.1;exact⟨by omega,by omega⟩
 .exact((V1.mono λc a=>a ▸ h.o.2).trans (C.mono λc a=>Wc c a) (Nw.refl _ _)).trans (S.mono λc a=>a ▸ h.o.1) (Nw.refl _ _)
theorem kU{α:Type}:∀(a:List (List α)) (e:Nat) (b c:List α) (d:List α),a[e]?=some b->c.Perm (b++d)->(a.set e c).flatten.Perm (a.flatten++d)
 | [],e,b,c,d,h,_=>by simp at h
 | g::a,0,b,c,d,h,f=>by simp at h;subst h;simp only[List.set_cons_zero,List.flatten_cons];refine(f.append_right _).trans ?_;rw[cI,cI];exact List.Perm.append_left _ List.perm_append_comm
 | g::a,e+1,b,c,d,h,f=>by simp only[List.set_cons_succ,List.flatten_cons];rw[cI];exact List.Perm.append_left _ (kU a e b c d (by simpa using h) f)
theorem nA{cols:List Int}{a:List (List aH×List (List aH))}(o:(a.map (·.1)).Nodup)(c:a[n]?=some (eC x cols,r)):nB cols a x=a.set n (eC x cols,r++[x]):=by
 unfold nB;rw[ba (by simpa using fA (f:=(·.1)) (VQ c))];have i:=(bD c).1;apply List.ext_getElem?;intro b;rw[bL,List.getElem?_set];by_cases d:n=b;.subst d;rw[ba rfl,ba i,c];simp
 .rw[VU d];rcases j:a[b]? with _|p;(.rfl);.simp only[Option.map_some];rw[VU];intro l;have m:=(bD j).1;have k:=List.pairwise_iff_getElem.1 o;(have g:(a.map (·.1))[n]'(by simpa using i)=(a.map (·.1))[b]'(by simpa using m):=by rw[List.getElem_map,List.getElem_map,(bD c).2,(bD j).2];exact l.symm);rcases Nat.lt_or_gt_of_ne d with e|e;(.exact k n b _ _ e g);.exact k b n _ _ e g.symm
theorem sx{cols:List Int}{a:List (List aH×List (List aH))}(h:¬eC x cols∈a.map (·.1)):nB cols a x=(a++[(eC x cols,[])]).set a.length (eC x cols,[]++[x]):=by unfold nB;rw[VU h];simp
theorem sD.push{A:List (List aH×List (List aH))}(h:sD w n m p g Q A k W)(Wc:A[j]?=some (x,r))(W1:A.length<=2147483648)(W2:r.length<=2147483648)(Wu:dx W 0 v y)(WH:∀c,v.ownBlock=some c->¬Q c)(WM:∀c,v.ownBlock=some c->w.heap.size<=c):∃f G e,W.cell? ⟨n,11,none⟩=some (.slice (some ⟨f,0,none⟩) A.length G)/\W.cell? ⟨f,j,none⟩=some e/\(∃Wz V1,e=.slice Wz r.length V1)/\∀o V7,Bw W o->o.cell? ⟨V7,0,none⟩=some v->∀Wi,∃B u Wm,(Builtin.append_ #[31,31] Wi #[e,.slice (some ⟨V7,0,none⟩) 1 1]).run prog o=.ok B u/\(∃T G,B=.slice T (r.length+1) G)/\u.cell? ⟨n,11,none⟩=some (.slice (some ⟨f,0,none⟩) A.length G)/\u.cell? ⟨f,j,none⟩=some e/\u.frozen? ⟨f,j,none⟩=false/\sD w n m p g Wm (A.set j (x,r++[y])) k (u.setCell ⟨f,j,none⟩ B)/\(∀b,Wm b->Q b∨v.ownBlock=some b∨o.heap.size<=b)/\Ky Q W (u.setCell ⟨f,j,none⟩ B):=by
 obtain⟨W3,Wj,V8,G,E,Wp,Wb,Wq⟩:=h.s;have WJ:=(bD Wc).1;have V3:(A.map (·.2)).length=A.length:=by simp
 have Wr:(A.map (·.2))[j]?=some r:=by rw[bL,Wc];rfl
 have WY:=E.lu;have WZ:=E.lv;obtain⟨e,S⟩:∃e,Wj[j]?=some e:=⟨_,VR (by omega)⟩;obtain⟨C,V5⟩:∃C,V8[j]?=some C:=⟨_,VR (by omega)⟩;have VX:=E.p j e r C S Wr V5;have Wd:=E.o;rcases Wd.2 with ⟨_,Wa⟩|⟨f,VW,V9,rfl,_⟩
 .omega
 rw[V3] at Wd G;have V1:W.cell? ⟨f,j,none⟩=some e:=by have:=World.ownsRow.cellAt Wd j (by omega);rw[this,S]
 refine⟨f,VW,e,G,V1,?_,λo V7 Wt WA Wi=>?_⟩;·(rcases VX.o.2 with ⟨rfl,Wa⟩|⟨c,VW,V9,rfl,_⟩);(.exact⟨none,0,by rw[Wa]⟩);.exact⟨_,_,rfl⟩
 have J:Ky (λ_=>False) W o:=Ky.ab Wt;rw[V3] at E;have I:=E.ky J (λ_ _ d=>d) (λ_ _ _ _ d=>d) λ_ _ _ _ d=>d;have Ww:=I.p j e r C S Wr V5;have We:=I.o;rw[V3] at We;have Wv:dx o 0 v y:=bM Wu J λ_ _ d=>d;obtain⟨WS,WI,WV,WW,WX⟩:=info_parts iB;have WF:v.oneCell'=true:=by rcases Wu.2 with ⟨rfl,_⟩|⟨c,VW,V9,rfl,_⟩<;>rfl
 obtain⟨B,u,WO,Wh,WT,_,VY⟩:=run_append_own_at (P:=prog) o 0 31 Wi 40 WS (.slice none 0 0) 1 24 underlying31 WI WV WW WX rfl (by decide) e r.length C Ww.o ⟨V7,0,none⟩ 1 1 [v] rfl (λb R X=>by
  match b,X with
  | 0,X=>simp at X;subst X;simpa [Addr.add] using WA
  | b+1,X=>simp at X) (λR Y=>by simp at Y;subst Y;exact WF) (by unfold maxLen;omega) (by omega) bt
 have z:Ky (λb=>e.ownBlock=some b) o u:=Ky.ao WT λc a=>a;have Wf:=VQ S;have Wy:∀b,e.ownBlock=some b->Tg 40 o b:=λb a=>I.tu e Wf b a;have O:Tg 231 o n:=h.t.ky J id;have D:∀{Wx b:Nat},Tg Wx o b->Wx≠40->¬e.ownBlock=some b:=λWP WL a=>WP.ne (Wy _ a) WL rfl;have F:Tg 31 o f:=br I.o rfl;have Wg:=h.m.ky J id;have Wn:=z.cell (J.cell G id) (D O (by decide));have WB:=z.cell (J.cell V1 id) (D F (by decide));have WD:o.frozen? ⟨f,j,none⟩=false:=World.ownsRow.frozenAt We j;have WC:=VN z F.lt (D F (by decide)) WD;have K:Ky (λb=>b=f) u (u.setCell ⟨f,j,none⟩ B):=cS u f j B rfl;have V4:∀c,B.ownBlock=some c->e.ownBlock=some c∨o.heap.size<=c:=λc a=>by rcases VY with VY|VY;(.rw[VY] at a;exact .inl a);.rw[VY] at a;injection a with a;exact .inr (by omega)
 have WQ:∃T G,B=.slice T (r.length+1) G:=by(rcases Wh.2 with ⟨_,Wa⟩|⟨c,VW,V9,rfl,_⟩);(.omega);.exact⟨_,_,rfl⟩
 have V2:n≠f:=O.ne F (by decide);have WK:m≠f:=λa=>Wg.tg F a.symm;have W4:=Wt.size;have W5:=z.size;have W6:=K.size;have W0:∀b,Q b->b<o.heap.size:=λb d=>by have:=(h.lim b d).2;omega
 have WG:∀b,v.ownBlock=some b->Tg 43 o b:=λb a=>br Wv a;refine⟨B,u,λb=>Q b∨v.ownBlock=some b∨(o.heap.size<=b/\b<u.heap.size),WO,WQ,Wn,WB,WC,⟨((h.e.ky J id).ky z (D O (by decide))).ky K V2,?_,?_,?_,K.cell (z.cell (J.cell h.c12 id) (D O (by decide))) V2,?_,⟨.inl h.o.1,.inl h.o.2⟩,?_⟩,λb d=>d.imp id λd=>d.imp id λd=>d.1,?_⟩
 .have WN:u.ownsRow 0 31 1 (.slice (some ⟨f,0,none⟩) A.length VW) A.length Wj:=bM We z λc a=>by
   simp[Value.ownBlock] at a
   subst a
   exact D F (by decide)
  refine⟨_,Wj.set j B,V8.set j (C++[v]),K.cell Wn V2,⟨?_,?_,?_,λb s WU Wl l q t=>?_,λb V6 s Wk c l q t VZ=>?_,?_⟩,λc a=>?_,λs i c a=>?_,λs i c a=>?_⟩
  .rw[List.map_set,List.length_set,V3]
   exact(World.ownsRow.stored WN j B).1
  .simp[WY]
  .simp[WZ]
  .rw[List.map_set,List.getElem?_set] at q
   rw[List.getElem?_set] at l t
   by_cases a:j=b
   .subst a
    rw[ba rfl,ba (by omega)] at l q t
    injection l with l
    injection q with q
    injection t with t
    subst l q t
    refine⟨by simp[VX.l],bM (by rw[bG];exact Wh) K λc a=>?_,λb s R V0 Z=>?_⟩
    .rintro rfl
     rcases V4 c a with a|a
     .exact D F (by decide) a
     .have:=F.lt;omega
    .have i:dx o 0 s R:=by
      rcases de (vs:=C) V0 with V0|⟨M,N⟩
      .have:=(bD V0).1
       have:=VX.l
       rw[eK (by omega)] at Z
       exact Ww.r b s R V0 Z
      .subst M N
       rw[ez (by rw[VX.l];exact bi),VX.l] at Z
       simp at Z
       subst Z
       exact Wv
     exact bM (bM i z λc a=>D (br i a) (by decide)) K λc a N=>(br i a).ne F (by decide) N
   .rw[VU a] at l q t
    have i:=I.p b s WU Wl l q t
    have WR:=VQ l
    refine(i.ky z (λc M N=>a (E.du j b e s c S l N M)) λR Y c M=>D (I.tv R (List.mem_flatten.2 ⟨Wl,VQ t,Y⟩) c M) (by decide)).ky K (λc M N=>(I.tu s WR c M).ne F (by decide) N) λR Y c M N=>(I.tv R (List.mem_flatten.2 ⟨Wl,VQ t,Y⟩) c M).ne F (by decide) N
  .rw[List.getElem?_set] at l q
   by_cases a:j=b
   .subst a
    rw[ba rfl,ba (by omega)] at l
    injection l with l
    subst l
    by_cases L:j=V6
    .exact L
    .rw[VU L] at q
     rcases V4 c t with V|V
     .exact E.du j V6 e Wk c S q V VZ
     .have:=(I.tu Wk (VQ q) c VZ).lt;omega
   .rw[VU a] at l
    by_cases L:j=V6
    .subst L
     rw[ba rfl,ba (by omega)] at q
     injection q with q
     subst q
     rcases V4 c VZ with V|V
     .exact E.du b j s e c l S t V
     .have:=(I.tu s (VQ l) c t).lt;omega
    .rw[VU L] at q
     exact E.du b V6 s Wk c l q t VZ
  .refine((kU V8 j C (C++[v]) [v] V5 (List.Perm.refl _)).filterMap _).nodup_iff.2 ?_
   rw[List.filterMap_append]
   refine List.nodup_append.2 ⟨E.dv,by cases a:v.ownBlock<;>simp[a],λT WE V Ws=>?_⟩
   rintro rfl
   obtain⟨s,i,a⟩:=List.mem_filterMap.1 WE
   simp[List.mem_filterMap] at Ws
   exact WH T Ws (Wq s i T a)
  .simp[Value.ownBlock] at a
   subst a
   exact .inl (Wp f rfl)
  .rcases List.mem_or_eq_of_mem_set i with i|rfl
   .exact .inl (Wb s i c a)
   .rcases V4 c a with L | L
    .exact .inl (Wb e Wf c L)
    .exact .inr (.inr ⟨L,(World.ownsRow.lt Wh c a).2⟩)
  .have i:=(kU V8 j C (C++[v]) [v] V5 (List.Perm.refl _)).mem_iff.1 i
   rcases cM i with i|i
   .exact .inl (Wq s i c a)
   .simp at i
    subst i
    exact .inr (.inl a)
 .exact VN K (by have:=O.lt;omega) V2 (VN z O.lt (D O (by decide)) (VN J h.t.lt id h.f))
 .exact(O.ky z (D O (by decide))).set _ _ _
 .rw[List.map_set];(have:(A.map λd=>bF d.1).set j (bF (x,r++[y]).1)=A.map λd=>bF d.1:=by apply List.ext_getElem?;intro b;rw[List.getElem?_set];by_cases a:j=b;(.subst a;rw[ba rfl,ba (by simpa using WJ),bL,Wc];rfl);.rw[VU a]);rw[this];refine(Wg.ky z λa=>?_).ky K WK;exact Wg.tg (Wy m a) rfl
 .intro b d;rcases d with d|d|d;(.have:=h.lim b d;exact⟨this.1,by omega⟩);(.have:=(WG b d).lt;exact⟨WM b d,by omega⟩);.have:=h.lim n h.o.1;exact⟨by omega,by omega⟩
 .exact(((J.mono λ_ d=>d.elim).trans (z.mono λb a=>Wb e Wf b a) (Nw.refl _ _)).trans (K.mono λb a=>a ▸ Wp f rfl) (Nw.refl _ _))
def gS(c:List aH):Nat:=c.foldl (λa b=>Vl a b 1) 0
def gC(c:List aH):Int:=c.foldl (λa b=>hO a b 1) 0
def f7(c:Int)(a b:aH):aH:=if b.k=0 then a else if c=4 then (if a.k=0∨dk b a<0 then b else a) else if c=5 then (if 0<dk b a then b else a) else a
def gX(a:Int)(b:List aH):aH:=b.foldl (f7 a) .null
def gZ(b:List aH):List (List aH):=(b.filter λa=>decide (¬a.k=0)).map λa=>[a]
def gV(b:Int)(a:List aH):aH:=if b=1 then .num a.length else if b=2 then .num (gC a) else if b=3 then kx (gS a) (gC a) else if b=6 then .num (ih (gZ a)).length else gX b a
theorem uM(b:List aH)(a:aH):gS (b++[a])=Vl (gS b) a 1:=by simp[gS]
theorem uN(b:List aH)(a:aH):gC (b++[a])=hO (gC b) a 1:=by simp[gC]
theorem Bh(a:Int)(c:List aH)(b:aH):gX a (c++[b])=f7 a (gX a c) b:=by simp[gX]
theorem p6(b:List aH)(a:aH):gZ (b++[a])=if a.k=0 then gZ b else gZ b++[[a]]:=by unfold gZ;rw[List.filter_append];by_cases h:a.k=0<;>simp[h]
theorem ma{α:Type}{P:List α->Prop}(d:P [])(e:∀a c,P a->P (a++[c]))(a:List α):P a:=by
 have:∀b:List α,P b.reverse:=λb=>by
  induction b with
  | nil=>exact d
  | cons c b f=>rw[List.reverse_cons];exact e _ _ f
 simpa using this a.reverse
theorem DN(a:List aH):gS a<340282366920938463463374607431768211456:=by
 refine ma (P:=λa=>gS a<340282366920938463463374607431768211456) (by decide) (λa c b=>?_) a;rw[uM];unfold Vl;split;.exact b
 .exact Nat.mod_lt _ (by decide)
theorem BO(a:List aH):0<=gC a/\gC a<=a.length:=by refine ma (P:=λa=>0<=gC a/\gC a<=a.length) (by simp[gC]) (λa c b=>?_) a;rw[uN,bG];unfold hO;split<;>simp<;>omega
theorem yY(a:List aH):(gZ a).length<=a.length:=by unfold gZ;rw[bQ];exact List.length_filter_le _ _
theorem DL(h:∀d∈x,eO d):∀c∈gZ x,∀e∈c,eO e:=λc a e b=>by
 unfold gZ at a
 obtain⟨d,f,rfl⟩:=b6 a
 simp at b
 subst b
 exact h _ (List.mem_filter.1 f).1
theorem DM(h:∀b∈x,eO b):eO (gX I x):=by
 have key:∀(a:List aH),(∀b∈a,eO b)->∀c,eO c->eO (a.foldl (f7 I) c):=by
  intro a
  induction a with
  | nil=>intro _ c d;exact d
  | cons b a i=>
   intro e c d
   refine i (λj g=>e j (by simp[g])) _ ?_
   have f:=e b (by simp)
   unfold f7
   repeat' split
   all_goals first|exact d|exact f
 exact key x h _ ⟨⟨by decide,by decide⟩,by decide,rfl⟩
def h9(e:World)(d:Nat)(c:List (List aH)):Prop:=∃a:DataW Unit,e.ownsMap prog 9 (plainElem prog 3) d c.length a/\Maps.Tidy a/\(∀b,a.atKey (cJ.l b) (.lit (.int .i64 0))=.lit (.int .i64 (dd c b)))/\(∀b,Maps.has a (cJ.l b)=true ↔ dd c b≠0)/\Maps.size a=(ih c).length
theorem h9.lt(h:h9 w n r):n<w.heap.size:=by obtain⟨a,h,_⟩:=h;exact h.lt
theorem h9.ky{G:Nat->Prop}(h:h9 w n r)(g:Ky G w W)(j:¬G n):h9 W n r:=by have i:=h.lt;obtain⟨a,⟨c,b,d,e⟩,f⟩:=h;exact⟨a,⟨c,b,by rw[g.block n i j];exact d,e⟩,f⟩
theorem h9.tg(h:h9 w n r)(a:Tg m w k):k≠n:=by obtain⟨c,⟨f,d,b,i⟩,j⟩:=h;rintro rfl;obtain⟨e,g,a⟩:=a;rw[b] at a;injection a with a;cases a
theorem h9.made(a:World):h9 (a.alloc (.map #[] 0)) a.heap.size []:=⟨.map [],World.ownsMap_made a prog 9 _,⟨[],rfl,by simp⟩,λb=>by rw[iA];rfl,λb=>by rw[iA];simp[Maps.has_eq],rfl⟩
theorem h9.look(h:h9 w n r){x:ByteArray}(e:cJ.ok x):(Instr.lookup 50 (.map (some n)) (.string x) false).run prog w=.ok (.int .i64 (dd r x)) w:=by obtain⟨f,b,i,c,_⟩:=h;obtain⟨g,d,a,_⟩:=b.lookup_int cJ.K underlying50 underlying3 (uh w) (cJ.key x e);rw[c x] at a;simp only[DataW.lit.injEq,Lit.int.injEq,true_and] at a;rw[a];exact d
theorem h9.put(h:h9 w n r)(u:∀v∈r,∀x∈v,eO x)(C:r.length<=2147483648)(q:∀x∈y,eO x)(t:cJ.ok (bF y)):∃c,(Instr.mapUpdate 50 (.map (some n)) (.string (bF y)) (.int .i64 (dd r (bF y)+1))).run prog w=.ok () c/\h9 c n (r++[y])/\w.grownBy c (some n):=by
 obtain⟨z,j,d,k,e,l⟩:=h;have A:=gt r (bF y);obtain⟨c,s,p,o⟩:=j.update cJ.K underlying50 (by unfold maxLen;omega) (cJ.key _ t) (plainElem_int underlying3 (z8 (x:=dd r (bF y)+1) ⟨by omega,by omega⟩));have g:=d.isMap;have i:=iV r y;refine⟨c,s,⟨_,by rw[bG];exact p,d.put (cJ.isk _) _,λb=>?_,λb=>?_,?_⟩,o⟩;.rw[<-i];show _=DataW.lit (.int .i64 (if b=bF y then dd r (bF y)+1 else dd r b));by_cases a:b=bF y;(.subst a;rw[ba rfl,Maps.atKey_put_same g (cJ.isk _)]);.rw[VU a,Maps.atKey_put_other (λf=>a (cJ.inj _ _ f)),k b]
 .rw[<-i];show _ ↔ (if b=bF y then dd r (bF y)+1 else dd r b)≠0;by_cases a:b=bF y;(.subst a;rw[ba rfl,Maps.has_put_same g (cJ.isk _)];simp;omega);.rw[VU a,Maps.has_put_other (λf=>a (cJ.inj _ _ f)),e b]
 .rw[Maps.size_put d,l,pq];have B:=jZ u q;by_cases a:y∈r;(.have m:0<r.count y:=List.count_pos_iff.2 a;rw[ba ((e _).2 (by omega)),ba a]);.have m:r.count y=0:=List.count_eq_zero.2 a;rw[VU (by rw[(e _)];omega),VU a];simp
theorem h9.len(h:h9 w n r)(a:TypeId):(Builtin.len_ #[50] a #[.map (some n)]).run prog w=.ok (.int .i64 ((ih r).length:Int)) w:=by obtain⟨d,b,e,f,g,c⟩:=h;rw[b.len underlying50 a,c]
structure jy(w:World)(b o:Nat)(n:Int)(S:Nat)(c:Int)(x:aH)(mo:Option Nat):Prop where
 r:w.cell? ⟨b,o,none⟩=some (.int .i64 n)
 s:e7 w b (o+1) S c
 x0:w.cell? ⟨b,o+4,none⟩=some (.int .i64 x.k)
 x1:w.cell? ⟨b,o+5,none⟩=some (.int .i64 x.n)
 x2:w.cell? ⟨b,o+6,none⟩=some (.string x.s)
 m:w.cell? ⟨b,o+7,none⟩=some (.map mo)
 f:∀j,w.frozen? ⟨b,j,none⟩=false
theorem jy.lt{x:aH}{a:Option Nat}(h:jy w n m I k J x a):n<w.heap.size:=ck _ _ h.r
theorem jy.ky{F:Nat->Prop}{x:aH}{c:Option Nat}(h:jy w n m I k J x c)(a:Ky F w W)(b:¬F n):jy W n m I k J x c:=
 ⟨a.cell h.r b,h.s.ky a b,a.cell h.x0 b,a.cell h.x1 b,a.cell h.x2 b,a.cell h.m b,λd=>by rw[a.frozen h.lt b];exact h.f d⟩
theorem jy.kc{x:aH}{c:Option Nat}(h:jy w n m I i J x c)(a:Kc w W n k j)(d:m+8<=k∨j<=m):jy W n m I i J x c:=
 ⟨(a.c _ (by omega)).trans h.r,⟨(a.c _ (by omega)).trans h.s.h,(a.c _ (by omega)).trans h.s.l,(a.c _ (by omega)).trans h.s.c,(a.f _).trans h.s.f0,(a.f _).trans h.s.f1,(a.f _).trans h.s.f2⟩,(a.c _ (by omega)).trans h.x0,(a.c _ (by omega)).trans h.x1,(a.c _ (by omega)).trans h.x2,(a.c _ (by omega)).trans h.m,λb=>(a.f b).trans (h.f b)⟩
structure hJ(w:World)(b o:Nat)(fn:Int)(vs:List aH)(mo:Option Nat):Prop where
 c:jy w b o vs.length (gS vs) (gC vs) (gX fn vs) mo
 m:(mo=none/\(fn=6->gZ vs=[]))∨∃mb,mo=some mb/\fn=6/\h9 w mb (gZ vs)
theorem hJ.ky{F:Nat->Prop}{a:Option Nat}(h:hJ w n m I x a)(c:Ky F w W)(j:¬F n)(i:∀d,a=some d->¬F d):hJ W n m I x a:=
 ⟨h.c.ky c j,h.m.imp id λ⟨e,b,f,g⟩=>⟨e,b,f,g.ky c (i e b)⟩⟩
end Go.Proofs.YtklgoolblpmmlaaGreat
