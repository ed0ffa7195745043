import Derived.Test.YtabmgpillccfaaaGreatDoorUbK
set_option linter.all false
set_option maxHeartbeats 2000000
set_option maxRecDepth 100000
namespace Go.Proofs.YtabmgpillccfaaaGreatDoor
open Go.RowKit Go.Sort Go.Proofs.Tryz
def s6:Lk Dp:=⟨44,46,.agg #[.bool false,.string ⟨#[]⟩,.slice none 0 0],3,48,da,λb a=>Dt.all b a.2.1 a.1.l⟩
theorem s6.ok:s6.Ok:=⟨underlying44,by kernel_rfl,rfl,by decide,by decide,λ_=>rfl,λc b a=>by simp[s6,da] at a;rcases a with rfl|rfl|rfl<;>rfl⟩
theorem k8{f:World}{g:Nat}:∀(e:List Dp) (a:Nat),(∀b c,e[b]?=some c->(∀i j,(da c)[i]?=some j->f.cell? ⟨g,a+b*3+i,none⟩=some j)/\Dt.all f c.2.1 c.1.l)->Dt.all f (some ⟨g,a,none⟩) (e.map Prod.fst)
 | [],a,_=>by rw[List.map_nil,Dt.all];trivial
 | ⟨⟨n,p,o⟩,k,l⟩ :: e,a,h=>by rw[bi,Dt.all];refine⟨g,a,rfl,?_,?_⟩;(.rw[Dt.at];have d:=h 0 _ rfl;simp only[Nat.zero_mul,Nat.add_zero] at d;exact⟨k,l,⟨d.1 0 _ rfl,d.1 1 _ rfl,d.1 2 _ rfl⟩,d.2⟩);.refine k8 e (a+3) λb c m=>?_;have:=h (b+1) c (by simpa using m);rw[show a+(b+1)*3=a+3+b*3 by omega] at this;exact this
def ND(c b:Nat)(d e:Value)(a:Nat):Prop:=c<=a/\a<b/\e.ownBlock≠some a/\d.ownBlock≠some a
def GD(g:World)(e d:Nat)(f c:Value)(b:List Dp):Prop:=g.ownsRow e 46 3 c b.length (b.flatMap da)/\(∀a,c.ownBlock=some a->a<d/\f.ownBlock≠some a)/\∀i∈b,SK (ND e d f c) g λj=>Dt.all j i.2.1 i.1.l
variable{W w:World}{i j k l m n:Nat}{V u v:Value}{D N:List Value}
theorem fc{w':World}(h:w.ownsRow n m k v j D)(g:∀a,v.ownBlock=some a->w'.heap[a]?=w.heap[a]?):w'.ownsRow n m k v j D:=by
 refine⟨h.1,?_⟩;rcases h.2 with d|⟨a,b,c,rfl,e,f,i⟩;.exact .inl d
 .exact .inr ⟨a,b,c,rfl,e,by rw[g a rfl];exact f,i⟩
theorem dk(h:w.cell? ⟨n,m,none⟩=some v)(a:W.heap[n]?=w.heap[n]?):W.cell? ⟨n,m,none⟩=some v:=by unfold World.cell? at h ⊢;simp only at h ⊢;rw[a];exact h
theorem GD.keep{w':World}{sv':Value}{j:List Dp}(h:GD w n m v u j)(d:∀a,n<=a->a<m->v.ownBlock≠some a->w'.heap[a]?=w.heap[a]?)(i:∀a,a<m->sv'.ownBlock=some a->v.ownBlock=some a):GD w' n m sv' u j:=by obtain⟨g,e,o⟩:=h;refine⟨fc g λc b=>d c (World.ownsRow.lt g c b).1 (e c b).1 (e c b).2,λc b=>⟨(e c b).1,λl=>(e c b).2 (i c (e c b).1 l)⟩,λr q=>(o r q).kept (λk s t f p=>dk p (d k f.1 f.2.1 f.2.2.2)) λa d=>⟨d.1,d.2.1,d.2.2.1,λb=>d.2.2.2 (i a d.2.1 b)⟩⟩
theorem GD.up{e:List Dp}(h:GD w n m v u e)(d:m<=k):GD w n k v u e:=
 ⟨h.1,λc b=>⟨be (h.2.1 c b).1 d,(h.2.1 c b).2⟩,λg f=>(h.2.2 g f).mono λi a=>⟨a.1,be a.2.1 d,a.2.2⟩⟩
theorem GD.nil(f:World)(d b:Nat)(e:Value):GD f d b e (.slice none 0 0) []:=⟨⟨by simp,.inl ⟨rfl,rfl⟩⟩,⟨λg a=>(by cases a),λi c=>(by cases c)⟩⟩
theorem GD.node{b:List Dp}(h:GD w n m v u b):∃i r,u=.slice i b.length (b.length+r)/\SK (λa=>n<=a/\a<m/\v.ownBlock≠some a) w λc=>Dt.all c i (b.map Prod.fst):=by
 obtain⟨j,z,y⟩:=h;have x:=j;rcases j.2 with ⟨rfl,t⟩|⟨d,s,E,rfl,A,F,B,_⟩
 .have:b=[]:=eV t;subst this;exact⟨none,0,rfl,λc _=>(show Dt.all c none [] by rw[Dt.all];trivial)⟩
 .refine⟨some ⟨d,0,none⟩,s-b.length,by rw[Nat.add_sub_cancel' B],λc k=>?_⟩;have l:=z d rfl;refine k8 b 0 λp q f=>⟨λg D o=>?_,?_⟩;(.have C:g<3:=(b6 o).1;have m:=(b6 f).1;rw[aT];refine k d _ D ⟨A,l.1,l.2⟩ ?_;rw[World.ownsRow.cellAt x (p*3+g) (by omega),mp b p q g f C,o]);.exact((y q (a8 f)).mono (T:=λa=>n<=a/\a<m/\v.ownBlock≠some a) λa e=>⟨e.1,e.2.1,e.2.2.2⟩) c k
def se(d:World)(base:Nat)(c:Value):Nat->List (Value×List Dp)->Prop
 | _,[]=>True
 | b,e::f=>∃a,base<=a/\a<=b/\GD d a b c e.1 e.2/\se d base c a f
theorem se.keep{w':World}{base:Nat}{sv':Value}:∀{g:List (Value×List Dp)} {c:Nat},se w base v c g->(∀a,base<=a->a<c->v.ownBlock≠some a->w'.heap[a]?=w.heap[a]?)->(∀a,a<c->sv'.ownBlock=some a->v.ownBlock=some a)->se w' base sv' c g
 | [],_,_,_,_=>trivial
 | o::g,c,⟨n,i,f,l,m⟩,j,k=>⟨n,i,f,l.keep (λa b d e=>j a (aQ i b) d e) k,m.keep (λa b d e=>j a b (be d f) e) λa b=>k a (be b f)⟩
theorem kJ(h:w.ownsRow n m k v j D)(g:0<j):∃a b,v=.slice (some ⟨a,0,none⟩) j b/\n<=a/\a<w.heap.size:=by
 have c:=h;rcases h.2 with ⟨_,e⟩|⟨a,b,d,rfl,f,_⟩
 .omega
 .exact⟨a,b,rfl,World.ownsRow.lt c a rfl⟩
structure jF(w W:World)(lo base:Nat)(sv v v':Value)(n m:Nat)(A B:List Value):Prop where
 r1:W.ownsRow lo 46 3 v' n A
 r2:W.ownsRow base 99 1 sv m B
 kp:∀k,k<w.heap.size->v.ownBlock≠some k->sv.ownBlock≠some k->W.heap[k]?=w.heap[k]?
 bl:Below base w W
 ne:∀k,v'.ownBlock=some k->sv.ownBlock≠some k/\(k<w.heap.size->v.ownBlock=some k)
theorem jF.store{base:Nat}(h:jF w W n base v u V m j D N)(s:base<=n)(t:V=.slice (some ⟨i,0,none⟩) m l)(c:Nat)(d:Value):jF w (W.setCell ⟨i,c,none⟩ d) n base v u V m j (D.set c d) N:=by subst t;obtain⟨q,f⟩:=World.ownsRow.stored h.r1 c d;have r:=World.ownsRow.lt h.r1 i rfl;have g:=h.ne i rfl;refine⟨q,fc h.r2 λk b=>f.block k (World.ownsRow.lt h.r2 k b).2 (λa=>by injection a with a;subst a;exact g.1 b),λk b e o=>?_,h.bl.setCell (p:=⟨i,c,none⟩) (aQ s r.1) d,h.ne⟩;rw[<-h.kp k b e o];exact f.block k (be b h.bl.size) λa=>by injection a with a;subst a;exact e (g.2 b)
theorem jF.stack{base:Nat}(h:jF w W n base v u V m k D N)(r:v=.slice (some ⟨j,0,none⟩) k i)(d:Nat)(e:Value):jF w (W.setCell ⟨j,d,none⟩ e) n base v u V m k D (N.set d e):=by subst r;obtain⟨o,g⟩:=World.ownsRow.stored h.r2 d e;have q:=World.ownsRow.lt h.r2 j rfl;refine⟨fc h.r1 λc b=>g.block c (World.ownsRow.lt h.r1 c b).2 (λa=>by injection a with a;subst a;exact(h.ne _ b).1 rfl),o,λc b l f=>?_,h.bl.setCell (p:=⟨j,d,none⟩) q.1 e,h.ne⟩;rw[<-h.kp c b l f];exact g.block c (be b h.bl.size) λa=>by injection a with a;subst a;exact f rfl
structure lk(w:World)(p base lo:Nat)(sv:Value)(x:Value×List Dp)(ps:List (Value×List Dp)):Prop where
 c:w.cell? ⟨p,0,none⟩=some sv
 f:w.frozen? ⟨p,0,none⟩=false
 rb:base<=p
 bl:p+1<=lo
 pr:sv.ownBlock≠some p
 ls:lo<=w.heap.size
 row:w.ownsRow base 99 1 sv (ps.length+1) ((x::ps).reverse.map Prod.fst)
 gd:GD w lo w.heap.size sv x.1 x.2
 op:se w (p+1) sv lo ps
theorem lk.aa{p base:Nat}{g:Value×List Dp}{f:List (Value×List Dp)}(h:lk w p base n v g f)(a:Bw w W):lk W p base n v g f:=by have i:p<w.heap.size:=aQ h.bl h.ls;exact⟨aG h.c a,by rw[a.frozen (p:=⟨p,0,none⟩) i];exact h.f,h.rb,h.bl,h.pr,aQ h.ls a.size,fc h.row λe b=>a.block e (World.ownsRow.lt h.row e b).2,(h.gd.keep (λd _ c _=>a.block d c) λ_ _ b=>b).up a.size,h.op.keep (λd _ c _=>a.block d (be c h.ls)) λ_ _ b=>b⟩
theorem lk.app{g p base:Nat}{d:List Dp}{t:List (Value×List Dp)}(h:lk w p base n v (u,d) t)(T:d.length+1<=1048577)(C:TypeId)(e:World)(j:Bw w e)(K:∀c l,[Value.bool false,.string ⟨#[]⟩,.slice none 0 0][c]?=some l->e.cell? ⟨g,c,none⟩=some l):∃r m,(Builtin.append_ #[44,44] C #[u,.slice (some ⟨g,0,none⟩) 1 1]).run prog e=.ok r m/\jF w m n base v u r (d.length+1) (t.length+1) (d.flatMap da++[.bool false,.string ⟨#[]⟩,.slice none 0 0]) (((u,d)::t).reverse.map Prod.fst)/\∀a,a<e.heap.size->u.ownBlock≠some a->m.heap[a]?=e.heap[a]?:=by
 have i:=h.aa j;obtain⟨L,F,N,O,Q⟩:=info_parts s6.ok.hi;obtain⟨x,y,S⟩:=i.gd;obtain⟨r,m,I,M,q,_,k⟩:=run_append_own_at (P:=prog) e n 44 C 46 L (.agg #[.bool false,.string ⟨#[]⟩,.slice none 0 0]) 3 48 underlying44 F N O Q rfl (by decide) u d.length (d.flatMap da) x ⟨g,0,none⟩ 1 1 [.bool false,.string ⟨#[]⟩,.slice none 0 0] rfl (λc l G=>by(have D:(⟨g,0,none⟩:Addr).add c=⟨g,c,none⟩:=by by_cases h:c=0<;>simp[Addr.add,h]);rw[D];exact K c l G) (λl A=>by simp at A;rcases A with rfl|rfl|rfl<;>rfl) (by unfold maxLen;omega) (by omega) i.ls;have J:=λa (b:v.ownBlock=some a)=>World.ownsRow.lt h.row a b;refine⟨r,m,I,⟨M,fc i.row λa b=>q.block a (World.ownsRow.lt i.row a b).2 λf=>(y a f.symm).2 b,λa o s R=>?_,?_,λa b=>?_⟩,λa o s=>q.block a o λf=>s f.symm⟩;.rw[<-j.block a o];exact q.block a (be o j.size) λf=>s f.symm
 .have E:=bP (B:=n) q i.ls λg b=>(World.ownsRow.lt x g b).1;have z:base<=n:=aQ h.rb (Nat.le_of_succ_le h.bl);exact(j.mono (aQ z h.ls)).trans (E.mono z)
 .rcases k with k|k;(.rw[k] at b;exact⟨(y a b).2,λ_=>b⟩);.rw[k] at b;injection b with b;subst b;have:=j.size;exact⟨λb=>by have:=(J _ b).2;omega,λb=>by omega⟩
theorem qc{a b c:Value}:(((D++[v,u,V]).set D.length a).set (D.length+1) b).set (D.length+2) c=D++[a,b,c]:=by rw[List.set_append_right _ _ aV,Nat.sub_self,List.set_append_right _ _ (by omega),List.set_append_right _ _ (by omega)];simp
theorem jF.done{p base:Nat}{i:List Dp}{g:List (Value×List Dp)}{j:Dp}(h:lk w p base n v (u,i) g)(e:jF w W n base v u V (i.length+1) (g.length+1) (i.flatMap da++da j) ((((u,i)::g).reverse.map Prod.fst).set g.length V))(y:SK (ND n w.heap.size v u) w λW=>Dt.all W j.2.1 j.1.l):lk W p base n v (V,i++[j]) g:=by
 have x:p<w.heap.size:=aQ h.bl h.ls;have r:=e.kp p x (λd=>by have:=(World.ownsRow.lt h.gd.1 p d).1;have:=h.bl;omega) h.pr;refine⟨dk h.c r,by rw[World.frozen?_of_block (w:=w) (a:=⟨p,0,none⟩) r];exact h.f,h.rb,h.bl,h.pr,aQ h.ls e.bl.size,?_,?_,h.op.keep (λb C s t=>e.kp b (be s h.ls) (λd=>by have:=(World.ownsRow.lt h.gd.1 b d).1;omega) t) λ_ _ d=>d⟩;.have:=e.r2;rw[List.reverse_cons,bX,List.map_singleton,List.set_append_right _ _ (by simp)] at this;rw[List.reverse_cons,bX,List.map_singleton];simpa using this
 .have c:∀b,ND n w.heap.size v u b->W.heap[b]?=w.heap[b]?:=λb c=>e.kp b c.2.1 c.2.2.1 c.2.2.2;have q:∀b,ND n w.heap.size v u b->ND n W.heap.size v V b:=λb c=>⟨c.1,be c.2.1 e.bl.size,λd=>c.2.2.1 ((e.ne b d).2 c.2.1),c.2.2.2⟩;refine⟨?_,λo d=>⟨(World.ownsRow.lt e.r1 o d).2,(e.ne o d).1⟩,λB f=>?_⟩;(.rw[List.flatMap_append,bj];simpa using e.r1);.rcases jD f with f|f;(.exact(h.gd.2.2 B f).kept (λk z A l m=>dk m (c k l)) q);.rw[List.mem_singleton] at f;subst f;exact y.kept (λk z A l m=>dk m (c k l)) q
section
variable {P:Program}{ops:Array Oper}{Q:Exit->Act->World->Prop}{md:Region.Mode}{S S2:World->Prop}{k k2:Nat}
theorem od{a:Array Bool}{i:Nat}(h:a.getD k true=true):(a.setIfInBounds i true).getD k true=true:=by
 simp only[Array.getD_eq_getD_getElem?,Array.getElem?_setIfInBounds] at h ⊢;split;.split<;>rfl
 .exact h
theorem cJ:∀(c:Nat) (b:Array Bool) (d:Act) (a:World),((∀a,S a)∨b.getD k true=true)->dA P md ops Q S2 k2 c b d a->dA P md ops Q S k c b d a
 | 0,_,_,_,_,h=>h
 | c+1,b,d,a,f,h=>⟨h.1,λe m=>wpOp_mono (λi g l=>⟨λj=>f.elim (λh=>h g) λh=>(by have:=od (i:=e) h;rw[j] at this;cases this),cJ c _ i g (f.imp id od) l.2⟩) (h.2 e m)⟩
end
def rf(p base a:Nat)(d:Value)(c:List Dp)(b:List (Value×List Dp))(f:World):Prop:=∃e,lk f p base a d (e,c) b
theorem iQ{p base:Nat}{a:List Dp}{O:List (Value×List Dp)}(h:lk w p base n v (u,a) O)(D:Dp)(Wp:SK (ND n w.heap.size v u) w λV5=>Dt.all V5 D.2.1 D.1.l)(Wk:a.length+1<=1000001)(WF:O.length+1<=1000001):Calls prog 51 #[D.1.val D.2.1 D.2.2,.pointer (some ⟨p,0,none⟩)] w λA R=>A=.returned (.tuple #[])/\Below base w R/\rf p base n v (a++[D]) O R:=by
 have Wn:=h;obtain⟨c,V6,rfl,WD,Wj⟩:=kJ h.row (Nat.succ_pos _);obtain⟨b,Wc⟩:=al O.length;have Wi:w.cell? ⟨c,b,none⟩=some u:=by have:=World.ownsRow.cellAt h.row b (by omega);rw[this,Wc,List.reverse_cons,bX,gn (by simp)];simp
 have WC:w.frozen? ⟨c,b,none⟩=false:=World.ownsRow.frozenAt h.row b;have Wa:=h.c;obtain⟨Wy,Wz,Wo,_⟩:=h.gd.node;obtain⟨⟨k,g,r⟩,j,E⟩:=D;obtain⟨o,V⟩:=al (w.alloc (.cells #[.bool k,.string g,.slice j r.length (r.length+E)] 46));have W:Bw w o:=by rw[V];exact ae (ar _ w) _
 have Z:o.cell? ⟨w.heap.size,0,none⟩=some (.bool k)/\o.cell? ⟨w.heap.size,1,none⟩=some (.string g)/\o.cell? ⟨w.heap.size,2,none⟩=some (.slice j r.length (r.length+E)):=by rw[V];exact⟨by simp[go_sem],by simp[go_sem],by simp[go_sem]⟩
 obtain⟨N,Wl⟩:=al (O.length+1);rw[<-Wl] at Wa;have WB:=aG Wa W;have WJ:wrap64 ((N:Int)-1)=(b:Int):=by unfold wrap64;omega
 have WO:(b:Int)<(N:Int):=by omega
 have K:=VV Wn;have Wh:=VV Wp;have V4:=VV V.symm;have Ws:=VV W;have Wx:Hid (u=.slice Wy a.length (a.length+Wz)):=Wo;have s:Hid (CA o.drew [((p,0),.slice (some ⟨c,0,none⟩) N V6),((c,b),u),((w.heap.size,0),.bool k),((w.heap.size,1),.string g),((w.heap.size,2),.slice j r.length (r.length+E))]):=⟨WB,aG Wi W.drew,Z.1,Z.2.1,Z.2.2,trivial⟩;have Ww:Hid (p<w.heap.size/\u.ownBlock≠some p/\u.ownBlock≠some c/\u.ownBlock≠some w.heap.size):=⟨aQ h.bl h.ls,λA=>by have:=(World.ownsRow.lt h.gd.1 p A).1;have:=h.bl;omega,λA=>(h.gd.2.1 c A).2 rfl,λA=>Nat.lt_irrefl _ (h.gd.2.1 _ A).1⟩;have WH:=VV Wj;have Wu:=VV Wk;have F:=VV Wc;rw[Dt.ad];simp only[Dt.k,Dt.s,Dt.l];obtain⟨y,VW⟩:=al r.length;rw[<-VW] at s V4 ⊢;obtain⟨x,Wb⟩:=al (y+E);rw[<-Wb] at s V4 ⊢;have Wv:=VV VW;have Wt:Hid (x=r.length+E):=by show _=_;rw[Wb,VW]
 clear Wn Wo V W Z Wa Wp h WD Wj WC Wi Wk Wc Wl VW Wb WF;go_enter func51,ntmps51;go_upto_region 1 with fail;rw[U V4];go_upto_region 2 with fail;refine VR (λV5:World=>CA V5 [((p,0),.slice (some ⟨c,0,none⟩) N V6),((c,b),u),((w.heap.size,0),.bool k),((w.heap.size,1),.string g),((w.heap.size,2),.slice j y x)]) 7 ?_;refine ai 0 (.pointer (some ⟨c,b,none⟩)) rfl (U s) ?_;refine ai 1 (.pointer (some ⟨c,b,none⟩)) rfl (U s) ?_;refine ai 2 (.pointer (some ⟨c,b,none⟩)) rfl (U s) ?_;refine ai 3 u rfl (U s) ?_ λR G=>by simp only[CA] at G;obtain⟨VX,VY,_⟩:=G;go_simp
 refine ai 4 (.agg #[.bool k,.string g,.slice j y x]) rfl (U s) ?_ λR G=>by simp only[CA] at G;obtain⟨VX,VY,We,Wf,Wg,_⟩:=G;go_simp
 refine ai 5 (.int .i64 a.length) rfl (U s) ?_ λR G=>by rw[U Wx];go_simp
 refine ap 6 rfl λm e=>?_;go_simp;have WA:Bw o (o.drew.alloc (.cells #[.bool false,.string ⟨#[]⟩,.slice none 0 0] 46)):=ae (ar _ o).drew _;refine aO e ((U s).aa (ae aN _)) ?_;clear e m
 obtain⟨WP,T,WG,t,L⟩:=(U K).app (by have:=U Wu;omega) _ _ (ac (U Ws) WA) (g:=o.heap.size) (λf z d=>by
  match f,d with
  | 0,d=>simp at d;subst d;simp[go_sem]
  | 1,d=>simp at d;subst d;simp[go_sem]
  | 2,d=>simp at d;subst d;simp[go_sem]
  | f+3,d=>simp at d)
 refine ap 7 rfl λm e=>?_;refine hc (.tmp 12) (.tmp 15) 44 rfl u _ rfl rfl WG ?_;have WK:CA T [((p,0),.slice (some ⟨c,0,none⟩) N V6),((c,b),u),((w.heap.size,0),.bool k),((w.heap.size,1),.string g),((w.heap.size,2),.slice j y x)]:=by obtain⟨VX,VY,We,Wf,Wg,_⟩:=(U s).aa (ae (ar _ o.drew) (.cells #[.bool false,.string ⟨#[]⟩,.slice none 0 0] 46));have M:=U Ww;exact⟨dk VX (L _ (bY _ _ VX) M.2.1),dk VY (L _ (bY _ _ VY) M.2.2.1),dk We (L _ (bY _ _ We) M.2.2.2),dk Wf (L _ (bY _ _ Wf) M.2.2.2),dk Wg (L _ (bY _ _ Wg) M.2.2.2),trivial⟩
 refine aS e ?_;clear e m;obtain⟨l,cv,rfl,WL,WM⟩:=kJ t.r1 (Nat.succ_pos _);have WI:=VV t;have WN:¬(a.length:Int)+1<=(a.length:Int):=by omega
 refine cJ (S2:=λ_=>True) (k2:=9) _ _ _ _ (.inr rfl) ?_;refine ai 8 (.pointer (some ⟨l,a.length*3,none⟩)) rfl trivial ?_;refine cJ (S2:=λ_=>True) (k2:=12) _ _ _ _ (.inl λ_=>trivial) ?_;refine ai 10 (.pointer (some ⟨c,b,none⟩)) rfl trivial ?_;refine ai 11 (.pointer (some ⟨c,b,none⟩)) rfl trivial ?_;refine cJ (S2:=λ_=>True) (k2:=0) _ _ _ _ (.inl λ_=>trivial) ?_;have X:∀f z,[Value.bool false,.string ⟨#[]⟩,.slice none 0 0][f]?=some z->T.cell? ⟨l,a.length*3+f,none⟩=some z:=λf z d=>by have WE:f<3:=(b6 d).1;rw[World.ownsRow.cellAt t.r1 (a.length*3+f) (by omega),gn (by rw[e8];omega),e8,Nat.add_sub_cancel_left,d]
 have J:=X 0 _ rfl;have V0:=X 1 _ rfl;have V1:=X 2 _ rfl;rw[Nat.add_zero] at J;have V7:=World.ownsRow.frozenAt t.r1 (a.length*3);have V8:=World.ownsRow.frozenAt t.r1 (a.length*3+1);have V9:=World.ownsRow.frozenAt t.r1 (a.length*3+2);have I:base<=n:=aQ (U K).rb (Nat.le_of_succ_le (U K).bl);have Wm:(((a.flatMap da++[Value.bool false,Value.string ⟨#[]⟩,Value.slice none 0 0]).set (a.length*3) (Value.bool k)).set (a.length*3+1) (Value.string g)).set (a.length*3+2) (Value.slice j y x)=a.flatMap da++da (.mk k g r,j,E):=by rw[<-e8 a,qc];show a.flatMap da++[_,_,_]=a.flatMap da++[Value.bool k,Value.string g,Value.slice j r.length (r.length+E)];rw[U Wt,U Wv]
 refine fj (i:=9) (j:=12) (by kernel_rfl) rfl rfl (by rfl) (by rfl) (λm e=>?_) (λm e=>?_);.go_simp;refine aS e ?_;clear e m;obtain⟨VZ,C⟩:=al (((T.setCell ⟨l,a.length*3,none⟩ (.bool k)).setCell ⟨l,a.length*3+1,none⟩ (.string g)).setCell ⟨l,a.length*3+2,none⟩ (.slice j y x));rw[<-C];have q:=(((t.store I rfl (a.length*3) (.bool k)).store I rfl (a.length*3+1) (.string g)).store I rfl (a.length*3+2) (.slice j y x));rw[<-C,Wm] at q;clear C J V0 V1 V7 V8 V9;(have Wq:VZ.cell? ⟨c,b,none⟩=some u:=by rw[World.ownsRow.cellAt q.r2 b (by rw[U F];omega),U F,List.reverse_cons,bX,gn (by simp)];simp);have Wr:=World.ownsRow.frozenAt q.r2 b;refine ap 12 rfl λm e=>?_;go_simp;refine aS e ?_;clear e m;refine bh ?_;have B:=q.stack rfl b (.slice (some ⟨l,0,none⟩) (a.length+1) cv);rw[U F] at B ⊢;have V3:=VV (jF.done (U K) B (U Wh));have V2:=VV B.bl;go_wp2;go_end0;exact⟨rfl,U V2,_,U V3⟩
 .have Wq:T.cell? ⟨c,b,none⟩=some u:=by
   rw[World.ownsRow.cellAt t.r2 b (by rw[U F];omega),U F,List.reverse_cons,bX,gn (by simp)]
   simp
  have Wr:=World.ownsRow.frozenAt t.r2 b
  go_simp
  refine aS e ?_
  clear e m Wq Wr
  obtain⟨VZ,C⟩:=al (T.setCell ⟨c,b,none⟩ (.slice (some ⟨l,0,none⟩) (a.length+1) cv))
  rw[<-C]
  have q:=t.stack rfl b (.slice (some ⟨l,0,none⟩) (a.length+1) cv)
  rw[<-C] at q
  clear C J V0 V1
  have Y:∀f z,[Value.bool false,.string ⟨#[]⟩,.slice none 0 0][f]?=some z->VZ.cell? ⟨l,a.length*3+f,none⟩=some z:=λf z d=>by
   have WE:f<3:=(b6 d).1
   rw[World.ownsRow.cellAt q.r1 (a.length*3+f) (by omega),gn (by rw[e8];omega),e8,Nat.add_sub_cancel_left,d]
  have J:=Y 0 _ rfl
  have V0:=Y 1 _ rfl
  have V1:=Y 2 _ rfl
  rw[Nat.add_zero] at J
  have V7:=World.ownsRow.frozenAt q.r1 (a.length*3)
  have V8:=World.ownsRow.frozenAt q.r1 (a.length*3+1)
  have V9:=World.ownsRow.frozenAt q.r1 (a.length*3+2)
  refine ap 9 rfl λm e=>?_
  go_simp
  refine aS e ?_
  clear e m X Y J V0 V1 V7 V8 V9
  obtain⟨WQ,Wd⟩:=al (((VZ.setCell ⟨l,a.length*3,none⟩ (.bool k)).setCell ⟨l,a.length*3+1,none⟩ (.string g)).setCell ⟨l,a.length*3+2,none⟩ (.slice j y x))
  rw[<-Wd]
  have B:=(((q.store I rfl (a.length*3) (.bool k)).store I rfl (a.length*3+1) (.string g)).store I rfl (a.length*3+2) (.slice j y x))
  rw[<-Wd,Wm,U F] at B
  clear Wd
  refine bh ?_
  have V3:=VV (jF.done (U K) B (U Wh))
  have V2:=VV B.bl
  go_wp2
  go_end0
  exact⟨rfl,U V2,_,U V3⟩
theorem qG:(Tryz.prog.info? 99).map (λa=>(a.zero,a.size,a.bytes))=some (some (.agg #[.slice none 0 0]),1,24):=by kernel_rfl
theorem ly(h:w.cell? ⟨n,m,none⟩=some v):(w.setCell ⟨n,m,none⟩ u).cell? ⟨n,m,none⟩=some u:=by simp[go_sem,h]
theorem dx(c:World)(b d a:Nat)(e:Value)(h:a≠b):(c.setCell ⟨b,d,none⟩ e).heap[a]?=c.heap[a]?:=heap_setCell_other c ⟨b,d,none⟩ a e (λf=>h f)
theorem lk.opn{p base g:Nat}{t:Value×List Dp}{d:List (Value×List Dp)}(h:lk w p base n v t d)(F:TypeId)(M:w.cell? ⟨g,0,none⟩=some (.slice none 0 0))(X:d.length+2<=1048577):∃j i e,(Builtin.append_ #[100,100] F #[v,.slice (some ⟨g,0,none⟩) 1 1]).run prog w=.ok (.slice (some ⟨j,0,none⟩) (d.length+2) i) e/\e.cell? ⟨p,0,none⟩=some v/\e.frozen? ⟨p,0,none⟩=false/\lk (e.setCell ⟨p,0,none⟩ (.slice (some ⟨j,0,none⟩) (d.length+2) i)) p base e.heap.size (.slice (some ⟨j,0,none⟩) (d.length+2) i) (.slice none 0 0,[]) (t::d)/\Below base w (e.setCell ⟨p,0,none⟩ (.slice (some ⟨j,0,none⟩) (d.length+2) i)):=by
 obtain⟨N,J,R,S,T⟩:=info_parts qG;have q:p<w.heap.size:=aQ h.bl h.ls;have u:base<=w.heap.size:=aQ h.rb (Nat.le_of_lt q)
 obtain⟨O,e,L,E,m,_,f⟩:=run_append_own_at (P:=prog) w base 100 F 99 N (.agg #[.slice none 0 0]) 1 24 underlying100 J R S T rfl (by decide) v (d.length+1) ((t::d).reverse.map Prod.fst) h.row ⟨g,0,none⟩ 1 1 [.slice none 0 0] rfl (λD Q k=>by
  match D,k with
  | 0,k=>simp at k;subst k;exact M
  | D+1,k=>simp at k) (λQ C=>by simp at C;subst C;rfl) (by unfold maxLen;omega) (by omega) u
 have o:=λb l (K:v.ownBlock≠some b)=>m.block b l λc=>K c.symm;have z:O.ownBlock≠some p:=λc=>by rcases f with f|f;(.exact h.pr (f ▸ c));.rw[f] at c;injection c with c;omega
 have x:=dk h.c (o p q h.pr);have y:e.frozen? ⟨p,0,none⟩=false:=by rw[World.frozen?_of_block (w:=w) (a:=⟨p,0,none⟩) (o p q h.pr)];exact h.f
 obtain⟨j,i,rfl,V,W⟩:=kJ E (Nat.succ_pos _);have l:∀b,n<=b->b<w.heap.size->v.ownBlock≠some b->(e.setCell ⟨p,0,none⟩ (.slice (some ⟨j,0,none⟩) (d.length+1+1) i)).heap[b]?=w.heap[b]?:=λb I r s=>by rw[dx _ _ _ _ _ (by have:=h.bl;omega)];exact o b r s
 have A:∀b,b<w.heap.size->(Value.slice (some ⟨j,0,none⟩) (d.length+1+1) i).ownBlock=some b->v.ownBlock=some b:=λb l c=>by rcases f with f|f;(.rw[<-f];exact c);.rw[f] at c;injection c with c;omega
 refine⟨j,i,e,L,x,y,⟨ly x,by rw[World.frozen?_setCell];exact y,h.rb,be q m.size,z,by simp,?_,GD.nil _ _ _ _,⟨n,h.bl,aQ h.ls m.size,(h.gd.keep l A).up m.size,h.op.keep (λb I r s=>?_) λb l=>A b (be l h.ls)⟩⟩,?_⟩;.have:=fc E (w':=e.setCell ⟨p,0,none⟩ (.slice (some ⟨j,0,none⟩) (d.length+1+1) i)) λb c=>dx _ _ _ _ _ λG=>z (G ▸ c);simpa using this
 .rw[dx _ _ _ _ _ (by omega)];exact o b (be r h.ls) s
 .exact(bP (B:=base) m u λg c=>(World.ownsRow.lt h.row g c).1).setCell (p:=⟨p,0,none⟩) h.rb _
theorem qe{base n:Nat}(h:w.ownsRow base 99 1 (.slice (some ⟨m,0,none⟩) (n+1) k) (n+1) (D++[v])):w.ownsRow base 99 1 (.slice (some ⟨m,0,none⟩) n k) n D:=by
 have b:D.length=n:=by have:=h.1;simp at this;exact this
 rcases h.2 with ⟨a,_⟩|⟨l,j,c,a,d,g,o,e,f,i⟩
 .cases a
 .simp only[Value.slice.injEq,Option.some.injEq,Addr.mk.injEq,and_true,true_and] at a;obtain⟨rfl,rfl⟩:=a;refine⟨by simpa using b,.inr ⟨m,k,c,rfl,d,g,by omega,e,f,?_⟩⟩;have:=congrArg (List.take n) i;rw[List.take_take,List.take_left' b] at this;simpa [Nat.min_eq_left] using this
theorem lk.pop{p base:Nat}{g l:Value×List Dp}{a:List (Value×List Dp)}(h:lk w p base m (.slice (some ⟨k,0,none⟩) (a.length+2) j) g (l::a)):∃f e i,g.1=.slice e g.2.length (g.2.length+i)/\lk (w.setCell ⟨p,0,none⟩ (.slice (some ⟨k,0,none⟩) (a.length+1) j)) p base f (.slice (some ⟨k,0,none⟩) (a.length+1) j) l a/\SK (ND f w.heap.size (.slice (some ⟨k,0,none⟩) (a.length+1) j) l.1) (w.setCell ⟨p,0,none⟩ (.slice (some ⟨k,0,none⟩) (a.length+1) j)) λs=>Dt.all s e (g.2.map Prod.fst):=by
 obtain⟨f,u,v,q,x⟩:=h.op;obtain⟨e,i,c,B⟩:=h.gd.node;have d:∀b,f<=b->(w.setCell ⟨p,0,none⟩ (.slice (some ⟨k,0,none⟩) (a.length+1) j)).heap[b]?=w.heap[b]?:=λb d=>dx _ _ _ _ _ (by omega);have r:=h.row;rw[List.reverse_cons,bX,List.map_singleton] at r;have A:=qe (n:=a.length+1) r;refine⟨f,e,i,c,⟨ly h.c,by rw[World.frozen?_setCell];exact h.f,h.rb,u,h.pr,by simp;exact aQ v h.ls,fc A λb c=>dx _ _ _ _ _ λt=>h.pr (by rw[<-t];exact c),?_,x.keep (λb e o _=>dx _ _ _ _ _ (by omega)) λ_ _ c=>c⟩,?_⟩;.have:=(q.keep (w':=w.setCell ⟨p,0,none⟩ (.slice (some ⟨k,0,none⟩) (a.length+1) j)) (sv':=.slice (some ⟨k,0,none⟩) (a.length+1) j) (λb e _ _=>d b e) λ_ _ c=>c).up h.ls;simpa using this
 .refine B.kept (λo C D y z=>dk z (d o (by have:=y.1;omega))) λb d=>⟨by have:=d.1;omega,d.2.1,λc=>by have:=(q.2.1 b c).1;have:=d.1;omega,d.2.2⟩
theorem h7(b:UInt8)(o:World):Calls prog 52 #[.int .u8 (b.toNat:Int)] o λt u=>t=.returned (.bool (bn b))/\u=o:=by
 have n:bn b=((decide ((97:Int)<=(b.toNat:Int)) && decide ((b.toNat:Int)<=122)) || (decide ((48:Int)<=(b.toNat:Int)) && decide ((b.toNat:Int)<=57)) || ((b.toNat:Int) == 95) || ((b.toNat:Int) == 35) || ((b.toNat:Int) == 45)):=by unfold bn jY hj ip it;cases decide ((97:Int)<=(b.toNat:Int))<;>cases decide ((b.toNat:Int)<=122)<;>cases decide ((48:Int)<=(b.toNat:Int))<;>cases decide ((b.toNat:Int)<=57)<;>cases ((b.toNat:Int) == 95)<;>cases ((b.toNat:Int) == 35)<;>cases ((b.toNat:Int) == 45)<;>rfl
 rw[n];generalize (b.toNat:Int)=a at *;clear n;by_cases c:(97:Int)<=a/\a<=122;.obtain⟨e,f⟩:=c;go_enter func52,ntmps52;go_wp2;go_ret;exact⟨by simp[e,f],rfl⟩
 by_cases d:(48:Int)<=a/\a<=57;.obtain⟨e,f⟩:=d;(have j:¬(97:Int)<=a:=by omega);clear c;go_enter func52,ntmps52;go_wp2;go_ret;exact⟨by simp[e,f],rfl⟩
 by_cases g:a=95;.subst g;clear c d;go_enter func52,ntmps52;go_wp2;go_ret;exact⟨rfl,rfl⟩
 by_cases l:a=35;.subst l;clear c d g;go_enter func52,ntmps52;go_wp2;go_ret;exact⟨rfl,rfl⟩
 by_cases m:a=45;.subst m;clear c d g l;go_enter func52,ntmps52;go_wp2;go_ret;exact⟨rfl,rfl⟩
 have q:(a == 95)=false:=by simpa using g
 have r:(a == 35)=false:=by simpa using l
 have s:(a == 45)=false:=by simpa using m
 have i:((decide ((97:Int)<=a) && decide (a<=122)) || (decide ((48:Int)<=a) && decide (a<=57)) || (a == 95) || (a == 35) || (a == 45))=false:=by rw[q,r,s];simp only[Bool.or_false];rw[Bool.or_eq_false_iff];simp only[<-Bool.decide_and];exact⟨decide_eq_false c,decide_eq_false d⟩
 rw[i];by_cases e:(97:Int)<=a;.have f:¬a<=122:=λk=>c ⟨e,k⟩;(have j:(48:Int)<=a:=by omega);(have p:¬a<=57:=by omega);clear c d i;go_enter func52,ntmps52;go_wp2;go_ret;exact⟨rfl,rfl⟩
 .by_cases j:(48:Int)<=a;(.have p:¬a<=57:=λk=>d ⟨j,k⟩;clear c d i;go_enter func52,ntmps52;go_wp2;go_ret;exact⟨rfl,rfl⟩);.clear c d i;go_enter func52,ntmps52;go_wp2;go_ret;exact⟨rfl,rfl⟩
def VB(i:Option (List Dt))(e:World)(d:Ending)(f:World):Prop:=Bw e f/\match i with
 | some c=>∃a b,d=.returned (.tuple #[.slice a c.length (c.length+b),.bool true])/\Dt.all f a c
 | none=>∃a g b,d=.returned (.tuple #[.slice a g b,.bool false])
def rj(d:World)(i:List UInt8)(j:Option (List Dt))(p b:Nat)(g:World):Prop:=∃k l f c a,lk g p d.heap.size k l (f,c) a/\Bw d g/\j=br (i.drop b) (c.map Prod.fst) (a.map λe=>e.2.map Prod.fst)/\a.length<=b/\∀e∈(f,c)::a,e.2.length<=b
theorem se.sl{m:World}{base:Nat}{l:Value}:∀{d:List (Value×List Dp)} {f:Nat},se m base l f d->∀b∈d,∃c k e,b.1=.slice c k e
 | [],_,_,b,a=>by cases a
 | q::d,f,⟨p,n,o,i,j⟩,b,a=>by rcases dm a with rfl|a;(.obtain⟨c,e,g,_⟩:=i.node;exact⟨c,_,_,g⟩);.exact se.sl j b a
theorem lk.out{p base:Nat}{o:Value×List Dp}{g:List (Value×List Dp)}(h:lk w p base n (.slice (some ⟨m,0,none⟩) j k) o g)(r:j=g.length+1):∃a f b,w.cell? ⟨m,0,none⟩=some (.slice a f b):=by
 subst r;have e:=World.ownsRow.cellAt h.row 0 (by omega);obtain⟨l,i⟩:∃l,((o::g).reverse.map Prod.fst)[0]?=some l:=⟨_,ba (by simp)⟩;rw[i] at e;have q:=a8 i;obtain⟨s,c,rfl⟩:=fB q;rw[List.mem_reverse] at c;rcases dm c with rfl|c;.obtain⟨a,b,d,_⟩:=h.gd.node;exact⟨a,_,_,by rw[e,d]⟩
 .obtain⟨a,f,b,d⟩:=h.op.sl s c;exact⟨a,f,b,by rw[e,d]⟩
theorem lv(d k a b:Nat)(c:World)(l:b<=a):(Instr.slice 100 (.slice (some ⟨d,0,none⟩) k a) none (some (.int .i64 (b:Int))) none).run prog c=.ok (.slice (some ⟨d,0,none⟩) b a) c:=by
 obtain⟨m,i,_,j,_⟩:=info_parts qG;have e:¬(a:Int)<(b:Int):=by omega
 have f:(b:Int)<=(a:Int):=by omega
 by_cases g:a=0<;>simp[Instr.slice,run_underlying underlying100,Instr.sliceBounds,Instr.sliceBound,asIntOf,sizeOf,typeInfo,i,j,e,f,g,Addr.add]<;>omega
theorem j3(a:List UInt8)(c b:Nat)(e f:Int)(o:e=(c:Int))(p:f=(b:Int))(n:c<=b)(r:b<=a.length)(d:World):(Instr.slice 9 (.string (bs a)) (some (.int .i64 e)) (some (.int .i64 f)) none).run prog d=.ok (.string (bs ((a.drop c).take (b-c)))) d:=by
 subst o p;have q:(bs a).size=a.length:=bx a;have g:¬(b:Int)<(c:Int):=by omega
 have i:(c:Int)<=(b:Int):=by omega
 have j:(b:Int)<=((bs a).size:Int):=by omega
 have l:¬((bs a).size:Int)<(b:Int):=by omega
 have m:b<=(bs a).size:=by omega
 have k:(bs a).extract c b=bs ((a.drop c).take (b-c)):=by unfold bs ByteArray.extract;simp[ByteArray.copySlice]
 simp[Instr.slice,run_underlying underlying9,Instr.sliceBounds,Instr.sliceBound,asIntOf,g,i,j,l,m,n,k]
theorem lY(a:World):lk ((a.alloc (.cells #[.slice none 0 0] 99)).alloc (.cells #[.slice (some ⟨a.heap.size,0,none⟩) 1 1] 100)) (a.heap.size+1) a.heap.size (a.heap.size+2) (.slice (some ⟨a.heap.size,0,none⟩) 1 1) (.slice none 0 0,[]) []:=by
 have c:(a.alloc (.cells #[.slice none 0 0] 99)).ownsRow a.heap.size 99 1 (.slice (some ⟨a.heap.size,0,none⟩) 1 1) 1 [.slice none 0 0]:=World.ownsRow_lit (base:=a.heap.size) (e:=99) (size:=1) a #[.slice none 0 0] 1 aV (by unfold maxLen;omega) rfl;refine⟨by simp[go_sem],by simp[go_sem],Nat.le_succ _,aV,λb=>?_,by simp,?_,GD.nil _ _ _ _,trivial⟩;.simp[Value.ownBlock] at b
 .exact World.ownsRow.alloc c _
end Go.Proofs.YtabmgpillccfaaaGreatDoor
