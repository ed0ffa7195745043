import Derived.Test.YtabmgpillccfaaaGreatDoorUaC
set_option linter.all false
set_option maxHeartbeats 1000000
set_option maxRecDepth 100000
namespace Go.Proofs.YtabmgpillccfaaaGreatDoor
open Go.RowKit Go.Sort Go.Proofs.Tryz
theorem o7(c:Tt)(WJ:c.fin)(B:Option Addr)(C:Nat)(a:World)(WD:Tt.all a B c.l)(Wf:GT a)(p:List Tt)(Wm:bB aX c=some (3,p))(V7:p.length=2)  (Wy:∀g,Bw a g->∀(Wa:Nat) (r:Tt),p[Wa]?=some r->∀(K:Option Addr) (S:Nat) (f:World),Tt.all f K r.l->Bw g f->Calls prog 50 #[r.val K S] f (PQ (b9 r) f)):Calls prog 50 #[c.val B C] a (PQ (bm 3 p (p.map b9)) a):=by
 obtain⟨I,Wg⟩:=al (PQ (bm 3 p (p.map b9)) a);rw[<-Wg];have Wz:=VV Wg;have Wl:=Tt.af WJ;obtain⟨n,w⟩:=bq ((a.alloc (.cells #[.int .i64 c.k,.string c.s,.slice B c.l.length (c.l.length+C)] 51)).alloc (.cells #[.int .i64 0,.string ⟨#[]⟩,.slice none 0 0,.slice none 0 0,.slice none 0 0,.slice none 0 0,.int .i64 0,.int .i64 0,.int .i64 0,.int .i64 0,.slice none 0 0] 28));have x:=ae (ar _ a) (.cells #[.int .i64 c.k,.string c.s,.slice B c.l.length (c.l.length+C)] 51);have V5:Bw a n:=by rw[<-w];exact ae x _
 have WG:bp n (a.heap.size+1) VT:=by rw[<-w];have:=bp.new (a.alloc (.cells #[.int .i64 c.k,.string c.s,.slice B c.l.length (c.l.length+C)] 51)) VT 28;simpa using this
 have W5:=VV WG;have WY:Hid (a.heap.size+1<n.heap.size):=by show _<_;rw[<-w];simp
 have XD:n.cell? ⟨a.heap.size,0,none⟩=some (.int .i64 c.k):=by rw[<-w];simp[go_sem]
 have XE:n.cell? ⟨a.heap.size,1,none⟩=some (.string c.s):=by rw[<-w];simp[go_sem]
 have XF:n.cell? ⟨a.heap.size,2,none⟩=some (.slice B c.l.length (c.l.length+C)):=by rw[<-w];simp[go_sem]
 have WS:=VV V5;have Xc:=VV w;have Q:=bM bE aX aZ (by decide) (by decide) (ascii_of_all (by decide)) c Wl.2.1 B C n (Tt.ab _ WD V5) (Wf.aa V5);unfold bE at Q;rw[Wm,Tt.ad] at Q;have Q:=VV Q;have W2:=VV λ(f:World)=>b5 3 (by decide) f;have Wx:=VV Wy;obtain⟨X5,WK,_⟩:=cd Wm;have Wk:=Wl.2.2;rw[WK,Tt.ah] at Wk;have WW:=VV Wk.2;have WX:=VV λ(f:World) (V4:Bw a f)=>Wf.aa V4;have WZ:=VV V7;rw[Tt.ad];generalize c.l.length+C=XC at *;generalize c.l.length=XW at *;clear V5 x WG Wg w Wy Wf WD Wm WJ Wl WK Wk
 obtain⟨b,q,Xh⟩:∃b q,p=b::q:=by
  cases p with
  | nil=>cases V7
  | cons b q=>exact⟨b,q,rfl⟩
 subst Xh;have Xi:q.length=1:=by rw[a1] at V7;omega
 have Wj:=(U WW);rw[Tt.ah] at Wj;have WV:=VV Wj.1;have Wr:=Tt.af (U WV);have Wb:=VV λ(J:Option Addr) (L:Nat) (g:World) (M:Tt.all g J b.l) (Wi:Bw a g)=>ff eG b.l Wr.2.1 J L g M λWa r Wn K S u W Wh=>gf r.size r aV (Tt.ag Wr.2.2 (a8 Wn)) K S u W (U WX u (ac Wi Wh));have P:=VV λ(R:Option Addr) (V:Nat) (f:World)=>d3 b R V f;simp only[Tt.ad] at P;have Z:=VV λ(J:Option Addr) (L:Nat) (g:World) (M:Tt.all g J q) (Wi:Bw a g)=>db b9 q (by omega) J L g M λWa r Wn K S u W Wh=>U Wx g Wi (Wa+1) r (by simpa using Wn) K S u W Wh;rw[Xi] at Z;have t:Hid (I=PQ ((bF b).bind λXj=>(a6 eG Xj).bind λD=>(a6 b9 q).map λG=>.mk 3 ⟨#[]⟩ D [] [] [] 0 0 0 0 G) a):=by have:=U Wz;rw[cu b9];exact this
 obtain⟨Wu,Wq⟩:=al (a6 eG b.l);obtain⟨Wv,WF⟩:=al (a6 b9 q);rw[<-WF] at Z t;rw[<-Wq] at Wb;have Xf:Hid (b.k=3->I=PQ (Wu.bind λD=>Wv.map λG=>.mk 3 ⟨#[]⟩ D [] [] [] 0 0 0 0 G) a):=λj=>by have:=U t;unfold bF at this;rw[aR j] at this;rw[Wq];exact this
 have VZ:Hid (¬b.k=3->I=PQ none a):=λj=>by have:=U t;unfold bF at this;rw[aL j] at this;exact this
 clear Wz Wx Wq WF V7 Wj Wr t;go_enter func50,ntmps50;go_upto_region 1 with fail;rw[U Xc]
 go_upto_region 11 with (first
  | (go_at_call 93;refine(U Q).mono ?_;rintro WQ X3 ⟨x,J,L,rfl,M⟩;simp only[U WZ];have WR:=VV (Tt.ab _ M x);have WT:=VV (ac (U WS) x);have W6:=VV ((U W5).aa x);have W8:=VV x.size;obtain⟨k,l,R,V,rfl,⟨WN,WO,WP⟩,WL,WM⟩:=Tt.all_cons (U WR);have Xd:=VV WL;have Xe:=VV WM;have Wc:=VV (And.intro WN (And.intro WO WP));clear x M WL WM WN WO WP)
  | (go_at_call 95;refine(U W2 _).mono ?_;rintro WQ O ⟨rfl,rfl⟩)
  | (go_at_call 94;refine(bc _).mono ?_;rintro WQ O ⟨rfl,rfl⟩))
 obtain⟨z,WB⟩:=al (2+L);rw[<-WB];have XS:¬z=1:=by omega
 have XT:2<=z:=by omega
 have XU:¬(z:Int)<1:=by omega
 have XA:Hid (z-1=1+L):=by show _=_;omega
 clear WB;have s:Hid (Bw O O.drew):=(aN).drew;have A:=VV (ac (U WT) (U s));have VY:=VV (Tt.ab _ (U Xd) (U s));have We:=VV (Tt.ab _ (U Xe) (U s));have Wd:=VV ((U W6).aa (U s));have VX:Hid (n.heap.size<=O.drew.heap.size):=aQ (U W8) (U s).size;have d:Hid (CA O.drew [((k,l),.int .i64 b.k),((k,l+1),.string b.s),((k,l+2),.slice R b.l.length (b.l.length+V))]):=⟨aG (U Wc).1 (U s),aG (U Wc).2.1 (U s),aG (U Wc).2.2 (U s),trivial⟩;refine dR (λu=>I=PQ none a/\Bw a u) (λXB X4 Xg WE=>?_) (λu:World=>CA u [((k,l),.int .i64 b.k),((k,l+1),.string b.s),((k,l+2),.slice R b.l.length (b.l.length+V))]) 10 ?_;.refine⟨Xg,?_⟩;rw[WE.1];exact⟨WE.2,rfl⟩
 refine VS 0 (.int .i64 3) rfl (U d) ?_;refine VS 1 (.slice (some ⟨k,l,none⟩) 2 z) rfl (U d) ?_;refine VS 2 (.pointer (some ⟨k,l,none⟩)) rfl (U d) ?_;refine VS 3 (.agg #[.int .i64 b.k,.string b.s,.slice R b.l.length (b.l.length+V)]) rfl (U d) ?_ λX2 WC=>by simp only[CA] at WC;obtain⟨XX,XY,XZ,_⟩:=WC;go_simp
 refine VS 6 (.slice (some ⟨k,l,none⟩) 2 z) rfl (U d) ?_;refine VS 7 (.slice (some ⟨k,l+3,none⟩) 1 (z-1)) rfl (U d) ?_;refine ap 4 rfl λm e=>?_;go_simp;by_cases j:b.k=3;case neg=>simp only[aL j] at P;refine(U P _ _ _).mono ?_;rintro _ Xo ⟨rfl,o⟩;exact⟨rfl,rfl,U VZ j,ac (U A) o⟩
 have t:Hid (I=PQ (Wu.bind λD=>Wv.map λG=>.mk 3 ⟨#[]⟩ D [] [] [] 0 0 0 0 G) a):=U Xf j;simp only[aR j] at P;refine(U P _ _ _).mono ?_;rintro _ Xo ⟨rfl,o⟩;replace A:=VV (ac (U A) o);replace VY:=VV (Tt.ab _ (U VY) o);replace We:=VV (Tt.ab _ (U We) o);replace Wd:=VV ((U Wd).aa o);replace VX:=VV (aQ (U VX) o.size);replace d:=VV ((U d).aa o);clear o j;go_simp;refine aO e (U d) ?_;clear e m;refine ap 5 rfl λm e=>?_;go_simp;cases Wu with
 | none=>refine(U Wb _ _ _ (U VY) (U A)).mono ?_;rintro _ Xn ⟨y,rfl⟩;exact⟨rfl,rfl,U t,ac (U A) y⟩
 | some D=>
  refine(U Wb _ _ _ (U VY) (U A)).mono ?_
  rintro _ Xn ⟨y,X0,Xk,rfl,V8,X⟩
  obtain⟨V0,V2,rfl,WH⟩:=X.exs
  obtain⟨Ws,Wo⟩:=al ((Xk.map Prod.fst).length)
  rw[<-Wo]
  have W0:=VV Wo
  have W3:=VV V8
  have Y:=VV (ac (U A) y)
  have VZ:=VV (Tt.ab _ (U We) y)
  have W7:=VV ((U Wd).aa y)
  have W9:=VV (aQ (U VX) y.size)
  have VW:=VV (WH.low (U VX))
  replace d:=VV ((U d).aa y)
  clear y X WH Wo V8
  go_simp
  refine aO e (U d) ?_
  clear e m
  refine ap 8 rfl λm e=>?_
  go_simp
  cases Wv with
  | none=>
   refine(U Z _ _ _ (U VZ) (U Y)).mono ?_
   rintro _ N ⟨E,rfl⟩
   exact⟨rfl,rfl,U t,ac (U Y) E⟩
  | some G=>
   refine(U Z _ _ _ (U VZ) (U Y)).mono ?_
   rintro _ N ⟨E,X1,Xl,rfl,V9,X⟩
   obtain⟨V1,V3,rfl,WI⟩:=X.pls
   obtain⟨Wt,Wp⟩:=al ((Xl.map Prod.fst).length)
   rw[<-Wp]
   have W1:=VV Wp
   have W4:=VV V9
   have WU:=VV (ac (U Y) E)
   have i:=(U W7).aa E
   have Xa:=VV ((U VW).up E)
   have Xb:=VV (WI.low (U W9))
   replace d:=VV ((U d).aa E)
   clear E X WI Wp V9 VW
   go_simp
   refine aO e (U d) ?_
   clear e m
   refine ap 9 rfl λm e=>?_
   go_simp
   refine aO e (U d) ?_
   clear e m
   obtain⟨Xp,XG⟩:=i 0 _ rfl;obtain⟨Xq,XH⟩:=i 1 _ rfl;obtain⟨Xs,XJ⟩:=i 2 _ rfl;obtain⟨Xt,XK⟩:=i 3 _ rfl;obtain⟨Xu,XL⟩:=i 4 _ rfl;obtain⟨Xv,XM⟩:=i 5 _ rfl;obtain⟨Xw,XN⟩:=i 6 _ rfl;obtain⟨Xx,XO⟩:=i 7 _ rfl;obtain⟨Xy,XP⟩:=i 8 _ rfl;obtain⟨Xz,XR⟩:=i 9 _ rfl;obtain⟨Xr,XI⟩:=i 10 _ rfl
   clear i
   refine ap 10 rfl λm e=>?_
   go_simp
   refine aS e ?_
   clear e m
   refine fk ?_
   go_wp2
   refine aM (v:=.agg #[.int .i64 3,.string ⟨#[]⟩,.slice V0 Ws V2,.slice none 0 0,.slice none 0 0,.slice none 0 0,.int .i64 0,.int .i64 0,.int .i64 0,.int .i64 0,.slice V1 Wt V3]) (by simp[results,results50,go_sem,Xp,Xq,Xs,Xt,Xu,Xv,Xw,Xx,Xy,Xz,Xr]) rfl ?_
   rw[show I=PQ (some (.mk 3 ⟨#[]⟩ D [] [] [] 0 0 0 0 G)) a from U t]
   have V8:=U W3
   have V9:=U W4
   subst V8 V9
   have XV:=U WY
   have Ww:=λ(WA:World->Prop) (VW:Hid (SK (SN n.heap.size N) N WA))=>(show SK _ _ WA from((U VW).mono (T:=λF=>a.heap.size+1+1<=F/\F<N.heap.size) λF V6=>⟨by have:=V6.1;omega,V6.2⟩).kept (bR N (a.heap.size+1) (.int .i64 3) (.string ⟨#[]⟩) (.slice V0 Ws V2) (.slice none 0 0) (.slice none 0 0) (.slice none 0 0) (.int .i64 0) (.int .i64 0) (.int .i64 0) (.int .i64 0) (.slice V1 Wt V3)) (T:=λF=>a.heap.size<=F/\F<((((((((((((N.setCell ⟨a.heap.size+1,0,none⟩ (.int .i64 3)).setCell ⟨a.heap.size+1,1,none⟩ (.string ⟨#[]⟩)).setCell ⟨a.heap.size+1,2,none⟩ (.slice V0 Ws V2)).setCell ⟨a.heap.size+1,3,none⟩ (.slice none 0 0)).setCell ⟨a.heap.size+1,4,none⟩ (.slice none 0 0)).setCell ⟨a.heap.size+1,5,none⟩ (.slice none 0 0)).setCell ⟨a.heap.size+1,6,none⟩ (.int .i64 0)).setCell ⟨a.heap.size+1,7,none⟩ (.int .i64 0)).setCell ⟨a.heap.size+1,8,none⟩ (.int .i64 0)).setCell ⟨a.heap.size+1,9,none⟩ (.int .i64 0)).setCell ⟨a.heap.size+1,10,none⟩ (.slice V1 Wt V3))).heap.size) λF V6=>⟨by omega,be V6.2 (by simp)⟩)
   have j:=Ww _ Xa
   have W:=Ww _ Xb
   refine⟨aJ (U WU) (Nat.le_succ _) _ _ _ _ _ _ _ _ _ _ _,⟨V0,V2,none,0,none,0,none,0,V1,V3⟩,by rw[U W0,U W1];rfl,?_⟩
   exact λf V4=>⟨⟨j f V4,.inl rfl,.inl rfl,.inl rfl,aV⟩,W f V4⟩
variable{w:World}{m n:Nat}
theorem Tt.aD{h:Tt}{d:List Tt}(k:Tt.all w (some ⟨n,m,none⟩) (h::d)):∃a b,(w.cell? ⟨n,m,none⟩=some (.int .i64 h.k)/\w.cell? ⟨n,m+1,none⟩=some (.string h.s)/\w.cell? ⟨n,m+2,none⟩=some (.slice a h.l.length (h.l.length+b)))/\Tt.all w a h.l/\Tt.all w (some ⟨n,m+3,none⟩) d:=by obtain⟨l,o,a,b,c,g,i,j⟩:=Tt.all_cons k;injection c with c;injection c with e f;subst e f;exact⟨a,b,g,i,j⟩
theorem o1(i:Tt)(W8:i.fin)(K:Option Addr)(L:Nat)(a:World)(W4:Tt.all a K i.l)(WA:GT a)(B:List Tt)(WG:bB aX i=some (9,B))(Wi:B.length=4)  (WY:∀p,Bw a p->∀(Wk:Nat) (J:Tt),B[Wk]?=some J->∀(S:Option Addr) (V0:Nat) (j:World),Tt.all j S J.l->Bw p j->Calls prog 50 #[J.val S V0] j (PQ (b9 J) j)):Calls prog 50 #[i.val K L] a (PQ (bm 9 B (B.map b9)) a):=by
 obtain⟨Q,WB⟩:=al (PQ (bm 9 B (B.map b9)) a);rw[<-WB];have WZ:=VV WB;have WF:=Tt.af W8;obtain⟨y,G⟩:=bq ((a.alloc (.cells #[.int .i64 i.k,.string i.s,.slice K i.l.length (i.l.length+L)] 51)).alloc (.cells #[.int .i64 0,.string ⟨#[]⟩,.slice none 0 0,.slice none 0 0,.slice none 0 0,.slice none 0 0,.int .i64 0,.int .i64 0,.int .i64 0,.int .i64 0,.slice none 0 0] 28));have I:=ae (ar _ a) (.cells #[.int .i64 i.k,.string i.s,.slice K i.l.length (i.l.length+L)] 51);have Wg:Bw a y:=by rw[<-G];exact ae I _
 have W5:bp y (a.heap.size+1) VT:=by rw[<-G];have:=bp.new (a.alloc (.cells #[.int .i64 i.k,.string i.s,.slice K i.l.length (i.l.length+L)] 51)) VT 28;simpa using this
 have XB:=VV W5;have Xt:Hid (a.heap.size+1<y.heap.size):=by show _<_;rw[<-G];simp
 have X6:y.cell? ⟨a.heap.size,0,none⟩=some (.int .i64 i.k):=by rw[<-G];simp[go_sem]
 have X7:y.cell? ⟨a.heap.size,1,none⟩=some (.string i.s):=by rw[<-G];simp[go_sem]
 have X8:y.cell? ⟨a.heap.size,2,none⟩=some (.slice K i.l.length (i.l.length+L)):=by rw[<-G];simp[go_sem]
 have Xq:=VV Wg;have XG:=VV G;have VY:=bM bE aX aZ (by decide) (by decide) (ascii_of_all (by decide)) i WF.2.1 K L y (Tt.ab _ W4 Wg) (WA.aa Wg);unfold bE at VY;rw[WG,Tt.ad] at VY;have VY:=VV VY;have Xx:=VV λ(j:World)=>b5 9 (by decide) j;have WX:=VV WY;obtain⟨Yu,W9,_⟩:=cd WG;have WE:=WF.2.2;rw[W9,Tt.ah] at WE;have Xs:=VV WE.2;have Wv:=VV λ(j:World) (F:Bw a j)=>WA.aa F;have Xu:=VV Wi;rw[Tt.ad];generalize i.l.length+L=X5 at *;generalize i.l.length=Yo at *;clear Wg I W5 WB G WY WA W4 WG W8 WF W9 WE
 obtain⟨g,p1,p2,C,XK⟩:∃g p1 p2 C,B=g::p1::p2::C:=by
  match B,Wi with
  | g::p1::p2::C,_=>exact⟨g,p1,p2,C,rfl⟩
 subst XK;have XL:C.length=1:=by rw[a1,a1,a1] at Wi;omega
 have V3:=(U Xs);rw[Tt.ah,Tt.ah,Tt.ah] at V3;have WM:=Tt.af V3.1;have Wu:=VV λ(R:Option Addr) (V:Nat) (p:World) (W:Tt.all p R g.l) (WD:Bw a p)=>iG fr g.l WM.2.1 R V p W λWk J WH S V0 D V2 WC=>kq J (Tt.ag WM.2.2 (a8 WH)) S V0 D V2 (U Wv D (ac WD WC));have VX:=VV λ(VZ:Option Addr) (V1:Nat) (j:World)=>d3 g VZ V1 j;have Wa:=VV λ(VZ:Option Addr) (V1:Nat) (j:World) (F:Bw a j)=>cH p1 (Tt.af V3.2.1).1 VZ V1 j (U Wv j F);have Wb:=VV λ(VZ:Option Addr) (V1:Nat) (j:World) (F:Bw a j)=>cH p2 (Tt.af V3.2.2.1).1 VZ V1 j (U Wv j F);simp only[Tt.ad] at VX Wa Wb;have V9:=VV λ(R:Option Addr) (V:Nat) (p:World) (W:Tt.all p R C) (WD:Bw a p)=>db b9 C (by omega) R V p W λWk J WH S V0 D V2 WC=>U WX p WD (Wk+3) J (by simpa using WH) S V0 D V2 WC;rw[XL] at V9;have t:Hid (Q=PQ ((bF g).bind λXM=>(a6 fr XM).bind λN=>(cp p1).bind λV6=>(cp p2).bind λV7=>(a6 b9 C).map λO=>.mk 9 ⟨#[]⟩ [] [] N [] 0 0 V6 V7 O) a):=by have:=U WZ;rw[cu b9];exact this
 obtain⟨WS,WK⟩:=al (a6 fr g.l);obtain⟨WT,WL⟩:=al (a6 b9 C);obtain⟨WU,X⟩:=al (cp p1);obtain⟨WV,WN⟩:=al (cp p2);rw[<-WL,<-X,<-WN] at t;rw[<-WL] at V9;rw[<-X] at Wa;rw[<-WN] at Wb;rw[<-WK] at Wu;have W0:Hid (g.k=3->Q=PQ (WS.bind λN=>WU.bind λV6=>WV.bind λV7=>WT.map λO=>.mk 9 ⟨#[]⟩ [] [] N [] 0 0 V6 V7 O) a):=λs=>by have:=U t;unfold bF at this;rw[aR s] at this;rw[WK];exact this
 have W1:Hid (¬g.k=3->Q=PQ none a):=λs=>by have:=U t;unfold bF at this;rw[aL s] at this;exact this
 clear WZ WX WK WL X WN Wi V3 WM t;go_enter func50,ntmps50;go_upto_region 1 with fail;rw[U XG]
 go_upto_region 15 with (first
  | (go_at_call 93;refine(U VY).mono ?_;rintro Xd Ys ⟨I,R,V,rfl,W⟩;simp only[U Xu];have Xp:=VV (Tt.ab _ W I);have Xr:=VV (ac (U Xq) I);have XC:=VV ((U XB).aa I);have XD:=VV I.size;obtain⟨c,d,Ww,Wx,rfl,⟨Wl,Wm,Wn⟩,X,Xa⟩:=Tt.all_cons (U Xp);obtain⟨Wy,WO,⟨Y,Z,Wo⟩,_,Xb⟩:=Tt.aD Xa;obtain⟨Wz,WP,⟨Wp,Wq,Wr⟩,_,Xc⟩:=Tt.aD Xb;have XH:=VV X;have XI:=VV Xc;have XA:=VV (And.intro Wl (And.intro Wm (And.intro Wn (And.intro Y (And.intro Z (And.intro Wo (And.intro Wp (And.intro Wq Wr))))))));clear I W X Xa Xb Xc Wl Wm Wn Y Z Wo Wp Wq Wr)
  | (go_at_call 95;refine(U Xx _).mono ?_;rintro Xd VW ⟨rfl,rfl⟩)
  | (go_at_call 94;refine(bc _).mono ?_;rintro Xd VW ⟨rfl,rfl⟩))
 obtain⟨w,W3⟩:=al (4+V);rw[<-W3];have Yk:¬w=3:=by omega
 have Yl:4<=w:=by omega
 have Ym:¬(w:Int)<3:=by omega
 have X3:Hid (w-3=1+V):=by show _=_;omega
 clear W3;have P:Hid (Bw VW VW.drew):=(aN).drew;have e:=VV (ac (U Xr) (U P));have n:=VV (Tt.ab _ (U XH) (U P));have o:=VV (Tt.ab _ (U XI) (U P));have r:=VV ((U XC).aa (U P));have m:Hid (y.heap.size<=VW.drew.heap.size):=aQ (U XD) (U P).size;have XE:Hid (CA VW [((c,d),.int .i64 g.k),((c,d+1),.string g.s),((c,d+2),.slice Ww g.l.length (g.l.length+Wx)),((c,d+3),.int .i64 p1.k),((c,d+4),.string p1.s),((c,d+5),.slice Wy p1.l.length (p1.l.length+WO)),((c,d+6),.int .i64 p2.k),((c,d+7),.string p2.s),((c,d+8),.slice Wz p2.l.length (p2.l.length+WP))]):=by obtain⟨Wl,Wm,Wn,Y,Z,Wo,Wp,Wq,Wr⟩:=U XA;exact⟨Wl,Wm,Wn,Y,Z,Wo,Wp,Wq,Wr,trivial⟩
 have b:=VV ((U XE).aa (U P));refine dR (λD=>Q=PQ none a/\Bw a D) (λX4 Yt XJ f=>?_) (λD:World=>CA D [((c,d),.int .i64 g.k),((c,d+1),.string g.s),((c,d+2),.slice Ww g.l.length (g.l.length+Wx)),((c,d+3),.int .i64 p1.k),((c,d+4),.string p1.s),((c,d+5),.slice Wy p1.l.length (p1.l.length+WO)),((c,d+6),.int .i64 p2.k),((c,d+7),.string p2.s),((c,d+8),.slice Wz p2.l.length (p2.l.length+WP))]) 18 ?_;.refine⟨XJ,?_⟩;rw[f.1];exact⟨f.2,rfl⟩
 refine VS 0 (.int .i64 9) rfl (U b) ?_;refine VS 1 (.slice (some ⟨c,d,none⟩) 4 w) rfl (U b) ?_;refine VS 2 (.pointer (some ⟨c,d,none⟩)) rfl (U b) ?_;refine VS 3 (.agg #[.int .i64 g.k,.string g.s,.slice Ww g.l.length (g.l.length+Wx)]) rfl (U b) ?_ λXo E=>by simp only[CA] at E;obtain⟨Xe,Xf,Xg,Xh,Xi,Xj,Xk,Xl,Xn,_⟩:=E;go_simp
 refine VS 6 (.slice (some ⟨c,d,none⟩) 4 w) rfl (U b) ?_;refine VS 7 (.pointer (some ⟨c,d+3,none⟩)) rfl (U b) ?_;refine VS 8 (.agg #[.int .i64 p1.k,.string p1.s,.slice Wy p1.l.length (p1.l.length+WO)]) rfl (U b) ?_ λXo E=>by simp only[CA] at E;obtain⟨Xe,Xf,Xg,Xh,Xi,Xj,Xk,Xl,Xn,_⟩:=E;go_simp
 refine VS 10 (.slice (some ⟨c,d,none⟩) 4 w) rfl (U b) ?_;refine VS 11 (.pointer (some ⟨c,d+6,none⟩)) rfl (U b) ?_;refine VS 12 (.agg #[.int .i64 p2.k,.string p2.s,.slice Wz p2.l.length (p2.l.length+WP)]) rfl (U b) ?_ λXo E=>by simp only[CA] at E;obtain⟨Xe,Xf,Xg,Xh,Xi,Xj,Xk,Xl,Xn,_⟩:=E;go_simp
 refine VS 14 (.slice (some ⟨c,d,none⟩) 4 w) rfl (U b) ?_;refine VS 15 (.slice (some ⟨c,d+9,none⟩) 1 (w-3)) rfl (U b) ?_;refine ap 4 rfl λl k=>?_;go_simp;by_cases s:g.k=3;case neg=>simp only[aL s] at VX;refine(U VX _ _ _).mono ?_;rintro _ XP ⟨rfl,A⟩;exact⟨rfl,rfl,U W1 s,ac (U e) A⟩
 have t:Hid (Q=PQ (WS.bind λN=>WU.bind λV6=>WV.bind λV7=>WT.map λO=>.mk 9 ⟨#[]⟩ [] [] N [] 0 0 V6 V7 O) a):=U W0 s;simp only[aR s] at VX;refine(U VX _ _ _).mono ?_;rintro _ XP ⟨rfl,A⟩;replace e:=VV (ac (U e) A);replace n:=VV (Tt.ab _ (U n) A);replace o:=VV (Tt.ab _ (U o) A);replace r:=VV ((U r).aa A);replace m:=VV (aQ (U m) A.size);replace b:=VV ((U b).aa A);clear A s W0 W1;go_simp;refine aO k (U b) ?_;clear k l;refine ap 5 rfl λl k=>?_;go_simp;cases WS with
 | none=>refine(U Wu _ _ _ (U n) (U e)).mono ?_;rintro _ XO ⟨z,rfl⟩;exact⟨rfl,rfl,U t,ac (U e) z⟩
 | some N=>
  refine(U Wu _ _ _ (U n) (U e)).mono ?_
  rintro _ XO ⟨z,Yq,Y,rfl,V5,V4⟩
  obtain⟨Wc,We,rfl,W6⟩:=V4.keys
  obtain⟨WQ,WI⟩:=al Y.length
  rw[<-WI]
  have Xv:=VV WI
  have Xy:=VV V5
  have x:=VV (W6.low (U m))
  replace e:=VV (ac (U e) z)
  replace n:=VV (Tt.ab _ (U n) z)
  replace o:=VV (Tt.ab _ (U o) z)
  replace r:=VV ((U r).aa z)
  replace m:=VV (aQ (U m) z.size)
  replace b:=VV ((U b).aa z)
  clear z V4 W6 WI V5
  go_simp
  refine aO k (U b) ?_
  clear k l
  refine ap 9 rfl λl k=>?_
  go_simp
  cases WU with
  | none=>
   refine(U Wa _ _ _ (U e)).mono ?_
   rintro _ XR ⟨f,rfl⟩
   exact⟨rfl,rfl,U t,ac (U e) f⟩
  | some Ws=>
   refine(U Wa _ _ _ (U e)).mono ?_
   rintro _ XR ⟨f,rfl⟩
   replace x:=VV ((U x).up f)
   replace e:=VV (ac (U e) f)
   replace n:=VV (Tt.ab _ (U n) f)
   replace o:=VV (Tt.ab _ (U o) f)
   replace r:=VV ((U r).aa f)
   replace m:=VV (aQ (U m) f.size)
   replace b:=VV ((U b).aa f)
   clear f
   go_simp
   refine aO k (U b) ?_
   clear k l
   refine ap 13 rfl λl k=>?_
   go_simp
   cases WV with
   | none=>
    refine(U Wb _ _ _ (U e)).mono ?_
    rintro _ XN ⟨f,rfl⟩
    exact⟨rfl,rfl,U t,ac (U e) f⟩
   | some Wt=>
    refine(U Wb _ _ _ (U e)).mono ?_
    rintro _ XN ⟨f,rfl⟩
    replace x:=VV ((U x).up f)
    replace e:=VV (ac (U e) f)
    replace n:=VV (Tt.ab _ (U n) f)
    replace o:=VV (Tt.ab _ (U o) f)
    replace r:=VV ((U r).aa f)
    replace m:=VV (aQ (U m) f.size)
    replace b:=VV ((U b).aa f)
    clear f
    go_simp
    refine aO k (U b) ?_
    clear k l
    refine ap 16 rfl λl k=>?_
    go_simp
    cases WT with
    | none=>
     refine(U V9 _ _ _ (U o) (U e)).mono ?_
     rintro _ Yp ⟨u,rfl⟩
     exact⟨rfl,rfl,U t,ac (U e) u⟩
    | some O=>
     refine(U V9 _ _ _ (U o) (U e)).mono ?_
     rintro _ V8 ⟨u,Yr,Z,rfl,Wj,V4⟩
     obtain⟨Wd,Wf,rfl,W7⟩:=V4.pls
     obtain⟨WR,WJ⟩:=al ((Z.map Prod.fst).length)
     rw[<-WJ]
     have Xw:=VV WJ
     have Xz:=VV Wj
     have XF:=VV (W7.low (U m))
     replace x:=VV ((U x).up u)
     replace e:=VV (ac (U e) u)
     replace n:=VV (Tt.ab _ (U n) u)
     replace o:=VV (Tt.ab _ (U o) u)
     replace r:=VV ((U r).aa u)
     replace m:=VV (aQ (U m) u.size)
     replace b:=VV ((U b).aa u)
     clear u V4 W7 WJ Wj
     go_simp
     refine aO k (U b) ?_
     clear k l
     refine ap 17 rfl λl k=>?_
     go_simp
     refine aO k (U b) ?_
     clear k l
     have q:=U r
     obtain⟨XS,X9⟩:=q 0 _ rfl;obtain⟨XT,Ya⟩:=q 1 _ rfl;obtain⟨XV,Yc⟩:=q 2 _ rfl;obtain⟨XW,Yd⟩:=q 3 _ rfl;obtain⟨XX,Ye⟩:=q 4 _ rfl;obtain⟨XY,Yf⟩:=q 5 _ rfl;obtain⟨XZ,Yg⟩:=q 6 _ rfl;obtain⟨X0,Yh⟩:=q 7 _ rfl;obtain⟨X1,Yi⟩:=q 8 _ rfl;obtain⟨X2,Yj⟩:=q 9 _ rfl;obtain⟨XU,Yb⟩:=q 10 _ rfl
     clear q
     refine ap 18 rfl λl k=>?_
     go_simp
     refine aS k ?_
     clear k l
     refine fk ?_
     go_wp2
     refine aM (v:=.agg #[.int .i64 9,.string ⟨#[]⟩,.slice none 0 0,.slice none 0 0,.slice Wc WQ We,.slice none 0 0,.int .i64 0,.int .i64 0,.int .i64 Ws,.int .i64 Wt,.slice Wd WR Wf]) (by simp[results,results50,go_sem,XS,XT,XV,XW,XX,XY,XZ,X0,X1,X2,XU]) rfl ?_
     rw[show Q=PQ (some (.mk 9 ⟨#[]⟩ [] [] N [] 0 0 Ws Wt O)) a from U t]
     have V5:=U Xy
     have Wj:=U Xz
     rw[List.map_id] at V5
     subst V5 Wj
     have Yn:=U Xt
     have WW:=λ(W2:World->Prop) (x:Hid (SK (SN y.heap.size V8) V8 W2))=>(show SK _ _ W2 from((U x).mono (T:=λM=>a.heap.size+1+1<=M/\M<V8.heap.size) λM Wh=>⟨by have:=Wh.1;omega,Wh.2⟩).kept (bR V8 (a.heap.size+1) (.int .i64 9) (.string ⟨#[]⟩) (.slice none 0 0) (.slice none 0 0) (.slice Wc WQ We) (.slice none 0 0) (.int .i64 0) (.int .i64 0) (.int .i64 Ws) (.int .i64 Wt) (.slice Wd WR Wf)) (T:=λM=>a.heap.size<=M/\M<((((((((((((V8.setCell ⟨a.heap.size+1,0,none⟩ (.int .i64 9)).setCell ⟨a.heap.size+1,1,none⟩ (.string ⟨#[]⟩)).setCell ⟨a.heap.size+1,2,none⟩ (.slice none 0 0)).setCell ⟨a.heap.size+1,3,none⟩ (.slice none 0 0)).setCell ⟨a.heap.size+1,4,none⟩ (.slice Wc WQ We)).setCell ⟨a.heap.size+1,5,none⟩ (.slice none 0 0)).setCell ⟨a.heap.size+1,6,none⟩ (.int .i64 0)).setCell ⟨a.heap.size+1,7,none⟩ (.int .i64 0)).setCell ⟨a.heap.size+1,8,none⟩ (.int .i64 Ws)).setCell ⟨a.heap.size+1,9,none⟩ (.int .i64 Wt)).setCell ⟨a.heap.size+1,10,none⟩ (.slice Wd WR Wf))).heap.size) λM Wh=>⟨by omega,be Wh.2 (by simp)⟩)
     have s:=WW _ x
     have V2:=WW _ XF
     refine⟨aJ (U e) (Nat.le_succ _) _ _ _ _ _ _ _ _ _ _ _,⟨none,0,none,0,Wc,We,none,0,Wd,Wf⟩,by rw[U Xv,U Xw];rfl,?_⟩
     exact λj F=>⟨⟨by show Ex.all j none [];rw[Ex.all];trivial,.inl rfl,s j F,.inl rfl,aV⟩,V2 j F⟩
theorem o4(d:Tt)(Xa:d.fin)(R:Option Addr)(V:Nat)(a:World)(W4:Tt.all a R d.l)(WE:GT a)(F:List Tt)(WI:bB aX d=some (6,F))(Wm:F.length=3)  (WZ:∀k,Bw a k->∀(Wa:Nat) (A:Tt),F[Wa]?=some A->∀(K:Option Addr) (W:Nat) (j:World),Tt.all j K A.l->Bw k j->Calls prog 50 #[A.val K W] j (PQ (b9 A) j)):Calls prog 50 #[d.val R V] a (PQ (bm 6 F (F.map b9)) a):=by
 obtain⟨J,WF⟩:=al (PQ (bm 6 F (F.map b9)) a);rw[<-WF];have W0:=VV WF;have WH:=Tt.af Xa;obtain⟨C,M⟩:=bq ((a.alloc (.cells #[.int .i64 d.k,.string d.s,.slice R d.l.length (d.l.length+V)] 51)).alloc (.cells #[.int .i64 0,.string ⟨#[]⟩,.slice none 0 0,.slice none 0 0,.slice none 0 0,.slice none 0 0,.int .i64 0,.int .i64 0,.int .i64 0,.int .i64 0,.slice none 0 0] 28));have O:=ae (ar _ a) (.cells #[.int .i64 d.k,.string d.s,.slice R d.l.length (d.l.length+V)] 51);have Wj:Bw a C:=by rw[<-M];exact ae O _
 have W6:bp C (a.heap.size+1) VT:=by rw[<-M];have:=bp.new (a.alloc (.cells #[.int .i64 d.k,.string d.s,.slice R d.l.length (d.l.length+V)] 51)) VT 28;simpa using this
 have Xy:=VV W6;have Xo:Hid (a.heap.size+1<C.heap.size):=by show _<_;rw[<-M];simp
 have Yi:C.cell? ⟨a.heap.size,0,none⟩=some (.int .i64 d.k):=by rw[<-M];simp[go_sem]
 have Yj:C.cell? ⟨a.heap.size,1,none⟩=some (.string d.s):=by rw[<-M];simp[go_sem]
 have Yk:C.cell? ⟨a.heap.size,2,none⟩=some (.slice R d.l.length (d.l.length+V)):=by rw[<-M];simp[go_sem]
 have Xj:=VV Wj;have XD:=VV M;have V2:=bM bE aX aZ (by decide) (by decide) (ascii_of_all (by decide)) d WH.2.1 R V C (Tt.ab _ W4 Wj) (WE.aa Wj);unfold bE at V2;rw[WI,Tt.ad] at V2;have V2:=VV V2;have Xt:=VV λ(j:World)=>b5 6 (by decide) j;have WY:=VV WZ;obtain⟨YH,Xb,_⟩:=cd WI;have WG:=WH.2.2;rw[Xb,Tt.ah] at WG;have Xn:=VV WG.2;have WX:=VV λ(j:World) (V4:Bw a j)=>WE.aa V4;have Xp:=VV Wm;rw[Tt.ad];generalize d.l.length+V=Yh at *;generalize d.l.length=YA at *;clear Wj O W6 WF M WZ WE W4 WI Xa WH Xb WG
 obtain⟨b,p1,G,XN⟩:∃b p1 G,F=b::p1::G:=by
  match F,Wm with
  | b::p1::G,_=>exact⟨b,p1,G,rfl⟩
 subst XN;have XO:G.length=1:=by rw[a1,a1] at Wm;omega
 have Wk:=(U Xn);rw[Tt.ah,Tt.ah] at Wk;have WO:=Tt.af Wk.1;have WP:=Tt.af Wk.2.1;have Wt:=VV λ(D:Option Addr) (L:Nat) (k:World) (N:Tt.all k D b.l) (V6:Bw a k)=>iF cp b.l WO.2.1 D L k N λWa A V7 K W t VW V5=>cH A (Tt.af (Tt.ag WO.2.2 (a8 V7))).1 K W t (U WX t (ac V6 V5));have Wu:=VV λ(D:Option Addr) (L:Nat) (k:World) (N:Tt.all k D p1.l) (V6:Bw a k)=>mm VM p1.l WP.2.1 D L k N λWa A V7 K W t VW V5=>pP A (Tt.ag WP.2.2 (a8 V7)) K W t VW (U WX t (ac V6 V5));have V0:=VV λ(Wy:Option Addr) (WA:Nat) (j:World)=>d3 b Wy WA j;have V1:=VV λ(Wy:Option Addr) (WA:Nat) (j:World)=>d3 p1 Wy WA j;simp only[Tt.ad] at V0 V1;have Wc:=VV λ(D:Option Addr) (L:Nat) (k:World) (N:Tt.all k D G) (V6:Bw a k)=>db b9 G (by omega) D L k N λWa A V7 K W t VW V5=>U WY k V6 (Wa+2) A (by simpa using V7) K W t VW V5;rw[XO] at Wc;have w:Hid (J=PQ ((bF b).bind λXP=>(a6 cp XP).bind λWB=>(bF p1).bind λXR=>(a6 VM XR).bind λS=>(a6 b9 G).map λY=>.mk 6 ⟨#[]⟩ [] WB [] S 0 0 0 0 Y) a):=by have:=U W0;rw[cu b9];exact this
 obtain⟨WU,Wn⟩:=al (a6 cp b.l);obtain⟨WV,WM⟩:=al (a6 b9 G);obtain⟨WW,WN⟩:=al (a6 VM p1.l);rw[<-WM] at w;rw[<-WM] at Wc;rw[<-Wn] at Wt;rw[<-WN] at Wu;have XH:Hid (b.k=3->p1.k=3->J=PQ (WU.bind λWB=>WW.bind λS=>WV.map λY=>.mk 6 ⟨#[]⟩ [] WB [] S 0 0 0 0 Y) a):=λl E=>by have:=U w;unfold bF at this;rw[aR l,aR E] at this;rw[Wn,WN];exact this
 have W1:Hid (¬b.k=3->J=PQ none a):=λl=>by have:=U w;unfold bF at this;rw[aL l] at this;exact this
 have XI:Hid (WU=none->b.k=3->J=PQ none a):=λXK l=>by have:=U w;unfold bF at this;rw[aR l] at this;rw[this];show PQ ((a6 cp b.l).bind _) a=_;rw[<-Wn,XK];rfl
 have XJ:Hid (¬p1.k=3->b.k=3->J=PQ none a):=λE l=>by have:=U w;unfold bF at this;rw[aR l,aL E] at this;rw[this];show PQ ((a6 cp b.l).bind λ_=>none) a=_;cases a6 cp b.l<;>rfl
 clear W0 WY Wn WM WN Wm Wk WO WP w;go_enter func50,ntmps50;go_upto_region 1 with fail;rw[U XD]
 go_upto_region 13 with (first
  | (go_at_call 93;refine(U V2).mono ?_;rintro Xh YF ⟨O,D,L,rfl,N⟩;simp only[U Xp];have Xi:=VV (Tt.ab _ N O);have Xk:=VV (ac (U Xj) O);have Xz:=VV ((U Xy).aa O);have XA:=VV O.size;obtain⟨g,i,Wx,Wz,rfl,⟨Wp,Wq,Wr⟩,Xc,Xe⟩:=Tt.all_cons (U Xi);obtain⟨WC,WQ,⟨VX,VY,Ws⟩,Xd,Xf⟩:=Tt.aD Xe;have XE:=VV Xc;have XG:=VV Xd;have XF:=VV Xf;have Xx:=VV (And.intro Wp (And.intro Wq (And.intro Wr (And.intro VX (And.intro VY Ws)))));clear O N Xc Xd Xe Xf Wp Wq Wr VX VY Ws)
  | (go_at_call 95;refine(U Xt _).mono ?_;rintro Xh VZ ⟨rfl,rfl⟩)
  | (go_at_call 94;refine(bc _).mono ?_;rintro Xh VZ ⟨rfl,rfl⟩))
 obtain⟨I,W3⟩:=al (3+L);rw[<-W3];have Yw:¬I=2:=by omega
 have Yx:3<=I:=by omega
 have Yy:¬(I:Int)<2:=by omega
 have Yf:Hid (I-2=1+L):=by show _=_;omega
 clear W3;have Q:Hid (Bw VZ VZ.drew):=(aN).drew;have e:=VV (ac (U Xk) (U Q));have Z:=VV (Tt.ab _ (U XE) (U Q));have p:=VV (Tt.ab _ (U XF) (U Q));have q:=VV (Tt.ab _ (U XG) (U Q));have s:=VV ((U Xz).aa (U Q));have m:Hid (C.heap.size<=VZ.drew.heap.size):=aQ (U XA) (U Q).size;have XB:Hid (CA VZ [((g,i),.int .i64 b.k),((g,i+1),.string b.s),((g,i+2),.slice Wx b.l.length (b.l.length+Wz)),((g,i+3),.int .i64 p1.k),((g,i+4),.string p1.s),((g,i+5),.slice WC p1.l.length (p1.l.length+WQ))]):=by obtain⟨Wp,Wq,Wr,VX,VY,Ws⟩:=U Xx;exact⟨Wp,Wq,Wr,VX,VY,Ws,trivial⟩
 have c:=VV ((U XB).aa (U Q));refine dR (λt=>J=PQ none a/\Bw a t) (λYg YG XL o=>?_) (λt:World=>CA t [((g,i),.int .i64 b.k),((g,i+1),.string b.s),((g,i+2),.slice Wx b.l.length (b.l.length+Wz)),((g,i+3),.int .i64 p1.k),((g,i+4),.string p1.s),((g,i+5),.slice WC p1.l.length (p1.l.length+WQ))]) 15 ?_;.refine⟨XL,?_⟩;rw[o.1];exact⟨o.2,rfl⟩
 refine VS 0 (.int .i64 6) rfl (U c) ?_;refine VS 1 (.slice (some ⟨g,i,none⟩) 3 I) rfl (U c) ?_;refine VS 2 (.pointer (some ⟨g,i,none⟩)) rfl (U c) ?_;refine VS 3 (.agg #[.int .i64 b.k,.string b.s,.slice Wx b.l.length (b.l.length+Wz)]) rfl (U c) ?_ λX3 V3=>by simp only[CA] at V3;obtain⟨XT,XU,XV,XW,XX,XY,_⟩:=V3;go_simp
 refine VS 6 (.slice (some ⟨g,i,none⟩) 3 I) rfl (U c) ?_;refine VS 7 (.pointer (some ⟨g,i+3,none⟩)) rfl (U c) ?_;refine VS 8 (.agg #[.int .i64 p1.k,.string p1.s,.slice WC p1.l.length (p1.l.length+WQ)]) rfl (U c) ?_ λX3 V3=>by simp only[CA] at V3;obtain⟨XT,XU,XV,XW,XX,XY,_⟩:=V3;go_simp
 refine VS 11 (.slice (some ⟨g,i,none⟩) 3 I) rfl (U c) ?_;refine VS 12 (.slice (some ⟨g,i+6,none⟩) 1 (I-2)) rfl (U c) ?_;refine ap 4 rfl λn f=>?_;go_simp;by_cases l:b.k=3;case neg=>simp only[aL l] at V0;refine(U V0 _ _ _).mono ?_;rintro _ X1 ⟨rfl,z⟩;exact⟨rfl,rfl,U W1 l,ac (U e) z⟩
 have WD:=VV l;simp only[aR l] at V0;refine(U V0 _ _ _).mono ?_;rintro _ X1 ⟨rfl,z⟩;replace e:=VV (ac (U e) z);replace Z:=VV (Tt.ab _ (U Z) z);replace p:=VV (Tt.ab _ (U p) z);replace q:=VV (Tt.ab _ (U q) z);replace s:=VV ((U s).aa z);replace m:=VV (aQ (U m) z.size);replace c:=VV ((U c).aa z);clear z l W1;go_simp;refine aO f (U c) ?_;clear f n;refine ap 5 rfl λn f=>?_;go_simp;cases WU with
 | none=>refine(U Wt _ _ _ (U Z) (U e)).mono ?_;rintro _ X0 ⟨y,rfl⟩;exact⟨rfl,rfl,U XI rfl (U WD),ac (U e) y⟩
 | some Xg=>
  refine(U Wt _ _ _ (U Z) (U e)).mono ?_
  rintro _ X0 ⟨y,YC,VX,rfl,V8,P⟩
  obtain⟨Wd,Wg,rfl,W5,W7⟩:=P.ints
  have Xl:=VV W5
  clear W5
  obtain⟨WR,WJ⟩:=al VX.length
  rw[<-WJ]
  have Xq:=VV WJ
  have Xu:=VV V8
  have B:=VV (W7.low (U m))
  replace e:=VV (ac (U e) y)
  replace Z:=VV (Tt.ab _ (U Z) y)
  replace p:=VV (Tt.ab _ (U p) y)
  replace q:=VV (Tt.ab _ (U q) y)
  replace s:=VV ((U s).aa y)
  replace m:=VV (aQ (U m) y.size)
  replace c:=VV ((U c).aa y)
  clear y P W7 WJ V8
  go_simp
  refine aO f (U c) ?_
  clear f n
  refine ap 9 rfl λn f=>?_
  go_simp
  by_cases E:p1.k=3
  case neg=>
   simp only[aL E] at V1
   refine(U V1 _ _ _).mono ?_
   rintro _ X2 ⟨rfl,o⟩
   exact⟨rfl,rfl,U XJ E (U WD),ac (U e) o⟩
  have w:Hid (J=PQ (WW.bind λS=>WV.map λY=>.mk 6 ⟨#[]⟩ [] Xg [] S 0 0 0 0 Y) a):=U XH (U WD) E
  simp only[aR E] at V1
  refine(U V1 _ _ _).mono ?_
  rintro _ X2 ⟨rfl,o⟩
  replace e:=VV (ac (U e) o)
  replace p:=VV (Tt.ab _ (U p) o)
  replace q:=VV (Tt.ab _ (U q) o)
  replace s:=VV ((U s).aa o)
  replace m:=VV (aQ (U m) o.size)
  replace c:=VV ((U c).aa o)
  replace B:=VV ((U B).up o)
  clear o E
  go_simp
  refine aO f (U c) ?_
  clear f n
  refine ap 10 rfl λn f=>?_
  go_simp
  cases WW with
  | none=>
   refine(U Wu _ _ _ (U q) (U e)).mono ?_
   rintro _ XZ ⟨x,rfl⟩
   exact⟨rfl,rfl,U w,ac (U e) x⟩
  | some S=>
   refine(U Wu _ _ _ (U q) (U e)).mono ?_
   rintro _ XZ ⟨x,YE,XS,rfl,V9,P⟩
   obtain⟨Wf,Wi,rfl,W9⟩:=P.aggs
   obtain⟨WT,WL⟩:=al XS.length
   rw[<-WL]
   have Xs:=VV WL
   have Xw:=VV V9
   have Ww:=VV (W9.low (U m))
   replace e:=VV (ac (U e) x)
   replace p:=VV (Tt.ab _ (U p) x)
   replace q:=VV (Tt.ab _ (U q) x)
   replace s:=VV ((U s).aa x)
   replace m:=VV (aQ (U m) x.size)
   replace c:=VV ((U c).aa x)
   replace B:=VV ((U B).up x)
   clear x P W9 WL V9
   go_simp
   refine aO f (U c) ?_
   clear f n
   refine ap 13 rfl λn f=>?_
   go_simp
   cases WV with
   | none=>
    refine(U Wc _ _ _ (U p) (U e)).mono ?_
    rintro _ YB ⟨u,rfl⟩
    exact⟨rfl,rfl,U w,ac (U e) u⟩
   | some Y=>
    refine(U Wc _ _ _ (U p) (U e)).mono ?_
    rintro _ Wb ⟨u,YD,VY,rfl,Wo,P⟩
    obtain⟨We,Wh,rfl,W8⟩:=P.pls
    obtain⟨WS,WK⟩:=al ((VY.map Prod.fst).length)
    rw[<-WK]
    have Xr:=VV WK
    have Xv:=VV Wo
    have XC:=VV (W8.low (U m))
    replace B:=VV ((U B).up u)
    replace Ww:=VV ((U Ww).up u)
    replace e:=VV (ac (U e) u)
    replace p:=VV (Tt.ab _ (U p) u)
    replace q:=VV (Tt.ab _ (U q) u)
    replace s:=VV ((U s).aa u)
    replace m:=VV (aQ (U m) u.size)
    replace c:=VV ((U c).aa u)
    clear u P W8 WK Wo
    go_simp
    refine aO f (U c) ?_
    clear f n
    refine ap 14 rfl λn f=>?_
    go_simp
    refine aO f (U c) ?_
    clear f n
    have r:=U s
    obtain⟨X4,Yl⟩:=r 0 _ rfl;obtain⟨X5,Ym⟩:=r 1 _ rfl;obtain⟨X7,Yo⟩:=r 2 _ rfl;obtain⟨X8,Yp⟩:=r 3 _ rfl;obtain⟨X9,Yq⟩:=r 4 _ rfl;obtain⟨Ya,Yr⟩:=r 5 _ rfl;obtain⟨Yb,Ys⟩:=r 6 _ rfl;obtain⟨Yc,Yt⟩:=r 7 _ rfl;obtain⟨Yd,Yu⟩:=r 8 _ rfl;obtain⟨Ye,Yv⟩:=r 9 _ rfl;obtain⟨X6,Yn⟩:=r 10 _ rfl
    clear r
    refine ap 15 rfl λn f=>?_
    go_simp
    refine aS f ?_
    clear f n
    refine fk ?_
    go_wp2
    refine aM (v:=.agg #[.int .i64 6,.string ⟨#[]⟩,.slice none 0 0,.slice Wd WR Wg,.slice none 0 0,.slice Wf WT Wi,.int .i64 0,.int .i64 0,.int .i64 0,.int .i64 0,.slice We WS Wh]) (by simp[results,results50,go_sem,X4,X5,X7,X8,X9,Ya,Yb,Yc,Yd,Ye,X6]) rfl ?_
    rw[show J=PQ (some (.mk 6 ⟨#[]⟩ [] Xg [] S 0 0 0 0 Y)) a from U w]
    have V8:=U Xu
    have Wo:=U Xv
    rw[List.map_id] at V8
    have V9:=U Xw
    rw[List.map_id] at V9
    subst V8 Wo V9
    have Yz:=U Xo
    have Wv:=λ(W2:World->Prop) (B:Hid (SK (SN C.heap.size Wb) Wb W2))=>(show SK _ _ W2 from((U B).mono (T:=λX=>a.heap.size+1+1<=X/\X<Wb.heap.size) λX Wl=>⟨by have:=Wl.1;omega,Wl.2⟩).kept (bR Wb (a.heap.size+1) (.int .i64 6) (.string ⟨#[]⟩) (.slice none 0 0) (.slice Wd WR Wg) (.slice none 0 0) (.slice Wf WT Wi) (.int .i64 0) (.int .i64 0) (.int .i64 0) (.int .i64 0) (.slice We WS Wh)) (T:=λX=>a.heap.size<=X/\X<((((((((((((Wb.setCell ⟨a.heap.size+1,0,none⟩ (.int .i64 6)).setCell ⟨a.heap.size+1,1,none⟩ (.string ⟨#[]⟩)).setCell ⟨a.heap.size+1,2,none⟩ (.slice none 0 0)).setCell ⟨a.heap.size+1,3,none⟩ (.slice Wd WR Wg)).setCell ⟨a.heap.size+1,4,none⟩ (.slice none 0 0)).setCell ⟨a.heap.size+1,5,none⟩ (.slice Wf WT Wi)).setCell ⟨a.heap.size+1,6,none⟩ (.int .i64 0)).setCell ⟨a.heap.size+1,7,none⟩ (.int .i64 0)).setCell ⟨a.heap.size+1,8,none⟩ (.int .i64 0)).setCell ⟨a.heap.size+1,9,none⟩ (.int .i64 0)).setCell ⟨a.heap.size+1,10,none⟩ (.slice We WS Wh))).heap.size) λX Wl=>⟨by omega,be Wl.2 (by simp)⟩)
    have l:=Wv _ B
    have VW:=Wv _ XC
    have XM:=Wv _ Ww
    refine⟨aJ (U e) (Nat.le_succ _) _ _ _ _ _ _ _ _ _ _ _,⟨none,0,Wd,Wg,none,0,Wf,Wi,We,Wh⟩,by rw[U Xq,U Xr,U Xs];rfl,?_⟩
    exact λj V4=>⟨⟨by show Ex.all j none [];rw[Ex.all];trivial,l j V4,.inl rfl,XM j V4,U Xl⟩,VW j V4⟩
theorem m5(B:∀(a:Tt),a.fin->∀(d:Option Addr) (e:Nat) (b:World),Tt.all b d a.l->GT b->∀(c:List Tt),bB aX a=some (10,c)->c.length=6->(∀p,Bw b p->∀(v:Nat) (o:Tt),c[v]?=some o->∀(r:Option Addr) (t:Nat) (n:World),Tt.all n r o.l->Bw p n->Calls prog 50 #[o.val r t] n (PQ (b9 o) n))->Calls prog 50 #[a.val d e] b (PQ (bm 10 c (c.map b9)) b)):∀(u:Nat) (a:Tt),a.size<=u->a.fin->∀(d:Option Addr) (e:Nat) (b:World),Tt.all b d a.l->GT b->Calls prog 50 #[a.val d e] b (PQ (b9 a) b):=by
 intro u;induction u with
 | zero=>intro a h;exact absurd h (by rw[Tt.am];omega)
 | succ u C=>
 intro a L g d e b k i
 have K:b9 a=match bB aX a with
   | none=>none
   | some q=>if q.1=8∨(q.2.length:Int)=bN q.1 then bm q.1 q.2 (q.2.map b9) else none:=by
  cases a with
  | mk M O N=>exact je M O N
 rw[K];cases j:bB aX a with
 | none=>exact m0 a g d e b k i j
 | some q=>obtain⟨f,c⟩:=q;simp only;obtain⟨A,x,s⟩:=cd j;(have J:1<=f/\f<=12:=by unfold bW at s;split at s;(.injection s with s;have:=dC aX A.s;(have w:aX.length=12:=by kernel_rfl);rw[w] at this;omega);.cases s);have y:=(Tt.af g).2.2;rw[x,Tt.ah] at y;have I:=(Tt.af g).2.1;rw[x,a1] at I;rw[Tt.am,x,Tt.sizes] at L;have P:=Tt.am A;(have m:∀p,Bw b p->∀(v:Nat) (o:Tt),c[v]?=some o->∀(r:Option Addr) (t:Nat) (n:World),Tt.all n r o.l->Bw p n->Calls prog 50 #[o.val r t] n (PQ (b9 o) n):=λp F v o G r t n D E=>by have z:=a8 G;have:=Tt.an z;exact C o (by omega) (Tt.ag y.2 z) r t n D (i.aa (ac F E)));by_cases l:f=8∨(c.length:Int)=bN f;(.rw[aR l];(have w:f=1∨f=2∨f=3∨f=4∨f=5∨f=6∨f=7∨f=8∨f=9∨f=10∨f=11∨f=12:=by omega);clear J s;rcases w with rfl|rfl|rfl|rfl|rfl|rfl|rfl|rfl|rfl|rfl|rfl|rfl;(.exact o9 a g d e b k i c j (by simp[bN] at l;omega) m);(.exact o8 a g d e b k i c j (by simp[bN] at l;omega) m);(.exact o7 a g d e b k i c j (by simp[bN] at l;omega) m);(.exact o6 a g d e b k i c j (by simp[bN] at l;omega) m);(.exact o5 a g d e b k i c j (by simp[bN] at l;omega) m);(.exact o4 a g d e b k i c j (by simp[bN] at l;omega) m);(.exact o3 a g d e b k i c j (by simp[bN] at l;omega) m);(.exact o2 a g d e b k i c j (by omega) m);(.exact o1 a g d e b k i c j (by simp[bN] at l;omega) m);(.exact B a g d e b k i c j (by simp[bN] at l;omega) m);(.exact m2 a g d e b k i c j (by simp[bN] at l;omega) m);.exact m1 a g d e b k i c j (by simp[bN] at l;omega) m);.rw[aL l];exact mZ a g d e b k i c f j l
end Go.Proofs.YtabmgpillccfaaaGreatDoor
