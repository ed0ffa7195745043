import Derived.Test.YtabmgpillccfaaaGreatDoorUcF
set_option linter.all false
set_option maxHeartbeats 4000000
set_option maxRecDepth 100000
namespace Go.Proofs.YtabmgpillccfaaaGreatDoor
open Go.RowKit Go.Sort Go.Proofs.Tryz
theorem mW(l:ByteArray)(h f p1:Dt)(WP:(Dt.mk true l (h::[f,p1])).fin)(e:Option Addr)(k:Nat)(d:World)(WG:Dt.all d e (h::[f,p1]))(WD:GT d)(V7:ch aX (headD (.mk true l (h::[f,p1])))=10) (WC:∀(Wf:Nat) (A:Dt),[f,p1][Wf]?=some A->∀(P:Option Addr) (u:Nat) (a:World),Dt.all a P A.l->Bw d a->Calls prog 18 #[A.val P u] a (cS (bZ A) a)):Calls prog 18 #[(Dt.mk true l (h::[f,p1])).val e k] d (cS (bu 11 [f,p1] ([f,p1].map bZ)) d):=by
 obtain⟨V0,V2⟩:=al (bu 11 [f,p1] ([f,p1].map bZ));rw[<-V2];have Y:=Dt.af WP;have t:=λa (q:Dt.all a e (h::[f,p1]))=>cg (.mk true l (h::[f,p1])) e k a q Y.2.2.1;obtain⟨VY,WE⟩:=al (headD (.mk true l (h::[f,p1])));rw[<-WE] at t V7;have O:=λe a q=>bL (aX.map bs) (by rw[VP,a7];decide) VY e 12 a q;rw[VP,a7,show Lib.idxOfS (aX.map bs) VY=10 from V7] at O;have O:=VV O;show Calls prog 18 #[.agg #[.bool true,.string l,.slice e 3 (3+k)]] d (cS V0 d);have t:=λa (q:Dt.all a e (h::[f,p1]))=>(show Calls prog 54 #[.agg #[.bool true,.string l,.slice e 3 (3+k)]] a λE B=>E=.returned (.string VY)/\Bw a B from t a q);have Wd:3=(h::[f,p1]).length:=rfl;obtain⟨y,Xi,Xj,u,V9,Wc,V4,V8,Wa⟩:=cU d l e 3 (3+k);obtain⟨g,G⟩:=al (gW d l e 3 (3+k));rw[<-G] at y Xi Xj u V9 Wc V4 V8 Wa;unfold gW at G;have T:=Dt.ab _ WG y;obtain⟨Xh,Xk,Wb,WH⟩:=dY k 1 1 3 Wd T (by omega) (by omega);obtain⟨Q,Xl,Z,WI⟩:=es k 1 3 Wd T (by omega);obtain⟨w,WM⟩:=al (3+k);rw[<-WM] at t G u Wb Z ⊢;obtain⟨S,WN⟩:=al (2+Xl);have Wb:∀a,(Instr.slice 44 (.slice e 3 w) (some (.int .i64 1)) (some (.int .i64 1)) none).run prog a=.ok (.slice Xh 0 Xk) a:=Wb;have Z:∀a,(Instr.slice 44 (.slice e 3 w) (some (.int .i64 1)) none none).run prog a=.ok (.slice Q 2 S) a:=by rw[WN];exact Z
 have WF:∀a,Bw g a->Calls prog 55 #[.slice Q 2 S] a (jG (λa e j=>Pl.all a e j) (aW ([f,p1].map bZ)) a):=λa q=>by skip;skip;exact(ci [f,p1] (by have:(h::[f,p1]).length<=1000000:=Y.2.2.1;simp only[a1,List.length_nil] at this ⊢;omega) Q S a (Dt.ab _ WI q) λWf A XN P u Xg I XM=>WC Wf A XN P u Xg I (ac (ac y q) XM)).mono λ_ _ h=>h.pl
 have W5:=VV WF;have t:=VV (t g T);have XU:=VV WH;have W1:Hid (CA g [((d.heap.size,2),.slice e 3 w),((d.heap.size+3,10),.int .i64 0),((d.heap.size+4,10),.int .i64 2)]):=⟨u,V4 10 _ rfl,V8 10 _ rfl,trivial⟩;have W9:=VV Wc;have W6:=VV V9;have WV:=VV y;have W7:=VV Wa;have XS:=VV Y;have XT:=VV (WD.aa y);have Xb:=VV G.symm;have WA:=VV V2;clear y V9 Wc V4 V8 Wa T WI WN WM Y WF WE V7 WC WG WD WP G Wd WH V2;go_enter func18,ntmps18;go_upto_region 4 with fail;rw[U Xb]
 go_upto_region 5 with (first
  | (go_at_call 53;refine(U O _ _ (U Xa)).mono ?_;rintro XO WU ⟨rfl,rfl⟩)
  | (go_at_call 54;refine(U t).mono ?_;rintro XO XV ⟨rfl,V⟩;have WW:=VV V;have Xa:=VV ((U W9).aa V);have WL:=(U W1).aa V;have WY:=VV WL;obtain⟨r,s,VX,_⟩:=WL;clear V))
 have Wg:=cell_regrown r;have Wh:=cell_regrown s;have VW:=cell_regrown VX;refine wp_region_quiet_below (by kernel_rfl) (by kernel_rfl) ?_;repeat (go_big_quiet_step (fail))
 refine wpQuiet_nil ?_;intro C We;have Wu:Hid (Bw g C):=ac (U WW) (by obtain⟨Wi,rfl⟩:=We;exact below_regrown _ _ _);have WZ:=VV ((U WY).aa (by obtain⟨Wi,rfl⟩:=We;exact below_regrown _ _ _:Bw WU C));obtain⟨i,V5⟩:=al C.heap.size;obtain⟨N,K⟩:=al (C.alloc (.cells #[.int .i64 11,.string ⟨#[]⟩,.slice none 0 0,.slice none 0 0,.slice none 0 0,.slice none 0 0,.int .i64 0,.int .i64 0,.int .i64 0,.int .i64 0,.slice none 0 0] 28));have I:=ae (ar _ C) (.cells #[.int .i64 11,.string ⟨#[]⟩,.slice none 0 0,.slice none 0 0,.slice none 0 0,.slice none 0 0,.int .i64 0,.int .i64 0,.int .i64 0,.int .i64 0,.slice none 0 0] 28);have WX:Hid (Bw g N):=by rw[K];exact ac (U Wu) I
 have W3:Hid (bp N i [.int .i64 11,.string ⟨#[]⟩,.slice none 0 0,.slice none 0 0,.slice none 0 0,.slice none 0 0,.int .i64 0,.int .i64 0,.int .i64 0,.int .i64 0,.slice none 0 0]):=by rw[K,V5];exact bp.new C [.int .i64 11,.string ⟨#[]⟩,.slice none 0 0,.slice none 0 0,.slice none 0 0,.slice none 0 0,.int .i64 0,.int .i64 0,.int .i64 0,.int .i64 0,.slice none 0 0] 28
 have WO:CA N [((d.heap.size,2),.slice e 3 w),((d.heap.size+3,10),.int .i64 0),((d.heap.size+4,10),.int .i64 2)]:=by rw[K];exact(U WZ).aa I
 have W0:=VV WO;obtain⟨r,s,VX,_⟩:=WO;have Wx:Hid (d.heap.size+1<i/\g.heap.size<=i):=by show _/\_;have:=(U Wu).size;have:=U W7;omega
 have Xc:=VV K.symm;have W2:=VV V5.symm;clear V5 K I We Wg Wh VW;go_upto_region 8 with fail;rw[U Xc,U W2];have Wg:=cell_regrown r;have Wh:=cell_regrown s;have VW:=cell_regrown VX;refine wp_region_quiet_below (by kernel_rfl) (by kernel_rfl) ?_;repeat (go_big_quiet_step (fail))
 refine wpQuiet_nil ?_;intro M WS;have W:Bw N M:=by obtain⟨Wi,rfl⟩:=WS;exact below_regrown _ _ _
 have Wv:=VV (ac (U WX) W).drew;have n:Hid (CA M.drew [((d.heap.size,2),.slice e 3 w),((d.heap.size+3,10),.int .i64 0)]):=by obtain⟨r,s,_⟩:=(U W0).aa W;exact⟨r,s,trivial⟩
 have Wz:Hid (bp M.drew i [.int .i64 11,.string ⟨#[]⟩,.slice none 0 0,.slice none 0 0,.slice none 0 0,.slice none 0 0,.int .i64 0,.int .i64 0,.int .i64 0,.int .i64 0,.slice none 0 0]):=((U W3).aa W).aa aN.drew;have W4:Hid (i<M.drew.heap.size):=bY _ _ ((U Wz) 0 _ rfl).1;clear WS Wg Wh VW r s VX W;go_upto_region 10 with fail;refine VR (λa:World=>CA a [((d.heap.size,2),.slice e 3 w),((d.heap.size+3,10),.int .i64 0)]) 8 ?_;refine ai 0 (.pointer (some ⟨d.heap.size,2,none⟩)) rfl (U n) ?_;refine ai 1 (.slice e 3 w) rfl (U n) ?_ λB F=>by simp only[CA] at F;obtain⟨r,s,_⟩:=F;go_simp
 refine ai 2 (.slice (some ⟨d.heap.size+3,0,none⟩) 12 12) rfl (U n) ?_;refine ai 3 (.int .i64 10) rfl (U n) ?_;refine ai 4 (.pointer (some ⟨d.heap.size+3,10,none⟩)) rfl (U n) ?_;refine ai 5 (.int .i64 0) rfl (U n) ?_ λB F=>by simp only[CA] at F;obtain⟨r,s,_⟩:=F;go_simp
 refine ai 6 (.int .i64 1) rfl (U n) ?_ λB _=>by go_simp;rfl
 refine ai 7 (.slice Q 2 S) rfl (U n) ?_ λB _=>by have:=Z B;go_simp
 refine ap 8 rfl λD p=>?_;go_simp;refine(U W5 _ (U Wv)).mono ?_;rintro _ XP ⟨V3,o,z,cv,R,rfl,WJ,WK⟩;go_simp;refine aS p ?_;clear p D;refine cJ (S2:=λ_=>True) (k2:=14) _ _ _ _ (.inr rfl) ?_;have V6:=(U Wz).aa V3;obtain⟨V1,XB⟩:=V6 10 _ rfl;refine ai 9 (.tuple #[.slice o z cv,.bool R]) rfl trivial ?_;refine ai 10 (.slice o z cv) rfl trivial ?_;refine ai 11 (.bool R) rfl trivial ?_;refine ai 12 (.pointer (some ⟨i,10,none⟩)) rfl trivial ?_;refine ap 13 rfl λD p=>?_;go_simp;refine aO p trivial ?_;clear p D;refine ap 14 rfl λD p=>?_;go_simp;refine aS p ?_;clear p D;refine bh ?_;obtain⟨L,J⟩:=al (XP.setCell ⟨i,10,none⟩ (.slice o z cv));rw[<-J];have X:Bw g L:=by rw[J];exact(ac (U Wv) V3).setCell (p:=⟨i,10,none⟩) (U Wx).2 _
 have XR:=VV X;have Ww:=VV (ac (U WV) X);have WB:Hid (bp L (d.heap.size+1) VT):=(U W6).aa X;have Wy:Hid (bp L i [.int .i64 11,.string ⟨#[]⟩,.slice none 0 0,.slice none 0 0,.slice none 0 0,.slice none 0 0,.int .i64 0,.int .i64 0,.int .i64 0,.int .i64 0,.slice o z cv]):=by rw[J];exact V6.set 10 _
 have WQ:i+1<=M.drew.heap.size:=U W4;have Xd:Hid (R=true->∃j,aW ([f,p1].map bZ)=some j/\j.length=z/\SK (SN (i+1) L) L λa=>Pl.all a o j):=λE=>by obtain⟨j,Xn,Xo,_,Xp⟩:=WK E;rw[J];exact⟨j,Xn,Xo,(Xp.low WQ).aw _⟩
 have Xe:=VV WJ;clear J X V6 WJ WK V3 V1 XB WQ;cases R with
 | false=>(have VZ:Hid (V0=none):=by show _=_;rw[U WA];have E:=U Xe rfl;show (aW ([f,p1].map bZ)).map _=none;rw[E];rfl);have c:=U WB;obtain⟨Wj,Xq⟩:=c 0 _ rfl;obtain⟨Wk,Xr⟩:=c 1 _ rfl;obtain⟨Wm,Xt⟩:=c 2 _ rfl;obtain⟨Wn,Xu⟩:=c 3 _ rfl;obtain⟨Wo,Xv⟩:=c 4 _ rfl;obtain⟨Wp,Xw⟩:=c 5 _ rfl;obtain⟨Wq,Xx⟩:=c 6 _ rfl;obtain⟨Wr,Xy⟩:=c 7 _ rfl;obtain⟨Ws,Xz⟩:=c 8 _ rfl;obtain⟨Wt,XA⟩:=c 9 _ rfl;obtain⟨Wl,Xs⟩:=c 10 _ rfl;clear c;have b:=U Wy;obtain⟨XC,_⟩:=b 0 _ rfl;obtain⟨XD,_⟩:=b 1 _ rfl;obtain⟨XE,_⟩:=b 2 _ rfl;obtain⟨XF,_⟩:=b 3 _ rfl;obtain⟨XG,_⟩:=b 4 _ rfl;obtain⟨XH,_⟩:=b 5 _ rfl;obtain⟨XI,_⟩:=b 6 _ rfl;obtain⟨XJ,_⟩:=b 7 _ rfl;obtain⟨XK,_⟩:=b 8 _ rfl;obtain⟨XL,_⟩:=b 9 _ rfl;obtain⟨V1,_⟩:=b 10 _ rfl;clear b;go_wp2;refine aM (v:=.tuple #[.agg #[.int .i64 11,.string ⟨#[]⟩,.slice none 0 0,.slice none 0 0,.slice none 0 0,.slice none 0 0,.int .i64 0,.int .i64 0,.int .i64 0,.int .i64 0,.slice o z cv],.bool false]) (by simp[results,results18,go_sem,Wj,Wk,Wm,Wn,Wo,Wp,Wq,Wr,Ws,Wt,Wl]) rfl ?_;exact cS.no (aJ (U Ww) (Nat.le_succ _) _ _ _ _ _ _ _ _ _ _ _) (U VZ) _ _ _ _ _ _ _ _ _ _ _ _ _ _ _ _ _ _ _ _ _
 | true=>obtain⟨j,WT,rfl,WR⟩:=U Xd rfl;have W8:=VV WR;have Xf:=VV WT;clear WR WT;(have VZ:Hid (V0=some (.mk 11 ⟨#[]⟩ [] [] [] [] 0 0 0 0 j)):=by show _=_;rw[U WA];show (aW ([f,p1].map bZ)).map _=_;rw[U Xf];rfl);have c:=U WB;obtain⟨Wj,Xq⟩:=c 0 _ rfl;obtain⟨Wk,Xr⟩:=c 1 _ rfl;obtain⟨Wm,Xt⟩:=c 2 _ rfl;obtain⟨Wn,Xu⟩:=c 3 _ rfl;obtain⟨Wo,Xv⟩:=c 4 _ rfl;obtain⟨Wp,Xw⟩:=c 5 _ rfl;obtain⟨Wq,Xx⟩:=c 6 _ rfl;obtain⟨Wr,Xy⟩:=c 7 _ rfl;obtain⟨Ws,Xz⟩:=c 8 _ rfl;obtain⟨Wt,XA⟩:=c 9 _ rfl;obtain⟨Wl,Xs⟩:=c 10 _ rfl;clear c;have b:=U Wy;obtain⟨XC,_⟩:=b 0 _ rfl;obtain⟨XD,_⟩:=b 1 _ rfl;obtain⟨XE,_⟩:=b 2 _ rfl;obtain⟨XF,_⟩:=b 3 _ rfl;obtain⟨XG,_⟩:=b 4 _ rfl;obtain⟨XH,_⟩:=b 5 _ rfl;obtain⟨XI,_⟩:=b 6 _ rfl;obtain⟨XJ,_⟩:=b 7 _ rfl;obtain⟨XK,_⟩:=b 8 _ rfl;obtain⟨XL,_⟩:=b 9 _ rfl;obtain⟨V1,_⟩:=b 10 _ rfl;clear b;go_wp2;refine aM (v:=.tuple #[.agg #[.int .i64 11,.string ⟨#[]⟩,.slice none 0 0,.slice none 0 0,.slice none 0 0,.slice none 0 0,.int .i64 0,.int .i64 0,.int .i64 0,.int .i64 0,.slice o j.length cv],.bool true]) (by simp[results,results18,go_sem,Wj,Wk,Wm,Wn,Wo,Wp,Wq,Wr,Ws,Wt,Wl]) rfl ?_;exact cS.some (x:=.mk 11 ⟨#[]⟩ [] [] [] [] 0 0 0 0 j) (m:=⟨none,0,none,0,none,0,none,0,o,cv⟩) (aJ (U Ww) (Nat.le_succ _) _ _ _ _ _ _ _ _ _ _ _) (U VZ) bk.1 bk.2.1 bk.2.2.1 bk.2.2.2.1 aV ((U W8).fin11 (U Wx).1 (Nat.le_succ _))
theorem oZ(o:ByteArray)(h e p1:Dt)(Xz:(Dt.mk true o (h::[e,p1])).fin)(f:Option Addr)(l:Nat)(d:World)(Xq:Dt.all d f (h::[e,p1]))(Xn:GT d)(WC:ch aX (headD (.mk true o (h::[e,p1])))=1) (WW:∀(K:Nat) (C:Dt),[p1][K]?=some C->∀(E:Option Addr) (n:Nat) (a:World),Dt.all a E C.l->Bw d a->Calls prog 18 #[C.val E n] a (cS (bZ C) a)):Calls prog 18 #[(Dt.mk true o (h::[e,p1])).val f l] d (cS (bu 2 [e,p1] ([e,p1].map bZ)) d):=by
 obtain⟨V9,Wu⟩:=al (bu 2 [e,p1] ([e,p1].map bZ));rw[<-Wu];have Wi:=Dt.af Xz;have y:=λa (s:Dt.all a f (h::[e,p1]))=>cg (.mk true o (h::[e,p1])) f l a s Wi.2.2.1;obtain⟨Wn,Xo⟩:=al (headD (.mk true o (h::[e,p1])));rw[<-Xo] at y WC;have V8:=λf a s=>bL (aX.map bs) (by rw[VP,a7];decide) Wn f 12 a s;rw[VP,a7,show Lib.idxOfS (aX.map bs) Wn=1 from WC] at V8;have V8:=VV V8;show Calls prog 18 #[.agg #[.bool true,.string o,.slice f 3 (3+l)]] d (cS V9 d);have y:=λa (s:Dt.all a f (h::[e,p1]))=>(show Calls prog 54 #[.agg #[.bool true,.string o,.slice f 3 (3+l)]] a λA N=>A=.returned (.string Wn)/\Bw a N from y a s);have WI:3=(h::[e,p1]).length:=rfl;obtain⟨I,Yg,Yh,n,WE,WH,Wy,WD,WF⟩:=cU d o f 3 (3+l);obtain⟨j,S⟩:=al (gW d o f 3 (3+l));rw[<-S] at I Yg Yh n WE WH Wy WD WF;unfold gW at S;have We:=Dt.ab _ Xq I;obtain⟨WX,WZ,WG,Xr⟩:=dY l 1 2 3 WI We (by omega) (by omega);obtain⟨Wa,Yi,Wj,Xs⟩:=es l 2 3 WI We (by omega);obtain⟨z,Xw⟩:=al (3+l);rw[<-Xw] at y S n WG Wj ⊢;obtain⟨Wc,Xx⟩:=al (1+Yi);have WG:∀a,(Instr.slice 44 (.slice f 3 z) (some (.int .i64 1)) (some (.int .i64 2)) none).run prog a=.ok (.slice WX 1 WZ) a:=WG;have Wj:∀a,(Instr.slice 44 (.slice f 3 z) (some (.int .i64 2)) none none).run prog a=.ok (.slice Wa 1 Wc) a:=by rw[Xx];exact Wj
 have Xp:∀a,Bw j a->Calls prog 55 #[.slice Wa 1 Wc] a (jG (λa f i=>Pl.all a f i) (aW ([p1].map bZ)) a):=λa s=>by skip;skip;exact(ci [p1] (by have:(h::[e,p1]).length<=1000000:=Wi.2.2.1;simp only[a1,List.length_nil] at this ⊢;omega) Wa Wc a (Dt.ab _ Xs s) λK C t E n Yf B Wv=>WW K C t E n Yf B (ac (ac I s) Wv)).mono λ_ _ h=>h.pl
 have XY:=VV Xp;have y:=VV (y j We);have X2:=VV Xr;have XR:Hid (CA j [((d.heap.size,2),.slice f 3 z),((d.heap.size+3,1),.int .i64 1),((d.heap.size+4,1),.int .i64 1)]):=⟨n,Wy 1 _ rfl,WD 1 _ rfl,trivial⟩;have X5:=VV WH;have WU:=VV WE;have WM:=VV I;have X0:=VV WF;have XS:=VV Wi;have XT:=VV (Xn.aa I);have X7:=VV S.symm;have Wp:=VV Wu;clear I WE WH Wy WD WF We Xs Xx Xw Wi Xp Xo WC WW Xq Xn Xz S WI Xr Wu;go_enter func18,ntmps18;go_upto_region 4 with fail;rw[U X7]
 go_upto_region 5 with (first
  | (go_at_call 53;refine(U V8 _ _ (U X6)).mono ?_;rintro XH XI ⟨rfl,rfl⟩)
  | (go_at_call 54;refine(U y).mono ?_;rintro XH Yr ⟨rfl,Wf⟩;have XJ:=VV Wf;have X6:=VV ((U X5).aa Wf);have Xv:=(U XR).aa Wf;have XN:=VV Xv;obtain⟨u,w,Wm,_⟩:=Xv;clear Wf))
 have WK:=cell_regrown u;have WL:=cell_regrown w;have Wk:=cell_regrown Wm;refine wp_region_quiet_below (by kernel_rfl) (by kernel_rfl) ?_;repeat (go_big_quiet_step (fail))
 refine wpQuiet_nil ?_;intro O WJ;have WN:Hid (Bw j O):=ac (U XJ) (by obtain⟨Wl,rfl⟩:=WJ;exact below_regrown _ _ _);have XO:=VV ((U XN).aa (by obtain⟨Wl,rfl⟩:=WJ;exact below_regrown _ _ _:Bw XI O));obtain⟨g,WA⟩:=al O.heap.size;obtain⟨Y,V⟩:=al (O.alloc (.cells #[.int .i64 2,.string ⟨#[]⟩,.slice none 0 0,.slice none 0 0,.slice none 0 0,.slice none 0 0,.int .i64 0,.int .i64 0,.int .i64 0,.int .i64 0,.slice none 0 0] 28));have B:=ae (ar _ O) (.cells #[.int .i64 2,.string ⟨#[]⟩,.slice none 0 0,.slice none 0 0,.slice none 0 0,.slice none 0 0,.int .i64 0,.int .i64 0,.int .i64 0,.int .i64 0,.slice none 0 0] 28);have XK:Hid (Bw j Y):=by rw[V];exact ac (U WN) B
 have XW:Hid (bp Y g [.int .i64 2,.string ⟨#[]⟩,.slice none 0 0,.slice none 0 0,.slice none 0 0,.slice none 0 0,.int .i64 0,.int .i64 0,.int .i64 0,.int .i64 0,.slice none 0 0]):=by rw[V,WA];exact bp.new O [.int .i64 2,.string ⟨#[]⟩,.slice none 0 0,.slice none 0 0,.slice none 0 0,.slice none 0 0,.int .i64 0,.int .i64 0,.int .i64 0,.int .i64 0,.slice none 0 0] 28
 have Xy:CA Y [((d.heap.size,2),.slice f 3 z),((d.heap.size+3,1),.int .i64 1),((d.heap.size+4,1),.int .i64 1)]:=by rw[V];exact(U XO).aa B
 have XP:=VV Xy;obtain⟨u,w,Wm,_⟩:=Xy;have V6:Hid (d.heap.size+1<g/\j.heap.size<=g):=by show _/\_;have:=(U WN).size;have:=U X0;omega
 have X8:=VV V.symm;have XV:=VV WA.symm;clear WA V B WJ WK WL Wk;go_upto_region 8 with fail;rw[U X8,U XV];have WK:=cell_regrown u;have WL:=cell_regrown w;have Wk:=cell_regrown Wm;refine wp_region_quiet_below (by kernel_rfl) (by kernel_rfl) ?_;repeat (go_big_quiet_step (fail))
 refine wpQuiet_nil ?_;intro X XE;have Wg:Bw Y X:=by obtain⟨Wl,rfl⟩:=XE;exact below_regrown _ _ _
 have WO:=VV (ac (U XK) Wg).drew;have q:Hid (CA X.drew [((d.heap.size,2),.slice f 3 z),((d.heap.size+3,1),.int .i64 1)]):=by obtain⟨u,w,_⟩:=(U XP).aa Wg;exact⟨u,w,trivial⟩
 have WT:Hid (bp X.drew g [.int .i64 2,.string ⟨#[]⟩,.slice none 0 0,.slice none 0 0,.slice none 0 0,.slice none 0 0,.int .i64 0,.int .i64 0,.int .i64 0,.int .i64 0,.slice none 0 0]):=((U XW).aa Wg).aa aN.drew;have XX:Hid (g<X.drew.heap.size):=bY _ _ ((U WT) 0 _ rfl).1;clear XE WK WL Wk u w Wm Wg;go_upto_region 10 with fail;refine VR (λa:World=>CA a [((d.heap.size,2),.slice f 3 z),((d.heap.size+3,1),.int .i64 1)]) 8 ?_;refine ai 0 (.pointer (some ⟨d.heap.size,2,none⟩)) rfl (U q) ?_;refine ai 1 (.slice f 3 z) rfl (U q) ?_ λN R=>by simp only[CA] at R;obtain⟨u,w,_⟩:=R;go_simp
 refine ai 2 (.slice (some ⟨d.heap.size+3,0,none⟩) 12 12) rfl (U q) ?_;refine ai 3 (.int .i64 1) rfl (U q) ?_;refine ai 4 (.pointer (some ⟨d.heap.size+3,1,none⟩)) rfl (U q) ?_;refine ai 5 (.int .i64 1) rfl (U q) ?_ λN R=>by simp only[CA] at R;obtain⟨u,w,_⟩:=R;go_simp
 refine ai 6 (.int .i64 2) rfl (U q) ?_ λN _=>by go_simp;rfl
 refine ai 7 (.slice Wa 1 Wc) rfl (U q) ?_ λN _=>by have:=Wj N;go_simp
 refine ap 8 rfl λQ r=>?_;go_simp;refine(U XY _ (U WO)).mono ?_;rintro _ Yn ⟨Ww,k,L,cv,Wb,rfl,Xt,Xu⟩;go_simp;refine aS r ?_;clear r Q;refine cJ (S2:=λ_=>True) (k2:=14) _ _ _ _ (.inr rfl) ?_;have WB:=(U WT).aa Ww;obtain⟨Wd,Yl⟩:=WB 10 _ rfl;refine ai 9 (.tuple #[.slice k L cv,.bool Wb]) rfl trivial ?_;refine ai 10 (.slice k L cv) rfl trivial ?_;refine ai 11 (.bool Wb) rfl trivial ?_;refine ai 12 (.pointer (some ⟨g,10,none⟩)) rfl trivial ?_;refine ap 13 rfl λQ r=>?_;go_simp;refine aO r trivial ?_;clear r Q;refine ap 14 rfl λQ r=>?_;go_simp;refine aS r ?_;clear r Q;refine bh ?_;obtain⟨M,T⟩:=al (Yn.setCell ⟨g,10,none⟩ (.slice k L cv));rw[<-T];have Wh:Bw j M:=by rw[T];exact(ac (U WO) Ww).setCell (p:=⟨g,10,none⟩) (U V6).2 _
 have Wo:=VV Wh;have XL:=VV (ac (U WM) Wh);have XZ:Hid (bp M (d.heap.size+1) VT):=(U WU).aa Wh;have V7:Hid (bp M g [.int .i64 2,.string ⟨#[]⟩,.slice none 0 0,.slice none 0 0,.slice none 0 0,.slice none 0 0,.int .i64 0,.int .i64 0,.int .i64 0,.int .i64 0,.slice k L cv]):=by rw[T];exact WB.set 10 _
 have XA:g+1<=X.drew.heap.size:=U XX;have X9:Hid (Wb=true->∃i,aW ([p1].map bZ)=some i/\i.length=L/\SK (SN (g+1) M) M λa=>Pl.all a k i):=λA=>by obtain⟨i,Wq,Wr,_,Ws⟩:=Xu A;rw[T];exact⟨i,Wq,Wr,(Ws.low XA).aw _⟩
 have Ya:=VV Xt;clear T Wh WB Xt Xu Ww Wd Yl XA;cases Wb with
 | false=>(have P:Hid (V9=none):=by show _=_;rw[U Wp];have A:=U Ya rfl;show (aW [d9 e]).bind (λYk=>(aW ([p1].map bZ)).map _)=none;rw[A];exact cb _);have c:=U XZ;obtain⟨Z,W0⟩:=c 0 _ rfl;obtain⟨VW,W1⟩:=c 1 _ rfl;obtain⟨VY,W3⟩:=c 2 _ rfl;obtain⟨VZ,W4⟩:=c 3 _ rfl;obtain⟨V0,W5⟩:=c 4 _ rfl;obtain⟨V1,W6⟩:=c 5 _ rfl;obtain⟨V2,W7⟩:=c 6 _ rfl;obtain⟨V3,W8⟩:=c 7 _ rfl;obtain⟨V4,W9⟩:=c 8 _ rfl;obtain⟨V5,Xa⟩:=c 9 _ rfl;obtain⟨VX,W2⟩:=c 10 _ rfl;clear c;have b:=U V7;obtain⟨Wt,_⟩:=b 0 _ rfl;obtain⟨Xb,_⟩:=b 1 _ rfl;obtain⟨Xc,_⟩:=b 2 _ rfl;obtain⟨Xd,_⟩:=b 3 _ rfl;obtain⟨Xe,_⟩:=b 4 _ rfl;obtain⟨Xf,_⟩:=b 5 _ rfl;obtain⟨Xg,_⟩:=b 6 _ rfl;obtain⟨Xh,_⟩:=b 7 _ rfl;obtain⟨Xi,_⟩:=b 8 _ rfl;obtain⟨Xj,_⟩:=b 9 _ rfl;obtain⟨Wd,_⟩:=b 10 _ rfl;clear b;go_wp2;refine aM (v:=.tuple #[.agg #[.int .i64 2,.string ⟨#[]⟩,.slice none 0 0,.slice none 0 0,.slice none 0 0,.slice none 0 0,.int .i64 0,.int .i64 0,.int .i64 0,.int .i64 0,.slice k L cv],.bool false]) (by simp[results,results18,go_sem,Z,VW,VY,VZ,V0,V1,V2,V3,V4,V5,VX]) rfl ?_;exact cS.no (aJ (U XL) (Nat.le_succ _) _ _ _ _ _ _ _ _ _ _ _) (U P) _ _ _ _ _ _ _ _ _ _ _ _ _ _ _ _ _ _ _ _ _
 | true=>
  obtain⟨i,XF,rfl,XC⟩:=U X9 rfl
  have X3:=VV XC
  have Ye:=VV XF
  clear XC XF
  have XB:(e:Dt).fin:=Dt.ag (U XS).2.2.2 (show e∈h::[e,p1] by simp)
  have XM:=VV ((fA [e] (by simp) WX WZ M (Dt.ab _ (U X2) (U Wo)) λK C t E n a B Wv=>by
   match K,t with
   | 0,t=>simp at t;subst t;exact fe e.size e aV XB E n a B ((U XT).aa (ac (U Wo) Wv))
   | K+1,t=>simp at t).mono λ_ _ h=>h.ex)
  clear XB
  obtain⟨Wt,_⟩:=(U V7) 0 _ rfl
  go_upto_region 64 with (go_at_call 57;refine(U XM).mono ?_;rintro XH Yo ⟨Wx,F,W,G,WY,rfl,Xk,Xl⟩;have Yb:=VV Xk;have Yc:=VV Xl;have WP:=VV Wx;have Wz:=(U V7).aa Wx;have XU:=VV Wz;obtain⟨Ym,Yp⟩:=Wz 2 _ rfl;clear Wx Xk Xl Wz)
  obtain⟨D,J⟩:=al (Yo.setCell ⟨g,2,none⟩ (.slice F W G))
  rw[<-J]
  have WQ:Hid (Bw j D):=by rw[J];exact(ac (U Wo) (U WP)).setCell (p:=⟨g,2,none⟩) (U V6).2 _
  have WR:=VV (ac (U WM) (U WQ))
  have WV:Hid (bp D (d.heap.size+1) VT):=(U WU).aa (U WQ)
  have WS:Hid (bp D g [.int .i64 2,.string ⟨#[]⟩,.slice F W G,.slice none 0 0,.slice none 0 0,.slice none 0 0,.int .i64 0,.int .i64 0,.int .i64 0,.int .i64 0,.slice k i.length cv]):=by rw[J];exact(U XU).set 2 _
  have X4:Hid (SK (SN (g+1) D) D (λa=>Pl.all a k i)):=by rw[J];exact((U X3).up (U WP)).aw _
  have Yd:Hid (WY=true->∃p,aW ([e].map d9)=some p/\p.length=W/\W<=G/\SK (SN (g+1) D) D (λa=>Ex.all a F p)):=λA=>by
   obtain⟨p,Wq,Wr,Yj,Ws⟩:=U Yc A
   rw[J]
   exact⟨p,Wq,Wr,Yj,(Ws.low (bY _ _ ((U V7) 0 _ rfl).1)).aw _⟩
  clear J Ym Yp
  cases WY with
  | false=>
   have P:Hid (V9=none):=by
    show _=_
    rw[U Wp]
    show (aW ([e].map d9)).bind _=none
    rw[U Yb rfl];rfl
   have c:=U WV;obtain⟨Z,W0⟩:=c 0 _ rfl;obtain⟨VW,W1⟩:=c 1 _ rfl;obtain⟨VY,W3⟩:=c 2 _ rfl;obtain⟨VZ,W4⟩:=c 3 _ rfl;obtain⟨V0,W5⟩:=c 4 _ rfl;obtain⟨V1,W6⟩:=c 5 _ rfl;obtain⟨V2,W7⟩:=c 6 _ rfl;obtain⟨V3,W8⟩:=c 7 _ rfl;obtain⟨V4,W9⟩:=c 8 _ rfl;obtain⟨V5,Xa⟩:=c 9 _ rfl;obtain⟨VX,W2⟩:=c 10 _ rfl;clear c
   have b:=U WS;obtain⟨Wt,_⟩:=b 0 _ rfl;obtain⟨Xb,_⟩:=b 1 _ rfl;obtain⟨Xc,_⟩:=b 2 _ rfl;obtain⟨Xd,_⟩:=b 3 _ rfl;obtain⟨Xe,_⟩:=b 4 _ rfl;obtain⟨Xf,_⟩:=b 5 _ rfl;obtain⟨Xg,_⟩:=b 6 _ rfl;obtain⟨Xh,_⟩:=b 7 _ rfl;obtain⟨Xi,_⟩:=b 8 _ rfl;obtain⟨Xj,_⟩:=b 9 _ rfl;obtain⟨Wd,_⟩:=b 10 _ rfl;clear b
   go_wp2
   refine aM (v:=.tuple #[.agg #[.int .i64 2,.string ⟨#[]⟩,.slice F W G,.slice none 0 0,.slice none 0 0,.slice none 0 0,.int .i64 0,.int .i64 0,.int .i64 0,.int .i64 0,.slice k i.length cv],.bool false]) (by simp[results,results18,go_sem,Z,VW,VY,VZ,V0,V1,V2,V3,V4,V5,VX]) rfl ?_
   exact cS.no (aJ (U WR) (Nat.le_succ _) _ _ _ _ _ _ _ _ _ _ _) (U P) _ _ _ _ _ _ _ _ _ _ _ _ _ _ _ _ _ _ _ _ _
  | true=>
   obtain⟨p,XG,rfl,Yq,XD⟩:=U Yd rfl
   have P:Hid (V9=some (.mk 2 ⟨#[]⟩ p [] [] [] 0 0 0 0 i)):=by
    show _=_
    rw[U Wp]
    show (aW ([e].map d9)).bind (λYk=>(aW ([p1].map bZ)).map _)=_
    rw[XG,U Ye];rfl
   have X1:=VV XD
   clear XG XD
   have c:=U WV;obtain⟨Z,W0⟩:=c 0 _ rfl;obtain⟨VW,W1⟩:=c 1 _ rfl;obtain⟨VY,W3⟩:=c 2 _ rfl;obtain⟨VZ,W4⟩:=c 3 _ rfl;obtain⟨V0,W5⟩:=c 4 _ rfl;obtain⟨V1,W6⟩:=c 5 _ rfl;obtain⟨V2,W7⟩:=c 6 _ rfl;obtain⟨V3,W8⟩:=c 7 _ rfl;obtain⟨V4,W9⟩:=c 8 _ rfl;obtain⟨V5,Xa⟩:=c 9 _ rfl;obtain⟨VX,W2⟩:=c 10 _ rfl;clear c
   have b:=U WS;obtain⟨Wt,_⟩:=b 0 _ rfl;obtain⟨Xb,_⟩:=b 1 _ rfl;obtain⟨Xc,_⟩:=b 2 _ rfl;obtain⟨Xd,_⟩:=b 3 _ rfl;obtain⟨Xe,_⟩:=b 4 _ rfl;obtain⟨Xf,_⟩:=b 5 _ rfl;obtain⟨Xg,_⟩:=b 6 _ rfl;obtain⟨Xh,_⟩:=b 7 _ rfl;obtain⟨Xi,_⟩:=b 8 _ rfl;obtain⟨Xj,_⟩:=b 9 _ rfl;obtain⟨Wd,_⟩:=b 10 _ rfl;clear b
   go_wp2
   refine aM (v:=.tuple #[.agg #[.int .i64 2,.string ⟨#[]⟩,.slice F p.length G,.slice none 0 0,.slice none 0 0,.slice none 0 0,.int .i64 0,.int .i64 0,.int .i64 0,.int .i64 0,.slice k i.length cv],.bool true]) (by simp[results,results18,go_sem,Z,VW,VY,VZ,V0,V1,V2,V3,V4,V5,VX]) rfl ?_
   exact cS.some (x:=.mk 2 ⟨#[]⟩ p [] [] [] 0 0 0 0 i) (m:=⟨F,G,none,0,none,0,none,0,k,cv⟩) (aJ (U WR) (Nat.le_succ _) _ _ _ _ _ _ _ _ _ _ _) (U P) ((U X1).fin11 (U V6).1 (Nat.le_succ _)) bk.2.1 bk.2.2.1 bk.2.2.2.1 aV ((U X4).fin11 (U V6).1 (Nat.le_succ _))
theorem oX(o:ByteArray)(h e p1 p2:Dt)(Xz:(Dt.mk true o (h::[e,p1,p2])).fin)(f:Option Addr)(l:Nat)(d:World)(Xq:Dt.all d f (h::[e,p1,p2]))(Xn:GT d)(WC:ch aX (headD (.mk true o (h::[e,p1,p2])))=3) (WW:∀(K:Nat) (C:Dt),[p1,p2][K]?=some C->∀(E:Option Addr) (n:Nat) (a:World),Dt.all a E C.l->Bw d a->Calls prog 18 #[C.val E n] a (cS (bZ C) a)):Calls prog 18 #[(Dt.mk true o (h::[e,p1,p2])).val f l] d (cS (bu 4 [e,p1,p2] ([e,p1,p2].map bZ)) d):=by
 obtain⟨V9,Wu⟩:=al (bu 4 [e,p1,p2] ([e,p1,p2].map bZ));rw[<-Wu];have Wi:=Dt.af Xz;have y:=λa (s:Dt.all a f (h::[e,p1,p2]))=>cg (.mk true o (h::[e,p1,p2])) f l a s Wi.2.2.1;obtain⟨Wn,Xo⟩:=al (headD (.mk true o (h::[e,p1,p2])));rw[<-Xo] at y WC;have V8:=λf a s=>bL (aX.map bs) (by rw[VP,a7];decide) Wn f 12 a s;rw[VP,a7,show Lib.idxOfS (aX.map bs) Wn=3 from WC] at V8;have V8:=VV V8;show Calls prog 18 #[.agg #[.bool true,.string o,.slice f 4 (4+l)]] d (cS V9 d);have y:=λa (s:Dt.all a f (h::[e,p1,p2]))=>(show Calls prog 54 #[.agg #[.bool true,.string o,.slice f 4 (4+l)]] a λA N=>A=.returned (.string Wn)/\Bw a N from y a s);have WI:4=(h::[e,p1,p2]).length:=rfl;obtain⟨I,Yg,Yh,n,WE,WH,Wy,WD,WF⟩:=cU d o f 4 (4+l);obtain⟨j,S⟩:=al (gW d o f 4 (4+l));rw[<-S] at I Yg Yh n WE WH Wy WD WF;unfold gW at S;have We:=Dt.ab _ Xq I;obtain⟨WX,WZ,WG,Xr⟩:=dY l 1 2 4 WI We (by omega) (by omega);obtain⟨Wa,Yi,Wj,Xs⟩:=es l 2 4 WI We (by omega);obtain⟨z,Xw⟩:=al (4+l);rw[<-Xw] at y S n WG Wj ⊢;obtain⟨Wc,Xx⟩:=al (2+Yi);have WG:∀a,(Instr.slice 44 (.slice f 4 z) (some (.int .i64 1)) (some (.int .i64 2)) none).run prog a=.ok (.slice WX 1 WZ) a:=WG;have Wj:∀a,(Instr.slice 44 (.slice f 4 z) (some (.int .i64 2)) none none).run prog a=.ok (.slice Wa 2 Wc) a:=by rw[Xx];exact Wj
 have Xp:∀a,Bw j a->Calls prog 55 #[.slice Wa 2 Wc] a (jG (λa f i=>Pl.all a f i) (aW ([p1,p2].map bZ)) a):=λa s=>by skip;skip;exact(ci [p1,p2] (by have:(h::[e,p1,p2]).length<=1000000:=Wi.2.2.1;simp only[a1,List.length_nil] at this ⊢;omega) Wa Wc a (Dt.ab _ Xs s) λK C t E n Yf B Wv=>WW K C t E n Yf B (ac (ac I s) Wv)).mono λ_ _ h=>h.pl
 have XY:=VV Xp;have y:=VV (y j We);have X2:=VV Xr;have XR:Hid (CA j [((d.heap.size,2),.slice f 4 z),((d.heap.size+3,3),.int .i64 1),((d.heap.size+4,3),.int .i64 2)]):=⟨n,Wy 3 _ rfl,WD 3 _ rfl,trivial⟩;have X5:=VV WH;have WU:=VV WE;have WM:=VV I;have X0:=VV WF;have XS:=VV Wi;have XT:=VV (Xn.aa I);have X7:=VV S.symm;have Wp:=VV Wu;clear I WE WH Wy WD WF We Xs Xx Xw Wi Xp Xo WC WW Xq Xn Xz S WI Xr Wu;go_enter func18,ntmps18;go_upto_region 4 with fail;rw[U X7]
 go_upto_region 5 with (first
  | (go_at_call 53;refine(U V8 _ _ (U X6)).mono ?_;rintro XH XI ⟨rfl,rfl⟩)
  | (go_at_call 54;refine(U y).mono ?_;rintro XH Yr ⟨rfl,Wf⟩;have XJ:=VV Wf;have X6:=VV ((U X5).aa Wf);have Xv:=(U XR).aa Wf;have XN:=VV Xv;obtain⟨u,w,Wm,_⟩:=Xv;clear Wf))
 have WK:=cell_regrown u;have WL:=cell_regrown w;have Wk:=cell_regrown Wm;refine wp_region_quiet_below (by kernel_rfl) (by kernel_rfl) ?_;repeat (go_big_quiet_step (fail))
 refine wpQuiet_nil ?_;intro O WJ;have WN:Hid (Bw j O):=ac (U XJ) (by obtain⟨Wl,rfl⟩:=WJ;exact below_regrown _ _ _);have XO:=VV ((U XN).aa (by obtain⟨Wl,rfl⟩:=WJ;exact below_regrown _ _ _:Bw XI O));obtain⟨g,WA⟩:=al O.heap.size;obtain⟨Y,V⟩:=al (O.alloc (.cells #[.int .i64 4,.string ⟨#[]⟩,.slice none 0 0,.slice none 0 0,.slice none 0 0,.slice none 0 0,.int .i64 0,.int .i64 0,.int .i64 0,.int .i64 0,.slice none 0 0] 28));have B:=ae (ar _ O) (.cells #[.int .i64 4,.string ⟨#[]⟩,.slice none 0 0,.slice none 0 0,.slice none 0 0,.slice none 0 0,.int .i64 0,.int .i64 0,.int .i64 0,.int .i64 0,.slice none 0 0] 28);have XK:Hid (Bw j Y):=by rw[V];exact ac (U WN) B
 have XW:Hid (bp Y g [.int .i64 4,.string ⟨#[]⟩,.slice none 0 0,.slice none 0 0,.slice none 0 0,.slice none 0 0,.int .i64 0,.int .i64 0,.int .i64 0,.int .i64 0,.slice none 0 0]):=by rw[V,WA];exact bp.new O [.int .i64 4,.string ⟨#[]⟩,.slice none 0 0,.slice none 0 0,.slice none 0 0,.slice none 0 0,.int .i64 0,.int .i64 0,.int .i64 0,.int .i64 0,.slice none 0 0] 28
 have Xy:CA Y [((d.heap.size,2),.slice f 4 z),((d.heap.size+3,3),.int .i64 1),((d.heap.size+4,3),.int .i64 2)]:=by rw[V];exact(U XO).aa B
 have XP:=VV Xy;obtain⟨u,w,Wm,_⟩:=Xy;have V6:Hid (d.heap.size+1<g/\j.heap.size<=g):=by show _/\_;have:=(U WN).size;have:=U X0;omega
 have X8:=VV V.symm;have XV:=VV WA.symm;clear WA V B WJ WK WL Wk;go_upto_region 8 with fail;rw[U X8,U XV];have WK:=cell_regrown u;have WL:=cell_regrown w;have Wk:=cell_regrown Wm;refine wp_region_quiet_below (by kernel_rfl) (by kernel_rfl) ?_;repeat (go_big_quiet_step (fail))
 refine wpQuiet_nil ?_;intro X XE;have Wg:Bw Y X:=by obtain⟨Wl,rfl⟩:=XE;exact below_regrown _ _ _
 have WO:=VV (ac (U XK) Wg).drew;have q:Hid (CA X.drew [((d.heap.size,2),.slice f 4 z),((d.heap.size+3,3),.int .i64 1)]):=by obtain⟨u,w,_⟩:=(U XP).aa Wg;exact⟨u,w,trivial⟩
 have WT:Hid (bp X.drew g [.int .i64 4,.string ⟨#[]⟩,.slice none 0 0,.slice none 0 0,.slice none 0 0,.slice none 0 0,.int .i64 0,.int .i64 0,.int .i64 0,.int .i64 0,.slice none 0 0]):=((U XW).aa Wg).aa aN.drew;have XX:Hid (g<X.drew.heap.size):=bY _ _ ((U WT) 0 _ rfl).1;clear XE WK WL Wk u w Wm Wg;go_upto_region 10 with fail;refine VR (λa:World=>CA a [((d.heap.size,2),.slice f 4 z),((d.heap.size+3,3),.int .i64 1)]) 8 ?_;refine ai 0 (.pointer (some ⟨d.heap.size,2,none⟩)) rfl (U q) ?_;refine ai 1 (.slice f 4 z) rfl (U q) ?_ λN R=>by simp only[CA] at R;obtain⟨u,w,_⟩:=R;go_simp
 refine ai 2 (.slice (some ⟨d.heap.size+3,0,none⟩) 12 12) rfl (U q) ?_;refine ai 3 (.int .i64 3) rfl (U q) ?_;refine ai 4 (.pointer (some ⟨d.heap.size+3,3,none⟩)) rfl (U q) ?_;refine ai 5 (.int .i64 1) rfl (U q) ?_ λN R=>by simp only[CA] at R;obtain⟨u,w,_⟩:=R;go_simp
 refine ai 6 (.int .i64 2) rfl (U q) ?_ λN _=>by go_simp;rfl
 refine ai 7 (.slice Wa 2 Wc) rfl (U q) ?_ λN _=>by have:=Wj N;go_simp
 refine ap 8 rfl λQ r=>?_;go_simp;refine(U XY _ (U WO)).mono ?_;rintro _ Yn ⟨Ww,k,L,cv,Wb,rfl,Xt,Xu⟩;go_simp;refine aS r ?_;clear r Q;refine cJ (S2:=λ_=>True) (k2:=14) _ _ _ _ (.inr rfl) ?_;have WB:=(U WT).aa Ww;obtain⟨Wd,Yl⟩:=WB 10 _ rfl;refine ai 9 (.tuple #[.slice k L cv,.bool Wb]) rfl trivial ?_;refine ai 10 (.slice k L cv) rfl trivial ?_;refine ai 11 (.bool Wb) rfl trivial ?_;refine ai 12 (.pointer (some ⟨g,10,none⟩)) rfl trivial ?_;refine ap 13 rfl λQ r=>?_;go_simp;refine aO r trivial ?_;clear r Q;refine ap 14 rfl λQ r=>?_;go_simp;refine aS r ?_;clear r Q;refine bh ?_;obtain⟨M,T⟩:=al (Yn.setCell ⟨g,10,none⟩ (.slice k L cv));rw[<-T];have Wh:Bw j M:=by rw[T];exact(ac (U WO) Ww).setCell (p:=⟨g,10,none⟩) (U V6).2 _
 have Wo:=VV Wh;have XL:=VV (ac (U WM) Wh);have XZ:Hid (bp M (d.heap.size+1) VT):=(U WU).aa Wh;have V7:Hid (bp M g [.int .i64 4,.string ⟨#[]⟩,.slice none 0 0,.slice none 0 0,.slice none 0 0,.slice none 0 0,.int .i64 0,.int .i64 0,.int .i64 0,.int .i64 0,.slice k L cv]):=by rw[T];exact WB.set 10 _
 have XA:g+1<=X.drew.heap.size:=U XX;have X9:Hid (Wb=true->∃i,aW ([p1,p2].map bZ)=some i/\i.length=L/\SK (SN (g+1) M) M λa=>Pl.all a k i):=λA=>by obtain⟨i,Wq,Wr,_,Ws⟩:=Xu A;rw[T];exact⟨i,Wq,Wr,(Ws.low XA).aw _⟩
 have Ya:=VV Xt;clear T Wh WB Xt Xu Ww Wd Yl XA;cases Wb with
 | false=>(have P:Hid (V9=none):=by show _=_;rw[U Wp];have A:=U Ya rfl;show (aW [d9 e]).bind (λYk=>(aW ([p1,p2].map bZ)).map _)=none;rw[A];exact cb _);have c:=U XZ;obtain⟨Z,W0⟩:=c 0 _ rfl;obtain⟨VW,W1⟩:=c 1 _ rfl;obtain⟨VY,W3⟩:=c 2 _ rfl;obtain⟨VZ,W4⟩:=c 3 _ rfl;obtain⟨V0,W5⟩:=c 4 _ rfl;obtain⟨V1,W6⟩:=c 5 _ rfl;obtain⟨V2,W7⟩:=c 6 _ rfl;obtain⟨V3,W8⟩:=c 7 _ rfl;obtain⟨V4,W9⟩:=c 8 _ rfl;obtain⟨V5,Xa⟩:=c 9 _ rfl;obtain⟨VX,W2⟩:=c 10 _ rfl;clear c;have b:=U V7;obtain⟨Wt,_⟩:=b 0 _ rfl;obtain⟨Xb,_⟩:=b 1 _ rfl;obtain⟨Xc,_⟩:=b 2 _ rfl;obtain⟨Xd,_⟩:=b 3 _ rfl;obtain⟨Xe,_⟩:=b 4 _ rfl;obtain⟨Xf,_⟩:=b 5 _ rfl;obtain⟨Xg,_⟩:=b 6 _ rfl;obtain⟨Xh,_⟩:=b 7 _ rfl;obtain⟨Xi,_⟩:=b 8 _ rfl;obtain⟨Xj,_⟩:=b 9 _ rfl;obtain⟨Wd,_⟩:=b 10 _ rfl;clear b;go_wp2;refine aM (v:=.tuple #[.agg #[.int .i64 4,.string ⟨#[]⟩,.slice none 0 0,.slice none 0 0,.slice none 0 0,.slice none 0 0,.int .i64 0,.int .i64 0,.int .i64 0,.int .i64 0,.slice k L cv],.bool false]) (by simp[results,results18,go_sem,Z,VW,VY,VZ,V0,V1,V2,V3,V4,V5,VX]) rfl ?_;exact cS.no (aJ (U XL) (Nat.le_succ _) _ _ _ _ _ _ _ _ _ _ _) (U P) _ _ _ _ _ _ _ _ _ _ _ _ _ _ _ _ _ _ _ _ _
 | true=>
  obtain⟨i,XF,rfl,XC⟩:=U X9 rfl
  have X3:=VV XC
  have Ye:=VV XF
  clear XC XF
  have XB:(e:Dt).fin:=Dt.ag (U XS).2.2.2 (show e∈h::[e,p1,p2] by simp)
  have XM:=VV ((fA [e] (by simp) WX WZ M (Dt.ab _ (U X2) (U Wo)) λK C t E n a B Wv=>by
   match K,t with
   | 0,t=>simp at t;subst t;exact fe e.size e aV XB E n a B ((U XT).aa (ac (U Wo) Wv))
   | K+1,t=>simp at t).mono λ_ _ h=>h.ex)
  clear XB
  obtain⟨Wt,_⟩:=(U V7) 0 _ rfl
  go_upto_region 64 with (go_at_call 57;refine(U XM).mono ?_;rintro XH Yo ⟨Wx,F,W,G,WY,rfl,Xk,Xl⟩;have Yb:=VV Xk;have Yc:=VV Xl;have WP:=VV Wx;have Wz:=(U V7).aa Wx;have XU:=VV Wz;obtain⟨Ym,Yp⟩:=Wz 2 _ rfl;clear Wx Xk Xl Wz)
  obtain⟨D,J⟩:=al (Yo.setCell ⟨g,2,none⟩ (.slice F W G))
  rw[<-J]
  have WQ:Hid (Bw j D):=by rw[J];exact(ac (U Wo) (U WP)).setCell (p:=⟨g,2,none⟩) (U V6).2 _
  have WR:=VV (ac (U WM) (U WQ))
  have WV:Hid (bp D (d.heap.size+1) VT):=(U WU).aa (U WQ)
  have WS:Hid (bp D g [.int .i64 4,.string ⟨#[]⟩,.slice F W G,.slice none 0 0,.slice none 0 0,.slice none 0 0,.int .i64 0,.int .i64 0,.int .i64 0,.int .i64 0,.slice k i.length cv]):=by rw[J];exact(U XU).set 2 _
  have X4:Hid (SK (SN (g+1) D) D (λa=>Pl.all a k i)):=by rw[J];exact((U X3).up (U WP)).aw _
  have Yd:Hid (WY=true->∃p,aW ([e].map d9)=some p/\p.length=W/\W<=G/\SK (SN (g+1) D) D (λa=>Ex.all a F p)):=λA=>by
   obtain⟨p,Wq,Wr,Yj,Ws⟩:=U Yc A
   rw[J]
   exact⟨p,Wq,Wr,Yj,(Ws.low (bY _ _ ((U V7) 0 _ rfl).1)).aw _⟩
  clear J Ym Yp
  cases WY with
  | false=>
   have P:Hid (V9=none):=by
    show _=_
    rw[U Wp]
    show (aW ([e].map d9)).bind _=none
    rw[U Yb rfl];rfl
   have c:=U WV;obtain⟨Z,W0⟩:=c 0 _ rfl;obtain⟨VW,W1⟩:=c 1 _ rfl;obtain⟨VY,W3⟩:=c 2 _ rfl;obtain⟨VZ,W4⟩:=c 3 _ rfl;obtain⟨V0,W5⟩:=c 4 _ rfl;obtain⟨V1,W6⟩:=c 5 _ rfl;obtain⟨V2,W7⟩:=c 6 _ rfl;obtain⟨V3,W8⟩:=c 7 _ rfl;obtain⟨V4,W9⟩:=c 8 _ rfl;obtain⟨V5,Xa⟩:=c 9 _ rfl;obtain⟨VX,W2⟩:=c 10 _ rfl;clear c
   have b:=U WS;obtain⟨Wt,_⟩:=b 0 _ rfl;obtain⟨Xb,_⟩:=b 1 _ rfl;obtain⟨Xc,_⟩:=b 2 _ rfl;obtain⟨Xd,_⟩:=b 3 _ rfl;obtain⟨Xe,_⟩:=b 4 _ rfl;obtain⟨Xf,_⟩:=b 5 _ rfl;obtain⟨Xg,_⟩:=b 6 _ rfl;obtain⟨Xh,_⟩:=b 7 _ rfl;obtain⟨Xi,_⟩:=b 8 _ rfl;obtain⟨Xj,_⟩:=b 9 _ rfl;obtain⟨Wd,_⟩:=b 10 _ rfl;clear b
   go_wp2
   refine aM (v:=.tuple #[.agg #[.int .i64 4,.string ⟨#[]⟩,.slice F W G,.slice none 0 0,.slice none 0 0,.slice none 0 0,.int .i64 0,.int .i64 0,.int .i64 0,.int .i64 0,.slice k i.length cv],.bool false]) (by simp[results,results18,go_sem,Z,VW,VY,VZ,V0,V1,V2,V3,V4,V5,VX]) rfl ?_
   exact cS.no (aJ (U WR) (Nat.le_succ _) _ _ _ _ _ _ _ _ _ _ _) (U P) _ _ _ _ _ _ _ _ _ _ _ _ _ _ _ _ _ _ _ _ _
  | true=>
   obtain⟨p,XG,rfl,Yq,XD⟩:=U Yd rfl
   have P:Hid (V9=some (.mk 4 ⟨#[]⟩ p [] [] [] 0 0 0 0 i)):=by
    show _=_
    rw[U Wp]
    show (aW ([e].map d9)).bind (λYk=>(aW ([p1,p2].map bZ)).map _)=_
    rw[XG,U Ye];rfl
   have X1:=VV XD
   clear XG XD
   have c:=U WV;obtain⟨Z,W0⟩:=c 0 _ rfl;obtain⟨VW,W1⟩:=c 1 _ rfl;obtain⟨VY,W3⟩:=c 2 _ rfl;obtain⟨VZ,W4⟩:=c 3 _ rfl;obtain⟨V0,W5⟩:=c 4 _ rfl;obtain⟨V1,W6⟩:=c 5 _ rfl;obtain⟨V2,W7⟩:=c 6 _ rfl;obtain⟨V3,W8⟩:=c 7 _ rfl;obtain⟨V4,W9⟩:=c 8 _ rfl;obtain⟨V5,Xa⟩:=c 9 _ rfl;obtain⟨VX,W2⟩:=c 10 _ rfl;clear c
   have b:=U WS;obtain⟨Wt,_⟩:=b 0 _ rfl;obtain⟨Xb,_⟩:=b 1 _ rfl;obtain⟨Xc,_⟩:=b 2 _ rfl;obtain⟨Xd,_⟩:=b 3 _ rfl;obtain⟨Xe,_⟩:=b 4 _ rfl;obtain⟨Xf,_⟩:=b 5 _ rfl;obtain⟨Xg,_⟩:=b 6 _ rfl;obtain⟨Xh,_⟩:=b 7 _ rfl;obtain⟨Xi,_⟩:=b 8 _ rfl;obtain⟨Xj,_⟩:=b 9 _ rfl;obtain⟨Wd,_⟩:=b 10 _ rfl;clear b
   go_wp2
   refine aM (v:=.tuple #[.agg #[.int .i64 4,.string ⟨#[]⟩,.slice F p.length G,.slice none 0 0,.slice none 0 0,.slice none 0 0,.int .i64 0,.int .i64 0,.int .i64 0,.int .i64 0,.slice k i.length cv],.bool true]) (by simp[results,results18,go_sem,Z,VW,VY,VZ,V0,V1,V2,V3,V4,V5,VX]) rfl ?_
   exact cS.some (x:=.mk 4 ⟨#[]⟩ p [] [] [] 0 0 0 0 i) (m:=⟨F,G,none,0,none,0,none,0,k,cv⟩) (aJ (U WR) (Nat.le_succ _) _ _ _ _ _ _ _ _ _ _ _) (U P) ((U X1).fin11 (U V6).1 (Nat.le_succ _)) bk.2.1 bk.2.2.1 bk.2.2.2.1 aV ((U X4).fin11 (U V6).1 (Nat.le_succ _))
theorem oW(o:ByteArray)(h e p1 p2:Dt)(Xz:(Dt.mk true o (h::[e,p1,p2])).fin)(f:Option Addr)(l:Nat)(d:World)(Xq:Dt.all d f (h::[e,p1,p2]))(Xn:GT d)(WC:ch aX (headD (.mk true o (h::[e,p1,p2])))=4) (WW:∀(K:Nat) (C:Dt),[p1,p2][K]?=some C->∀(E:Option Addr) (n:Nat) (a:World),Dt.all a E C.l->Bw d a->Calls prog 18 #[C.val E n] a (cS (bZ C) a)):Calls prog 18 #[(Dt.mk true o (h::[e,p1,p2])).val f l] d (cS (bu 5 [e,p1,p2] ([e,p1,p2].map bZ)) d):=by
 obtain⟨V9,Wu⟩:=al (bu 5 [e,p1,p2] ([e,p1,p2].map bZ));rw[<-Wu];have Wi:=Dt.af Xz;have y:=λa (s:Dt.all a f (h::[e,p1,p2]))=>cg (.mk true o (h::[e,p1,p2])) f l a s Wi.2.2.1;obtain⟨Wn,Xo⟩:=al (headD (.mk true o (h::[e,p1,p2])));rw[<-Xo] at y WC;have V8:=λf a s=>bL (aX.map bs) (by rw[VP,a7];decide) Wn f 12 a s;rw[VP,a7,show Lib.idxOfS (aX.map bs) Wn=4 from WC] at V8;have V8:=VV V8;show Calls prog 18 #[.agg #[.bool true,.string o,.slice f 4 (4+l)]] d (cS V9 d);have y:=λa (s:Dt.all a f (h::[e,p1,p2]))=>(show Calls prog 54 #[.agg #[.bool true,.string o,.slice f 4 (4+l)]] a λA N=>A=.returned (.string Wn)/\Bw a N from y a s);have WI:4=(h::[e,p1,p2]).length:=rfl;obtain⟨I,Yg,Yh,n,WE,WH,Wy,WD,WF⟩:=cU d o f 4 (4+l);obtain⟨j,S⟩:=al (gW d o f 4 (4+l));rw[<-S] at I Yg Yh n WE WH Wy WD WF;unfold gW at S;have We:=Dt.ab _ Xq I;obtain⟨WX,WZ,WG,Xr⟩:=dY l 1 2 4 WI We (by omega) (by omega);obtain⟨Wa,Yi,Wj,Xs⟩:=es l 2 4 WI We (by omega);obtain⟨z,Xw⟩:=al (4+l);rw[<-Xw] at y S n WG Wj ⊢;obtain⟨Wc,Xx⟩:=al (2+Yi);have WG:∀a,(Instr.slice 44 (.slice f 4 z) (some (.int .i64 1)) (some (.int .i64 2)) none).run prog a=.ok (.slice WX 1 WZ) a:=WG;have Wj:∀a,(Instr.slice 44 (.slice f 4 z) (some (.int .i64 2)) none none).run prog a=.ok (.slice Wa 2 Wc) a:=by rw[Xx];exact Wj
 have Xp:∀a,Bw j a->Calls prog 55 #[.slice Wa 2 Wc] a (jG (λa f i=>Pl.all a f i) (aW ([p1,p2].map bZ)) a):=λa s=>by skip;skip;exact(ci [p1,p2] (by have:(h::[e,p1,p2]).length<=1000000:=Wi.2.2.1;simp only[a1,List.length_nil] at this ⊢;omega) Wa Wc a (Dt.ab _ Xs s) λK C t E n Yf B Wv=>WW K C t E n Yf B (ac (ac I s) Wv)).mono λ_ _ h=>h.pl
 have XY:=VV Xp;have y:=VV (y j We);have X2:=VV Xr;have XR:Hid (CA j [((d.heap.size,2),.slice f 4 z),((d.heap.size+3,4),.int .i64 1),((d.heap.size+4,4),.int .i64 2)]):=⟨n,Wy 4 _ rfl,WD 4 _ rfl,trivial⟩;have X5:=VV WH;have WU:=VV WE;have WM:=VV I;have X0:=VV WF;have XS:=VV Wi;have XT:=VV (Xn.aa I);have X7:=VV S.symm;have Wp:=VV Wu;clear I WE WH Wy WD WF We Xs Xx Xw Wi Xp Xo WC WW Xq Xn Xz S WI Xr Wu;go_enter func18,ntmps18;go_upto_region 4 with fail;rw[U X7]
 go_upto_region 5 with (first
  | (go_at_call 53;refine(U V8 _ _ (U X6)).mono ?_;rintro XH XI ⟨rfl,rfl⟩)
  | (go_at_call 54;refine(U y).mono ?_;rintro XH Yr ⟨rfl,Wf⟩;have XJ:=VV Wf;have X6:=VV ((U X5).aa Wf);have Xv:=(U XR).aa Wf;have XN:=VV Xv;obtain⟨u,w,Wm,_⟩:=Xv;clear Wf))
 have WK:=cell_regrown u;have WL:=cell_regrown w;have Wk:=cell_regrown Wm;refine wp_region_quiet_below (by kernel_rfl) (by kernel_rfl) ?_;repeat (go_big_quiet_step (fail))
 refine wpQuiet_nil ?_;intro O WJ;have WN:Hid (Bw j O):=ac (U XJ) (by obtain⟨Wl,rfl⟩:=WJ;exact below_regrown _ _ _);have XO:=VV ((U XN).aa (by obtain⟨Wl,rfl⟩:=WJ;exact below_regrown _ _ _:Bw XI O));obtain⟨g,WA⟩:=al O.heap.size;obtain⟨Y,V⟩:=al (O.alloc (.cells #[.int .i64 5,.string ⟨#[]⟩,.slice none 0 0,.slice none 0 0,.slice none 0 0,.slice none 0 0,.int .i64 0,.int .i64 0,.int .i64 0,.int .i64 0,.slice none 0 0] 28));have B:=ae (ar _ O) (.cells #[.int .i64 5,.string ⟨#[]⟩,.slice none 0 0,.slice none 0 0,.slice none 0 0,.slice none 0 0,.int .i64 0,.int .i64 0,.int .i64 0,.int .i64 0,.slice none 0 0] 28);have XK:Hid (Bw j Y):=by rw[V];exact ac (U WN) B
 have XW:Hid (bp Y g [.int .i64 5,.string ⟨#[]⟩,.slice none 0 0,.slice none 0 0,.slice none 0 0,.slice none 0 0,.int .i64 0,.int .i64 0,.int .i64 0,.int .i64 0,.slice none 0 0]):=by rw[V,WA];exact bp.new O [.int .i64 5,.string ⟨#[]⟩,.slice none 0 0,.slice none 0 0,.slice none 0 0,.slice none 0 0,.int .i64 0,.int .i64 0,.int .i64 0,.int .i64 0,.slice none 0 0] 28
 have Xy:CA Y [((d.heap.size,2),.slice f 4 z),((d.heap.size+3,4),.int .i64 1),((d.heap.size+4,4),.int .i64 2)]:=by rw[V];exact(U XO).aa B
 have XP:=VV Xy;obtain⟨u,w,Wm,_⟩:=Xy;have V6:Hid (d.heap.size+1<g/\j.heap.size<=g):=by show _/\_;have:=(U WN).size;have:=U X0;omega
 have X8:=VV V.symm;have XV:=VV WA.symm;clear WA V B WJ WK WL Wk;go_upto_region 8 with fail;rw[U X8,U XV];have WK:=cell_regrown u;have WL:=cell_regrown w;have Wk:=cell_regrown Wm;refine wp_region_quiet_below (by kernel_rfl) (by kernel_rfl) ?_;repeat (go_big_quiet_step (fail))
 refine wpQuiet_nil ?_;intro X XE;have Wg:Bw Y X:=by obtain⟨Wl,rfl⟩:=XE;exact below_regrown _ _ _
 have WO:=VV (ac (U XK) Wg).drew;have q:Hid (CA X.drew [((d.heap.size,2),.slice f 4 z),((d.heap.size+3,4),.int .i64 1)]):=by obtain⟨u,w,_⟩:=(U XP).aa Wg;exact⟨u,w,trivial⟩
 have WT:Hid (bp X.drew g [.int .i64 5,.string ⟨#[]⟩,.slice none 0 0,.slice none 0 0,.slice none 0 0,.slice none 0 0,.int .i64 0,.int .i64 0,.int .i64 0,.int .i64 0,.slice none 0 0]):=((U XW).aa Wg).aa aN.drew;have XX:Hid (g<X.drew.heap.size):=bY _ _ ((U WT) 0 _ rfl).1;clear XE WK WL Wk u w Wm Wg;go_upto_region 10 with fail;refine VR (λa:World=>CA a [((d.heap.size,2),.slice f 4 z),((d.heap.size+3,4),.int .i64 1)]) 8 ?_;refine ai 0 (.pointer (some ⟨d.heap.size,2,none⟩)) rfl (U q) ?_;refine ai 1 (.slice f 4 z) rfl (U q) ?_ λN R=>by simp only[CA] at R;obtain⟨u,w,_⟩:=R;go_simp
 refine ai 2 (.slice (some ⟨d.heap.size+3,0,none⟩) 12 12) rfl (U q) ?_;refine ai 3 (.int .i64 4) rfl (U q) ?_;refine ai 4 (.pointer (some ⟨d.heap.size+3,4,none⟩)) rfl (U q) ?_;refine ai 5 (.int .i64 1) rfl (U q) ?_ λN R=>by simp only[CA] at R;obtain⟨u,w,_⟩:=R;go_simp
 refine ai 6 (.int .i64 2) rfl (U q) ?_ λN _=>by go_simp;rfl
 refine ai 7 (.slice Wa 2 Wc) rfl (U q) ?_ λN _=>by have:=Wj N;go_simp
 refine ap 8 rfl λQ r=>?_;go_simp;refine(U XY _ (U WO)).mono ?_;rintro _ Yn ⟨Ww,k,L,cv,Wb,rfl,Xt,Xu⟩;go_simp;refine aS r ?_;clear r Q;refine cJ (S2:=λ_=>True) (k2:=14) _ _ _ _ (.inr rfl) ?_;have WB:=(U WT).aa Ww;obtain⟨Wd,Yl⟩:=WB 10 _ rfl;refine ai 9 (.tuple #[.slice k L cv,.bool Wb]) rfl trivial ?_;refine ai 10 (.slice k L cv) rfl trivial ?_;refine ai 11 (.bool Wb) rfl trivial ?_;refine ai 12 (.pointer (some ⟨g,10,none⟩)) rfl trivial ?_;refine ap 13 rfl λQ r=>?_;go_simp;refine aO r trivial ?_;clear r Q;refine ap 14 rfl λQ r=>?_;go_simp;refine aS r ?_;clear r Q;refine bh ?_;obtain⟨M,T⟩:=al (Yn.setCell ⟨g,10,none⟩ (.slice k L cv));rw[<-T];have Wh:Bw j M:=by rw[T];exact(ac (U WO) Ww).setCell (p:=⟨g,10,none⟩) (U V6).2 _
 have Wo:=VV Wh;have XL:=VV (ac (U WM) Wh);have XZ:Hid (bp M (d.heap.size+1) VT):=(U WU).aa Wh;have V7:Hid (bp M g [.int .i64 5,.string ⟨#[]⟩,.slice none 0 0,.slice none 0 0,.slice none 0 0,.slice none 0 0,.int .i64 0,.int .i64 0,.int .i64 0,.int .i64 0,.slice k L cv]):=by rw[T];exact WB.set 10 _
 have XA:g+1<=X.drew.heap.size:=U XX;have X9:Hid (Wb=true->∃i,aW ([p1,p2].map bZ)=some i/\i.length=L/\SK (SN (g+1) M) M λa=>Pl.all a k i):=λA=>by obtain⟨i,Wq,Wr,_,Ws⟩:=Xu A;rw[T];exact⟨i,Wq,Wr,(Ws.low XA).aw _⟩
 have Ya:=VV Xt;clear T Wh WB Xt Xu Ww Wd Yl XA;cases Wb with
 | false=>(have P:Hid (V9=none):=by show _=_;rw[U Wp];have A:=U Ya rfl;show (aW [d9 e]).bind (λYk=>(aW ([p1,p2].map bZ)).map _)=none;rw[A];exact cb _);have c:=U XZ;obtain⟨Z,W0⟩:=c 0 _ rfl;obtain⟨VW,W1⟩:=c 1 _ rfl;obtain⟨VY,W3⟩:=c 2 _ rfl;obtain⟨VZ,W4⟩:=c 3 _ rfl;obtain⟨V0,W5⟩:=c 4 _ rfl;obtain⟨V1,W6⟩:=c 5 _ rfl;obtain⟨V2,W7⟩:=c 6 _ rfl;obtain⟨V3,W8⟩:=c 7 _ rfl;obtain⟨V4,W9⟩:=c 8 _ rfl;obtain⟨V5,Xa⟩:=c 9 _ rfl;obtain⟨VX,W2⟩:=c 10 _ rfl;clear c;have b:=U V7;obtain⟨Wt,_⟩:=b 0 _ rfl;obtain⟨Xb,_⟩:=b 1 _ rfl;obtain⟨Xc,_⟩:=b 2 _ rfl;obtain⟨Xd,_⟩:=b 3 _ rfl;obtain⟨Xe,_⟩:=b 4 _ rfl;obtain⟨Xf,_⟩:=b 5 _ rfl;obtain⟨Xg,_⟩:=b 6 _ rfl;obtain⟨Xh,_⟩:=b 7 _ rfl;obtain⟨Xi,_⟩:=b 8 _ rfl;obtain⟨Xj,_⟩:=b 9 _ rfl;obtain⟨Wd,_⟩:=b 10 _ rfl;clear b;go_wp2;refine aM (v:=.tuple #[.agg #[.int .i64 5,.string ⟨#[]⟩,.slice none 0 0,.slice none 0 0,.slice none 0 0,.slice none 0 0,.int .i64 0,.int .i64 0,.int .i64 0,.int .i64 0,.slice k L cv],.bool false]) (by simp[results,results18,go_sem,Z,VW,VY,VZ,V0,V1,V2,V3,V4,V5,VX]) rfl ?_;exact cS.no (aJ (U XL) (Nat.le_succ _) _ _ _ _ _ _ _ _ _ _ _) (U P) _ _ _ _ _ _ _ _ _ _ _ _ _ _ _ _ _ _ _ _ _
 | true=>
  obtain⟨i,XF,rfl,XC⟩:=U X9 rfl
  have X3:=VV XC
  have Ye:=VV XF
  clear XC XF
  have XB:(e:Dt).fin:=Dt.ag (U XS).2.2.2 (show e∈h::[e,p1,p2] by simp)
  have XM:=VV ((fA [e] (by simp) WX WZ M (Dt.ab _ (U X2) (U Wo)) λK C t E n a B Wv=>by
   match K,t with
   | 0,t=>simp at t;subst t;exact fe e.size e aV XB E n a B ((U XT).aa (ac (U Wo) Wv))
   | K+1,t=>simp at t).mono λ_ _ h=>h.ex)
  clear XB
  obtain⟨Wt,_⟩:=(U V7) 0 _ rfl
  go_upto_region 64 with (go_at_call 57;refine(U XM).mono ?_;rintro XH Yo ⟨Wx,F,W,G,WY,rfl,Xk,Xl⟩;have Yb:=VV Xk;have Yc:=VV Xl;have WP:=VV Wx;have Wz:=(U V7).aa Wx;have XU:=VV Wz;obtain⟨Ym,Yp⟩:=Wz 2 _ rfl;clear Wx Xk Xl Wz)
  obtain⟨D,J⟩:=al (Yo.setCell ⟨g,2,none⟩ (.slice F W G))
  rw[<-J]
  have WQ:Hid (Bw j D):=by rw[J];exact(ac (U Wo) (U WP)).setCell (p:=⟨g,2,none⟩) (U V6).2 _
  have WR:=VV (ac (U WM) (U WQ))
  have WV:Hid (bp D (d.heap.size+1) VT):=(U WU).aa (U WQ)
  have WS:Hid (bp D g [.int .i64 5,.string ⟨#[]⟩,.slice F W G,.slice none 0 0,.slice none 0 0,.slice none 0 0,.int .i64 0,.int .i64 0,.int .i64 0,.int .i64 0,.slice k i.length cv]):=by rw[J];exact(U XU).set 2 _
  have X4:Hid (SK (SN (g+1) D) D (λa=>Pl.all a k i)):=by rw[J];exact((U X3).up (U WP)).aw _
  have Yd:Hid (WY=true->∃p,aW ([e].map d9)=some p/\p.length=W/\W<=G/\SK (SN (g+1) D) D (λa=>Ex.all a F p)):=λA=>by
   obtain⟨p,Wq,Wr,Yj,Ws⟩:=U Yc A
   rw[J]
   exact⟨p,Wq,Wr,Yj,(Ws.low (bY _ _ ((U V7) 0 _ rfl).1)).aw _⟩
  clear J Ym Yp
  cases WY with
  | false=>
   have P:Hid (V9=none):=by
    show _=_
    rw[U Wp]
    show (aW ([e].map d9)).bind _=none
    rw[U Yb rfl];rfl
   have c:=U WV;obtain⟨Z,W0⟩:=c 0 _ rfl;obtain⟨VW,W1⟩:=c 1 _ rfl;obtain⟨VY,W3⟩:=c 2 _ rfl;obtain⟨VZ,W4⟩:=c 3 _ rfl;obtain⟨V0,W5⟩:=c 4 _ rfl;obtain⟨V1,W6⟩:=c 5 _ rfl;obtain⟨V2,W7⟩:=c 6 _ rfl;obtain⟨V3,W8⟩:=c 7 _ rfl;obtain⟨V4,W9⟩:=c 8 _ rfl;obtain⟨V5,Xa⟩:=c 9 _ rfl;obtain⟨VX,W2⟩:=c 10 _ rfl;clear c
   have b:=U WS;obtain⟨Wt,_⟩:=b 0 _ rfl;obtain⟨Xb,_⟩:=b 1 _ rfl;obtain⟨Xc,_⟩:=b 2 _ rfl;obtain⟨Xd,_⟩:=b 3 _ rfl;obtain⟨Xe,_⟩:=b 4 _ rfl;obtain⟨Xf,_⟩:=b 5 _ rfl;obtain⟨Xg,_⟩:=b 6 _ rfl;obtain⟨Xh,_⟩:=b 7 _ rfl;obtain⟨Xi,_⟩:=b 8 _ rfl;obtain⟨Xj,_⟩:=b 9 _ rfl;obtain⟨Wd,_⟩:=b 10 _ rfl;clear b
   go_wp2
   refine aM (v:=.tuple #[.agg #[.int .i64 5,.string ⟨#[]⟩,.slice F W G,.slice none 0 0,.slice none 0 0,.slice none 0 0,.int .i64 0,.int .i64 0,.int .i64 0,.int .i64 0,.slice k i.length cv],.bool false]) (by simp[results,results18,go_sem,Z,VW,VY,VZ,V0,V1,V2,V3,V4,V5,VX]) rfl ?_
   exact cS.no (aJ (U WR) (Nat.le_succ _) _ _ _ _ _ _ _ _ _ _ _) (U P) _ _ _ _ _ _ _ _ _ _ _ _ _ _ _ _ _ _ _ _ _
  | true=>
   obtain⟨p,XG,rfl,Yq,XD⟩:=U Yd rfl
   have P:Hid (V9=some (.mk 5 ⟨#[]⟩ p [] [] [] 0 0 0 0 i)):=by
    show _=_
    rw[U Wp]
    show (aW ([e].map d9)).bind (λYk=>(aW ([p1,p2].map bZ)).map _)=_
    rw[XG,U Ye];rfl
   have X1:=VV XD
   clear XG XD
   have c:=U WV;obtain⟨Z,W0⟩:=c 0 _ rfl;obtain⟨VW,W1⟩:=c 1 _ rfl;obtain⟨VY,W3⟩:=c 2 _ rfl;obtain⟨VZ,W4⟩:=c 3 _ rfl;obtain⟨V0,W5⟩:=c 4 _ rfl;obtain⟨V1,W6⟩:=c 5 _ rfl;obtain⟨V2,W7⟩:=c 6 _ rfl;obtain⟨V3,W8⟩:=c 7 _ rfl;obtain⟨V4,W9⟩:=c 8 _ rfl;obtain⟨V5,Xa⟩:=c 9 _ rfl;obtain⟨VX,W2⟩:=c 10 _ rfl;clear c
   have b:=U WS;obtain⟨Wt,_⟩:=b 0 _ rfl;obtain⟨Xb,_⟩:=b 1 _ rfl;obtain⟨Xc,_⟩:=b 2 _ rfl;obtain⟨Xd,_⟩:=b 3 _ rfl;obtain⟨Xe,_⟩:=b 4 _ rfl;obtain⟨Xf,_⟩:=b 5 _ rfl;obtain⟨Xg,_⟩:=b 6 _ rfl;obtain⟨Xh,_⟩:=b 7 _ rfl;obtain⟨Xi,_⟩:=b 8 _ rfl;obtain⟨Xj,_⟩:=b 9 _ rfl;obtain⟨Wd,_⟩:=b 10 _ rfl;clear b
   go_wp2
   refine aM (v:=.tuple #[.agg #[.int .i64 5,.string ⟨#[]⟩,.slice F p.length G,.slice none 0 0,.slice none 0 0,.slice none 0 0,.int .i64 0,.int .i64 0,.int .i64 0,.int .i64 0,.slice k i.length cv],.bool true]) (by simp[results,results18,go_sem,Z,VW,VY,VZ,V0,V1,V2,V3,V4,V5,VX]) rfl ?_
   exact cS.some (x:=.mk 5 ⟨#[]⟩ p [] [] [] 0 0 0 0 i) (m:=⟨F,G,none,0,none,0,none,0,k,cv⟩) (aJ (U WR) (Nat.le_succ _) _ _ _ _ _ _ _ _ _ _ _) (U P) ((U X1).fin11 (U V6).1 (Nat.le_succ _)) bk.2.1 bk.2.2.1 bk.2.2.2.1 aV ((U X4).fin11 (U V6).1 (Nat.le_succ _))
end Go.Proofs.YtabmgpillccfaaaGreatDoor
