import Derived.Test.YtabmgpillccfaaaGreatDoorUcF
set_option linter.all false
set_option maxHeartbeats 4000000
set_option maxRecDepth 100000
namespace Go.Proofs.YtabmgpillccfaaaGreatDoor
open Go.RowKit Go.Sort Go.Proofs.Tryz
variable{a b:Option Addr}{w:World}{I J:Int}
theorem j0{w:World}{p1 p2:Dt}{c1 c2:Nat}(i:Dt.all w a p1.l)(j:Dt.all w b p2.l):Dt.all (w.alloc (.cells #[.bool p1.k,.string p1.s,.slice a p1.l.length (p1.l.length+c1),.bool p2.k,.string p2.s,.slice b p2.l.length (p2.l.length+c2)] 46)) (some ⟨w.heap.size,0,none⟩) [p1,p2]:=by
 have f:=ae (ar _ w) (.cells #[.bool p1.k,.string p1.s,.slice a p1.l.length (p1.l.length+c1),.bool p2.k,.string p2.s,.slice b p2.l.length (p2.l.length+c2)] 46);refine k8 [(p1,a,c1),(p2,b,c2)] 0 λg l d=>?_;match g,d with
 | 0,d=>
  simp at d;subst d
  refine⟨λe k c=>?_,Dt.ab _ i f⟩
  match e,c with
  | 0,c=>simp[da] at c;subst c;simp[go_sem]
  | 1,c=>simp[da] at c;subst c;simp[go_sem]
  | 2,c=>simp[da] at c;subst c;simp[go_sem]
  | e+3,c=>simp[da] at c
 | 1,d=>
  simp at d;subst d
  refine⟨λe k c=>?_,Dt.ab _ j f⟩
  match e,c with
  | 0,c=>simp[da] at c;subst c;simp[go_sem]
  | 1,c=>simp[da] at c;subst c;simp[go_sem]
  | 2,c=>simp[da] at c;subst c;simp[go_sem]
  | e+3,c=>simp[da] at c
 | g+2,d=>simp at d
theorem ro{p1 p2:Dt}(b:p1.fin)(c:p2.fin):(Dt.mk true ⟨#[]⟩ [p1,p2]).fin:=by rw[Dt.fin];refine⟨by decide,λa=>(by cases a),by simp,?_⟩;rw[Dt.ah,Dt.ah,Dt.ah];exact⟨b,c,trivial⟩
theorem lU{p1 p2:Dt}(e:p1.fin)(f:p2.fin)(b:Nat)(a:World)(i:Dt.all a (some ⟨b,0,none⟩) [p1,p2])(g:GT a):Calls prog 58 #[.agg #[.bool true,.string ⟨#[]⟩,.slice (some ⟨b,0,none⟩) 2 2]] a (jG (λc d j=>bC c d j) (aW [bO p1,bO p2]) a):=
 (hf (.mk true ⟨#[]⟩ [p1,p2]) (ro e f) (some ⟨b,0,none⟩) 0 a i g).mono λ_ _ h=>h.int
theorem fH(h:bC w a [I,J]):∃b c,a=some ⟨b,c,none⟩/\w.cell? ⟨b,c,none⟩=some (.int .i64 I)/\w.cell? ⟨b,c+1,none⟩=some (.int .i64 J):=by obtain⟨b,c,e,j⟩:=h.getP (i:=0) (x:=I) rfl;obtain⟨l,m,d,k⟩:=h.getP (i:=1) (x:=J) rfl;rw[e] at d;injection d with d;injection d with f g;subst f g;exact⟨b,c,e,by simpa using j,k⟩
theorem oS(R:ByteArray)(h e p1 p2 p3:Dt)(Yq:(Dt.mk true R (h::[e,p1,p2,p3])).fin)(o:Option Addr)(N:Nat)(f:World)(Yg:Dt.all f o (h::[e,p1,p2,p3]))(Yd:GT f)(XB:ch aX (headD (.mk true R (h::[e,p1,p2,p3])))=8) (X5:∀(Wo:Nat) (S:Dt),[p3][Wo]?=some S->∀(B:Option Addr) (s:Nat) (a:World),Dt.all a B S.l->Bw f a->Calls prog 18 #[S.val B s] a (cS (bZ S) a)):Calls prog 18 #[(Dt.mk true R (h::[e,p1,p2,p3])).val o N] f (cS (bu 9 [e,p1,p2,p3] ([e,p1,p2,p3].map bZ)) f):=by
 obtain⟨Wi,Xu⟩:=al (bu 9 [e,p1,p2,p3] ([e,p1,p2,p3].map bZ));rw[<-Xu];have WY:=Dt.af Yq;have Y:=λa (I:Dt.all a o (h::[e,p1,p2,p3]))=>cg (.mk true R (h::[e,p1,p2,p3])) o N a I WY.2.2.1;obtain⟨W0,Ye⟩:=al (headD (.mk true R (h::[e,p1,p2,p3])));rw[<-Ye] at Y XB;have WN:=λo a I=>bL (aX.map bs) (by rw[VP,a7];decide) W0 o 12 a I;rw[VP,a7,show Lib.idxOfS (aX.map bs) W0=8 from XB] at WN;have WN:=VV WN;show Calls prog 18 #[.agg #[.bool true,.string R,.slice o 5 (5+N)]] f (cS Wi f);have Y:=λa (I:Dt.all a o (h::[e,p1,p2,p3]))=>(show Calls prog 54 #[.agg #[.bool true,.string R,.slice o 5 (5+N)]] a λn M=>n=.returned (.string W0)/\Bw a M from Y a I);have XI:5=(h::[e,p1,p2,p3]).length:=rfl;obtain⟨Wk,WR,F,s,XD,XH,Xx,XC,XE⟩:=cU f R o 5 (5+N);obtain⟨g,Wz⟩:=al (gW f R o 5 (5+N));rw[<-Wz] at Wk WR F s XD XH Xx XC XE;unfold gW at Wz;have WT:=Dt.ab _ Yg Wk;obtain⟨X7,W8,XF,Yh⟩:=dY N 1 4 5 XI WT (by omega) (by omega);obtain⟨WP,Zv,WZ,Yi⟩:=es N 4 5 XI WT (by omega);obtain⟨VX,Yn⟩:=al (5+N);rw[<-Yn] at Y Wz s XF WZ ⊢;obtain⟨WS,Yo⟩:=al (1+Zv);have XF:∀a,(Instr.slice 44 (.slice o 5 VX) (some (.int .i64 1)) (some (.int .i64 4)) none).run prog a=.ok (.slice X7 3 W8) a:=XF;have WZ:∀a,(Instr.slice 44 (.slice o 5 VX) (some (.int .i64 4)) none none).run prog a=.ok (.slice WP 1 WS) a:=by rw[Yo];exact WZ
 have Yf:∀a,Bw g a->Calls prog 55 #[.slice WP 1 WS] a (jG (λa o i=>Pl.all a o i) (aW ([p3].map bZ)) a):=λa I=>by skip;skip;exact(ci [p3] (by have:(h::[e,p1,p2,p3]).length<=1000000:=WY.2.2.1;simp only[a1,List.length_nil] at this ⊢;omega) WP WS a (Dt.ab _ Yi I) λWo S ZJ B s Zu WA ZE=>X5 Wo S ZJ B s Zu WA (ac (ac Wk I) ZE)).mono λ_ _ h=>h.pl
 have Y2:=VV Yf;have Y:=VV (Y g WT);have Y6:=VV Yh;have YO:Hid (CA g [((f.heap.size,2),.slice o 5 VX),((f.heap.size+3,8),.int .i64 3),((f.heap.size+4,8),.int .i64 1)]):=⟨s,Xx 8 _ rfl,XC 8 _ rfl,trivial⟩;have Zh:=VV XH;have Wh:=VV XD;have Wd:=VV Wk;have Y5:=VV XE;have W5:=VV WY;have XZ:=VV (Yd.aa Wk);have Zk:=VV Wz.symm;have X2:=VV Xu;clear Wk XD XH Xx XC XE WT Yi Yo Yn WY Yf Ye XB X5 Yg Yd Yq Wz XI Yh Xu;go_enter func18,ntmps18;go_upto_region 4 with fail;rw[U Zk]
 go_upto_region 5 with (first
  | (go_at_call 53;refine(U WN _ _ (U Zi)).mono ?_;rintro YF YG ⟨rfl,rfl⟩)
  | (go_at_call 54;refine(U Y).mono ?_;rintro YF Z6 ⟨rfl,WV⟩;have YH:=VV WV;have Zi:=VV ((U Zh).aa WV);have Ym:=(U YO).aa WV;have YL:=VV Ym;obtain⟨C,D,Wr,_⟩:=Ym;clear WV))
 have XL:=cell_regrown C;have XM:=cell_regrown D;have WF:=cell_regrown Wr;refine wp_region_quiet_below (by kernel_rfl) (by kernel_rfl) ?_;repeat (go_big_quiet_step (fail))
 refine wpQuiet_nil ?_;intro Wt XK;have XS:Hid (Bw g Wt):=ac (U YH) (by obtain⟨Wq,rfl⟩:=XK;exact below_regrown _ _ _);have YM:=VV ((U YL).aa (by obtain⟨Wq,rfl⟩:=XK;exact below_regrown _ _ _:Bw YG Wt));obtain⟨d,Xz⟩:=al Wt.heap.size;obtain⟨WI,WE⟩:=al (Wt.alloc (.cells #[.int .i64 9,.string ⟨#[]⟩,.slice none 0 0,.slice none 0 0,.slice none 0 0,.slice none 0 0,.int .i64 0,.int .i64 0,.int .i64 0,.int .i64 0,.slice none 0 0] 28));have WA:=ae (ar _ Wt) (.cells #[.int .i64 9,.string ⟨#[]⟩,.slice none 0 0,.slice none 0 0,.slice none 0 0,.slice none 0 0,.int .i64 0,.int .i64 0,.int .i64 0,.int .i64 0,.slice none 0 0] 28);have YI:Hid (Bw g WI):=by rw[WE];exact ac (U XS) WA
 have YR:Hid (bp WI d [.int .i64 9,.string ⟨#[]⟩,.slice none 0 0,.slice none 0 0,.slice none 0 0,.slice none 0 0,.int .i64 0,.int .i64 0,.int .i64 0,.int .i64 0,.slice none 0 0]):=by rw[WE,Xz];exact bp.new Wt [.int .i64 9,.string ⟨#[]⟩,.slice none 0 0,.slice none 0 0,.slice none 0 0,.slice none 0 0,.int .i64 0,.int .i64 0,.int .i64 0,.int .i64 0,.slice none 0 0] 28
 have Yp:CA WI [((f.heap.size,2),.slice o 5 VX),((f.heap.size+3,8),.int .i64 3),((f.heap.size+4,8),.int .i64 1)]:=by rw[WE];exact(U YM).aa WA
 have YN:=VV Yp;obtain⟨C,D,Wr,_⟩:=Yp;have Wg:Hid (f.heap.size+1<d/\g.heap.size<=d):=by show _/\_;have:=(U XS).size;have:=U Y5;omega
 have Zl:=VV WE.symm;have YQ:=VV Xz.symm;clear Xz WE WA XK XL XM WF;go_upto_region 8 with fail;rw[U Zl,U YQ];have XL:=cell_regrown C;have XM:=cell_regrown D;have WF:=cell_regrown Wr;refine wp_region_quiet_below (by kernel_rfl) (by kernel_rfl) ?_;repeat (go_big_quiet_step (fail))
 refine wpQuiet_nil ?_;intro WH YA;have WW:Bw WI WH:=by obtain⟨Wq,rfl⟩:=YA;exact below_regrown _ _ _
 have XT:=VV (ac (U YI) WW).drew;have T:Hid (CA WH.drew [((f.heap.size,2),.slice o 5 VX),((f.heap.size+3,8),.int .i64 3)]):=by obtain⟨C,D,_⟩:=(U YN).aa WW;exact⟨C,D,trivial⟩
 have X1:Hid (bp WH.drew d [.int .i64 9,.string ⟨#[]⟩,.slice none 0 0,.slice none 0 0,.slice none 0 0,.slice none 0 0,.int .i64 0,.int .i64 0,.int .i64 0,.int .i64 0,.slice none 0 0]):=((U YR).aa WW).aa aN.drew;have YY:Hid (d<WH.drew.heap.size):=bY _ _ ((U X1) 0 _ rfl).1;clear YA XL XM WF C D Wr WW;go_upto_region 10 with fail;refine VR (λa:World=>CA a [((f.heap.size,2),.slice o 5 VX),((f.heap.size+3,8),.int .i64 3)]) 8 ?_;refine ai 0 (.pointer (some ⟨f.heap.size,2,none⟩)) rfl (U T) ?_;refine ai 1 (.slice o 5 VX) rfl (U T) ?_ λM t=>by simp only[CA] at t;obtain⟨C,D,_⟩:=t;go_simp
 refine ai 2 (.slice (some ⟨f.heap.size+3,0,none⟩) 12 12) rfl (U T) ?_;refine ai 3 (.int .i64 8) rfl (U T) ?_;refine ai 4 (.pointer (some ⟨f.heap.size+3,8,none⟩)) rfl (U T) ?_;refine ai 5 (.int .i64 3) rfl (U T) ?_ λM t=>by simp only[CA] at t;obtain⟨C,D,_⟩:=t;go_simp
 refine ai 6 (.int .i64 4) rfl (U T) ?_ λM _=>by go_simp;rfl
 refine ai 7 (.slice WP 1 WS) rfl (U T) ?_ λM _=>by have:=WZ M;go_simp
 refine ap 8 rfl λr j=>?_;go_simp;refine(U Y2 _ (U XT)).mono ?_;rintro _ ZS ⟨Xv,p,Wp,cv,Wj,rfl,Yj,Yk⟩;go_simp;refine aS j ?_;clear j r;refine cJ (S2:=λ_=>True) (k2:=14) _ _ _ _ (.inr rfl) ?_;have XA:=(U X1).aa Xv;obtain⟨Wy,ZC⟩:=XA 10 _ rfl;refine ai 9 (.tuple #[.slice p Wp cv,.bool Wj]) rfl trivial ?_;refine ai 10 (.slice p Wp cv) rfl trivial ?_;refine ai 11 (.bool Wj) rfl trivial ?_;refine ai 12 (.pointer (some ⟨d,10,none⟩)) rfl trivial ?_;refine ap 13 rfl λr j=>?_;go_simp;refine aO j trivial ?_;clear j r;refine ap 14 rfl λr j=>?_;go_simp;refine aS j ?_;clear j r;refine bh ?_;obtain⟨Ws,WD⟩:=al (ZS.setCell ⟨d,10,none⟩ (.slice p Wp cv));rw[<-WD];have WX:Bw g Ws:=by rw[WD];exact(ac (U XT) Xv).setCell (p:=⟨d,10,none⟩) (U Wg).2 _
 have We:=VV WX;have YJ:=VV (ac (U Wd) WX);have Y3:Hid (bp Ws (f.heap.size+1) VT):=(U Wh).aa WX;have WM:Hid (bp Ws d [.int .i64 9,.string ⟨#[]⟩,.slice none 0 0,.slice none 0 0,.slice none 0 0,.slice none 0 0,.int .i64 0,.int .i64 0,.int .i64 0,.int .i64 0,.slice p Wp cv]):=by rw[WD];exact XA.set 10 _
 have Yu:d+1<=WH.drew.heap.size:=U YY;have Zm:Hid (Wj=true->∃i,aW ([p3].map bZ)=some i/\i.length=Wp/\SK (SN (d+1) Ws) Ws λa=>Pl.all a p i):=λn=>by obtain⟨i,O,P,_,Ww⟩:=Yk n;rw[WD];exact⟨i,O,P,(Ww.low Yu).aw _⟩
 have Zn:=VV Yj;clear WD WX XA Yj Yk Xv Wy ZC Yu;cases Wj with
 | false=>(have Z:Hid (Wi=none):=by show _=_;rw[U X2];have n:=U Zn rfl;show (eU e).bind (λXN=>(bO p1).bind λXO=>(bO p2).bind λXP=>(aW ([p3].map bZ)).map λi=>Pl.mk 9 ⟨#[]⟩ [] [] XN [] 0 0 XO XP i)=none;rw[n];cases eU e with|none=>rfl|some ZM=>cases bO p1 with|none=>rfl|some ZN=>exact cb _);have c:=U Y3;obtain⟨V1,W9⟩:=c 0 _ rfl;obtain⟨V2,Xa⟩:=c 1 _ rfl;obtain⟨V4,Xc⟩:=c 2 _ rfl;obtain⟨V5,Xd⟩:=c 3 _ rfl;obtain⟨V6,Xe⟩:=c 4 _ rfl;obtain⟨V7,Xf⟩:=c 5 _ rfl;obtain⟨V8,Xg⟩:=c 6 _ rfl;obtain⟨V9,Xh⟩:=c 7 _ rfl;obtain⟨Wa,Xi⟩:=c 8 _ rfl;obtain⟨Wb,Xj⟩:=c 9 _ rfl;obtain⟨V3,Xb⟩:=c 10 _ rfl;clear c;have b:=U WM;obtain⟨Wx,_⟩:=b 0 _ rfl;obtain⟨Xk,_⟩:=b 1 _ rfl;obtain⟨Xl,_⟩:=b 2 _ rfl;obtain⟨Xn,_⟩:=b 3 _ rfl;obtain⟨Xo,_⟩:=b 4 _ rfl;obtain⟨Xp,_⟩:=b 5 _ rfl;obtain⟨Xq,_⟩:=b 6 _ rfl;obtain⟨Xr,_⟩:=b 7 _ rfl;obtain⟨Xs,_⟩:=b 8 _ rfl;obtain⟨Xt,_⟩:=b 9 _ rfl;obtain⟨Wy,_⟩:=b 10 _ rfl;clear b;go_wp2;refine aM (v:=.tuple #[.agg #[.int .i64 9,.string ⟨#[]⟩,.slice none 0 0,.slice none 0 0,.slice none 0 0,.slice none 0 0,.int .i64 0,.int .i64 0,.int .i64 0,.int .i64 0,.slice p Wp cv],.bool false]) (by simp[results,results18,go_sem,V1,V2,V4,V5,V6,V7,V8,V9,Wa,Wb,V3]) rfl ?_;exact cS.no (aJ (U YJ) (Nat.le_succ _) _ _ _ _ _ _ _ _ _ _ _) (U Z) _ _ _ _ _ _ _ _ _ _ _ _ _ _ _ _ _ _ _ _ _
 | true=>
  obtain⟨i,YB,rfl,Yy⟩:=U Zm rfl
  have Zb:=VV Yy
  have Zt:=VV YB
  clear Yy YB
  have WC:Dt.all g X7 [e,p1,p2]:=U Y6
  obtain⟨k,l,_,_,rfl,_,_⟩:=Dt.get WC (show [e,p1,p2][0]?=some e from rfl)
  obtain⟨X6,WR,Yv,Yr⟩:=Dt.aE (i:=0) (t:=e) WC rfl
  have W7:Hid (g.cell? ⟨k,l,none⟩=some (.bool e.k)/\g.cell? ⟨k,l+1,none⟩=some (.string e.s)/\g.cell? ⟨k,l+2,none⟩=some (.slice X6 e.l.length (e.l.length+WR))):=Yv
  have YV:=VV Yr
  obtain⟨VW,F,Q,Ys⟩:=Dt.aE (i:=1) (t:=p1) WC rfl
  have YZ:Hid (g.cell? ⟨k,l+3,none⟩=some (.bool p1.k)/\g.cell? ⟨k,l+3+1,none⟩=some (.string p1.s)/\g.cell? ⟨k,l+3+2,none⟩=some (.slice VW p1.l.length (p1.l.length+F))):=Q
  have YW:=VV Ys
  obtain⟨B,s,V,Yt⟩:=Dt.aE (i:=2) (t:=p2) WC rfl
  have Y0:Hid (g.cell? ⟨k,l+6,none⟩=some (.bool p2.k)/\g.cell? ⟨k,l+6+1,none⟩=some (.string p2.s)/\g.cell? ⟨k,l+6+2,none⟩=some (.slice B p2.l.length (p2.l.length+s))):=V
  have YX:=VV Yt
  clear WC Yv Yr Q Ys V Yt
  have Zw:=aG (U W7).1 (U We)
  have Zx:=aG (U W7).2.1 (U We)
  have Zy:=aG (U W7).2.2 (U We)
  have XX:=VV ((js e (Dt.ag (U W5).2.2.2 (show e∈h::[e,p1,p2,p3] by simp)) X6 WR Ws (Dt.ab _ (U YV) (U We)) ((U XZ).aa (U We))).mono λ_ _ h=>h.key)
  rw[Dt.ad] at XX
  have W6:Hid (Wi=(eU e).bind (λXN=>(bO p1).bind λXO=>(bO p2).bind λXP=>(aW ([p3].map bZ)).map λi=>Pl.mk 9 ⟨#[]⟩ [] [] XN [] 0 0 XO XP i)):=U X2
  obtain⟨Wx,_⟩:=(U WM) 0 _ rfl
  go_upto_region 40 with (go_at_call 60;refine(U XX).mono ?_;rintro YF ZT ⟨Xw,w,VZ,G,X8,rfl,X9,Yb⟩;have Zo:=VV X9;have Zq:=VV Yb;have XU:=VV Xw;have Xy:=(U WM).aa Xw;have YP:=VV Xy;obtain⟨ZO,ZW⟩:=Xy 4 _ rfl;clear Xw X9 Yb Xy)
  obtain⟨z,Wl⟩:=al (ZT.setCell ⟨d,4,none⟩ (.slice w VZ G))
  rw[<-Wl]
  have A:Hid (Bw g z):=by rw[Wl];exact(ac (U We) (U XU)).setCell (p:=⟨d,4,none⟩) (U Wg).2 _
  have ZX:=VV (ac (U Wd) (U A))
  have Z0:Hid (bp z (f.heap.size+1) VT):=(U Wh).aa (U A)
  have X0:Hid (bp z d [.int .i64 9,.string ⟨#[]⟩,.slice none 0 0,.slice none 0 0,.slice w VZ G,.slice none 0 0,.int .i64 0,.int .i64 0,.int .i64 0,.int .i64 0,.slice p i.length cv]):=by rw[Wl];exact(U YP).set 4 _
  have Zc:Hid (SK (SN (d+1) z) z (λa=>Pl.all a p i)):=by rw[Wl];exact((U Zb).up (U XU)).aw _
  have Zs:Hid (X8=true->∃u,eU e=some u/\u.length=VZ/\VZ<=G/\SK (SN (d+1) z) z (λa=>cL a w u)):=λn=>by
   obtain⟨u,O,P,Zz,Ww⟩:=U Zq n
   rw[Wl]
   exact⟨u,O,P,Zz,(Ww.low (bY _ _ ((U WM) 0 _ rfl).1)).aw _⟩
  clear Wl ZO ZW
  clear Wx Zw Zx Zy
  go_upto_region 41 with fail
  have Wf:Hid (CA z.drew [((k,l+3),.bool p1.k),((k,l+3+1),.string p1.s),((k,l+3+2),.slice VW p1.l.length (p1.l.length+F)),((k,l+6),.bool p2.k),((k,l+6+1),.string p2.s),((k,l+6+2),.slice B p2.l.length (p2.l.length+s))]):=by
   obtain⟨ZU,WJ,WK⟩:=U YZ
   obtain⟨ZV,q,y⟩:=U Y0
   exact⟨aG ZU (U A).drew,aG WJ (U A).drew,aG WK (U A).drew,aG ZV (U A).drew,aG q (U A).drew,aG y (U A).drew,trivial⟩
  have W1:=VV (ae (ar _ z).drew (.cells #[.bool p1.k,.string p1.s,.slice VW p1.l.length (p1.l.length+F),.bool p2.k,.string p2.s,.slice B p2.l.length (p2.l.length+s)] 46))
  have Zj:=VV (j0 (w:=z.drew) (p1:=p1) (p2:=p2) (c1:=F) (c2:=s) (Dt.ab _ (U YW) (U A).drew) (Dt.ab _ (U YX) (U A).drew))
  have Yw:(p1:Dt).fin:=(Dt.ag (U W5).2.2.2 (show p1∈h::[e,p1,p2,p3] by simp))
  have Yx:(p2:Dt).fin:=(Dt.ag (U W5).2.2.2 (show p2∈h::[e,p1,p2,p3] by simp))
  have Y1:=VV λ(a:World) (I:Below (z.drew.alloc (.cells #[.bool p1.k,.string p1.s,.slice VW p1.l.length (p1.l.length+F),.bool p2.k,.string p2.s,.slice B p2.l.length (p2.l.length+s)] 46)).heap.size (z.drew.alloc (.cells #[.bool p1.k,.string p1.s,.slice VW p1.l.length (p1.l.length+F),.bool p2.k,.string p2.s,.slice B p2.l.length (p2.l.length+s)] 46)) a)=>lU Yw Yx z.heap.size a (Dt.ab _ (U Zj) I) ((U XZ).aa (ac (U A) (ac (U W1) I)))
  clear Yw Yx
  refine VR (λa:World=>CA a [((k,l+3),.bool p1.k),((k,l+3+1),.string p1.s),((k,l+3+2),.slice VW p1.l.length (p1.l.length+F)),((k,l+6),.bool p2.k),((k,l+6+1),.string p2.s),((k,l+6+2),.slice B p2.l.length (p2.l.length+s))]) 6 ?_
  refine ai 0 (.slice (some ⟨k,l,none⟩) 3 W8) rfl (U Wf) ?_
  refine ai 1 (.pointer (some ⟨k,l+3,none⟩)) rfl (U Wf) ?_
  refine ai 2 (.agg #[.bool p1.k,.string p1.s,.slice VW p1.l.length (p1.l.length+F)]) rfl (U Wf) ?_ λM t=>by simp only[CA] at t;obtain⟨C,D,Wr,ZP,ZQ,ZR,_⟩:=t;go_simp
  refine ai 3 (.slice (some ⟨k,l,none⟩) 3 W8) rfl (U Wf) ?_
  refine ai 4 (.pointer (some ⟨k,l+6,none⟩)) rfl (U Wf) ?_
  refine ai 5 (.agg #[.bool p2.k,.string p2.s,.slice B p2.l.length (p2.l.length+s)]) rfl (U Wf) ?_ λM t=>by simp only[CA] at t;obtain⟨C,D,Wr,ZP,ZQ,ZR,_⟩:=t;go_simp
  refine ap 6 rfl λr j=>?_
  go_simp
  refine aS j ?_
  clear j r
  refine ap 7 rfl λr j=>?_
  go_simp
  refine(cc _ _ _ _).mono ?_
  rintro _ Z5 ⟨rfl,WU⟩
  go_simp
  refine aS j ?_
  clear j r
  refine ap 8 rfl λr j=>?_
  go_simp
  refine(U Y1 _ WU).mono ?_
  rintro _ E ⟨Yl,WO,WG,Wv,WQ,rfl,Ya,Yc⟩
  go_simp
  refine aS j ?_
  clear j r
  refine cJ (S2:=λ_=>True) (k2:=13) _ _ _ _ (.inr rfl) ?_
  refine ai 9 (.tuple #[.slice WO WG Wv,.bool WQ]) rfl trivial ?_
  refine ai 10 (.slice WO WG Wv) rfl trivial ?_
  refine ai 11 (.bool WQ) rfl trivial ?_
  refine ai 12 (.slice WO WG Wv) rfl trivial ?_
  refine ap 13 rfl λr j=>?_
  go_simp
  refine aS j ?_
  clear j r
  refine bh ?_
  have Zp:=VV Ya
  have Zr:Hid (WQ=true->∃Wc,aW [bO p1,bO p2]=some Wc/\Wc.length=WG/\SK (SN (d+1) E) E λa=>bC a WO Wc):=λn=>by
   obtain⟨Wc,O,P,_,Ww⟩:=Yc n
   have ZF:=bY _ _ ((U X0) 0 _ rfl).1
   have ZH:=(U W1).size
   have ZI:=WU.size
   exact⟨Wc,O,P,Ww.low (aQ ZF (aQ ZH ZI))⟩
  have WL:=VV (ac (U W1) (ac WU Yl))
  clear Ya Yc WU Yl
  have W2:=VV (ac (U A) (U WL))
  have XW:=VV (ac (U Wd) (U W2))
  have X3:Hid (bp E (f.heap.size+1) VT):=(U Wh).aa (U W2)
  have Wu:Hid (bp E d [.int .i64 9,.string ⟨#[]⟩,.slice none 0 0,.slice none 0 0,.slice w VZ G,.slice none 0 0,.int .i64 0,.int .i64 0,.int .i64 0,.int .i64 0,.slice p i.length cv]):=(U X0).aa (U WL)
  have Zd:Hid (SK (SN (d+1) E) E (λa=>Pl.all a p i)):=(U Zc).up (U WL)
  cases X8 with
  | false=>
   have Z:Hid (Wi=none):=by show _=_;rw[U W6,U Zo rfl];rfl
   have c:=U X3;obtain⟨V1,W9⟩:=c 0 _ rfl;obtain⟨V2,Xa⟩:=c 1 _ rfl;obtain⟨V4,Xc⟩:=c 2 _ rfl;obtain⟨V5,Xd⟩:=c 3 _ rfl;obtain⟨V6,Xe⟩:=c 4 _ rfl;obtain⟨V7,Xf⟩:=c 5 _ rfl;obtain⟨V8,Xg⟩:=c 6 _ rfl;obtain⟨V9,Xh⟩:=c 7 _ rfl;obtain⟨Wa,Xi⟩:=c 8 _ rfl;obtain⟨Wb,Xj⟩:=c 9 _ rfl;obtain⟨V3,Xb⟩:=c 10 _ rfl;clear c
   have b:=U Wu;obtain⟨Wx,_⟩:=b 0 _ rfl;obtain⟨Xk,_⟩:=b 1 _ rfl;obtain⟨Xl,_⟩:=b 2 _ rfl;obtain⟨Xn,_⟩:=b 3 _ rfl;obtain⟨Xo,_⟩:=b 4 _ rfl;obtain⟨Xp,_⟩:=b 5 _ rfl;obtain⟨Xq,_⟩:=b 6 _ rfl;obtain⟨Xr,_⟩:=b 7 _ rfl;obtain⟨Xs,_⟩:=b 8 _ rfl;obtain⟨Xt,_⟩:=b 9 _ rfl;obtain⟨Wy,_⟩:=b 10 _ rfl;clear b
   go_wp2
   refine aM (v:=.tuple #[.agg #[.int .i64 9,.string ⟨#[]⟩,.slice none 0 0,.slice none 0 0,.slice w VZ G,.slice none 0 0,.int .i64 0,.int .i64 0,.int .i64 0,.int .i64 0,.slice p i.length cv],.bool false]) (by simp[results,results18,go_sem,V1,V2,V4,V5,V6,V7,V8,V9,Wa,Wb,V3]) rfl ?_
   exact cS.no (aJ (U XW) (Nat.le_succ _) _ _ _ _ _ _ _ _ _ _ _) (U Z) _ _ _ _ _ _ _ _ _ _ _ _ _ _ _ _ _ _ _ _ _
  | true=>
  cases WQ with
  | false=>
   have Z:Hid (Wi=none):=by
    show _=_
    rw[U W6]
    have n:=U Zp rfl
    cases eU e with
    | none=>rfl
    | some ZM=>
     cases Q:bO p1 with
     | none=>rfl
     | some ZN=>
      cases V:bO p2 with
      | none=>rfl
      | some Z4=>rw[Q,V] at n;cases n
   have c:=U X3;obtain⟨V1,W9⟩:=c 0 _ rfl;obtain⟨V2,Xa⟩:=c 1 _ rfl;obtain⟨V4,Xc⟩:=c 2 _ rfl;obtain⟨V5,Xd⟩:=c 3 _ rfl;obtain⟨V6,Xe⟩:=c 4 _ rfl;obtain⟨V7,Xf⟩:=c 5 _ rfl;obtain⟨V8,Xg⟩:=c 6 _ rfl;obtain⟨V9,Xh⟩:=c 7 _ rfl;obtain⟨Wa,Xi⟩:=c 8 _ rfl;obtain⟨Wb,Xj⟩:=c 9 _ rfl;obtain⟨V3,Xb⟩:=c 10 _ rfl;clear c
   have b:=U Wu;obtain⟨Wx,_⟩:=b 0 _ rfl;obtain⟨Xk,_⟩:=b 1 _ rfl;obtain⟨Xl,_⟩:=b 2 _ rfl;obtain⟨Xn,_⟩:=b 3 _ rfl;obtain⟨Xo,_⟩:=b 4 _ rfl;obtain⟨Xp,_⟩:=b 5 _ rfl;obtain⟨Xq,_⟩:=b 6 _ rfl;obtain⟨Xr,_⟩:=b 7 _ rfl;obtain⟨Xs,_⟩:=b 8 _ rfl;obtain⟨Xt,_⟩:=b 9 _ rfl;obtain⟨Wy,_⟩:=b 10 _ rfl;clear b
   go_wp2
   refine aM (v:=.tuple #[.agg #[.int .i64 9,.string ⟨#[]⟩,.slice none 0 0,.slice none 0 0,.slice w VZ G,.slice none 0 0,.int .i64 0,.int .i64 0,.int .i64 0,.int .i64 0,.slice p i.length cv],.bool false]) (by simp[results,results18,go_sem,V1,V2,V4,V5,V6,V7,V8,V9,Wa,Wb,V3]) rfl ?_
   exact cS.no (aJ (U XW) (Nat.le_succ _) _ _ _ _ _ _ _ _ _ _ _) (U Z) _ _ _ _ _ _ _ _ _ _ _ _ _ _ _ _ _ _ _ _ _
  | true=>
  obtain⟨Wc,VY,YD,XG⟩:=U Zr rfl
  obtain⟨u,YC,rfl,Z3,Yz⟩:=U Zs rfl
  obtain⟨q,Q⟩:∃q,bO p1=some q:=by cases h:bO p1 with|none=>rw[h] at VY;cases VY|some XR=>exact⟨XR,rfl⟩
  obtain⟨y,V⟩:∃y,bO p2=some y:=by cases h:bO p2 with|none=>rw[Q,h] at VY;cases VY|some XR=>exact⟨XR,rfl⟩
  have ZA:Wc=[q,y]:=by rw[Q,V] at VY;injection VY with n;exact n.symm
  subst ZA
  have ZG:WG=2:=YD.symm
  subst ZG
  obtain⟨J,K,rfl,_,_⟩:=fH XG.now
  have X4:=VV XG
  have Z:Hid (Wi=some (.mk 9 ⟨#[]⟩ [] [] u [] 0 0 q y i)):=by
   show _=_
   rw[U W6,YC,Q,V]
   show (aW ([p3].map bZ)).map _=_
   rw[U Zt];rfl
  have Y7:Hid (SK (SN (d+1) E) E (λa=>cL a w u)):=Yz.up (U WL)
  clear VY YD XG YC Yz Q V
  go_upto_region 44 with fail
  have X:Hid (CA E.drew [((J,K),.int .i64 q),((J,K+1),.int .i64 y)]):=by
   obtain⟨Wj,YE,n,WJ,WK⟩:=fH (U X4).now
   injection n with n
   injection n with O P
   subst O P
   exact⟨aG WJ aN.drew,aG WK aN.drew,trivial⟩
  have XY:Hid (CA (E.drew.setCell ⟨d,8,none⟩ (.int .i64 q)) [((J,K),.int .i64 q),((J,K+1),.int .i64 y)]):=by
   obtain⟨Wj,YE,n,WJ,WK⟩:=fH (((U X4).up (ar _ E).drew).aw (o:=8) (.int .i64 q)).now
   injection n with n
   injection n with O P
   subst O P
   exact⟨WJ,WK,trivial⟩
  obtain⟨ZK,ZB⟩:=(U Wu) 8 _ rfl
  obtain⟨ZL,ZD⟩:=(U Wu) 9 _ rfl
  refine VR (λa:World=>CA a [((J,K),.int .i64 q),((J,K+1),.int .i64 y)]) 9 ?_
  refine ai 0 (.slice (some ⟨J,K,none⟩) 2 Wv) rfl (U X) ?_
  refine ai 1 (.pointer (some ⟨J,K,none⟩)) rfl (U X) ?_
  refine ai 2 (.int .i64 q) rfl (U X) ?_ λM t=>by simp only[CA] at t;obtain⟨C,D,_⟩:=t;go_simp
  refine ai 3 (.slice (some ⟨J,K,none⟩) 2 Wv) rfl (U X) ?_
  refine ai 4 (.pointer (some ⟨J,K+1,none⟩)) rfl (U X) ?_
  refine ai 5 (.int .i64 y) rfl (U X) ?_ λM t=>by simp only[CA] at t;obtain⟨C,D,_⟩:=t;go_simp
  refine ai 6 (.pointer (some ⟨d,8,none⟩)) rfl (U X) ?_
  refine ap 7 rfl λr j=>?_
  go_simp
  refine aO j (U XY) ?_
  clear j r
  refine ai 8 (.pointer (some ⟨d,9,none⟩)) rfl (U XY) ?_
  refine ap 9 rfl λr j=>?_
  go_simp
  refine aS j ?_
  clear j r
  refine bh ?_
  obtain⟨W,Wm⟩:=al (E.setCell ⟨d,8,none⟩ (.int .i64 q))
  rw[<-Wm]
  have W3:Hid (Bw g W):=by rw[Wm];exact(ac (U W2) aN).setCell (p:=⟨d,8,none⟩) (U Wg).2 _
  have ZY:=VV (ac (U Wd) (U W3))
  have Z1:Hid (bp W (f.heap.size+1) VT):=(U Wh).aa (U W3)
  have YS:Hid (bp W d [.int .i64 9,.string ⟨#[]⟩,.slice none 0 0,.slice none 0 0,.slice w u.length G,.slice none 0 0,.int .i64 0,.int .i64 0,.int .i64 q,.int .i64 0,.slice p i.length cv]):=by rw[Wm];exact(U Wu).set 8 _
  have Ze:Hid (SK (SN (d+1) W) W (λa=>Pl.all a p i)):=by rw[Wm];exact((U Zd).up aN).aw _
  have Y8:Hid (SK (SN (d+1) W) W (λa=>cL a w u)):=by rw[Wm];exact((U Y7).up aN).aw _
  obtain⟨L,Wn⟩:=al (W.setCell ⟨d,9,none⟩ (.int .i64 y))
  rw[<-Wn]
  have W4:Hid (Bw g L):=by rw[Wn];exact(ac (U W3) aN).setCell (p:=⟨d,9,none⟩) (U Wg).2 _
  have ZZ:=VV (ac (U Wd) (U W4))
  have Z2:Hid (bp L (f.heap.size+1) VT):=(U Wh).aa (U W4)
  have YT:Hid (bp L d [.int .i64 9,.string ⟨#[]⟩,.slice none 0 0,.slice none 0 0,.slice w u.length G,.slice none 0 0,.int .i64 0,.int .i64 0,.int .i64 q,.int .i64 y,.slice p i.length cv]):=by rw[Wn];exact(U YS).set 9 _
  have Zf:Hid (SK (SN (d+1) L) L (λa=>Pl.all a p i)):=by rw[Wn];exact((U Ze).up aN).aw _
  have Y9:Hid (SK (SN (d+1) L) L (λa=>cL a w u)):=by rw[Wn];exact((U Y8).up aN).aw _
  clear Wm Wn ZK ZB ZL ZD
  obtain⟨V0,XJ⟩:=al L.drew
  rw[<-XJ]
  have WB:Bw L V0:=by rw[XJ];exact(aN).drew
  have XV:=VV (ac (U W4) WB)
  have YK:=VV (ac (U Wd) (U XV))
  have Y4:Hid (bp V0 (f.heap.size+1) VT):=(U Wh).aa (U XV)
  have YU:Hid (bp V0 d [.int .i64 9,.string ⟨#[]⟩,.slice none 0 0,.slice none 0 0,.slice w u.length G,.slice none 0 0,.int .i64 0,.int .i64 0,.int .i64 q,.int .i64 y,.slice p i.length cv]):=(U YT).aa WB
  have Zg:Hid (SK (SN (d+1) V0) V0 (λa=>Pl.all a p i)):=(U Zf).up WB
  have Za:Hid (SK (SN (d+1) V0) V0 (λa=>cL a w u)):=(U Y9).up WB
  clear XJ WB
  have c:=U Y4;obtain⟨V1,W9⟩:=c 0 _ rfl;obtain⟨V2,Xa⟩:=c 1 _ rfl;obtain⟨V4,Xc⟩:=c 2 _ rfl;obtain⟨V5,Xd⟩:=c 3 _ rfl;obtain⟨V6,Xe⟩:=c 4 _ rfl;obtain⟨V7,Xf⟩:=c 5 _ rfl;obtain⟨V8,Xg⟩:=c 6 _ rfl;obtain⟨V9,Xh⟩:=c 7 _ rfl;obtain⟨Wa,Xi⟩:=c 8 _ rfl;obtain⟨Wb,Xj⟩:=c 9 _ rfl;obtain⟨V3,Xb⟩:=c 10 _ rfl;clear c
  have b:=U YU;obtain⟨Wx,_⟩:=b 0 _ rfl;obtain⟨Xk,_⟩:=b 1 _ rfl;obtain⟨Xl,_⟩:=b 2 _ rfl;obtain⟨Xn,_⟩:=b 3 _ rfl;obtain⟨Xo,_⟩:=b 4 _ rfl;obtain⟨Xp,_⟩:=b 5 _ rfl;obtain⟨Xq,_⟩:=b 6 _ rfl;obtain⟨Xr,_⟩:=b 7 _ rfl;obtain⟨Xs,_⟩:=b 8 _ rfl;obtain⟨Xt,_⟩:=b 9 _ rfl;obtain⟨Wy,_⟩:=b 10 _ rfl;clear b
  go_wp2
  refine aM (v:=.tuple #[.agg #[.int .i64 9,.string ⟨#[]⟩,.slice none 0 0,.slice none 0 0,.slice w u.length G,.slice none 0 0,.int .i64 0,.int .i64 0,.int .i64 q,.int .i64 y,.slice p i.length cv],.bool true]) (by simp[results,results18,go_sem,V1,V2,V4,V5,V6,V7,V8,V9,Wa,Wb,V3]) rfl ?_
  exact cS.some (x:=.mk 9 ⟨#[]⟩ [] [] u [] 0 0 q y i) (m:=⟨none,0,none,0,w,G,none,0,p,cv⟩) (aJ (U YK) (Nat.le_succ _) _ _ _ _ _ _ _ _ _ _ _) (U Z) bk.1 bk.2.1 ((U Za).fin11 (U Wg).1 (Nat.le_succ _)) bk.2.2.2.1 aV ((U Zg).fin11 (U Wg).1 (Nat.le_succ _))
end Go.Proofs.YtabmgpillccfaaaGreatDoor
