import Derived.Test.YtklgoolblpmmlaaGreatJnE
set_option linter.all false
set_option maxHeartbeats 16000000
set_option maxRecDepth 100000
namespace Go.Proofs.YtklgoolblpmmlaaGreat
open Go.RowKit Go.Sort Go.Lib Go.Proofs.Tryz
variable{W w:World}{i j k l m n s t:Nat}{e:Ex}{L M:List Ex}{o:Bool}{P Q R:Nat->Prop}{A r:List (List aH)}{x y z:List aH}{v:Value}{a:Option Addr}
theorem Vm.met1{O:Nat}{J:ia}{g:List Bool}{N:Nat}(h:Vm w n m k j l s t e L M o O P Q J r g N x y W){i:Nat}(VY:i<g.length):∃a v Y,W.cell? ⟨n,4,none⟩=some (.slice (some ⟨a,0,none⟩) g.length v)/\W.cell? ⟨a,i,none⟩=some (.bool Y)/\W.frozen? ⟨a,i,none⟩=false/\Vm w n m k j l s t e L M o O P Q J r (g.set i true) N x y (W.setCell ⟨a,i,none⟩ (.bool true))/\Q a:=by
 obtain⟨V6,F,p,C⟩:=h.m;obtain⟨a,v,V2⟩:∃a v,V6=.slice (some ⟨a,0,none⟩) g.length v:=by(rcases p.2 with ⟨_,V9⟩|⟨B,Z,V8,e,_⟩);(.omega);.exact⟨B,Z,e⟩
 subst V2;have E:=World.ownsRow.cellAt p i (by omega);rw[bL,VR VY] at E;have S:Tg 4 W a:=br p rfl;have b:Ky (λf=>f=a) W (W.setCell ⟨a,i,none⟩ (.bool true)):=cS _ _ _ _ rfl;have d:∀{R u:Nat},Tg R W u->R≠4->¬u=a:=λq V0 e=>q.ne S V0 e;have c:=d h.t (by decide);obtain⟨T,D,c3,I,V1⟩:=h.r;obtain⟨VW,G,VX⟩:=h.b;have VZ:fQ D (W.setCell ⟨a,i,none⟩ (.bool true)) T r:=by obtain⟨V5,V3,K,V4⟩:=I.o;exact⟨⟨V5,V3,bM K b λB e=>d (br K e) (by decide),λi z V7 V X=>(V4 i z V7 V X).ky b λu _ q=>d q (by decide)⟩,I.g⟩
 refine⟨a,v,g[i],F,by simpa using E,World.ownsRow.frozenAt p i,⟨b.cell h.c0 c,b.cell h.c1 c,b.cell h.c2 c,⟨T,D,b.cell c3 c,VZ,V1⟩,⟨_,b.cell F c,?_,λB e=>by simp[Value.ownBlock] at e;subst e;exact C _ rfl⟩,b.cell h.c5 c,⟨VW,G.ky b λz=>G.tg S z.symm,VX.ky b λf _ _ q=>d q (by decide)⟩,h.mt.ky b (λf A z=>(C a rfl).2 (z ▸ A)) (d (br h.mt.p rfl) (by decide)) (d (br h.mt.l rfl) (by decide)),λu=>VN b h.t.lt c (h.f u),h.t.ky b c,h.q,h.o,λf A=>⟨(h.lim f A).1,cN (h.lim f A).2 b.size⟩⟩,(C a rfl).1⟩;have:=(World.ownsRow.stored p i (.bool true)).1;rw[List.length_set,List.map_set];exact this
structure Ea(Inv:(Nat->Prop)->List (List aH)->World->Prop)(w0:World)(px mx pb lb mb n1 n2:Nat)(e:Ex)(E0 E1:List Ex)(al:Bool)(s:Nat)(Q O:Nat->Prop)(kb:ia)(nm:Nat)(zs0:List (List aH))(F0:Nat->Prop)(W1:World)(ms0:List Bool)(p:List aH)(u:Value)(idx hit:List Nat)(F:Nat->Prop)(wr:World):Prop where
 i:Inv F (zs0++hit.map λi=>jz s ((kb.map (·.1)).getD i []) p) wr
 g:∃P L,Vm w0 px mx pb lb mb n1 n2 e E0 E1 al s Q O kb (kb.map (·.1)) (e9 ms0 hit) nm P L wr/\∀h,h.length=eQ n1 n2 s->dB P (gG n1 s) h=jz s h p
 un:wr.ownsRow 0 3 1 u idx.length (mZ idx)
 uo:∀g,u.ownBlock=some g->O g
 nw:Nw F0 F W1
 ky:Ky (λk=>F0 k∨O k) W1 wr
 d:∀k,F k->¬O k
def BH(g:(Nat->Prop)->List (List aH)->World->Prop)(d:Nat->Prop)(l:List (List aH))(e:Nat->Prop)(f:World)(G:List aH->List aH->World->Prop)(k:Ending)(c:World):Prop:=k=.returned (.tuple #[])/\∃b j i,g b l c/\G j i c/\Nw d b f/\Ky (λa=>d a∨e a) f c/\∀a,b a->¬e a
theorem x7{J:(Nat->Prop)->List (List aH)->World->Prop}(XM:Tk w r (l+s) v J){I:Nat}{WY:List aH->Option (List aH)}{p:ia}{V2:List Bool}{Wc:Nat}{c:Nat}{g:List aH} (X:Vm w n m k j i l s e L M o t P R p (p.map (·.1)) V2 Wc y z W) (YU:V2.length=p.length) (YJ:J Q A W) (YI:∀b,Q b->¬R b) (YG:Bw w W) (Xn:t<2) (Y4:I=1-t) (Z0:0<l) (hn2:0<s) (hn12:l+s<=128) (ZT:(ip L M I).length<=1000000) (XJ:∀x∈ip L M I,x.fin) (X0:∀y Ym,y.length=l+s->Ym.length=eQ l s I->gu (ip L M I) (dB y (gG l I) Ym)=WY Ym) (hkl:p.length<=2147483648) (YW:∀d∈p,dH (eQ l s t) d.1) (Xa:(A++gj t s (o && decide (I=0)) e p (WY g) g) <+: r) (Wj:dH (eQ l s I) g) (XN:bX W a g) (YV:∀V7 Z6,a=some ⟨V7,Z6,none⟩->g≠[]->¬Q V7/\¬R V7) (YF:sE a):Calls prog 136 #[.pointer (some ⟨n,0,none⟩),.slice a g.length c,v] W (BH J Q (A++gj t s (o && decide (I=0)) e p (WY g) g) R W λZE ZD W2=>Vm w n m k j i l s e L M o t P R p (p.map (·.1)) (e9 V2 (fa t e p (WY g) g)) Wc ZE ZD W2):=by
 obtain⟨ZO,ZP,ZM,rfl⟩:=XM.fn;have Y5:I<2:=by omega
 have Z3:0<eQ l s I:=by unfold eQ;split<;>omega
 have WO:=uD X.mt (λb d=>(X.lim b (X.q b d).1).2) (c:=c) XN Wj.val Y5 Wj.len Z3 (by omega) ZT XJ;rw[X0 y g X.mt.pl Wj.len] at WO;have Yc:=kz Y5 X.c2;obtain⟨rl,Xm⟩:=bj g.length;have htw:IntKind.i64.wrap (1-(t:Int))=(I:Int):=by rw[hH _ (by omega)];omega
 obtain⟨V4,Y⟩:=bj (o && decide (I=0));rw[Y] at Yc Xa ⊢;obtain⟨VW,Wn⟩:=bj (WY g);rw[Wn] at WO Xa ⊢;have WL:∀b,VW=some b->(∀x∈b,eO x)/\cJ.ok (bF b):=λb Wm=>by have:=rI (mP (o:=gG l I) X.mt.pv Wj.val) XJ ((X0 y g X.mt.pl Wj.len).trans (Wn.trans Wm));exact⟨this.1,fM (by omega) this.1⟩
 obtain⟨XF,XK⟩:∃XF,(oP VW).1=.string XF:=by cases VW<;>exact⟨_,rfl⟩
 obtain⟨Za,XZ⟩:=bj ((oP VW).2);rw[XK,XZ,Xm] at WO;rw[Xm];have ZF:=X.c1;have YC:=X.c0;have Zn:=H WO;have Zz:=H Yc;have W5:=H X;have V6:=H XM;have Xx:=H YJ;have Xv:=H YI;have W3:=H YG;have Yu:=H Xa;have We:=H Wj;have Z9:=H YF;have Zd:=H XN;have Yv:=H YV;have Zk:=H WL;have Yq:=H (And.intro XK XZ);have Zw:=H Xm;have Zr:=H YW;have Yt:=H YU;have W6:=H Y4;have ZA:Hid (V4=true->I=0):=λd=>by rw[<-Y] at d;simp at d;exact d.2
 clear WO Yc X XM YJ YI YG Xa Wj YF XN YV WL XK XZ Xm YW YU X0 XJ Wn Y Y4;go_enter func136,ntmps136
 go_upto_region 3 with (first
  | (go_at_call 181;refine(U Zz).mono ?_;rintro _ Yo ⟨rfl,Ye⟩;have Ye:=Ye.symm;subst Ye)
  | (go_at_call 180;refine(U Zn).mono ?_;rintro _ Yo ⟨rfl,WP,WK⟩;have Zo:=H (And.intro WP WK);clear WP WK))
 obtain⟨WP,WK⟩:=U Zo;obtain⟨Xi,X1⟩:=(U W5).mat WP (.inl rfl) WK;have Wl:∀b,R b->¬Q b:=λb d x=>U Xv b x d;have YR:∀h,h.length=eQ l s t->dB (dB y (gG l I) g) (gG l t) h=jz t h g:=λh XT=>by have WG:=yF (n1:=l) (n2:=s) (P:=y) (h:=h) (p:=g) Xn (U W5).mt.pl XT (by rw[<-U W6];exact(U We).len);rw[U W6];exact WG
 have Y9:Ea J w n m k j i l s e L M o t P R p Wc A Q W V2 g (.slice none 0 0) [] [] Q Yo:= ⟨by simpa using(U V6).stb.keep (U Xx) X1 (U Xv),⟨_,z,Xi,YR⟩,World.ownsRow_nil _ _ _ _,λV e=>(by cases e),Nw.refl _ _,X1.mono λb d=>.inr d,U Xv⟩;have YB:=H Y9;have XA:=H Xi;have ZW:=Xi.c0;clear WP WK Xi X1 YR Y9 Wl YC ZF;go_upto_if 32 with fail;go_cut[7] (λYn Wx=>∃F,Yn=.bool (V4 && (fa t e p VW g).isEmpty)/\Hid (Ea J w n m k j i l s e L M o t P R p Wc A Q W V2 g (.slice none 0 0) [] (fa t e p VW g) F Wx))
 case first=>
  cases YY:VW with
  | none=>
   subst YY
   obtain⟨_,XP⟩:=U Yq
   have XQ:false=Za:=XP
   subst XQ
   go_wp2
   go_meet
   exact⟨Q,by simp[fa],U YB⟩
  | some b=>
   subst YY
   obtain⟨ZU,XP⟩:=U Yq
   have XQ:true=Za:=XP
   subst XQ
   have XL:Value.string (bF b)=.string XF:=ZU
   injection XL with XL
   subst XL
   obtain⟨WL,Wn⟩:=U Zk b rfl
   obtain⟨W9,YM,XR⟩:=(U XA).b
   have X5:=YM.look Wn
   have WV:=XR.i b WL
   obtain⟨Zc,Ws⟩:=bj ((W9 (bF b)).getD (.slice none 0 0))
   rw[Ws] at X5 WV
   have Y7:∀V,Zc.ownBlock=some V->R V:=λV V8=>by
    cases XS:W9 (bF b) with
    | none=>rw[XS] at Ws;subst Ws;cases V8
    | some Z7=>
     rw[XS] at Ws
     have:Z7=Zc:=Ws
     subst this
     exact(XR.b _ _ V XS V8).1
   obtain⟨u,Xc⟩:=bj (sC p b)
   have XX:=yN p b
   rw[Xc] at WV XX
   obtain⟨XG,WD,Z4⟩:=fT WV
   subst Z4
   obtain⟨Z,Xd⟩:=bj u.length
   obtain⟨D,XU⟩:∃D:Nat->Bool,D=λq=>VK (bZ (jz t ((p.map (·.1)).getD q []) g) e):=⟨_,rfl⟩
   have Xw:Hid (fa t e p (some b) g=u.filter D):=by rw[XU,<-Xc];rfl
   have Xy:Hid (Ea J w n m k j i l s e L M o t P R p Wc A Q W V2 g (.slice XG u.length WD) u ((u.take 0).filter D) Q Yo):=by
    have h:=U YB
    exact⟨by simpa using h.i,by simpa using h.g,WV,Y7,h.nw,h.ky,h.d⟩
   have Xz:=H X5
   have W4:=H Xd
   have Zm:=H XX
   have Zi:=H XU
   have ZH:=(U XA).c5
   have hil2:Z<=2147483648:=by
    rw[<-Xd,<-Xc]
    unfold sC
    rw[bQ]
    exact cw (List.length_filter_le _ _) (by simp;omega)
   rw[Xd] at Xz Xy
   have Y1:V4=(V4 && ((u.take 0).filter D).isEmpty):=by simp
   have Zy:=H Y1
   clear YM XR X5 WV Ws Y7 Xc XX Xd XU WL Wn XA Y1
   go_upto_region 5 with (at_lookup;refine b9 rfl (.tmp 36) (.tmp 37) 194 rfl _ _ rfl rfl (U Xz) ?_)
   go_loopw[7,40] (λYn Yi wr=>∃(C:Nat) (F:Nat->Prop),C<=Z/\Yi=.int .i64 (C:Int)/\Yn=.bool (V4 && ((u.take C).filter D).isEmpty)/\Hid (Ea J w n m k j i l s e L M o t P R p Wc A Q W V2 g (.slice XG Z WD) u ((u.take C).filter D) F wr)) (λ_ Yi _=>Z-(intOf Yi).toNat)
   case atStart=>exact⟨0,Q,bt,rfl,congrArg Value.bool (U Zy),Xy⟩
   case round=>
    clear Xy Xz ZH ZW
    obtain⟨C,F,hj,rfl,rfl,VY⟩:=hrel
    by_cases ZZ:C<Z
    .have ZR:(C:Int)<(Z:Int):=by omega
     have f:=U VY
     obtain⟨q,WJ⟩:∃q,u[C]?=some q:=⟨_,VR (by rw[U W4];exact ZZ)⟩
     have XW:=U Zm q (VQ WJ)
     obtain⟨Wz,Wy,N,YT⟩:=f.g
     have Xo:=f.un
     rw[U W4] at Xo
     obtain⟨WC,ZV⟩:∃WC,XG=some ⟨WC,0,none⟩:=by
      rcases Xo.2 with ⟨_,h0⟩|⟨ZQ,cap,cur,XI,_⟩
      .omega
      .injection XI with XI _ _;exact⟨ZQ,XI⟩
     subst ZV
     have ZJ:=World.ownsRow.cellAt Xo C (by omega)
     have YD:(mZ u)[C]?=some (.int .i64 (q:Int)):=by unfold mZ;rw[bL,WJ];rfl
     rw[YD] at ZJ
     obtain⟨vr,Pr,W7,X6,YX⟩:=N.r
     obtain⟨VX,Xl⟩:∃d,p[q]?=some d:=⟨_,VR XW⟩
     have Yb:(p.map (·.1))[q]?=some VX.1:=by rw[bL,Xl];rfl
     have Wh:(p.map (·.1)).getD q []=VX.1:=by rw[cQ,Yb];rfl
     obtain⟨K,WE,WA,Wu,Z5,XH,_,YZ,Z2⟩:=X6.get Yb
     subst Z5
     rw[bQ] at W7
     have WU:=U Zr VX (VQ Xl)
     have Y2:0<eQ l s t:=by unfold eQ;split<;>omega
     have V9:Bw wr wr.drew:=(VS).drew
     have WR:=N.ky (Ky.ab (F:=λ_=>False) V9) λ_ _=>id
     have Xk:=yc WR.mt (c:=Wu) (YZ.aa V9) WU.val Xn WU.len Y2 (by omega)
     rw[YT _ WU.len] at Xk
     obtain⟨Xq,Wr⟩:=bj (l+s)
     obtain⟨WB,Xb⟩:=bj (VK (bZ (jz t VX.1 g) e))
     obtain⟨WN,XV⟩:=bj VX.1.length
     obtain⟨V3,X7⟩:=bj p.length
     rw[Xb,Wr,XV] at Xk
     rw[XV] at XH
     rw[X7] at W7 XW
     have Zu:=H Xk
     have WH:wr.cell? ⟨n,0,none⟩=some (.pointer (some ⟨m,0,none⟩))/\wr.cell? ⟨n,1,none⟩=some (.int .i64 (t:Int))/\wr.cell? ⟨n,3,none⟩=some (.slice (some ⟨K,0,none⟩) V3 WE)/\wr.cell? ⟨K,q,none⟩=some (.slice WA WN Wu):=⟨N.c0,N.c1,W7,XH⟩
     have YN:=YX K (X6.g K rfl)
     have E:Hid (wr.drew.cell? ⟨n,0,none⟩=some (.pointer (some ⟨m,0,none⟩))/\wr.drew.cell? ⟨n,1,none⟩=some (.int .i64 (t:Int))/\wr.drew.cell? ⟨n,3,none⟩=some (.slice (some ⟨K,0,none⟩) V3 WE)/\wr.drew.cell? ⟨K,q,none⟩=some (.slice WA WN Wu)):=⟨ae WH.1 V9,ae WH.2.1 V9,ae WH.2.2.1 V9,ae WH.2.2.2 V9⟩
     have Zx:Hid (∀B,ko m k j l s e L M P (jz t VX.1 g) Wy B->Ky (λb=>b=k) wr.drew B->B.cell? ⟨n,0,none⟩=some (.pointer (some ⟨m,0,none⟩))/\B.cell? ⟨n,1,none⟩=some (.int .i64 (t:Int))/\B.cell? ⟨n,3,none⟩=some (.slice (some ⟨K,0,none⟩) V3 WE)/\B.cell? ⟨K,q,none⟩=some (.slice WA WN Wu)):=λB _ Wm=>by
      have Yg:¬n=k:=λx=>WR.t.ne (br WR.mt.p rfl) (by decide) x
      exact⟨Wm.cell (U E).1 Yg,Wm.cell (U E).2.1 Yg,Wm.cell (U E).2.2.1 Yg,Wm.cell (U E).2.2.2 YN.2.2.2.1⟩
     have Yy:=H WR
     have Zj:=H (And.intro WJ (And.intro Wh Xl))
     have HBT:=H Xb
     have Zq:=H Wr
     have Yw:=H X7
     have XC:=H WU
     have Zf:=H V9
     have hin:(q:Int)<(V3:Int):=by omega
     have Y3:(u.take (C+1)).filter D=(u.take C).filter D++if WB then [q] else []:=by
      rw[List.take_add_one,WJ,List.filter_append]
      have ZX:D q=WB:=by rw[U Zi];simp only;rw[Wh,Xb]
      cases WB<;>simp[ZX]
     have XE:=H Y3
     have Zv:Hid (fa t e p (some b) g=(u.take (C+1)).filter D++(u.drop (C+1)).filter D):=by
      show _=_
      rw[U Xw,<-List.filter_append,List.take_append_drop]
     clear f WJ N YT Xo YD W7 X6 YX Xl Yb Wh XH YZ Z2 WU Y2 V9 WR Xk Wr Xb XV X7 WH YN Y3 XW
     go_upto_region 7 with fail
     refine bH (λW:World=>W.cell? ⟨n,0,none⟩=some (.pointer (some ⟨m,0,none⟩))/\W.cell? ⟨n,1,none⟩=some (.int .i64 (t:Int))/\W.cell? ⟨n,3,none⟩=some (.slice (some ⟨K,0,none⟩) V3 WE)/\W.cell? ⟨K,q,none⟩=some (.slice WA WN Wu)) 20 ?_
     refine ap 0 (.pointer (some ⟨n,0,none⟩)) rfl (U E) ?_
     refine ap 1 (.pointer (some ⟨n,0,none⟩)) rfl (U E) ?_
     refine ap 2 (.pointer (some ⟨n,0,none⟩)) rfl (U E) ?_
     refine ap 3 (.pointer (some ⟨m,0,none⟩)) rfl (U E) ?_ λW2 Wg=>by obtain⟨Wd,W1,Yk,Yl⟩:=Wg;go_simp
     refine ap 4 (.pointer (some ⟨n,0,none⟩)) rfl (U E) ?_
     refine ap 5 (.pointer (some ⟨n,0,none⟩)) rfl (U E) ?_
     refine ap 6 (.pointer (some ⟨n,1,none⟩)) rfl (U E) ?_
     refine ap 7 (.int .i64 (t:Int)) rfl (U E) ?_ λW2 Wg=>by obtain⟨Wd,W1,Yk,Yl⟩:=Wg;go_simp
     refine ap 8 (.pointer (some ⟨n,0,none⟩)) rfl (U E) ?_
     refine ap 9 (.pointer (some ⟨n,0,none⟩)) rfl (U E) ?_
     refine ap 10 (.pointer (some ⟨n,3,none⟩)) rfl (U E) ?_
     refine ap 11 (.slice (some ⟨K,0,none⟩) V3 WE) rfl (U E) ?_ λW2 Wg=>by obtain⟨Wd,W1,Yk,Yl⟩:=Wg;go_simp
     refine ap 12 (.int .i64 (q:Int)) rfl (U E) ?_
     refine ap 13 (.pointer (some ⟨K,q,none⟩)) rfl (U E) ?_
     refine ap 14 (.slice WA WN Wu) rfl (U E) ?_ λW2 Wg=>by obtain⟨Wd,W1,Yk,Yl⟩:=Wg;go_simp
     refine bh 15 rfl λS G=>?_
     go_simp
     refine(U Zu).mono ?_
     rintro _ B ⟨rfl,Wi,Wa⟩
     go_simp
     have WF:=U Zx B Wi Wa
     have Xs:=H WF
     have Zp:=H (And.intro Wi Wa)
     clear Wi Wa
     refine VP G WF ?_
     clear G S
     refine bh 16 rfl λS G=>?_
     go_simp
     refine VP G WF ?_
     clear G S
     refine ap 17 (.slice (some ⟨k,0,none⟩) Xq Xq) rfl (U Xs) ?_
     refine ap 18 (.bool WB) rfl (U Xs) ?_
     refine bh 19 rfl λS G=>?_
     go_simp
     refine VP G (U Xs) ?_
     clear G S
     refine bh 20 rfl λS G=>?_
     go_simp
     refine bE G ?_
     clear G S
     refine cf ?_
     obtain⟨Wi,Wa⟩:=U Zp
     obtain⟨Xj,X2⟩:=(U Yy).mat Wi (.inl rfl) Wa
     have Xh:∀h,h.length=eQ l s t->dB (jz t VX.1 g) (gG l t) h=jz t h g:=λh XT=>UF Xn (U XC).len XT (by rw[<-U W6];exact(U We).len)
     have f:=U VY
     have Xf:Ky (λ_=>False) wr wr.drew:=Ky.ab (U Zf)
     have WM:Ky R wr B:=(Xf.mono λ_ d=>d.elim).trans X2 (Nw.refl _ _)
     have WW:B.ownsRow 0 3 1 (.slice (some ⟨WC,0,none⟩) Z WD) u.length (mZ u):=bM f.un ((Xf.mono λ_ d=>d.elim).trans Wa (Nw.refl _ _)) λV V8 x=>(br f.un V8).ne (br (U Yy).mt.p rfl) (by decide) x
     have XY:J F (A++((u.take C).filter D).map λq=>jz t ((p.map (·.1)).getD q []) g) B:=(U V6).stb.keep f.i WM f.d
     have X3:Ky (λb=>Q b∨R b) W B:=f.ky.trans WM λb d=>.inl (.inr d)
     cases WB with
     | false=>
      have YL:Ea J w n m k j i l s e L M o t P R p Wc A Q W V2 g (.slice (some ⟨WC,0,none⟩) Z WD) u ((u.take (C+1)).filter D) F B:=by
       rw[U XE]
       simp only[Bool.false_eq_true,if_false,VI]
       exact⟨XY,⟨_,Wy,Xj,Xh⟩,WW,f.uo,f.nw,X3,f.d⟩
      have Zg:=H YL
      have V1:(V4 && ((u.take C).filter D).isEmpty)=(V4 && ((u.take (C+1)).filter D).isEmpty):=by rw[U XE];simp
      have Xu:=H V1
      clear Wi Wa Xj X2 Xh f Xf WM WW XY X3 YL V1 WF
      go_wp2
      go_roundw
      case rel=>exact⟨C+1,F,by omega,by go_num,congrArg Value.bool (U Xu),U Zg⟩
      case measure=>simp[intOf];omega
     | true=>
      have YK:Bw B B.drew:=(VS).drew
      have WX:Ky (λ_=>False) B B.drew:=Ky.ab YK
      have X8:=Xj.ky WX λ_ _=>id
      obtain⟨VZ,Yj,bo,W8,ZI,W9,Wb,YO⟩:=X8.met1 (i:=q) (by rw[jG,U Yt,U Yw];omega)
      rw[jG,U Yt,U Yw] at W8
      have Xp:Ky (λb=>b=VZ) B.drew (B.drew.setCell ⟨VZ,q,none⟩ (.bool true)):=cS _ _ _ _ rfl
      have Zb:Tg 4 B.drew VZ:=by
       obtain⟨vm,Wd,W1,_⟩:=X8.m
       rw[W8] at Wd
       injection Wd with Wd
       subst Wd
       exact br W1 rfl
      have Xg:Ky R wr (B.drew.setCell ⟨VZ,q,none⟩ (.bool true)):=(WM.trans WX λ_ d=>d.elim).trans (Xp.mono λb x=>x ▸ YO) (Nw.refl _ _)
      obtain⟨Ww,Yf⟩:=bj (B.drew.setCell ⟨VZ,q,none⟩ (.bool true))
      rw[Yf] at Wb Xp Xg
      have Y8:Ww.ownsRow 0 3 1 (.slice (some ⟨WC,0,none⟩) Z WD) u.length (mZ u):=bM (bM WW WX λ_ _=>id) Xp λV V8 x=>(br (bM WW WX λ_ _=>id) V8).ne Zb (by decide) x
      have YQ:J F (A++((u.take C).filter D).map λq=>jz t ((p.map (·.1)).getD q []) g) Ww:=(U V6).stb.keep f.i Xg f.d
      have X4:Ky (λb=>Q b∨R b) W Ww:=f.ky.trans Xg λb d=>.inl (.inr d)
      have Yd:(u.take (C+1)).filter D=(u.take C).filter D++[q]:=by rw[U XE];rfl
      have Wh:=(U Zj).2.1
      have YH:Bw w Ww:=(U W3).trans (X4.below (λb d=>by
       rcases d with d|d
       .exact((U V6).stb.foot (U Xx) b d).1
       .exact((U W5).lim b d).1) (U W3).size)
      have WS:A++((u.take C).filter D).map (λq=>jz t ((p.map (·.1)).getD q []) g)++[jz t VX.1 g] <+: r:=by
       refine List.IsPrefix.trans ?_ (U Yu)
       unfold gj
       rw[U Zv,Yd]
       simp only[ep,dX,List.map_nil,Wh,cI]
       exact(List.prefix_append_right_inj _).2 ((List.prefix_append_right_inj _).2 (List.prefix_append _ _))
      have X9:(jz t VX.1 g).length=l+s:=ut Xn (U XC).len (by rw[<-U W6];exact(U We).len)
      obtain⟨Wv,Wk,V0,Wf⟩:=(U V6).call F _ Ww (some ⟨k,0,none⟩) Xq (jz t VX.1 g) YQ YH WS ⟨X9,UQ (U XC).val (U We).val⟩ Wb.mt.p.row (λV7 W0 T _=>by
       injection T with T
       injection T with T
       subst T
       exact λx=>f.d _ x Wb.o.2.2.1) (jv _ _)
      rw[X9,U Zq] at V0
      have Xt:=H V0
      have Ze:=H Wf
      have V5:Hid (B.drew.cell? ⟨n,4,none⟩=some (.slice (some ⟨VZ,0,none⟩) V3 Yj)):=W8
      have Zs:=H Wb
      have ZB:=H Y8
      have Yr:=H X4
      have ZC:Hid ((B.setCell ⟨VZ,q,none⟩ (.bool true)).drew=Ww):=Yf
      have Zl:=H Xh
      have XD:=H Yd
      have Zh:=H Wh
      clear Wi Wa Xj X2 Xh f Xf WM WW XY X3 WF YK WX X8 Xp Zb Xg Y8 YQ X4 Yd Wh YH WS X9 V0 Wf Wb YO Yf W8
      go_upto_region 9 with fail
      refine bH (λW:World=>W.cell? ⟨n,4,none⟩=some (.slice (some ⟨VZ,0,none⟩) V3 Yj)) 6 ?_
      refine ap 0 (.pointer (some ⟨n,0,none⟩)) rfl (U V5) ?_
      refine ap 1 (.pointer (some ⟨n,0,none⟩)) rfl (U V5) ?_
      refine ap 2 (.pointer (some ⟨n,4,none⟩)) rfl (U V5) ?_
      refine ap 3 (.slice (some ⟨VZ,0,none⟩) V3 Yj) rfl (U V5) ?_
      refine ap 4 (.int .i64 (q:Int)) rfl (U V5) ?_
      refine ap 5 (.bool false) rfl (U V5) ?_
      refine bh 6 rfl λS G=>?_
      go_simp
      refine bE G ?_
      clear G S
      refine bh 7 rfl λS G=>?_
      go_simp
      refine bE G ?_
      clear G S
      refine cf ?_
      rw[U ZC]
      clear ZI W9
      go_wp2_with (refine cX rfl (.tmp 70) (.tmp 71) _ rfl _ _ (by rfl) (by rfl) (U Xt) (U Ze) ?_;rintro ZL Z8 WT;have XB:=H WT;obtain⟨WI,_⟩:=WT;refine⟨_,WI,?_⟩;clear WI)
      go_roundw
      case rel=>
       obtain⟨_,Xr,Yh,WZ,Wt⟩:=U XB
       have f:=U VY
       have Wb:=U Zs
       have Wl:∀b,R b->¬F b:=λb d x=>f.d b x d
       refine⟨C+1,Xr,by omega,by go_num,?_,?_,⟨_,Wy,?_,U Zl⟩,bM (U ZB) Wt λV V8=>Wl V (f.uo V V8),f.uo,f.nw.trans WZ ?_,(U Yr).trans Wt λb d=>?_,λb d x=>?_⟩
       .rw[U XD];simp
       .rw[U XD,ep,<-cI]
        simp only[dX,List.map_nil,U Zh]
        exact Yh
       .rw[U XD,vt]
        exact Wb.ky Wt Wl
       .exact f.ky.size |> λWG=>by have:=(U Yr).size;exact this
       .rcases f.nw b d with d|d
        .exact .inl (.inl d)
        .exact .inr d
       .rcases WZ b d with d|d
        .exact f.d b d x
        .have:=(Wb.lim b x).2;omega
      case measure=>simp[intOf];omega
    .have ZR:¬(C:Int)<(Z:Int):=by omega
     go_wp2
     go_meet
     have f:=U VY
     rw[fz (by rw[U W4];omega),<-U Xw] at f
     exact⟨F,by rw[fz (by rw[U W4];omega),<-U Xw],f.i,f.g,World.ownsRow_nil _ _ _ _,λV e=>(by cases e),f.nw,f.ky,f.d⟩
 case rest=>
  obtain⟨F,rfl,VY⟩:=hcut
  rename World=>Wx
  obtain⟨Wz,Wy,N,_⟩:=(U VY).g
  have f:=U VY
  obtain⟨ZN,V1⟩:=bj (V4 && (fa t e p VW g).isEmpty)
  have Xu:=H V1
  have Zt:=H N
  cases ZN with
  | false=>
   rw[V1]
   clear V1 N f
   go_wp2
   go_end0
   have f:=U VY
   refine⟨rfl,F,Wz,Wy,?_,U Zt,f.nw,f.ky,f.d⟩
   unfold gj
   rw[U Xu]
   simpa using f.i
  | true=>
   rw[V1]
   have Y:V4=true/\fa t e p VW g=[]:=by simpa using V1
   have Z1:g≠[]:=λZK=>by
    have:=(U We).len
    rw[ZK] at this
    simp at this
    unfold eQ at this
    split at this<;>omega
   have Y6:I=0:=(U ZA) Y.1
   have Ya:g.length=l:=by have:=(U We).len;rw[Y6] at this;exact this
   have Y0:bX Wx a g:=f.ky.row (U Zd) λV7 W0 WG YE d=>by
    rcases d with d|d
    .exact(U Yv V7 W0 WG YE).1 d
    .exact(U Yv V7 W0 WG YE).2 d
   have XO:=pe N.mt (c:=c) Y0 (U We).val Ya Z0
   have YC:=N.c0
   have WS:A++[g++List.replicate s aH.null] <+: r:=by
    have:=U Yu
    unfold gj at this
    rw[Y.2,Y.1] at this
    simpa using this
   have YP:J F A Wx:=by
    have:=f.i
    rw[Y.2] at this
    simpa using this
   have YA:Hid (∀O,ko m k j l s e L M P Wz (g++List.replicate s aH.null) O->Ky (λb=>b=j) Wx O->Vm w n m k j i l s e L M o t P R p (p.map (·.1)) (e9 V2 (fa t e p VW g)) Wc Wz (g++List.replicate s aH.null) O/\Ky R Wx O/\∃Wv Wk,xf (.func ZO ZP ZM) (.slice (some ⟨j,0,none⟩) (l+s) (l+s)) Wv Wk/\Calls prog Wv Wk O (gm J F (A++[g++List.replicate s aH.null]) O)):=λO Wq Xe=>by
    obtain⟨WQ,Wp⟩:=N.mat Wq (.inr rfl) Xe
    have ZY:Ky (λb=>Q b∨R b) W O:=f.ky.trans Wp λb d=>.inl (.inr d)
    have ZS:Bw w O:=(U W3).trans (ZY.below (λb d=>by
     rcases d with d|d
     .exact((U V6).stb.foot (U Xx) b d).1
     .exact((U W5).lim b d).1) (U W3).size)
    have YS:(g++List.replicate s aH.null).length=l+s:=by simp[Ya]
    obtain⟨Wv,Wk,V0,Wf⟩:=(U V6).call F A O (some ⟨j,0,none⟩) (l+s) _ ((U V6).stb.keep YP Wp f.d) ZS WS ⟨YS,Wq.lv⟩ Wq.l.row (λV7 W0 T _=>by
     injection T with T
     injection T with T
     subst T
     exact λx=>f.d _ x WQ.o.2.2.2) (jv _ _)
    rw[YS] at V0
    exact⟨WQ,Wp,Wv,Wk,V0,Wf⟩
   obtain⟨Xq,Wr⟩:=bj (l+s)
   rw[U Zw] at XO
   have Yp:=H XO
   simp only[Wr] at Yp YA
   have Yz:=H Y
   clear V1 N f Y Z1 Y6 Ya Y0 XO WS YP Wr
   go_wp2_with (first
    | (go_at_call 183;refine(U Yp).mono ?_;rintro _ O ⟨rfl,Wq,Xe⟩;obtain⟨WQ,Wp,Wv,Wk,V0,Wf⟩:=U YA O Wq Xe;have Yx:=H WQ;have Ys:=H Wp;have Xt:=H V0;have V5:=H Wf;clear Wq Xe WQ Wp V0 Wf)
    | (refine cX rfl (.tmp 75) (.tmp 81) _ rfl _ _ (by rfl) (by rfl) (U Xt) (U V5) ?_;rintro ZL Z8 WT;have XB:=H WT;obtain⟨WI,_⟩:=WT;refine⟨_,WI,?_⟩;clear WI))
   go_end0
   obtain⟨_,Xr,Yh,WZ,Wt⟩:=U XB
   have f:=U VY
   have Wl:∀b,R b->¬F b:=λb d x=>f.d b x d
   refine⟨rfl,Xr,Wz,g++List.replicate s aH.null,?_,(U Yx).ky Wt Wl,f.nw.trans WZ ?_,(f.ky.trans (U Ys) λb d=>.inl (.inr d)).trans Wt λb d=>?_,λb d x=>?_⟩
   .unfold gj
    rw[(U Yz).2,(U Yz).1]
    simpa using Yh
   .have:=f.ky.size;have:=(U Ys).size;omega
   .rcases f.nw b d with d|d
    .exact .inl (.inl d)
    .exact .inr d
   .rcases WZ b d with d|d
    .exact f.d b d x
    .have:=((U Yx).lim b x).2;omega
def VG(e:Bool)(c:Nat)(d:List (List aH))(b:List Bool):List (List aH):=(d.zip b).filterMap λa=>if e && !a.2 then some (a.1++List.replicate c aH.null) else none
theorem vz{sa:Bool}{n2:Nat}{a:List Bool}{h:List aH}(c:r[n]?=some h)(b:a[n]?=some o):VG sa n2 (r.take (n+1)) (a.take (n+1))=VG sa n2 (r.take n) (a.take n)++if sa && !o then [h++List.replicate n2 aH.null] else []:=by
 unfold VG;rw[List.take_add_one,List.take_add_one,c,b];have d:(r.take n).length=(a.take n).length:=by have e:=(bD c).1;have f:=(bD b).1;simp;omega
 simp only[Option.toList_some];rw[List.zip_append d,List.filterMap_append];congr 1;cases sa<;>cases o<;>simp
theorem re(e:Bool)(d:Nat)(c:List (List aH))(b:List Bool)(a:Nat):VG e d (c.take a) (b.take a) <+: VG e d c b:=by
 unfold VG;have:(c.take a).zip (b.take a)=(c.zip b).take a:=by rw[List.zip_eq_zipWith,List.zip_eq_zipWith,List.take_zipWith]
 rw[this];conv=>rhs;rw[<-List.take_append_drop a (c.zip b),List.filterMap_append]
 exact List.prefix_append _ _
structure EE(Inv:(Nat->Prop)->List (List aH)->World->Prop)(w0:World)(px mx pb lb mb n1 n2:Nat)(e:Ex)(E0 E1:List Ex)(al:Bool)(s:Nat)(Q O:Nat->Prop)(kb:ia)(nm:Nat)(zs0:List (List aH))(F0:Nat->Prop)(W1:World)(ms:List Bool)(sa:Bool)(j:Nat)(F:Nat->Prop)(wr:World):Prop where
 i:Inv F (zs0++VG sa n2 ((kb.map (·.1)).take j) (ms.take j)) wr
 g:∃P L,Vm w0 px mx pb lb mb n1 n2 e E0 E1 al s Q O kb (kb.map (·.1)) ms nm P L wr
 nw:Nw F0 F W1
 ky:Ky (λk=>F0 k∨O k) W1 wr
 d:∀k,F k->¬O k
theorem xW{J:(Nat->Prop)->List (List aH)->World->Prop}(Wg:Tk w r (l+s) v J){f:ia}{p:List Bool}{S:Nat} (V7:Vm w n m k j i l s e L M o t P R f (f.map (·.1)) p S x y W) (WN:p.length=f.length) (We:J Q A W) (WH:∀d,Q d->¬R d) (WG:Bw w W) (Xx:t<2) (Xv:0<l) (Xt:f.length<=2147483648) (WP:∀b∈f,dH (eQ l s t) b.1) (Wf:(A++VG (o && decide (t=0)) s (f.map (·.1)) p) <+: r):Calls prog 137 #[.pointer (some ⟨n,0,none⟩),v] W (BH J Q (A++VG (o && decide (t=0)) s (f.map (·.1)) p) R W λXf Xe XG=>Vm w n m k j i l s e L M o t P R f (f.map (·.1)) p S Xf Xe XG):=by
 obtain⟨Xm,Xn,Xl,rfl⟩:=Wg.fn;obtain⟨D,V9⟩:=bj (o && decide (t=0));rw[V9] at Wf ⊢;obtain⟨XF,Xg,c3,N,V8⟩:=V7.r;obtain⟨V2,V5,WW⟩:=N.form;rw[bQ] at WW;subst WW;obtain⟨B,Wp⟩:=bj f.length;rw[Wp] at c3 Xt;have Xs:∀Z,(Value.slice V2 f.length V5).ownBlock=some Z->R Z:=λZ Xk=>(V8 Z (N.g Z Xk)).1;have Xb:Hid (∀wr (XC:Nat),Ky (λd=>Q d∨R d) W wr->(∃x y,Vm w n m k j i l s e L M o t P R f (f.map (·.1)) p S x y wr)->wr.cell? ⟨n,3,none⟩=some (.slice V2 B V5)->True):=λ_ _ _ _ _=>trivial;have Wz:Hid (EE J w n m k j i l s e L M o t P R f S A Q W p D 0 Q W/\W.cell? ⟨n,3,none⟩=some (.slice V2 B V5)):=⟨⟨by simpa [VG] using We,⟨x,y,V7⟩,Nw.refl _ _,Ky.refl _ _,WH⟩,c3⟩;have Wc:=H Wg;have W4:=H We;have Wx:=H WG;have W6:=H Wf;have W7:=H WP;have T:=H WN;have G:=H Wp;have Xc:=H V9;have W8:=H V7;have Xd:Hid (D=true->t=0):=λb=>by rw[<-V9] at b;simp at b;exact b.2
 clear Wg V7 We WH WG Wf WP WN Wp V9 N V8 Xs Xb;go_enter func137,ntmps137;go_upto_region 1 with fail;go_loopw[11] (λWu wr=>∃(g:Nat) (E:Nat->Prop),g<=B/\Wu=.int .i64 (g:Int)/\Hid (EE J w n m k j i l s e L M o t P R f S A Q W p D g E wr/\wr.cell? ⟨n,3,none⟩=some (.slice V2 B V5))) (λWu _=>B-(intOf Wu).toNat);case atStart=>exact⟨0,Q,bt,rfl,Wz⟩
 case round=>
  clear Wz c3;obtain⟨g,E,XO,rfl,I⟩:=hrel;by_cases Wn:g<B
  ·(have Xo:(g:Int)<(B:Int):=by omega);obtain⟨a,c3⟩:=U I;obtain⟨V1,WD,z⟩:=a.g;obtain⟨XF,Xg,V4,N,V8⟩:=z.r;rw[c3] at V4;injection V4 with V4;subst V4;obtain⟨C,Wq⟩:∃b,f[g]?=some b:=⟨_,VR (by rw[U G];exact Wn)⟩;(have Ws:(f.map (·.1))[g]?=some C.1:=by rw[bL,Wq];rfl);obtain⟨XN,XK,XH,XE,XB,Xi,_,WS,Xw⟩:=N.get Ws;injection XB with Xy Xz XA;subst Xy XA;obtain⟨XM,XP,V3,WF,Xj,_,_,_⟩:=z.met1 (i:=g) (by rw[U T,U G];exact Wn);rw[U T,U G] at WF;obtain⟨Xh,Wi⟩:∃WE,p[g]?=some WE:=⟨_,VR (by rw[U T,U G];exact Wn)⟩;(have Xq:V3=Xh:=by obtain⟨XS,Wa,WY,_⟩:=z.m;rw[WF] at Wa;injection Wa with Wa;subst Wa;(have WL:p.length=B:=by rw[U T,U G]);rw[WL] at WY;have:=World.ownsRow.cellAt WY g (by omega);rw[Xj,bL,Wi] at this;simpa using this);subst Xq;have Wt:=kz Xx z.c2;rw[U Xc] at Wt;have WT:=U W7 C (VQ Wq);have XI:=z.c0;have XJ:=z.c1;obtain⟨WL,Wm⟩:=bj C.1.length;rw[Wm] at Xi;have WV:=vz (sa:=D) (n2:=s) Ws Wi;have Wb:=H Wt;have V0:=H WV;have V:=H z;have WB:=H WT;have W3:=H Wm;have Xa:=H WS;(have Xr:D=false∨(D=true/\V3=true)∨(D=true/\V3=false):=by cases D<;>cases V3<;>simp);clear a z N V8 Wq Ws WS Xw Wi Wt WT Wm WV Xz;rcases Xr with Wj|Wj|⟨Wk,Wl⟩;(.subst Wj;go_wp2_with (go_at_call 181;refine(U Wb).mono ?_;rintro _ WZ ⟨rfl,u⟩;have u:=u.symm;subst u);go_roundw;(case rel=>obtain⟨a,c3⟩:=U I;refine⟨g+1,E,by omega,by go_num,⟨?_,a.g,a.nw,a.ky,a.d⟩,c3⟩;rw[U V0];simpa using a.i);case measure=>simp[intOf];omega);.obtain⟨Wk,Wl⟩:=Wj;subst Wk Wl;go_wp2_with (go_at_call 181;refine(U Wb).mono ?_;rintro _ WZ ⟨rfl,u⟩;have u:=u.symm;subst u);go_roundw;(case rel=>obtain⟨a,c3⟩:=U I;refine⟨g+1,E,by omega,by go_num,⟨?_,a.g,a.nw,a.ky,a.d⟩,c3⟩;rw[U V0];simpa using a.i);case measure=>simp[intOf];omega
   .subst Wk Wl;have WU:t=0:=U Xd rfl;(have Wr:C.1.length=l:=by have:=(U WB).len;rw[WU] at this;exact this);obtain⟨a,_⟩:=U I;have Wh:=pe (U V).mt (c:=XE) (U Xa) (U WB).val Wr Xv;rw[U W3] at Wh;(have WQ:A++VG true s ((f.map (·.1)).take g) (p.take g)++[C.1++List.replicate s aH.null] <+: r:=by refine List.IsPrefix.trans ?_ (U W6);have Wd:=re true s (f.map (·.1)) p (g+1);rw[U V0] at Wd;simp only[Bool.not_false,Bool.and_self,if_true] at Wd;rw[cI];exact(List.prefix_append_right_inj _).2 Wd);(have WC:Hid (∀q,ko m k j l s e L M P V1 (C.1++List.replicate s aH.null) q->Ky (λd=>d=j) wr q->Vm w n m k j i l s e L M o t P R f (f.map (·.1)) p S V1 (C.1++List.replicate s aH.null) q/\Ky R wr q/\∃VZ X,xf (.func Xm Xn Xl) (.slice (some ⟨j,0,none⟩) (l+s) (l+s)) VZ X/\Calls prog VZ X q (gm J E (A++VG true s ((f.map (·.1)).take g) (p.take g)++[C.1++List.replicate s aH.null]) q)):=λq O VX=>by obtain⟨VY,K⟩:=(U V).mat O (.inr rfl) VX;have Xu:Ky (λd=>Q d∨R d) W q:=a.ky.trans K λd b=>.inl (.inr b);have Xp:Bw w q:=(U Wx).trans (Xu.below (λd b=>by rcases b with b|b;(.exact((U Wc).stb.foot (U W4) d b).1);.exact((U W8).lim d b).1) (U Wx).size);(have WM:(C.1++List.replicate s aH.null).length=l+s:=by simp[Wr]);obtain⟨VZ,X,VW,V6⟩:=(U Wc).call E _ q (some ⟨j,0,none⟩) (l+s) _ ((U Wc).stb.keep a.i K a.d) Xp WQ ⟨WM,O.lv⟩ O.l.row (λWE XR Y _=>by injection Y with Y;injection Y with Y;subst Y;exact λF=>a.d _ F VY.o.2.2.2) (jv _ _);rw[WM] at VW;exact⟨VY,K,VZ,X,VW,V6⟩);obtain⟨XQ,WO⟩:=bj (l+s);have Ww:=H Wh;simp only[WO] at Ww WC;clear WU Wr a Wh WQ WO
    go_wp2_with (first
     | (go_at_call 181;refine(U Wb).mono ?_;rintro _ WZ ⟨rfl,u⟩;have u:=u.symm;subst u)
     | (go_at_call 183;refine(U Ww).mono ?_;rintro _ q ⟨rfl,O,VX⟩;obtain⟨VY,K,VZ,X,VW,V6⟩:=U WC q O VX;have WA:=H VY;have Wy:=H K;have W2:=H VW;have W1:=H V6;have W5:=H VX;clear O VX VY K VW V6)
     | (refine cX rfl (.tmp 32) (.tmp 38) _ rfl _ _ (by rfl) (by rfl) (U W2) (U W1) ?_;rintro XL XT WR;have W9:=H WR;obtain⟨WJ,_⟩:=WR;refine⟨_,WJ,?_⟩;clear WJ))
    go_roundw;(case rel=>obtain⟨_,W0,XD,WX,Wv⟩:=U W9;obtain⟨a,c3⟩:=U I;have WI:∀d,R d->¬E d:=λd b F=>a.d d F b;refine⟨g+1,W0,by omega,by go_num,⟨?_,⟨_,_,(U WA).ky Wv WI⟩,a.nw.trans WX ?_,(a.ky.trans (U Wy) λd b=>.inl (.inr b)).trans Wv λd b=>?_,λd b F=>?_⟩,?_⟩;(.rw[U V0,<-cI];simpa using XD);(.have:=a.ky.size;have:=(U Wy).size;omega);(.rcases a.nw d b with b|b;(.exact .inl (.inl b));.exact .inr b);(.rcases WX d b with b|b;(.exact a.d d b F);.have:=((U WA).lim d F).2;omega);.exact Wv.cell ((U W5).cell c3 λF=>(U V).t.ne (br (U V).mt.l rfl) (by decide) F) (WI n (U V).o.1));case measure=>simp[intOf];omega
  ·(have Xo:¬(g:Int)<(B:Int):=by omega);go_wp2;go_end0;obtain⟨a,_⟩:=U I;obtain⟨V1,WD,z⟩:=a.g;have WK:=a.i;rw[fz (by rw[bQ,U G];omega),fz (by rw[U T,U G];omega)] at WK;exact⟨rfl,E,V1,WD,WK,z,a.nw,a.ky,a.d⟩
end Go.Proofs.YtklgoolblpmmlaaGreat
