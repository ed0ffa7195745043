import Derived.Test.YtabmgpillccfaaaGreatDoorTzA
set_option linter.all false
set_option maxHeartbeats 4000000
set_option maxRecDepth 100000
namespace Go.Proofs.YtabmgpillccfaaaGreatDoor
open Go.RowKit Go.Sort Go.Proofs.Tryz
theorem kR:∀(XW:Nat) (a:Pl),a.size<=XW->dO a=true->pQ a->a.fin->∀(x:Pm) (p:World),dN p a x->GT p->Calls prog 13 #[a.val x] p (h5 (fo a) p):=by
 intro XW;induction XW with
 | zero=>intro a h;exact absurd h (by rw[Pl.am];omega)
 | succ XW YG=>
 intro a Zz YP YV YR x p YN XX;obtain⟨ZD,Yk⟩:=al (h5 (fo a) p);rw[<-Yk];have WK:=VV Yk;clear Yk;have XY:=jj YV;have hF:=Pl.af YR;have XZ:=YP;rw[lh,dW,dW] at XZ;have X1:(cm a && bg a && ds a (hh a))=true:=XZ.1.1;rw[dW,dW] at X1;have YL:=X1.1.1;have YM:=X1.1.2;have Yv:=VV λ(Wl:Nat) (z:Pl) (VW:a.args[Wl]?=some z) (YZ:Pm) (N:World) (Yj:dN N z YZ) (XL:Bw p N)=>by have XF:=a8 VW;have ZF:=Pl.av VW;exact YG z (by omega) (by have YK:=XZ.2;simp at YK;exact YK z XF) (ji XY.2 XF) (Pl.ag hF.2.2 XF) YZ N Yj (XX.aa XL)
 have Yw:=VV λ(Wl:Nat) (z:Ex) (VW:a.ex[Wl]?=some z) (XD:Option Addr) (Xx:Nat) (N:World) (Yj:Ex.all N XD z.args) (XL:Bw p N)=>by have XF:=a8 VW;exact k1 z.size z aV (eB XY.1.ex XF) (Ex.ag hF.2.1 XF) XD Xx N Yj (XX.aa XL)
 obtain⟨WL,XE⟩:=bq ((p.alloc (a.box x)).alloc (.cells #[.bool false,.string ⟨#[]⟩,.slice none 0 0] 46));have WG:Bw p WL:=by rw[<-XE];exact ae (ae aN _) _
 have Yt:=VV WG;have YY:RC WL (p.heap.size+1):=by rw[<-XE];have:=RC.new (p.alloc (a.box x));simpa using this
 have YC:=VV YY;have YU:p.heap.size+1<WL.heap.size:=by rw[<-XE];simp
 have YB:=VV YU;have Yb:Hid (dL WL p.heap.size 0 a x):=by show dL _ _ _ _ _;rw[<-XE];exact(dL.new p a x).aa (ae aN _)
 have X5:=VV (YN.aa WG);have Xa:=VV λ(N:World) (XL:Bw p N)=>XX.aa XL;have Yh:=VV XE;have Xu:=VV XY.1;have WF:=VV hF.1;have WI:=VV YL;have Yf:=VV YM;obtain⟨Xq,X0⟩:=al a.args.length;obtain⟨Xr,Ym⟩:=al a.ex.length;have XU:=VV X0;have XV:=VV Ym;have Zq:Xq<=1048576:=by rw[X0];exact hF.1.2.2.2.2.2.1
 have ZE:Xr<=1048576:=by rw[Ym];exact hF.1.2.1
 have Zh:WL.cell? ⟨p.heap.size,10,none⟩=some (.slice x.aP Xq x.cP):=by rw[X0];exact(U Yb).c10
 unfold Pl.box at Yh;rw[Pl.ad];clear WG YY YU X1 YL YM YP XZ YV YR YN XX XE XY hF X0 Ym YG Zz;go_enter func13,ntmps13;go_upto_region 1 with fail;rw[U Yh];clear Yh;go_wp2_with fail;(try unfold Bw at *);generalize WX:WL.heap.size=base at *;have Wn:=VV (show p.heap.size+1<base from U YB);have XH:=VV (show p.heap.size<=base by have:=U Wn;omega);have Wq:Hid (base=WL.heap.size):=WX.symm;have W9:Hid (Below base WL WL):=aN;clear WX YB;go_loopw[3,19] (λWH Wl WA=>∃(k:Nat),k<=Xq/\Wl=.int .i64 k/\Hid (NL WA base WH ((a.args.take k).map fo))/\Hid (Below base WL WA)) (λWH Wl WA=>Xq-(intOf Wl).toNat);case atStart=>exact⟨0,bf,rfl,NL.nil _ _,W9⟩
 case round=>
  clear Zh;obtain⟨k,XB,rfl,Z,VY⟩:=hrel;have X9:Hid (Bw p wr):=(U Yt).trans ((U VY).mono (U XH));have Xe:Hid (base<=wr.heap.size):=by have:=(U VY).size;rw[<-U Wq] at this;exact this
  have V2:Hid (Bw WL wr):=by have:=U VY;rw[U Wq] at this;exact this
  by_cases WW:k<Xq
  ·(have o:(k:Int)<(Xq:Int):=by omega);obtain⟨z,VW⟩:∃z,a.args[k]?=some z:=⟨_,ba (by rw[<-U XU];exact WW)⟩;have W8:=VV (em fo VW);(have Xn:Hid (((a.args.take k).map fo).length+1<=1099511627776):=by show _<=_;rw[VP,List.length_take,<-U XU];omega);obtain⟨ZM,ZN,WS,XM⟩:=Pl.all_get (Pl.ab _ (U X5).p (U V2)) VW;obtain⟨X3,YQ,YJ,l⟩:=Pl.ao XM;have WG:=ae (ar _ wr) (z.box X3);have W7:=VV (U Yv k z VW X3 (wr.alloc (z.box X3)) ((dN.mk YJ l).aa WG) (ac (U X9) WG));have WB:=VV WG;have Yx:=VV YQ.load;have Ye:=VV (dL.new wr z X3).load;unfold h5 at W7;rw[Pl.ad] at W7 Yx Ye;unfold Pl.box at W7 WB Ye;obtain⟨V8,B⟩:=al (fo z);rw[<-B] at W7 W8;rw[WS];clear VW XM l WG YQ YJ B WS
   go_wp2_with (first
    | (refine aH ?_ 28 (.tmp 21) rfl _ (by simp[Act.eval]) _ (U Yx) ?_;. simp[Region.wanted,yielded])
    | (refine aH ?_ 28 (.tmp 6) rfl _ (by simp[Act.eval]) _ (U Ye) ?_;. simp[Region.wanted,yielded])
    | (go_at_call 13;refine(U W7).mono ?_;rintro Xs Wm ⟨XJ,Xy,rfl,Ws,Wg⟩;rw[Nt.ad];have l:=ae (ar _ Wm) (.cells #[.bool V8.b,.string V8.s,.slice XJ V8.l.length Xy] 46);have X8:=VV ((U Z).fresh (U Xe) Ws (U WB).size l);have W:=VV (ac (ac (U WB) Wg) l);have Xc:=VV ((U Z).aa (U W));clear Wg l Ws)
    | (refine cM _ rfl (.tmp 23) (.tmp 26) rfl base u3 _ (V8,XJ,Xy) Wm.heap.size rfl (U Xc) rfl (U X8) (eJ (by simp[go_sem]) (by simp[go_sem]) (by simp[go_sem])) (U Xn) (aQ (U Xe) (U W).size) ?_;intro XS Xl Wt We;have Xd:=VV Wt;have WJ:=VV ((U VY).trans (((U W).mono (U Xe)).trans We));clear Wt We))
   go_roundw;(case rel=>exact⟨k+1,by omega,by go_num,(by rw[U W8];exact Xd),WJ⟩);case measure=>simp[intOf]<;>omega
  ·(have o:¬(k:Int)<(Xq:Int):=by omega);(have WR:k=Xq:=by omega);have Wr:=U Z;rw[show (a.args.take k).map fo=a.args.map fo by rw[WR,U XU,gJ]] at Wr;replace Z:=VV Wr;have Ya:=VV ((U Yb).aa (U V2));have X6:=VV ((U X5).aa (U V2));have YD:Hid (RC wr (p.heap.size+1)):=(U YC).aa (U VY) (U Wn);(have Xx:wr.cell? ⟨p.heap.size,2,none⟩=some (.slice x.aE Xr x.cE):=by rw[U XV];exact(U Ya).c2);subst WR;clear Wr o WW XB Yt YC Yb X5 W9 Wq V2 VY Yv;obtain⟨XC,Zv⟩:=al wr;obtain⟨ZK,Zt⟩:=al u3;subst Zv Zt;go_wp2_with fail;(try unfold Bw at *);generalize WX:XC.heap.size=Xw at *;have Wq:Hid (Xw=XC.heap.size):=WX.symm;have W9:Hid (Below Xw XC XC):=aN;clear WX;go_loopw[4,32] (λWH Wl WA=>∃(k:Nat),k<=Xr/\Wl=.int .i64 k/\Hid (NL WA Xw WH ((a.ex.take k).map fS))/\Hid (Below Xw XC WA)) (λWH Wl WA=>Xr-(intOf Wl).toNat);case atStart=>exact⟨0,bf,rfl,NL.nil _ _,W9⟩
   case round=>
    clear Xx;obtain⟨k,XB,rfl,Wy,VY⟩:=hrel;have Yy:Hid (p.heap.size<=Xw):=aQ (U XH) (U Xe);(have V2:Hid (Bw XC wr):=by have:=U VY;rw[U Wq] at this;exact this);have X:Hid (Bw p wr):=(U X9).trans ((U VY).mono (U Yy));(have Wo:Hid (Xw<=wr.heap.size):=by have:=(U VY).size;rw[<-U Wq] at this;exact this);by_cases WW:k<Xr
    ·(have o:(k:Int)<(Xr:Int):=by omega);obtain⟨z,VW⟩:∃z,a.ex[k]?=some z:=⟨_,ba (by rw[<-U XV];exact WW)⟩;have W8:=VV (em fS VW);(have Xn:Hid (((a.ex.take k).map fS).length+1<=1099511627776):=by show _<=_;rw[VP,List.length_take,<-U XV];omega);obtain⟨YH,Y0,WS,XM⟩:=Ex.all_get (Ex.ab _ (U X6).o.e (U V2)) VW;obtain⟨XD,Xx,⟨X4,Yr,ZG,ZH,ZI,ZJ⟩,YO⟩:=Ex.ao XM;have WG:=ae (ar _ wr) (.cells #[.int .i64 z.op,.int .i64 z.n,.int .i64 z.v.k,.int .i64 z.v.n,.string z.v.s,.slice XD z.args.length Xx] 72);have W7:=VV (U Yw k z VW XD Xx (wr.alloc (.cells #[.int .i64 z.op,.int .i64 z.n,.int .i64 z.v.k,.int .i64 z.v.n,.string z.v.s,.slice XD z.args.length Xx] 72)) (Ex.ab _ YO WG) (ac (U X) WG));have WB:=VV WG;unfold h5 at W7;rw[Ex.ad] at W7;obtain⟨V8,B⟩:=al (fS z);rw[<-B] at W7 W8;rw[WS];clear WS XM YO VW B WG
     go_wp2_with (first
      | (go_at_call 39;refine(U W7).mono ?_;rintro Xs Wm ⟨XJ,Xy,rfl,Ws,Wg⟩;rw[Nt.ad];have l:=ae (ar _ Wm) (.cells #[.bool V8.b,.string V8.s,.slice XJ V8.l.length Xy] 46);have X8:=VV ((U Wy).fresh (U Wo) Ws (U WB).size l);have W:=VV (ac (ac (U WB) Wg) l);have Xc:=VV ((U Wy).aa (U W));clear Wg l Ws)
      | (refine cM _ rfl (.tmp 36) (.tmp 39) rfl Xw u4 _ (V8,XJ,Xy) Wm.heap.size rfl (U Xc) rfl (U X8) (eJ (by simp[go_sem]) (by simp[go_sem]) (by simp[go_sem])) (U Xn) (aQ (U Wo) (U W).size) ?_;intro XS Xl Wt We;have Xd:=VV Wt;have WJ:=VV ((U VY).trans (((U W).mono (U Wo)).trans We));clear Wt We))
     go_roundw;(case rel=>exact⟨k+1,by omega,by go_num,(by rw[U W8];exact Xd),WJ⟩);case measure=>simp[intOf]<;>omega
    ·(have o:¬(k:Int)<(Xr:Int):=by omega);(have WR:k=Xr:=by omega);have Wr:=U Wy;rw[show (a.ex.take k).map fS=a.ex.map fS by rw[WR,U XV,gJ]] at Wr;replace Wy:=VV Wr;replace Z:=VV ((U Z).aa (U V2));have Wx:=VV ((U Ya).aa (U V2));have Xo:=VV ((U X6).o.aa (U V2));have Wz:Hid (RC wr (p.heap.size+1)):=(U YD).aa (U VY) (be (U Wn) (U Xe));have WD:Hid (p.heap.size+1<wr.heap.size):=be (U Wn) (aQ (U Xe) (U Wo));replace Wy:=VV ((U Wy).low (U Xe));have T:Hid (base<=wr.heap.size):=aQ (U Xe) (U Wo);have VZ:wr.cell? ⟨p.heap.size,0,none⟩=some (.int .i64 a.op):=(U Wx).c0;subst WR;clear Wr o WW XB Yw X6 YD Ya Wq V2 W9 VY Yy Wo Xe X9;obtain⟨u,Zx⟩:=al wr;obtain⟨ZL,Zu⟩:=al u4;subst Zx Zu;have s:=(U Xu).op;(have Zl:a.op=1∨a.op=2∨a.op=3∨a.op=4∨a.op=5∨a.op=6∨a.op=7∨a.op=8∨a.op=9∨a.op=10∨a.op=11∨a.op=12:=by omega);clear s;rcases Zl with s|s|s|s|s|s|s|s|s|s|s|s
     .have C:a.args=[]:=by
       have h:=U WI
       unfold cm at h
       simp[s] at h
       exact h
      have Y:Hid (fo a=cY [bz ⟨#[115,99,97,110]⟩,bz a.tab]):=by
       show _=_
       rw[eM,s,C,show VO aX 1=[115,99,97,110] by kernel_rfl]
       rfl
      have y:Hid (Bw u u.drew):=(aN).drew
      have P:Hid (CA u [((p.heap.size,1),.string a.tab)]):=⟨(U Wx).c1,trivial⟩
      have b:=VV ((U P).aa (U y))
      have f:=y
      rw[s] at VZ
      clear P s C
      go_upto_region 15 with fail
      clear VZ
      refine VR (λN:World=>CA N [((p.heap.size,1),.string a.tab)]) 4 ?_
      refine ai 1 (.pointer (some ⟨p.heap.size,1,none⟩)) rfl (U b) ?_
      refine ai 2 (.string a.tab) rfl (U b) ?_ λO m=>by simp only[CA] at m;obtain⟨Q,_⟩:=m;go_simp
      refine ap 0 rfl λi d=>?_
      go_simp
      refine(bI ⟨#[115,99,97,110]⟩ (u.drew)).mono ?_
      rintro _ u0 ⟨rfl,e⟩
      replace f:=VV (ac (U f) e)
      replace b:=VV ((U b).aa e)
      clear e
      go_simp
      refine aO d (U b) ?_
      clear d i
      refine ap 3 rfl λi d=>?_
      go_simp
      refine(bI a.tab (u0)).mono ?_
      rintro _ u3 ⟨rfl,e⟩
      replace f:=VV (ac (U f) e)
      replace b:=VV ((U b).aa e)
      clear e
      go_simp
      refine aO d (U b) ?_
      clear d i
      refine ap 4 rfl λi d=>?_
      go_simp
      have D:base<=u3.heap.size:=aQ (U T) (U f).size
      have l:=ae (ar _ u3) (.cells #[.bool false,.string ⟨#[115,99,97,110]⟩,.slice none 0 0,.bool false,.string a.tab,.slice none 0 0] 46)
      have A:Hid (Nt.aj (λk=>base<=k/\k<(u3.alloc (.cells #[.bool false,.string ⟨#[115,99,97,110]⟩,.slice none 0 0,.bool false,.string a.tab,.slice none 0 0] 46)).heap.size) (u3.alloc (.cells #[.bool false,.string ⟨#[115,99,97,110]⟩,.slice none 0 0,.bool false,.string a.tab,.slice none 0 0] 46)) (some ⟨u3.heap.size,0,none⟩) [bz ⟨#[115,99,97,110]⟩,bz a.tab]):=cW u3 [(bz ⟨#[115,99,97,110]⟩,none,0),(bz a.tab,none,0)] base D (by
       intro V8 B
       simp only[List.mem_cons,List.not_mem_nil,or_false] at B
       rcases B with rfl|rfl
       .exact cf
       .exact cf)
      replace f:=VV (ac (U f) l)
      replace b:=VV ((U b).aa l)
      clear l D
      refine aS d ?_
      clear d i
      refine ap 5 rfl λi d=>?_
      go_simp
      refine(cc _ _ _ _).mono ?_
      rintro _ Xk ⟨rfl,e⟩
      replace f:=VV (ac (U f) e)
      replace A:=VV (aU (U A) e)
      clear e
      go_simp
      refine aS d ?_
      clear d i
      obtain⟨V9,Wa,Wb,WT,WU,WV⟩:=(U Wz).aa (U f) (U WD)
      refine ap 6 rfl λi d=>?_
      go_simp
      refine aS d ?_
      clear d i
      refine bh ?_
      go_wp2
      refine aM (v:=.agg #[.bool true,.string ⟨#[]⟩,.slice (some ⟨u3.heap.size,0,none⟩) 2 2]) (by simp[results,results13,go_sem,V9,Wa,Wb]) rfl ?_
      rw[U WK]
      exact h5.eq (eO (ac (U X) (U f)) (Nat.le_succ _) (U Wn) (U A) rfl) (U Y)
     .obtain⟨WQ,Wf⟩:∃WQ,a.ex=[WQ]:=by
       have h:=U Yf
       unfold bg at h
       simp[s] at h
       exact List.length_eq_one_iff.1 h
      have w:=U Wy
      rw[Wf] at w
      rcases w.get (n:=1) rfl with ⟨V5,_⟩|⟨V,XK,rfl,E⟩
      .simp at V5
      obtain⟨V4,V7,W4,W5,W6,M⟩:=E 0 _ rfl
      replace M:=VV M
      obtain⟨t,WZ⟩:=al (fS WQ)
      rw[<-WZ] at W4 W5 W6 M
      clear w E Wy
      obtain⟨G,C⟩:∃G,a.args=[G]:=by
       have h:=U WI
       unfold cm at h
       simp[s] at h
       exact List.length_eq_one_iff.1 h
      have w:=U Z
      rw[C] at w
      rcases w.get (n:=1) rfl with ⟨V5,_⟩|⟨j,Wc,rfl,E⟩
      .simp at V5
      obtain⟨q,r,I,J,K,g⟩:=E 0 _ rfl
      replace g:=VV g
      obtain⟨c,F⟩:=al (fo G)
      rw[<-F] at I J K g
      clear w E Z
      have Y:Hid (fo a=cY [bz ⟨#[102,105,108,116,101,114]⟩,t,c]):=by
       show _=_
       rw[eM,s,C,Wf,WZ,F,show VO aX 2=[102,105,108,116,101,114] by kernel_rfl]
       rfl
      have y:Hid (Bw u u.drew):=(aN).drew
      have P:Hid (CA u [((V,0),.bool t.b),((V,1),.string t.s),((V,2),.slice V4 t.l.length V7),((j,0),.bool c.b),((j,1),.string c.s),((j,2),.slice q c.l.length r)]):=⟨W4,W5,W6,I,J,K,trivial⟩
      have b:=VV ((U P).aa (U y))
      have f:=y
      replace M:=VV (aU (U M) (U y))
      replace g:=VV (aU (U g) (U y))
      rw[s] at VZ
      clear P s WZ Wf F C W4 W5 W6 I J K
      go_upto_region 17 with fail
      clear VZ
      refine VR (λN:World=>CA N [((V,0),.bool t.b),((V,1),.string t.s),((V,2),.slice V4 t.l.length V7),((j,0),.bool c.b),((j,1),.string c.s),((j,2),.slice q c.l.length r)]) 7 ?_
      refine ai 1 (.slice (some ⟨V,0,none⟩) 1 XK) rfl (U b) ?_
      refine ai 2 (.pointer (some ⟨V,0,none⟩)) rfl (U b) ?_
      refine ai 3 (.agg #[.bool t.b,.string t.s,.slice V4 t.l.length V7]) rfl (U b) ?_ λO m=>by simp only[CA] at m;obtain⟨Q,S,V0,Wd,Wh,Wi,_⟩:=m;go_simp
      refine ai 4 (.slice (some ⟨j,0,none⟩) 1 Wc) rfl (U b) ?_
      refine ai 5 (.pointer (some ⟨j,0,none⟩)) rfl (U b) ?_
      refine ai 6 (.agg #[.bool c.b,.string c.s,.slice q c.l.length r]) rfl (U b) ?_ λO m=>by simp only[CA] at m;obtain⟨Q,S,V0,Wd,Wh,Wi,_⟩:=m;go_simp
      refine ap 0 rfl λi d=>?_
      go_simp
      refine(bI ⟨#[102,105,108,116,101,114]⟩ (u.drew)).mono ?_
      rintro _ u0 ⟨rfl,e⟩
      replace f:=VV (ac (U f) e)
      replace b:=VV ((U b).aa e)
      replace M:=VV (aU (U M) e)
      replace g:=VV (aU (U g) e)
      clear e
      go_simp
      refine aO d (U b) ?_
      clear d i
      refine ap 7 rfl λi d=>?_
      go_simp
      have D:base<=u0.heap.size:=aQ (U T) (U f).size
      have l:=ae (ar _ u0) (.cells #[.bool false,.string ⟨#[102,105,108,116,101,114]⟩,.slice none 0 0,.bool t.b,.string t.s,.slice V4 t.l.length V7,.bool c.b,.string c.s,.slice q c.l.length r] 46)
      have A:Hid (Nt.aj (λk=>base<=k/\k<(u0.alloc (.cells #[.bool false,.string ⟨#[102,105,108,116,101,114]⟩,.slice none 0 0,.bool t.b,.string t.s,.slice V4 t.l.length V7,.bool c.b,.string c.s,.slice q c.l.length r] 46)).heap.size) (u0.alloc (.cells #[.bool false,.string ⟨#[102,105,108,116,101,114]⟩,.slice none 0 0,.bool t.b,.string t.s,.slice V4 t.l.length V7,.bool c.b,.string c.s,.slice q c.l.length r] 46)) (some ⟨u0.heap.size,0,none⟩) [bz ⟨#[102,105,108,116,101,114]⟩,t,c]):=cW u0 [(bz ⟨#[102,105,108,116,101,114]⟩,none,0),(t,V4,V7),(c,q,r)] base D (by
       intro V8 B
       simp only[List.mem_cons,List.not_mem_nil,or_false] at B
       rcases B with rfl|rfl|rfl
       .exact cf
       .exact U M
       .exact U g)
      replace f:=VV (ac (U f) l)
      replace b:=VV ((U b).aa l)
      replace M:=VV (aU (U M) l)
      replace g:=VV (aU (U g) l)
      clear l D
      refine aS d ?_
      clear d i
      refine ap 8 rfl λi d=>?_
      go_simp
      refine(cc _ _ _ _).mono ?_
      rintro _ Xk ⟨rfl,e⟩
      replace f:=VV (ac (U f) e)
      replace A:=VV (aU (U A) e)
      clear e
      go_simp
      refine aS d ?_
      clear d i
      obtain⟨V9,Wa,Wb,WT,WU,WV⟩:=(U Wz).aa (U f) (U WD)
      refine ap 9 rfl λi d=>?_
      go_simp
      refine aS d ?_
      clear d i
      refine bh ?_
      go_wp2
      refine aM (v:=.agg #[.bool true,.string ⟨#[]⟩,.slice (some ⟨u0.heap.size,0,none⟩) 3 3]) (by simp[results,results13,go_sem,V9,Wa,Wb]) rfl ?_
      rw[U WK]
      exact h5.eq (eO (ac (U X) (U f)) (Nat.le_succ _) (U Wn) (U A) rfl) (U Y)
     .obtain⟨G,C⟩:∃G,a.args=[G]:=by
       have h:=U WI
       unfold cm at h
       simp[s] at h
       exact List.length_eq_one_iff.1 h
      have w:=U Z
      rw[C] at w
      rcases w.get (n:=1) rfl with ⟨V5,_⟩|⟨j,Wc,rfl,E⟩
      .simp at V5
      obtain⟨q,r,I,J,K,g⟩:=E 0 _ rfl
      replace g:=VV g
      obtain⟨c,F⟩:=al (fo G)
      rw[<-F] at I J K g
      clear w E Z
      obtain⟨Wk,Wf⟩:=al (a.ex.map fS)
      rw[<-Wf] at Wy
      obtain⟨Wv,Ww,rfl,Xp⟩:=(U Wy).node
      have R:=VV Xp
      clear Xp Wy
      have Y:Hid (fo a=cY [bz ⟨#[112,114,111,106,101,99,116]⟩,cY Wk,c]):=by
       show _=_
       rw[eM,s,C,F,Wf,show VO aX 3=[112,114,111,106,101,99,116] by kernel_rfl]
       rfl
      have y:Hid (Bw u u.drew):=(aN).drew
      have P:Hid (CA u [((j,0),.bool c.b),((j,1),.string c.s),((j,2),.slice q c.l.length r)]):=⟨I,J,K,trivial⟩
      have b:=VV ((U P).aa (U y))
      have f:=y
      replace R:=VV (aU (U R) (U y))
      replace g:=VV (aU (U g) (U y))
      rw[s] at VZ
      clear P s C F Wf I J K
      go_upto_region 19 with fail
      clear VZ
      refine VR (λN:World=>CA N [((j,0),.bool c.b),((j,1),.string c.s),((j,2),.slice q c.l.length r)]) 6 ?_
      refine ai 1 (.slice Wv Wk.length Ww) rfl (U b) ?_
      refine ai 3 (.slice (some ⟨j,0,none⟩) 1 Wc) rfl (U b) ?_
      refine ai 4 (.pointer (some ⟨j,0,none⟩)) rfl (U b) ?_
      refine ai 5 (.agg #[.bool c.b,.string c.s,.slice q c.l.length r]) rfl (U b) ?_ λO m=>by simp only[CA] at m;obtain⟨Q,S,V0,_⟩:=m;go_simp
      refine ap 0 rfl λi d=>?_
      go_simp
      refine(bI ⟨#[112,114,111,106,101,99,116]⟩ (u.drew)).mono ?_
      rintro _ u0 ⟨rfl,e⟩
      replace f:=VV (ac (U f) e)
      replace b:=VV ((U b).aa e)
      replace R:=VV (aU (U R) e)
      replace g:=VV (aU (U g) e)
      clear e
      go_simp
      refine aO d (U b) ?_
      clear d i
      refine ap 2 rfl λi d=>?_
      go_simp
      refine(cc Wv Wk.length Ww (u0)).mono ?_
      rintro _ u2 ⟨rfl,e⟩
      replace f:=VV (ac (U f) e)
      replace b:=VV ((U b).aa e)
      replace R:=VV (aU (U R) e)
      replace g:=VV (aU (U g) e)
      clear e
      go_simp
      refine aO d (U b) ?_
      clear d i
      refine ap 6 rfl λi d=>?_
      go_simp
      have D:base<=u2.heap.size:=aQ (U T) (U f).size
      have l:=ae (ar _ u2) (.cells #[.bool false,.string ⟨#[112,114,111,106,101,99,116]⟩,.slice none 0 0,.bool true,.string ⟨#[]⟩,.slice Wv Wk.length Ww,.bool c.b,.string c.s,.slice q c.l.length r] 46)
      have A:Hid (Nt.aj (λk=>base<=k/\k<(u2.alloc (.cells #[.bool false,.string ⟨#[112,114,111,106,101,99,116]⟩,.slice none 0 0,.bool true,.string ⟨#[]⟩,.slice Wv Wk.length Ww,.bool c.b,.string c.s,.slice q c.l.length r] 46)).heap.size) (u2.alloc (.cells #[.bool false,.string ⟨#[112,114,111,106,101,99,116]⟩,.slice none 0 0,.bool true,.string ⟨#[]⟩,.slice Wv Wk.length Ww,.bool c.b,.string c.s,.slice q c.l.length r] 46)) (some ⟨u2.heap.size,0,none⟩) [bz ⟨#[112,114,111,106,101,99,116]⟩,cY Wk,c]):=cW u2 [(bz ⟨#[112,114,111,106,101,99,116]⟩,none,0),(cY Wk,Wv,Ww),(c,q,r)] base D (by
       intro V8 B
       simp only[List.mem_cons,List.not_mem_nil,or_false] at B
       rcases B with rfl|rfl|rfl
       .exact cf
       .exact U R
       .exact U g)
      replace f:=VV (ac (U f) l)
      replace b:=VV ((U b).aa l)
      replace R:=VV (aU (U R) l)
      replace g:=VV (aU (U g) l)
      clear l D
      refine aS d ?_
      clear d i
      refine ap 7 rfl λi d=>?_
      go_simp
      refine(cc _ _ _ _).mono ?_
      rintro _ Xk ⟨rfl,e⟩
      replace f:=VV (ac (U f) e)
      replace A:=VV (aU (U A) e)
      clear e
      go_simp
      refine aS d ?_
      clear d i
      obtain⟨V9,Wa,Wb,WT,WU,WV⟩:=(U Wz).aa (U f) (U WD)
      refine ap 8 rfl λi d=>?_
      go_simp
      refine aS d ?_
      clear d i
      refine bh ?_
      go_wp2
      refine aM (v:=.agg #[.bool true,.string ⟨#[]⟩,.slice (some ⟨u2.heap.size,0,none⟩) 3 3]) (by simp[results,results13,go_sem,V9,Wa,Wb]) rfl ?_
      rw[U WK]
      exact h5.eq (eO (ac (U X) (U f)) (Nat.le_succ _) (U Wn) (U A) rfl) (U Y)
     .obtain⟨WQ,Wf⟩:∃WQ,a.ex=[WQ]:=by
       have h:=U Yf
       unfold bg at h
       simp[s] at h
       exact List.length_eq_one_iff.1 h
      have w:=U Wy
      rw[Wf] at w
      rcases w.get (n:=1) rfl with ⟨V5,_⟩|⟨V,XK,rfl,E⟩
      .simp at V5
      obtain⟨V4,V7,W4,W5,W6,M⟩:=E 0 _ rfl
      replace M:=VV M
      obtain⟨t,WZ⟩:=al (fS WQ)
      rw[<-WZ] at W4 W5 W6 M
      clear w E Wy
      obtain⟨G,W0,C⟩:∃G W0,a.args=[G,W0]:=by
       have h:=U WI
       unfold cm at h
       simp[s] at h
       exact sp h
      have w:=U Z
      rw[C] at w
      rcases w.get (n:=2) rfl with ⟨V5,_⟩|⟨j,Wc,rfl,E⟩
      .simp at V5
      obtain⟨q,r,I,J,K,g⟩:=E 0 _ rfl
      replace g:=VV g
      obtain⟨c,F⟩:=al (fo G)
      rw[<-F] at I J K g
      obtain⟨V3,V6,W1,W2,W3,L⟩:=E 1 _ rfl
      replace L:=VV L
      obtain⟨o,WY⟩:=al (fo W0)
      rw[<-WY] at W1 W2 W3 L
      clear w E Z
      have Y:Hid (fo a=cY [bz ⟨#[106,111,105,110]⟩,t,c,o]):=by
       show _=_
       rw[eM,s,C,Wf,WZ,F,WY,show VO aX 4=[106,111,105,110] by kernel_rfl]
       rfl
      have y:Hid (Bw u u.drew):=(aN).drew
      have P:Hid (CA u [((V,0),.bool t.b),((V,1),.string t.s),((V,2),.slice V4 t.l.length V7),((j,0),.bool c.b),((j,1),.string c.s),((j,2),.slice q c.l.length r),((j,3),.bool o.b),((j,4),.string o.s),((j,5),.slice V3 o.l.length V6)]):=⟨W4,W5,W6,I,J,K,W1,W2,W3,trivial⟩
      have b:=VV ((U P).aa (U y))
      have f:=y
      replace M:=VV (aU (U M) (U y))
      replace g:=VV (aU (U g) (U y))
      replace L:=VV (aU (U L) (U y))
      rw[s] at VZ
      clear P s WZ Wf F WY C W4 W5 W6 I J K W1 W2 W3
      go_upto_region 21 with fail
      clear VZ
      refine VR (λN:World=>CA N [((V,0),.bool t.b),((V,1),.string t.s),((V,2),.slice V4 t.l.length V7),((j,0),.bool c.b),((j,1),.string c.s),((j,2),.slice q c.l.length r),((j,3),.bool o.b),((j,4),.string o.s),((j,5),.slice V3 o.l.length V6)]) 10 ?_
      refine ai 1 (.slice (some ⟨V,0,none⟩) 1 XK) rfl (U b) ?_
      refine ai 2 (.pointer (some ⟨V,0,none⟩)) rfl (U b) ?_
      refine ai 3 (.agg #[.bool t.b,.string t.s,.slice V4 t.l.length V7]) rfl (U b) ?_ λO m=>by simp only[CA] at m;obtain⟨Q,S,V0,Wd,Wh,Wi,WM,WN,XR,_⟩:=m;go_simp
      refine ai 4 (.slice (some ⟨j,0,none⟩) 2 Wc) rfl (U b) ?_
      refine ai 5 (.pointer (some ⟨j,0,none⟩)) rfl (U b) ?_
      refine ai 6 (.agg #[.bool c.b,.string c.s,.slice q c.l.length r]) rfl (U b) ?_ λO m=>by simp only[CA] at m;obtain⟨Q,S,V0,Wd,Wh,Wi,WM,WN,XR,_⟩:=m;go_simp
      refine ai 7 (.slice (some ⟨j,0,none⟩) 2 Wc) rfl (U b) ?_
      refine ai 8 (.pointer (some ⟨j,3,none⟩)) rfl (U b) ?_
      refine ai 9 (.agg #[.bool o.b,.string o.s,.slice V3 o.l.length V6]) rfl (U b) ?_ λO m=>by simp only[CA] at m;obtain⟨Q,S,V0,Wd,Wh,Wi,WM,WN,XR,_⟩:=m;go_simp
      refine ap 0 rfl λi d=>?_
      go_simp
      refine(bI ⟨#[106,111,105,110]⟩ (u.drew)).mono ?_
      rintro _ u0 ⟨rfl,e⟩
      replace f:=VV (ac (U f) e)
      replace b:=VV ((U b).aa e)
      replace M:=VV (aU (U M) e)
      replace g:=VV (aU (U g) e)
      replace L:=VV (aU (U L) e)
      clear e
      go_simp
      refine aO d (U b) ?_
      clear d i
      refine ap 10 rfl λi d=>?_
      go_simp
      have D:base<=u0.heap.size:=aQ (U T) (U f).size
      have l:=ae (ar _ u0) (.cells #[.bool false,.string ⟨#[106,111,105,110]⟩,.slice none 0 0,.bool t.b,.string t.s,.slice V4 t.l.length V7,.bool c.b,.string c.s,.slice q c.l.length r,.bool o.b,.string o.s,.slice V3 o.l.length V6] 46)
      have A:Hid (Nt.aj (λk=>base<=k/\k<(u0.alloc (.cells #[.bool false,.string ⟨#[106,111,105,110]⟩,.slice none 0 0,.bool t.b,.string t.s,.slice V4 t.l.length V7,.bool c.b,.string c.s,.slice q c.l.length r,.bool o.b,.string o.s,.slice V3 o.l.length V6] 46)).heap.size) (u0.alloc (.cells #[.bool false,.string ⟨#[106,111,105,110]⟩,.slice none 0 0,.bool t.b,.string t.s,.slice V4 t.l.length V7,.bool c.b,.string c.s,.slice q c.l.length r,.bool o.b,.string o.s,.slice V3 o.l.length V6] 46)) (some ⟨u0.heap.size,0,none⟩) [bz ⟨#[106,111,105,110]⟩,t,c,o]):=cW u0 [(bz ⟨#[106,111,105,110]⟩,none,0),(t,V4,V7),(c,q,r),(o,V3,V6)] base D (by
       intro V8 B
       simp only[List.mem_cons,List.not_mem_nil,or_false] at B
       rcases B with rfl|rfl|rfl|rfl
       .exact cf
       .exact U M
       .exact U g
       .exact U L)
      replace f:=VV (ac (U f) l)
      replace b:=VV ((U b).aa l)
      replace M:=VV (aU (U M) l)
      replace g:=VV (aU (U g) l)
      replace L:=VV (aU (U L) l)
      clear l D
      refine aS d ?_
      clear d i
      refine ap 11 rfl λi d=>?_
      go_simp
      refine(cc _ _ _ _).mono ?_
      rintro _ Xk ⟨rfl,e⟩
      replace f:=VV (ac (U f) e)
      replace A:=VV (aU (U A) e)
      clear e
      go_simp
      refine aS d ?_
      clear d i
      obtain⟨V9,Wa,Wb,WT,WU,WV⟩:=(U Wz).aa (U f) (U WD)
      refine ap 12 rfl λi d=>?_
      go_simp
      refine aS d ?_
      clear d i
      refine bh ?_
      go_wp2
      refine aM (v:=.agg #[.bool true,.string ⟨#[]⟩,.slice (some ⟨u0.heap.size,0,none⟩) 4 4]) (by simp[results,results13,go_sem,V9,Wa,Wb]) rfl ?_
      rw[U WK]
      exact h5.eq (eO (ac (U X) (U f)) (Nat.le_succ _) (U Wn) (U A) rfl) (U Y)
     .obtain⟨WQ,Wf⟩:∃WQ,a.ex=[WQ]:=by
       have h:=U Yf
       unfold bg at h
       simp[s] at h
       exact List.length_eq_one_iff.1 h
      have w:=U Wy
      rw[Wf] at w
      rcases w.get (n:=1) rfl with ⟨V5,_⟩|⟨V,XK,rfl,E⟩
      .simp at V5
      obtain⟨V4,V7,W4,W5,W6,M⟩:=E 0 _ rfl
      replace M:=VV M
      obtain⟨t,WZ⟩:=al (fS WQ)
      rw[<-WZ] at W4 W5 W6 M
      clear w E Wy
      obtain⟨G,W0,C⟩:∃G W0,a.args=[G,W0]:=by
       have h:=U WI
       unfold cm at h
       simp[s] at h
       exact sp h
      have w:=U Z
      rw[C] at w
      rcases w.get (n:=2) rfl with ⟨V5,_⟩|⟨j,Wc,rfl,E⟩
      .simp at V5
      obtain⟨q,r,I,J,K,g⟩:=E 0 _ rfl
      replace g:=VV g
      obtain⟨c,F⟩:=al (fo G)
      rw[<-F] at I J K g
      obtain⟨V3,V6,W1,W2,W3,L⟩:=E 1 _ rfl
      replace L:=VV L
      obtain⟨o,WY⟩:=al (fo W0)
      rw[<-WY] at W1 W2 W3 L
      clear w E Z
      have Y:Hid (fo a=cY [bz ⟨#[108,101,102,116,106,111,105,110]⟩,t,c,o]):=by
       show _=_
       rw[eM,s,C,Wf,WZ,F,WY,show VO aX 5=[108,101,102,116,106,111,105,110] by kernel_rfl]
       rfl
      have y:Hid (Bw u u.drew):=(aN).drew
      have P:Hid (CA u [((V,0),.bool t.b),((V,1),.string t.s),((V,2),.slice V4 t.l.length V7),((j,0),.bool c.b),((j,1),.string c.s),((j,2),.slice q c.l.length r),((j,3),.bool o.b),((j,4),.string o.s),((j,5),.slice V3 o.l.length V6)]):=⟨W4,W5,W6,I,J,K,W1,W2,W3,trivial⟩
      have b:=VV ((U P).aa (U y))
      have f:=y
      replace M:=VV (aU (U M) (U y))
      replace g:=VV (aU (U g) (U y))
      replace L:=VV (aU (U L) (U y))
      rw[s] at VZ
      clear P s WZ Wf F WY C W4 W5 W6 I J K W1 W2 W3
      go_upto_region 23 with fail
      clear VZ
      refine VR (λN:World=>CA N [((V,0),.bool t.b),((V,1),.string t.s),((V,2),.slice V4 t.l.length V7),((j,0),.bool c.b),((j,1),.string c.s),((j,2),.slice q c.l.length r),((j,3),.bool o.b),((j,4),.string o.s),((j,5),.slice V3 o.l.length V6)]) 10 ?_
      refine ai 1 (.slice (some ⟨V,0,none⟩) 1 XK) rfl (U b) ?_
      refine ai 2 (.pointer (some ⟨V,0,none⟩)) rfl (U b) ?_
      refine ai 3 (.agg #[.bool t.b,.string t.s,.slice V4 t.l.length V7]) rfl (U b) ?_ λO m=>by simp only[CA] at m;obtain⟨Q,S,V0,Wd,Wh,Wi,WM,WN,XR,_⟩:=m;go_simp
      refine ai 4 (.slice (some ⟨j,0,none⟩) 2 Wc) rfl (U b) ?_
      refine ai 5 (.pointer (some ⟨j,0,none⟩)) rfl (U b) ?_
      refine ai 6 (.agg #[.bool c.b,.string c.s,.slice q c.l.length r]) rfl (U b) ?_ λO m=>by simp only[CA] at m;obtain⟨Q,S,V0,Wd,Wh,Wi,WM,WN,XR,_⟩:=m;go_simp
      refine ai 7 (.slice (some ⟨j,0,none⟩) 2 Wc) rfl (U b) ?_
      refine ai 8 (.pointer (some ⟨j,3,none⟩)) rfl (U b) ?_
      refine ai 9 (.agg #[.bool o.b,.string o.s,.slice V3 o.l.length V6]) rfl (U b) ?_ λO m=>by simp only[CA] at m;obtain⟨Q,S,V0,Wd,Wh,Wi,WM,WN,XR,_⟩:=m;go_simp
      refine ap 0 rfl λi d=>?_
      go_simp
      refine(bI ⟨#[108,101,102,116,106,111,105,110]⟩ (u.drew)).mono ?_
      rintro _ u0 ⟨rfl,e⟩
      replace f:=VV (ac (U f) e)
      replace b:=VV ((U b).aa e)
      replace M:=VV (aU (U M) e)
      replace g:=VV (aU (U g) e)
      replace L:=VV (aU (U L) e)
      clear e
      go_simp
      refine aO d (U b) ?_
      clear d i
      refine ap 10 rfl λi d=>?_
      go_simp
      have D:base<=u0.heap.size:=aQ (U T) (U f).size
      have l:=ae (ar _ u0) (.cells #[.bool false,.string ⟨#[108,101,102,116,106,111,105,110]⟩,.slice none 0 0,.bool t.b,.string t.s,.slice V4 t.l.length V7,.bool c.b,.string c.s,.slice q c.l.length r,.bool o.b,.string o.s,.slice V3 o.l.length V6] 46)
      have A:Hid (Nt.aj (λk=>base<=k/\k<(u0.alloc (.cells #[.bool false,.string ⟨#[108,101,102,116,106,111,105,110]⟩,.slice none 0 0,.bool t.b,.string t.s,.slice V4 t.l.length V7,.bool c.b,.string c.s,.slice q c.l.length r,.bool o.b,.string o.s,.slice V3 o.l.length V6] 46)).heap.size) (u0.alloc (.cells #[.bool false,.string ⟨#[108,101,102,116,106,111,105,110]⟩,.slice none 0 0,.bool t.b,.string t.s,.slice V4 t.l.length V7,.bool c.b,.string c.s,.slice q c.l.length r,.bool o.b,.string o.s,.slice V3 o.l.length V6] 46)) (some ⟨u0.heap.size,0,none⟩) [bz ⟨#[108,101,102,116,106,111,105,110]⟩,t,c,o]):=cW u0 [(bz ⟨#[108,101,102,116,106,111,105,110]⟩,none,0),(t,V4,V7),(c,q,r),(o,V3,V6)] base D (by
       intro V8 B
       simp only[List.mem_cons,List.not_mem_nil,or_false] at B
       rcases B with rfl|rfl|rfl|rfl
       .exact cf
       .exact U M
       .exact U g
       .exact U L)
      replace f:=VV (ac (U f) l)
      replace b:=VV ((U b).aa l)
      replace M:=VV (aU (U M) l)
      replace g:=VV (aU (U g) l)
      replace L:=VV (aU (U L) l)
      clear l D
      refine aS d ?_
      clear d i
      refine ap 11 rfl λi d=>?_
      go_simp
      refine(cc _ _ _ _).mono ?_
      rintro _ Xk ⟨rfl,e⟩
      replace f:=VV (ac (U f) e)
      replace A:=VV (aU (U A) e)
      clear e
      go_simp
      refine aS d ?_
      clear d i
      obtain⟨V9,Wa,Wb,WT,WU,WV⟩:=(U Wz).aa (U f) (U WD)
      refine ap 12 rfl λi d=>?_
      go_simp
      refine aS d ?_
      clear d i
      refine bh ?_
      go_wp2
      refine aM (v:=.agg #[.bool true,.string ⟨#[]⟩,.slice (some ⟨u0.heap.size,0,none⟩) 4 4]) (by simp[results,results13,go_sem,V9,Wa,Wb]) rfl ?_
      rw[U WK]
      exact h5.eq (eO (ac (U X) (U f)) (Nat.le_succ _) (U Wn) (U A) rfl) (U Y)
     .obtain⟨G,C⟩:∃G,a.args=[G]:=by
       have h:=U WI
       unfold cm at h
       simp[s] at h
       exact List.length_eq_one_iff.1 h
      have w:=U Z
      rw[C] at w
      rcases w.get (n:=1) rfl with ⟨V5,_⟩|⟨j,Wc,rfl,E⟩
      .simp at V5
      obtain⟨q,r,I,J,K,g⟩:=E 0 _ rfl
      replace g:=VV g
      obtain⟨c,F⟩:=al (fo G)
      rw[<-F] at I J K g
      clear w E Z
      have Y:Hid (fo a=cY [bz ⟨#[103,114,111,117,112]⟩,cO a.cols,cY (a.aggs.map iN),c]):=by
       show _=_
       rw[eM,s,C,F,show VO aX 6=[103,114,111,117,112] by kernel_rfl]
       rfl
      obtain⟨Wu,Xh⟩:=al a.aggs.length
      have Xv:=VV Xh
      have Zi:u.cell? ⟨p.heap.size,5,none⟩=some (.slice x.aA Wu x.cA):=by rw[Xh];exact(U Wx).c5
      have Zr:Wu<=1048576:=by rw[Xh];exact(U WF).2.2.2.2.1
      have Yd:=VV ((U Xu).ag s)
      have X7:=VV (U Xo).a
      have YF:=VV (show CA u [((j,0),.bool c.b),((j,1),.string c.s),((j,2),.slice q c.l.length r)] from⟨I,J,K,trivial⟩)
      rw[s] at VZ
      clear s C Xh F I J K
      go_upto_region 26 with fail
      clear VZ
      go_wp2_with fail
      (try unfold Bw at *);generalize WX:u.heap.size=Wj at *
      have Wq:Hid (Wj=u.heap.size):=WX.symm
      have W9:Hid (Below Wj u u):=aN
      have Yz:Hid (p.heap.size<=Wj):=aQ (U XH) (U T)
      clear WX
      go_loopw[10,106] (λWH Wl WA=>∃(k:Nat),k<=Wu/\Wl=.int .i64 k/\Hid (NL WA Wj WH ((a.aggs.take k).map iN))/\Hid (Below Wj u WA)) (λWH Wl WA=>Wu-(intOf Wl).toNat)
      case atStart=>exact⟨0,bf,rfl,NL.nil _ _,W9⟩
      case round=>
       clear Zi
       obtain⟨k,XB,rfl,Xb,VY⟩:=hrel
       have V2:Hid (Bw u wr):=by have:=U VY;rw[U Wq] at this;exact this
       have Wo:Hid (Wj<=wr.heap.size):=by have:=(U VY).size;rw[<-U Wq] at this;exact this
       by_cases WW:k<Wu
       .have o:(k:Int)<(Wu:Int):=by omega
        obtain⟨z,VW⟩:∃z,a.aggs[k]?=some z:=⟨_,ba (by rw[<-U Xv];exact WW)⟩
        have W8:=VV (em iN VW)
        have Xn:Hid (((a.aggs.take k).map iN).length+1<=1099511627776):=by show _<=_;rw[VP,List.length_take,<-U Xv];omega
        obtain⟨YH,Y0,WS,X4,Yr⟩:=((U X7).aa (U V2)).get VW
        have X2:=U Yd z (a8 VW)
        have Ys:=VV ((U WF).2.2.2.2.2.2.2.2.2 z (a8 VW))
        obtain⟨WE,Wp⟩:=z
        simp only at X4 Yr X2 Ys
        obtain⟨VX,XO⟩:∃VX:Nat,WE=(VX:Int)+1:=⟨(WE-1).toNat,by have:=X2;omega⟩
        have Zn:VX<6:=by have:=X2;omega
        obtain⟨V1,Xz⟩:=al (VO ea WE)
        have Yi:Hid (ea[VX]?=some V1):=by
         show _=_
         have Zo:=fQ
         rw[Xz]
         unfold VO
         rw[show (WE-1).toNat=VX by omega,fC,ba (by omega)]
         rfl
        have Yc:=VV XO
        have Zm:(VX:Int)<6:=by omega
        have XI:Hid (iN (WE,Wp)=cY [bz (bs V1),dS Wp]):=by show _=_;rw[Xz];rfl
        rw[WS]
        clear WS VW Xz XO
        go_upto_region 29 with fail
        have WB:=VV (ae (ar _ wr) (.cells #[.int .i64 WE,.int .i64 Wp] 78))
        have Y1:Hid (Bw p wr):=(U X).trans ((U VY).mono (U Yz))
        have ZC:Hid (Wj<=(wr.alloc (.cells #[.int .i64 WE,.int .i64 Wp] 78)).heap.size):=aQ (U Wo) (U WB).size
        have ZB:Hid (wr.heap.size<(wr.alloc (.cells #[.int .i64 WE,.int .i64 Wp] 78)).heap.size):=by show _<_;simp
        have b:Hid (CA (wr.alloc (.cells #[.int .i64 WE,.int .i64 Wp] 78)) [((wr.heap.size,0),.int .i64 WE),((wr.heap.size,1),.int .i64 Wp)]):=⟨by simp[go_sem],by simp[go_sem],trivial⟩
        generalize Zw:wr.alloc (.cells #[.int .i64 WE,.int .i64 Wp] 78)=Xt at *
        have f:Hid (Bw Xt Xt.drew):=(aN).drew
        replace b:=VV ((U b).aa (U f))
        clear Zw X4 Yr
        refine VR (λN:World=>CA N [((wr.heap.size,0),.int .i64 WE),((wr.heap.size,1),.int .i64 Wp)]) 15 ?_
        refine ai 0 (u10) rfl (U b) ?_
        refine ai 2 (.pointer (some ⟨wr.heap.size,0,none⟩)) rfl (U b) ?_
        refine ai 3 (.int .i64 WE) rfl (U b) ?_ λO m=>by simp only[CA] at m;obtain⟨Q,S,_⟩:=m;go_simp
        refine ai 4 (.int .i64 (VX:Int)) rfl (U b) ?_ λO m=>by simp only[CA] at m;obtain⟨Q,S,_⟩:=m;go_simp ;rw[show WE-1=(VX:Int) by have:=U Yc;omega,ms _ (by omega)]
        refine ai 8 (.func (.func 40) #[] #[]) rfl (U b) ?_
        refine ai 9 (.pointer (some ⟨wr.heap.size,1,none⟩)) rfl (U b) ?_
        refine ai 10 (.int .i64 Wp) rfl (U b) ?_ λO m=>by simp only[CA] at m;obtain⟨Q,S,_⟩:=m;go_simp
        refine ap 1 rfl λi d=>?_
        go_simp
        refine(h4 (Xt.drew)).mono ?_
        rintro _ u1 ⟨rfl,XN,e⟩
        have XG:Hid (u1.cell? ⟨Xt.heap.size,VX,none⟩=some (.string (bs V1))):=XN VX V1 (U Yi)
        replace f:=VV (ac (U f) e)
        replace b:=VV ((U b).aa e)
        clear e XN
        go_simp
        refine aO d (U b) ?_
        clear d i
        refine ai 5 (.pointer (some ⟨Xt.heap.size,VX,none⟩)) rfl (U b) ?_ λO m=>by go_simp
        have Yl:=U XG
        refine ap 6 rfl λi d=>?_
        go_simp
        refine aO d (U b) ?_
        clear d i
        clear Yl XG
        refine ap 7 rfl λi d=>?_
        go_simp
        refine(bI (bs V1) (u1)).mono ?_
        rintro _ u7 ⟨rfl,e⟩
        replace f:=VV (ac (U f) e)
        replace b:=VV ((U b).aa e)
        clear e
        go_simp
        refine aO d (U b) ?_
        clear d i
        refine ap 11 rfl λi d=>?_
        go_simp
        refine(eC Wp (U Ys) (u7) (U Xa _ (ac (ac (U Y1) (U WB)) (U f)))).mono ?_
        rintro _ u11 ⟨rfl,e⟩
        replace f:=VV (ac (U f) e)
        replace b:=VV ((U b).aa e)
        clear e
        go_simp
        refine aO d (U b) ?_
        clear d i
        refine ap 12 rfl λi d=>?_
        go_simp
        have l:=ae (ar _ u11) (.cells #[.bool false,.string (bs V1),.slice none 0 0,.bool false,.string (bs (Lib.itoa Wp)),.slice none 0 0] 46)
        have A:Hid (Nt.aj (λk=>Xt.heap.size<=k/\k<(u11.alloc (.cells #[.bool false,.string (bs V1),.slice none 0 0,.bool false,.string (bs (Lib.itoa Wp)),.slice none 0 0] 46)).heap.size) (u11.alloc (.cells #[.bool false,.string (bs V1),.slice none 0 0,.bool false,.string (bs (Lib.itoa Wp)),.slice none 0 0] 46)) (some ⟨u11.heap.size,0,none⟩) [bz (bs V1),dS Wp]):=cW u11 [(bz (bs V1),none,0),(dS Wp,none,0)] Xt.heap.size (U f).size (by
         intro V8 B
         simp only[List.mem_cons,List.not_mem_nil,or_false] at B
         rcases B with rfl|rfl
         .exact cf
         .exact cf)
        replace f:=VV (ac (U f) l)
        replace b:=VV ((U b).aa l)
        clear l
        refine aO d (U b) ?_
        clear d i
        refine ap 13 rfl λi d=>?_
        go_simp
        refine(cc _ _ _ ((u11.alloc (.cells #[.bool false,.string (bs V1),.slice none 0 0,.bool false,.string (bs (Lib.itoa Wp)),.slice none 0 0] 46)))).mono ?_
        rintro _ u13 ⟨rfl,e⟩
        replace f:=VV (ac (U f) e)
        replace b:=VV ((U b).aa e)
        replace A:=VV (aU (U A) e)
        clear e
        go_simp
        refine aO d (U b) ?_
        clear d i
        refine ap 14 rfl λi d=>?_
        go_simp
        have l:=ae (ar _ u13) (.cells #[.bool true,.string ⟨#[]⟩,.slice (some ⟨u11.heap.size,0,none⟩) 2 2] 46)
        have Y5:=VV ((U Xb).fresh (U Wo) (U A) (U WB).size l)
        replace f:=VV (ac (U f) l)
        replace b:=VV ((U b).aa l)
        have W:=VV (ac (U WB) (U f))
        have Xc:=VV ((U Xb).aa (U W))
        clear l
        refine aO d (U b) ?_
        clear d i
        refine ap 15 rfl λi d=>?_
        refine pe (.tmp 110) (.tmp 124) rfl Wj u10 _ (cY [bz (bs V1),dS Wp],some ⟨u11.heap.size,0,none⟩,2) u13.heap.size rfl (U Xc) (by simp[Act.eval,go_sem]) (U Y5) (eJ (by simp[go_sem,cY,Nt.b]) (by simp[go_sem,cY,Nt.s]) (by simp[go_sem,cY,Nt.l])) (U Xn) (aQ (U Wo) (U W).size) ?_
        intro XS Xl Wt We
        have Xd:=VV Wt
        have WJ:=VV ((U VY).trans (((U W).mono (U Wo)).trans We))
        clear Wt We
        go_simp
        refine aS d ?_
        clear d i
        refine ap 16 rfl λi d=>?_
        go_simp
        refine aS d ?_
        clear d i
        refine bh ?_
        go_wp2
        go_roundw
        case rel=>exact⟨k+1,by omega,by go_num,(by rw[U W8,U XI];exact Xd),WJ⟩
        case measure=>simp[intOf]<;>omega
       .have o:¬(k:Int)<(Wu:Int):=by omega
        have WR:k=Wu:=by omega
        have Wr:=U Xb
        rw[show (a.aggs.take k).map iN=a.aggs.map iN by rw[WR,U Xv,gJ]] at Wr
        obtain⟨Wk,Wf⟩:=al (a.aggs.map iN)
        rw[<-Wf] at Wr Y
        obtain⟨Wv,Ww,rfl,Xp⟩:=Wr.node
        have R:=VV (fP Xp (show base<=Wj from U T))
        have Y2:=VV (U V2)
        have Yg:Hid (base<=wr.heap.size):=aQ (U T) (U Wo)
        replace g:=VV (aU (by rw[U Wq] at g;exact U g) (U V2))
        have b:=VV ((U YF).aa (U V2))
        replace Wx:=VV ((U Wx).aa (U V2))
        replace Xo:=VV ((U Xo).aa (U V2))
        clear Xp Wr WR WW XB Wf Xb YF
        have Yu:Hid (Bw p wr):=ac (U X) (U V2)
        have YE:Hid (RC wr (p.heap.size+1)):=(U Wz).aa (U V2) (by have:=U WD;rw[U Wq] at this;exact this)
        have YA:Hid (p.heap.size+1<wr.heap.size):=be (U Wn) (U Yg)
        clear Y2 V2 VY Wo T Wz X WD
        have X:=Yu
        have Wz:=YE
        have WD:=YA
        have T:=Yg
        clear Yu YE YA Yg
        have y:Hid (Bw wr wr.drew):=(aN).drew
        have P:Hid (CA wr [((j,0),.bool c.b),((j,1),.string c.s),((j,2),.slice q c.l.length r),((p.heap.size,3),.slice x.aC a.cols.length x.cC)]):=⟨(U b).1,(U b).2.1,(U b).2.2.1,(U Wx).c3,trivial⟩
        replace b:=VV ((U P).aa (U y))
        have f:=y
        replace R:=VV (aU (U R) (U y))
        replace g:=VV (aU (U g) (U y))
        clear P
        go_upto_region 31 with fail
        refine VR (λN:World=>CA N [((j,0),.bool c.b),((j,1),.string c.s),((j,2),.slice q c.l.length r),((p.heap.size,3),.slice x.aC a.cols.length x.cC)]) 9 ?_
        refine ai 1 (.pointer (some ⟨p.heap.size,3,none⟩)) rfl (U b) ?_
        refine ai 2 (.slice x.aC a.cols.length x.cC) rfl (U b) ?_ λO m=>by simp only[CA] at m;obtain⟨Q,S,V0,Wd,_⟩:=m;go_simp
        refine ai 4 (.slice Wv Wk.length Ww) rfl (U b) ?_
        refine ai 6 (.slice (some ⟨j,0,none⟩) 1 Wc) rfl (U b) ?_
        refine ai 7 (.pointer (some ⟨j,0,none⟩)) rfl (U b) ?_
        refine ai 8 (.agg #[.bool c.b,.string c.s,.slice q c.l.length r]) rfl (U b) ?_ λO m=>by simp only[CA] at m;obtain⟨Q,S,V0,Wd,_⟩:=m;go_simp
        refine ap 0 rfl λi d=>?_
        go_simp
        refine(bI ⟨#[103,114,111,117,112]⟩ (wr.drew)).mono ?_
        rintro _ u0 ⟨rfl,e⟩
        replace f:=VV (ac (U f) e)
        replace b:=VV ((U b).aa e)
        replace R:=VV (aU (U R) e)
        replace g:=VV (aU (U g) e)
        clear e
        go_simp
        refine aO d (U b) ?_
        clear d i
        have D:base<=u0.heap.size:=aQ (U T) (U f).size
        refine ap 3 rfl λi d=>?_
        go_simp
        refine(hH a.cols (U WF).2.2.1 (U WF).2.2.2.2.2.2.2.1 x.aC x.cC (u0) ((U Xo).c.aa (U f)) (U Xa _ (ac (U X) (U f)))).mono ?_
        rintro _ u3 ⟨Xf,Xi,rfl,Ws,e⟩
        replace f:=VV (ac (U f) e)
        replace b:=VV ((U b).aa e)
        replace R:=VV (aU (U R) e)
        replace g:=VV (aU (U g) e)
        have WO:=VV (fP Ws D)
        clear Ws D
        rw[Nt.ad]
        clear e
        go_simp
        refine aO d (U b) ?_
        clear d i
        refine ap 5 rfl λi d=>?_
        go_simp
        refine(cc Wv Wk.length Ww (u3)).mono ?_
        rintro _ u5 ⟨rfl,e⟩
        replace f:=VV (ac (U f) e)
        replace b:=VV ((U b).aa e)
        replace R:=VV (aU (U R) e)
        replace g:=VV (aU (U g) e)
        replace WO:=VV (aU (U WO) e)
        clear e
        go_simp
        refine aO d (U b) ?_
        clear d i
        refine ap 9 rfl λi d=>?_
        go_simp
        have D:base<=u5.heap.size:=aQ (U T) (U f).size
        have l:=ae (ar _ u5) (.cells #[.bool false,.string ⟨#[103,114,111,117,112]⟩,.slice none 0 0,.bool (cO a.cols).b,.string (cO a.cols).s,.slice Xf (cO a.cols).l.length Xi,.bool true,.string ⟨#[]⟩,.slice Wv Wk.length Ww,.bool c.b,.string c.s,.slice q c.l.length r] 46)
        have A:Hid (Nt.aj (λk=>base<=k/\k<(u5.alloc (.cells #[.bool false,.string ⟨#[103,114,111,117,112]⟩,.slice none 0 0,.bool (cO a.cols).b,.string (cO a.cols).s,.slice Xf (cO a.cols).l.length Xi,.bool true,.string ⟨#[]⟩,.slice Wv Wk.length Ww,.bool c.b,.string c.s,.slice q c.l.length r] 46)).heap.size) (u5.alloc (.cells #[.bool false,.string ⟨#[103,114,111,117,112]⟩,.slice none 0 0,.bool (cO a.cols).b,.string (cO a.cols).s,.slice Xf (cO a.cols).l.length Xi,.bool true,.string ⟨#[]⟩,.slice Wv Wk.length Ww,.bool c.b,.string c.s,.slice q c.l.length r] 46)) (some ⟨u5.heap.size,0,none⟩) [bz ⟨#[103,114,111,117,112]⟩,cO a.cols,cY Wk,c]):=cW u5 [(bz ⟨#[103,114,111,117,112]⟩,none,0),(cO a.cols,Xf,Xi),(cY Wk,Wv,Ww),(c,q,r)] base D (by
         intro V8 B
         simp only[List.mem_cons,List.not_mem_nil,or_false] at B
         rcases B with rfl|rfl|rfl|rfl
         .exact cf
         .exact U WO
         .exact U R
         .exact U g)
        replace f:=VV (ac (U f) l)
        replace b:=VV ((U b).aa l)
        replace R:=VV (aU (U R) l)
        replace g:=VV (aU (U g) l)
        replace WO:=VV (aU (U WO) l)
        clear l D
        refine aS d ?_
        clear d i
        refine ap 10 rfl λi d=>?_
        go_simp
        refine(cc _ _ _ _).mono ?_
        rintro _ Xk ⟨rfl,e⟩
        replace f:=VV (ac (U f) e)
        replace A:=VV (aU (U A) e)
        clear e
        go_simp
        refine aS d ?_
        clear d i
        obtain⟨V9,Wa,Wb,WT,WU,WV⟩:=(U Wz).aa (U f) (U WD)
        refine ap 11 rfl λi d=>?_
        go_simp
        refine aS d ?_
        clear d i
        refine bh ?_
        go_wp2
        refine aM (v:=.agg #[.bool true,.string ⟨#[]⟩,.slice (some ⟨u5.heap.size,0,none⟩) 4 4]) (by simp[results,results13,go_sem,V9,Wa,Wb]) rfl ?_
        rw[U WK]
        exact h5.eq (eO (ac (U X) (U f)) (Nat.le_succ _) (U Wn) (U A) rfl) (U Y)
     .obtain⟨G,C⟩:∃G,a.args=[G]:=by
       have h:=U WI
       unfold cm at h
       simp[s] at h
       exact List.length_eq_one_iff.1 h
      have w:=U Z
      rw[C] at w
      rcases w.get (n:=1) rfl with ⟨V5,_⟩|⟨j,Wc,rfl,E⟩
      .simp at V5
      obtain⟨q,r,I,J,K,g⟩:=E 0 _ rfl
      replace g:=VV g
      obtain⟨c,F⟩:=al (fo G)
      rw[<-F] at I J K g
      clear w E Z
      have Y:Hid (fo a=cY [bz ⟨#[100,105,115,116,105,110,99,116]⟩,c]):=by
       show _=_
       rw[eM,s,C,F,show VO aX 7=[100,105,115,116,105,110,99,116] by kernel_rfl]
       rfl
      have y:Hid (Bw u u.drew):=(aN).drew
      have P:Hid (CA u [((j,0),.bool c.b),((j,1),.string c.s),((j,2),.slice q c.l.length r)]):=⟨I,J,K,trivial⟩
      have b:=VV ((U P).aa (U y))
      have f:=y
      replace g:=VV (aU (U g) (U y))
      rw[s] at VZ
      clear P s F C I J K
      go_upto_region 33 with fail
      clear VZ
      refine VR (λN:World=>CA N [((j,0),.bool c.b),((j,1),.string c.s),((j,2),.slice q c.l.length r)]) 4 ?_
      refine ai 1 (.slice (some ⟨j,0,none⟩) 1 Wc) rfl (U b) ?_
      refine ai 2 (.pointer (some ⟨j,0,none⟩)) rfl (U b) ?_
      refine ai 3 (.agg #[.bool c.b,.string c.s,.slice q c.l.length r]) rfl (U b) ?_ λO m=>by simp only[CA] at m;obtain⟨Q,S,V0,_⟩:=m;go_simp
      refine ap 0 rfl λi d=>?_
      go_simp
      refine(bI ⟨#[100,105,115,116,105,110,99,116]⟩ (u.drew)).mono ?_
      rintro _ u0 ⟨rfl,e⟩
      replace f:=VV (ac (U f) e)
      replace b:=VV ((U b).aa e)
      replace g:=VV (aU (U g) e)
      clear e
      go_simp
      refine aO d (U b) ?_
      clear d i
      refine ap 4 rfl λi d=>?_
      go_simp
      have D:base<=u0.heap.size:=aQ (U T) (U f).size
      have l:=ae (ar _ u0) (.cells #[.bool false,.string ⟨#[100,105,115,116,105,110,99,116]⟩,.slice none 0 0,.bool c.b,.string c.s,.slice q c.l.length r] 46)
      have A:Hid (Nt.aj (λk=>base<=k/\k<(u0.alloc (.cells #[.bool false,.string ⟨#[100,105,115,116,105,110,99,116]⟩,.slice none 0 0,.bool c.b,.string c.s,.slice q c.l.length r] 46)).heap.size) (u0.alloc (.cells #[.bool false,.string ⟨#[100,105,115,116,105,110,99,116]⟩,.slice none 0 0,.bool c.b,.string c.s,.slice q c.l.length r] 46)) (some ⟨u0.heap.size,0,none⟩) [bz ⟨#[100,105,115,116,105,110,99,116]⟩,c]):=cW u0 [(bz ⟨#[100,105,115,116,105,110,99,116]⟩,none,0),(c,q,r)] base D (by
       intro V8 B
       simp only[List.mem_cons,List.not_mem_nil,or_false] at B
       rcases B with rfl|rfl
       .exact cf
       .exact U g)
      replace f:=VV (ac (U f) l)
      replace b:=VV ((U b).aa l)
      replace g:=VV (aU (U g) l)
      clear l D
      refine aS d ?_
      clear d i
      refine ap 5 rfl λi d=>?_
      go_simp
      refine(cc _ _ _ _).mono ?_
      rintro _ Xk ⟨rfl,e⟩
      replace f:=VV (ac (U f) e)
      replace A:=VV (aU (U A) e)
      clear e
      go_simp
      refine aS d ?_
      clear d i
      obtain⟨V9,Wa,Wb,WT,WU,WV⟩:=(U Wz).aa (U f) (U WD)
      refine ap 6 rfl λi d=>?_
      go_simp
      refine aS d ?_
      clear d i
      refine bh ?_
      go_wp2
      refine aM (v:=.agg #[.bool true,.string ⟨#[]⟩,.slice (some ⟨u0.heap.size,0,none⟩) 2 2]) (by simp[results,results13,go_sem,V9,Wa,Wb]) rfl ?_
      rw[U WK]
      exact h5.eq (eO (ac (U X) (U f)) (Nat.le_succ _) (U Wn) (U A) rfl) (U Y)
     .have Zp:1<=a.args.length:=by
       have h:=U WI
       unfold cm at h
       simpa [s] using h
      obtain⟨j,Wc,XP,rfl,Yo,YW,YX⟩:=(U Z).cells (by rw[VP];omega)
      have Y8:=VV Yo
      have Za:=VV YW
      have Zb:=VV YX
      have Yp:XP.length=(a.args.map fo).length:=by rw[<-Yo,VP]
      obtain⟨Yq,Yn⟩:=al ((a.args.map fo).length)
      rw[<-Yn] at Yp ⊢
      have Zc:=VV Yp
      have Y9:Hid (Yq<=1048576):=by show _<=_;rw[Yn,VP,<-U XU];exact Zq
      clear Zp Yo YW YX Yp Yn
      have Y:Hid (fo a=cY (bz ⟨#[117,110,105,111,110]⟩ :: XP.map Prod.fst)):=by
       show _=_
       rw[eM,s,<-U Y8,show VO aX 8=[117,110,105,111,110] by kernel_rfl]
       rfl
      rw[s] at VZ
      clear s
      go_upto_region 35 with fail
      clear VZ
      go_wp2_with (first
       | (go_at_call 41;refine(bI _ _).mono ?_;rintro Xs Wm ⟨rfl,Wg⟩;have l:=ae (ar _ Wm) (.cells #[.bool false,.string ⟨#[117,110,105,111,110]⟩,.slice none 0 0] 46);have W:=VV (ac Wg l);have Zd:Hid (base<=Wm.heap.size):=aQ (U T) Wg.size;have Ze:Hid (u.heap.size<=Wm.heap.size):=Wg.size;have Y7:=VV (NL.lit Wm ⟨#[117,110,105,111,110]⟩ base (U Zd));clear Wg l)
       | (refine kE _ rfl (.tmp 149) (.tmp 150) rfl base (.slice (some ⟨Wm.heap.size,0,none⟩) 1 1) [bz ⟨#[117,110,105,111,110]⟩] XP Yq j Wc rfl (U Y7) rfl (U Zc) (λVX WH Zs=>aG (U Za VX WH Zs) (U W)) (λV8 B=>Nt.aq (Nt.au (U Zb V8 B) (U W)) λk YT=>⟨YT.1,be YT.2 (U W).size,λZk=>by have YI:some Wm.heap.size=some k:=Zk;injection YI with YI;have:=U Ze;omega⟩) (by have:=U Y9;show 1+Yq<=_;omega) (aQ (U T) (U W).size) ?_;intro XS Xl Wt We;obtain⟨Zg,Zj,rfl,YS⟩:=Wt.node;have Y3:=VV YS;have WJ:=VV (((U W).mono (U T)).trans We);clear Wt We YS)
       | (go_at_call 42;refine(cc _ _ _ _).mono ?_;rintro Xs ZA ⟨rfl,XA⟩;have WC:=VV ((U WJ).trans (XA.mono (aQ (U T) (U WJ).size)));have Y4:=VV (aU (U Y3) XA);obtain⟨V9,Wa,Wb,WT,WU,WV⟩:=(U Wz).aa (U WC) (U Wn);clear XA))
      refine aM (v:=.agg #[.bool true,.string ⟨#[]⟩,.slice Zg (XP.length+1) Zj]) (by simp[results,results13,go_sem,V9,Wa,Wb]) rfl ?_
      rw[U WK]
      exact h5.eq (eO ((U X).trans ((U WC).mono (U XH))) (Nat.le_succ _) (n:=XP.length+1) (U Wn) (U Y4) (by simp)) (U Y)
     .obtain⟨G,C⟩:∃G,a.args=[G]:=by
       have h:=U WI
       unfold cm at h
       simp[s] at h
       exact List.length_eq_one_iff.1 h
      have w:=U Z
      rw[C] at w
      rcases w.get (n:=1) rfl with ⟨V5,_⟩|⟨j,Wc,rfl,E⟩
      .simp at V5
      obtain⟨q,r,I,J,K,g⟩:=E 0 _ rfl
      replace g:=VV g
      obtain⟨c,F⟩:=al (fo G)
      rw[<-F] at I J K g
      clear w E Z
      have Y:Hid (fo a=cY [bz ⟨#[116,111,112]⟩,cR a.keys,dS a.n,dS a.off,c]):=by
       show _=_
       rw[eM,s,C,F,show VO aX 9=[116,111,112] by kernel_rfl]
       rfl
      have y:Hid (Bw u u.drew):=(aN).drew
      have P:Hid (CA u [((j,0),.bool c.b),((j,1),.string c.s),((j,2),.slice q c.l.length r),((p.heap.size,4),.slice x.aK a.keys.length x.cK),((p.heap.size,8),.int .i64 a.n),((p.heap.size,9),.int .i64 a.off)]):=⟨I,J,K,(U Wx).c4,(U Wx).c8,(U Wx).c9,trivial⟩
      have b:=VV ((U P).aa (U y))
      have f:=y
      replace g:=VV (aU (U g) (U y))
      rw[s] at VZ
      clear P s C F I J K
      go_upto_region 37 with fail
      clear VZ
      refine VR (λN:World=>CA N [((j,0),.bool c.b),((j,1),.string c.s),((j,2),.slice q c.l.length r),((p.heap.size,4),.slice x.aK a.keys.length x.cK),((p.heap.size,8),.int .i64 a.n),((p.heap.size,9),.int .i64 a.off)]) 15 ?_
      refine ai 1 (.pointer (some ⟨p.heap.size,4,none⟩)) rfl (U b) ?_
      refine ai 2 (.slice x.aK a.keys.length x.cK) rfl (U b) ?_ λO m=>by simp only[CA] at m;obtain⟨Q,S,V0,Wd,Wh,Wi,_⟩:=m;go_simp
      refine ai 4 (.func (.func 40) #[] #[]) rfl (U b) ?_
      refine ai 5 (.pointer (some ⟨p.heap.size,8,none⟩)) rfl (U b) ?_
      refine ai 6 (.int .i64 a.n) rfl (U b) ?_ λO m=>by simp only[CA] at m;obtain⟨Q,S,V0,Wd,Wh,Wi,_⟩:=m;go_simp
      refine ai 8 (.func (.func 40) #[] #[]) rfl (U b) ?_
      refine ai 9 (.pointer (some ⟨p.heap.size,9,none⟩)) rfl (U b) ?_
      refine ai 10 (.int .i64 a.off) rfl (U b) ?_ λO m=>by simp only[CA] at m;obtain⟨Q,S,V0,Wd,Wh,Wi,_⟩:=m;go_simp
      refine ai 12 (.slice (some ⟨j,0,none⟩) 1 Wc) rfl (U b) ?_
      refine ai 13 (.pointer (some ⟨j,0,none⟩)) rfl (U b) ?_
      refine ai 14 (.agg #[.bool c.b,.string c.s,.slice q c.l.length r]) rfl (U b) ?_ λO m=>by simp only[CA] at m;obtain⟨Q,S,V0,Wd,Wh,Wi,_⟩:=m;go_simp
      refine ap 0 rfl λi d=>?_
      go_simp
      refine(bI ⟨#[116,111,112]⟩ (u.drew)).mono ?_
      rintro _ u0 ⟨rfl,e⟩
      replace f:=VV (ac (U f) e)
      replace b:=VV ((U b).aa e)
      replace g:=VV (aU (U g) e)
      clear e
      go_simp
      refine aO d (U b) ?_
      clear d i
      have D:base<=u0.heap.size:=aQ (U T) (U f).size
      refine ap 3 rfl λi d=>?_
      go_simp
      refine(hQ a.keys (U WF).2.2.2.1 (U WF).2.2.2.2.2.2.2.2.1 x.aK x.cK (u0) ((U Xo).k.aa (U f)) (U Xa _ (ac (U X) (U f)))).mono ?_
      rintro _ u3 ⟨Xg,Xj,rfl,Ws,e⟩
      replace f:=VV (ac (U f) e)
      replace b:=VV ((U b).aa e)
      replace g:=VV (aU (U g) e)
      have WP:=VV (fP Ws D)
      clear Ws D
      rw[Nt.ad]
      clear e
      go_simp
      refine aO d (U b) ?_
      clear d i
      refine ap 7 rfl λi d=>?_
      go_simp
      refine(eC a.n (U WF).2.2.2.2.2.2.1 (u3) (U Xa _ (ac (U X) (U f)))).mono ?_
      rintro _ u7 ⟨rfl,e⟩
      replace f:=VV (ac (U f) e)
      replace b:=VV ((U b).aa e)
      replace g:=VV (aU (U g) e)
      replace WP:=VV (aU (U WP) e)
      clear e
      go_simp
      refine aO d (U b) ?_
      clear d i
      refine ap 11 rfl λi d=>?_
      go_simp
      refine(eC a.off (U Xu).of (u7) (U Xa _ (ac (U X) (U f)))).mono ?_
      rintro _ u11 ⟨rfl,e⟩
      replace f:=VV (ac (U f) e)
      replace b:=VV ((U b).aa e)
      replace g:=VV (aU (U g) e)
      replace WP:=VV (aU (U WP) e)
      clear e
      go_simp
      refine aO d (U b) ?_
      clear d i
      refine ap 15 rfl λi d=>?_
      go_simp
      have D:base<=u11.heap.size:=aQ (U T) (U f).size
      have l:=ae (ar _ u11) (.cells #[.bool false,.string ⟨#[116,111,112]⟩,.slice none 0 0,.bool (cR a.keys).b,.string (cR a.keys).s,.slice Xg (cR a.keys).l.length Xj,.bool false,.string (bs (Lib.itoa a.n)),.slice none 0 0,.bool false,.string (bs (Lib.itoa a.off)),.slice none 0 0,.bool c.b,.string c.s,.slice q c.l.length r] 46)
      have A:Hid (Nt.aj (λk=>base<=k/\k<(u11.alloc (.cells #[.bool false,.string ⟨#[116,111,112]⟩,.slice none 0 0,.bool (cR a.keys).b,.string (cR a.keys).s,.slice Xg (cR a.keys).l.length Xj,.bool false,.string (bs (Lib.itoa a.n)),.slice none 0 0,.bool false,.string (bs (Lib.itoa a.off)),.slice none 0 0,.bool c.b,.string c.s,.slice q c.l.length r] 46)).heap.size) (u11.alloc (.cells #[.bool false,.string ⟨#[116,111,112]⟩,.slice none 0 0,.bool (cR a.keys).b,.string (cR a.keys).s,.slice Xg (cR a.keys).l.length Xj,.bool false,.string (bs (Lib.itoa a.n)),.slice none 0 0,.bool false,.string (bs (Lib.itoa a.off)),.slice none 0 0,.bool c.b,.string c.s,.slice q c.l.length r] 46)) (some ⟨u11.heap.size,0,none⟩) [bz ⟨#[116,111,112]⟩,cR a.keys,dS a.n,dS a.off,c]):=cW u11 [(bz ⟨#[116,111,112]⟩,none,0),(cR a.keys,Xg,Xj),(dS a.n,none,0),(dS a.off,none,0),(c,q,r)] base D (by
       intro V8 B
       simp only[List.mem_cons,List.not_mem_nil,or_false] at B
       rcases B with rfl|rfl|rfl|rfl|rfl
       .exact cf
       .exact U WP
       .exact cf
       .exact cf
       .exact U g)
      replace f:=VV (ac (U f) l)
      replace b:=VV ((U b).aa l)
      replace g:=VV (aU (U g) l)
      replace WP:=VV (aU (U WP) l)
      clear l D
      refine aS d ?_
      clear d i
      refine ap 16 rfl λi d=>?_
      go_simp
      refine(cc _ _ _ _).mono ?_
      rintro _ Xk ⟨rfl,e⟩
      replace f:=VV (ac (U f) e)
      replace A:=VV (aU (U A) e)
      clear e
      go_simp
      refine aS d ?_
      clear d i
      obtain⟨V9,Wa,Wb,WT,WU,WV⟩:=(U Wz).aa (U f) (U WD)
      refine ap 17 rfl λi d=>?_
      go_simp
      refine aS d ?_
      clear d i
      refine bh ?_
      go_wp2
      refine aM (v:=.agg #[.bool true,.string ⟨#[]⟩,.slice (some ⟨u11.heap.size,0,none⟩) 5 5]) (by simp[results,results13,go_sem,V9,Wa,Wb]) rfl ?_
      rw[U WK]
      exact h5.eq (eO (ac (U X) (U f)) (Nat.le_succ _) (U Wn) (U A) rfl) (U Y)
     .obtain⟨G,C⟩:∃G,a.args=[G]:=by
       have h:=U WI
       unfold cm at h
       simp[s] at h
       exact List.length_eq_one_iff.1 h
      have w:=U Z
      rw[C] at w
      rcases w.get (n:=1) rfl with ⟨V5,_⟩|⟨j,Wc,rfl,E⟩
      .simp at V5
      obtain⟨q,r,I,J,K,g⟩:=E 0 _ rfl
      replace g:=VV g
      obtain⟨c,F⟩:=al (fo G)
      rw[<-F] at I J K g
      clear w E Z
      obtain⟨VX,XO⟩:∃VX:Nat,a.fn=(VX:Int)+1:=⟨(a.fn-1).toNat,by have:=(U Xu).fn s;omega⟩
      have Zn:VX<6:=by have:=(U Xu).fn s;omega
      obtain⟨V1,Xz⟩:=al (VO d0 a.fn)
      have Yi:Hid (d0[VX]?=some V1):=by
       show _=_
       have Zo:=fE
       rw[Xz]
       unfold VO
       rw[show (a.fn-1).toNat=VX by omega,fC,ba (by omega)]
       rfl
      have Yc:=VV XO
      have Zm:(VX:Int)<6:=by omega
      have Y:Hid (fo a=cY [bz ⟨#[119,105,110,100,111,119]⟩,gp V1,dS a.col,dS a.n,cO a.cols,cR a.keys,c]):=by
       show _=_
       rw[eM,s,C,F,Xz,show VO aX 10=[119,105,110,100,111,119] by kernel_rfl]
       rfl
      have y:Hid (Bw u u.drew):=(aN).drew
      have P:Hid (CA u [((j,0),.bool c.b),((j,1),.string c.s),((j,2),.slice q c.l.length r),((p.heap.size,3),.slice x.aC a.cols.length x.cC),((p.heap.size,4),.slice x.aK a.keys.length x.cK),((p.heap.size,6),.int .i64 a.fn),((p.heap.size,7),.int .i64 a.col),((p.heap.size,8),.int .i64 a.n)]):=⟨I,J,K,(U Wx).c3,(U Wx).c4,(U Wx).c6,(U Wx).c7,(U Wx).c8,trivial⟩
      have b:=VV ((U P).aa (U y))
      have f:=y
      replace g:=VV (aU (U g) (U y))
      rw[s] at VZ
      clear P s C F Xz XO I J K
      go_upto_region 39 with fail
      clear VZ
      refine VR (λN:World=>CA N [((j,0),.bool c.b),((j,1),.string c.s),((j,2),.slice q c.l.length r),((p.heap.size,3),.slice x.aC a.cols.length x.cC),((p.heap.size,4),.slice x.aK a.keys.length x.cK),((p.heap.size,6),.int .i64 a.fn),((p.heap.size,7),.int .i64 a.col),((p.heap.size,8),.int .i64 a.n)]) 25 ?_
      refine ai 2 (.pointer (some ⟨p.heap.size,6,none⟩)) rfl (U b) ?_
      refine ai 3 (.int .i64 a.fn) rfl (U b) ?_ λO m=>by simp only[CA] at m;obtain⟨Q,S,V0,Wd,Wh,Wi,WM,WN,_⟩:=m;go_simp
      refine ai 4 (.int .i64 (VX:Int)) rfl (U b) ?_ λO m=>by simp only[CA] at m;obtain⟨Q,S,V0,Wd,Wh,Wi,WM,WN,_⟩:=m;go_simp ;rw[show a.fn-1=(VX:Int) by have:=U Yc;omega,ms _ (by omega)]
      refine ai 8 (.func (.func 40) #[] #[]) rfl (U b) ?_
      refine ai 9 (.pointer (some ⟨p.heap.size,7,none⟩)) rfl (U b) ?_
      refine ai 10 (.int .i64 a.col) rfl (U b) ?_ λO m=>by simp only[CA] at m;obtain⟨Q,S,V0,Wd,Wh,Wi,WM,WN,_⟩:=m;go_simp
      refine ai 12 (.func (.func 40) #[] #[]) rfl (U b) ?_
      refine ai 13 (.pointer (some ⟨p.heap.size,8,none⟩)) rfl (U b) ?_
      refine ai 14 (.int .i64 a.n) rfl (U b) ?_ λO m=>by simp only[CA] at m;obtain⟨Q,S,V0,Wd,Wh,Wi,WM,WN,_⟩:=m;go_simp
      refine ai 16 (.pointer (some ⟨p.heap.size,3,none⟩)) rfl (U b) ?_
      refine ai 17 (.slice x.aC a.cols.length x.cC) rfl (U b) ?_ λO m=>by simp only[CA] at m;obtain⟨Q,S,V0,Wd,Wh,Wi,WM,WN,_⟩:=m;go_simp
      refine ai 19 (.pointer (some ⟨p.heap.size,4,none⟩)) rfl (U b) ?_
      refine ai 20 (.slice x.aK a.keys.length x.cK) rfl (U b) ?_ λO m=>by simp only[CA] at m;obtain⟨Q,S,V0,Wd,Wh,Wi,WM,WN,_⟩:=m;go_simp
      refine ai 22 (.slice (some ⟨j,0,none⟩) 1 Wc) rfl (U b) ?_
      refine ai 23 (.pointer (some ⟨j,0,none⟩)) rfl (U b) ?_
      refine ai 24 (.agg #[.bool c.b,.string c.s,.slice q c.l.length r]) rfl (U b) ?_ λO m=>by simp only[CA] at m;obtain⟨Q,S,V0,Wd,Wh,Wi,WM,WN,_⟩:=m;go_simp
      refine ap 0 rfl λi d=>?_
      go_simp
      refine(bI ⟨#[119,105,110,100,111,119]⟩ (u.drew)).mono ?_
      rintro _ u0 ⟨rfl,e⟩
      replace f:=VV (ac (U f) e)
      replace b:=VV ((U b).aa e)
      replace g:=VV (aU (U g) e)
      clear e
      go_simp
      refine aO d (U b) ?_
      clear d i
      refine ap 1 rfl λi d=>?_
      go_simp
      refine(hr (u0)).mono ?_
      rintro _ u1 ⟨rfl,XN,e⟩
      have XG:Hid (u1.cell? ⟨u0.heap.size,VX,none⟩=some (.string (bs V1))):=XN VX V1 (U Yi)
      replace f:=VV (ac (U f) e)
      replace b:=VV ((U b).aa e)
      replace g:=VV (aU (U g) e)
      clear e XN
      go_simp
      refine aO d (U b) ?_
      clear d i
      refine ai 5 (.pointer (some ⟨u0.heap.size,VX,none⟩)) rfl (U b) ?_ λO m=>by go_simp
      have Yl:=U XG
      refine ap 6 rfl λi d=>?_
      go_simp
      refine aO d (U b) ?_
      clear d i
      clear Yl XG
      refine ap 7 rfl λi d=>?_
      go_simp
      refine(bI (bs V1) (u1)).mono ?_
      rintro _ u7 ⟨rfl,e⟩
      replace f:=VV (ac (U f) e)
      replace b:=VV ((U b).aa e)
      replace g:=VV (aU (U g) e)
      clear e
      go_simp
      refine aO d (U b) ?_
      clear d i
      refine ap 11 rfl λi d=>?_
      go_simp
      refine(eC a.col (U Xu).co (u7) (U Xa _ (ac (U X) (U f)))).mono ?_
      rintro _ u11 ⟨rfl,e⟩
      replace f:=VV (ac (U f) e)
      replace b:=VV ((U b).aa e)
      replace g:=VV (aU (U g) e)
      clear e
      go_simp
      refine aO d (U b) ?_
      clear d i
      refine ap 15 rfl λi d=>?_
      go_simp
      refine(eC a.n (U WF).2.2.2.2.2.2.1 (u11) (U Xa _ (ac (U X) (U f)))).mono ?_
      rintro _ u15 ⟨rfl,e⟩
      replace f:=VV (ac (U f) e)
      replace b:=VV ((U b).aa e)
      replace g:=VV (aU (U g) e)
      clear e
      go_simp
      refine aO d (U b) ?_
      clear d i
      have D:base<=u15.heap.size:=aQ (U T) (U f).size
      refine ap 18 rfl λi d=>?_
      go_simp
      refine(hH a.cols (U WF).2.2.1 (U WF).2.2.2.2.2.2.2.1 x.aC x.cC (u15) ((U Xo).c.aa (U f)) (U Xa _ (ac (U X) (U f)))).mono ?_
      rintro _ u18 ⟨Xf,Xi,rfl,Ws,e⟩
      replace f:=VV (ac (U f) e)
      replace b:=VV ((U b).aa e)
      replace g:=VV (aU (U g) e)
      have WO:=VV (fP Ws D)
      clear Ws D
      rw[Nt.ad]
      clear e
      go_simp
      refine aO d (U b) ?_
      clear d i
      have D:base<=u18.heap.size:=aQ (U T) (U f).size
      refine ap 21 rfl λi d=>?_
      go_simp
      refine(hQ a.keys (U WF).2.2.2.1 (U WF).2.2.2.2.2.2.2.2.1 x.aK x.cK (u18) ((U Xo).k.aa (U f)) (U Xa _ (ac (U X) (U f)))).mono ?_
      rintro _ u21 ⟨Xg,Xj,rfl,Ws,e⟩
      replace f:=VV (ac (U f) e)
      replace b:=VV ((U b).aa e)
      replace g:=VV (aU (U g) e)
      replace WO:=VV (aU (U WO) e)
      have WP:=VV (fP Ws D)
      clear Ws D
      rw[Nt.ad]
      clear e
      go_simp
      refine aO d (U b) ?_
      clear d i
      refine ap 25 rfl λi d=>?_
      go_simp
      have D:base<=u21.heap.size:=aQ (U T) (U f).size
      have l:=ae (ar _ u21) (.cells #[.bool false,.string ⟨#[119,105,110,100,111,119]⟩,.slice none 0 0,.bool false,.string (bs V1),.slice none 0 0,.bool false,.string (bs (Lib.itoa a.col)),.slice none 0 0,.bool false,.string (bs (Lib.itoa a.n)),.slice none 0 0,.bool (cO a.cols).b,.string (cO a.cols).s,.slice Xf (cO a.cols).l.length Xi,.bool (cR a.keys).b,.string (cR a.keys).s,.slice Xg (cR a.keys).l.length Xj,.bool c.b,.string c.s,.slice q c.l.length r] 46)
      have A:Hid (Nt.aj (λk=>base<=k/\k<(u21.alloc (.cells #[.bool false,.string ⟨#[119,105,110,100,111,119]⟩,.slice none 0 0,.bool false,.string (bs V1),.slice none 0 0,.bool false,.string (bs (Lib.itoa a.col)),.slice none 0 0,.bool false,.string (bs (Lib.itoa a.n)),.slice none 0 0,.bool (cO a.cols).b,.string (cO a.cols).s,.slice Xf (cO a.cols).l.length Xi,.bool (cR a.keys).b,.string (cR a.keys).s,.slice Xg (cR a.keys).l.length Xj,.bool c.b,.string c.s,.slice q c.l.length r] 46)).heap.size) (u21.alloc (.cells #[.bool false,.string ⟨#[119,105,110,100,111,119]⟩,.slice none 0 0,.bool false,.string (bs V1),.slice none 0 0,.bool false,.string (bs (Lib.itoa a.col)),.slice none 0 0,.bool false,.string (bs (Lib.itoa a.n)),.slice none 0 0,.bool (cO a.cols).b,.string (cO a.cols).s,.slice Xf (cO a.cols).l.length Xi,.bool (cR a.keys).b,.string (cR a.keys).s,.slice Xg (cR a.keys).l.length Xj,.bool c.b,.string c.s,.slice q c.l.length r] 46)) (some ⟨u21.heap.size,0,none⟩) [bz ⟨#[119,105,110,100,111,119]⟩,gp V1,dS a.col,dS a.n,cO a.cols,cR a.keys,c]):=cW u21 [(bz ⟨#[119,105,110,100,111,119]⟩,none,0),(gp V1,none,0),(dS a.col,none,0),(dS a.n,none,0),(cO a.cols,Xf,Xi),(cR a.keys,Xg,Xj),(c,q,r)] base D (by
       intro V8 B
       simp only[List.mem_cons,List.not_mem_nil,or_false] at B
       rcases B with rfl|rfl|rfl|rfl|rfl|rfl|rfl
       .exact cf
       .exact cf
       .exact cf
       .exact cf
       .exact U WO
       .exact U WP
       .exact U g)
      replace f:=VV (ac (U f) l)
      replace b:=VV ((U b).aa l)
      replace g:=VV (aU (U g) l)
      replace WO:=VV (aU (U WO) l)
      replace WP:=VV (aU (U WP) l)
      clear l D
      refine aS d ?_
      clear d i
      refine ap 26 rfl λi d=>?_
      go_simp
      refine(cc _ _ _ _).mono ?_
      rintro _ Xk ⟨rfl,e⟩
      replace f:=VV (ac (U f) e)
      replace A:=VV (aU (U A) e)
      clear e
      go_simp
      refine aS d ?_
      clear d i
      obtain⟨V9,Wa,Wb,WT,WU,WV⟩:=(U Wz).aa (U f) (U WD)
      refine ap 27 rfl λi d=>?_
      go_simp
      refine aS d ?_
      clear d i
      refine bh ?_
      go_wp2
      refine aM (v:=.agg #[.bool true,.string ⟨#[]⟩,.slice (some ⟨u21.heap.size,0,none⟩) 7 7]) (by simp[results,results13,go_sem,V9,Wa,Wb]) rfl ?_
      rw[U WK]
      exact h5.eq (eO (ac (U X) (U f)) (Nat.le_succ _) (U Wn) (U A) rfl) (U Y)
     .obtain⟨G,W0,C⟩:∃G W0,a.args=[G,W0]:=by
       have h:=U WI
       unfold cm at h
       simp[s] at h
       exact sp h
      have w:=U Z
      rw[C] at w
      rcases w.get (n:=2) rfl with ⟨V5,_⟩|⟨j,Wc,rfl,E⟩
      .simp at V5
      obtain⟨q,r,I,J,K,g⟩:=E 0 _ rfl
      replace g:=VV g
      obtain⟨c,F⟩:=al (fo G)
      rw[<-F] at I J K g
      obtain⟨V3,V6,W1,W2,W3,L⟩:=E 1 _ rfl
      replace L:=VV L
      obtain⟨o,WY⟩:=al (fo W0)
      rw[<-WY] at W1 W2 W3 L
      clear w E Z
      have Y:Hid (fo a=cY [bz ⟨#[109,105,110,117,115]⟩,c,o]):=by
       show _=_
       rw[eM,s,C,F,WY,show VO aX 11=[109,105,110,117,115] by kernel_rfl]
       rfl
      have y:Hid (Bw u u.drew):=(aN).drew
      have P:Hid (CA u [((j,0),.bool c.b),((j,1),.string c.s),((j,2),.slice q c.l.length r),((j,3),.bool o.b),((j,4),.string o.s),((j,5),.slice V3 o.l.length V6)]):=⟨I,J,K,W1,W2,W3,trivial⟩
      have b:=VV ((U P).aa (U y))
      have f:=y
      replace g:=VV (aU (U g) (U y))
      replace L:=VV (aU (U L) (U y))
      rw[s] at VZ
      clear P s F WY C I J K W1 W2 W3
      go_upto_region 41 with fail
      clear VZ
      refine VR (λN:World=>CA N [((j,0),.bool c.b),((j,1),.string c.s),((j,2),.slice q c.l.length r),((j,3),.bool o.b),((j,4),.string o.s),((j,5),.slice V3 o.l.length V6)]) 7 ?_
      refine ai 1 (.slice (some ⟨j,0,none⟩) 2 Wc) rfl (U b) ?_
      refine ai 2 (.pointer (some ⟨j,0,none⟩)) rfl (U b) ?_
      refine ai 3 (.agg #[.bool c.b,.string c.s,.slice q c.l.length r]) rfl (U b) ?_ λO m=>by simp only[CA] at m;obtain⟨Q,S,V0,Wd,Wh,Wi,_⟩:=m;go_simp
      refine ai 4 (.slice (some ⟨j,0,none⟩) 2 Wc) rfl (U b) ?_
      refine ai 5 (.pointer (some ⟨j,3,none⟩)) rfl (U b) ?_
      refine ai 6 (.agg #[.bool o.b,.string o.s,.slice V3 o.l.length V6]) rfl (U b) ?_ λO m=>by simp only[CA] at m;obtain⟨Q,S,V0,Wd,Wh,Wi,_⟩:=m;go_simp
      refine ap 0 rfl λi d=>?_
      go_simp
      refine(bI ⟨#[109,105,110,117,115]⟩ (u.drew)).mono ?_
      rintro _ u0 ⟨rfl,e⟩
      replace f:=VV (ac (U f) e)
      replace b:=VV ((U b).aa e)
      replace g:=VV (aU (U g) e)
      replace L:=VV (aU (U L) e)
      clear e
      go_simp
      refine aO d (U b) ?_
      clear d i
      refine ap 7 rfl λi d=>?_
      go_simp
      have D:base<=u0.heap.size:=aQ (U T) (U f).size
      have l:=ae (ar _ u0) (.cells #[.bool false,.string ⟨#[109,105,110,117,115]⟩,.slice none 0 0,.bool c.b,.string c.s,.slice q c.l.length r,.bool o.b,.string o.s,.slice V3 o.l.length V6] 46)
      have A:Hid (Nt.aj (λk=>base<=k/\k<(u0.alloc (.cells #[.bool false,.string ⟨#[109,105,110,117,115]⟩,.slice none 0 0,.bool c.b,.string c.s,.slice q c.l.length r,.bool o.b,.string o.s,.slice V3 o.l.length V6] 46)).heap.size) (u0.alloc (.cells #[.bool false,.string ⟨#[109,105,110,117,115]⟩,.slice none 0 0,.bool c.b,.string c.s,.slice q c.l.length r,.bool o.b,.string o.s,.slice V3 o.l.length V6] 46)) (some ⟨u0.heap.size,0,none⟩) [bz ⟨#[109,105,110,117,115]⟩,c,o]):=cW u0 [(bz ⟨#[109,105,110,117,115]⟩,none,0),(c,q,r),(o,V3,V6)] base D (by
       intro V8 B
       simp only[List.mem_cons,List.not_mem_nil,or_false] at B
       rcases B with rfl|rfl|rfl
       .exact cf
       .exact U g
       .exact U L)
      replace f:=VV (ac (U f) l)
      replace b:=VV ((U b).aa l)
      replace g:=VV (aU (U g) l)
      replace L:=VV (aU (U L) l)
      clear l D
      refine aS d ?_
      clear d i
      refine ap 8 rfl λi d=>?_
      go_simp
      refine(cc _ _ _ _).mono ?_
      rintro _ Xk ⟨rfl,e⟩
      replace f:=VV (ac (U f) e)
      replace A:=VV (aU (U A) e)
      clear e
      go_simp
      refine aS d ?_
      clear d i
      obtain⟨V9,Wa,Wb,WT,WU,WV⟩:=(U Wz).aa (U f) (U WD)
      refine ap 9 rfl λi d=>?_
      go_simp
      refine aS d ?_
      clear d i
      refine bh ?_
      go_wp2
      refine aM (v:=.agg #[.bool true,.string ⟨#[]⟩,.slice (some ⟨u0.heap.size,0,none⟩) 3 3]) (by simp[results,results13,go_sem,V9,Wa,Wb]) rfl ?_
      rw[U WK]
      exact h5.eq (eO (ac (U X) (U f)) (Nat.le_succ _) (U Wn) (U A) rfl) (U Y)
     .have C:a.args=[]:=by
       have h:=U WI
       unfold cm at h
       simp[s] at h
       exact h
      have Y:Hid (fo a=cY [bz ⟨#[101,109,112,116,121]⟩,cY (a.cols.map λk=>gp (VO bG k))]):=by
       show _=_
       rw[eM,s,C,show VO aX 12=[101,109,112,116,121] by kernel_rfl]
       rfl
      obtain⟨Wu,Xh⟩:=al a.cols.length
      have Xv:=VV Xh
      have Xy:u.cell? ⟨p.heap.size,3,none⟩=some (.slice x.aC Wu x.cC):=by rw[Xh];exact(U Wx).c3
      have Zr:Wu<=1048576:=by rw[Xh];exact(U WF).2.2.1
      have Yd:=VV ((U Xu).kd s)
      have X7:=VV (U Xo).c
      rw[s] at VZ
      clear s C Xh
      go_upto_region 43 with fail
      clear VZ
      go_wp2_with fail
      (try unfold Bw at *);generalize WX:u.heap.size=Wj at *
      have Wq:Hid (Wj=u.heap.size):=WX.symm
      have W9:Hid (Below Wj u u):=aN
      have Yz:Hid (p.heap.size<=Wj):=aQ (U XH) (U T)
      clear WX
      go_loopw[13,215] (λWH Wl WA=>∃(k:Nat),k<=Wu/\Wl=.int .i64 k/\Hid (NL WA Wj WH ((a.cols.take k).map λk=>gp (VO bG k)))/\Hid (Below Wj u WA)) (λWH Wl WA=>Wu-(intOf Wl).toNat)
      case atStart=>exact⟨0,bf,rfl,NL.nil _ _,W9⟩
      case round=>
       clear Xy
       obtain⟨k,XB,rfl,Xb,VY⟩:=hrel
       have V2:Hid (Bw u wr):=by have:=U VY;rw[U Wq] at this;exact this
       have Wo:Hid (Wj<=wr.heap.size):=by have:=(U VY).size;rw[<-U Wq] at this;exact this
       by_cases WW:k<Wu
       .have o:(k:Int)<(Wu:Int):=by omega
        obtain⟨z,VW⟩:∃z,a.cols[k]?=some z:=⟨_,ba (by rw[<-U Xv];exact WW)⟩
        have W8:=VV (em (λk=>gp (VO bG k)) VW)
        have Xn:Hid (((a.cols.take k).map λk=>gp (VO bG k)).length+1<=1099511627776):=by show _<=_;rw[VP,List.length_take,<-U Xv];omega
        obtain⟨YH,Y0,WS,X4⟩:=((U X7).aa (U V2)).get VW
        have X2:=U Yd z (a8 VW)
        rw[WS]
        clear WS VW
        have Zy:z=1∨z=2:=by omega
        have WB:=VV (ae (ar _ wr) (.cells #[.string ⟨#[105,110,116]⟩,.string ⟨#[116,101,120,116]⟩] 9))
        rcases Zy with rfl|rfl
        .have XI:Hid (gp (VO bG 1)=bz ⟨#[105,110,116]⟩):=by show _=_;rw[show VO bG 1=[105,110,116] by kernel_rfl];rfl
         go_wp2_with (first
          | (go_at_call 41;refine(bI _ _).mono ?_;rintro Xs Wm ⟨rfl,Wg⟩;have l:=ae (ar _ Wm) (.cells #[.bool false,.string ⟨#[105,110,116]⟩,.slice none 0 0] 46);have W:=VV (ac (ac (U WB) Wg) l);have Xc:=VV ((U Xb).aa (U W));clear Wg l)
          | (refine cM _ rfl (.tmp 219) (.tmp 226) rfl Wj u13 _ (bz ⟨#[105,110,116]⟩,none,0) Wm.heap.size rfl (U Xc) rfl (by show Nt.aj _ _ none [];rw[Nt.aj];trivial) (gM (by simp[go_sem]) (by simp[go_sem]) (by simp[go_sem])) (U Xn) (aQ (U Wo) (U W).size) ?_;intro XS Xl Wt We;have Xd:=VV Wt;have WJ:=VV ((U VY).trans (((U W).mono (U Wo)).trans We));clear Wt We))
         go_roundw
         case rel=>exact⟨k+1,by omega,by go_num,(by rw[U W8,U XI];exact Xd),WJ⟩
         case measure=>simp[intOf]<;>omega
        .have XI:Hid (gp (VO bG 2)=bz ⟨#[116,101,120,116]⟩):=by show _=_;rw[show VO bG 2=[116,101,120,116] by kernel_rfl];rfl
         go_wp2_with (first
          | (go_at_call 41;refine(bI _ _).mono ?_;rintro Xs Wm ⟨rfl,Wg⟩;have l:=ae (ar _ Wm) (.cells #[.bool false,.string ⟨#[116,101,120,116]⟩,.slice none 0 0] 46);have W:=VV (ac (ac (U WB) Wg) l);have Xc:=VV ((U Xb).aa (U W));clear Wg l)
          | (refine cM _ rfl (.tmp 219) (.tmp 226) rfl Wj u13 _ (bz ⟨#[116,101,120,116]⟩,none,0) Wm.heap.size rfl (U Xc) rfl (by show Nt.aj _ _ none [];rw[Nt.aj];trivial) (gM (by simp[go_sem]) (by simp[go_sem]) (by simp[go_sem])) (U Xn) (aQ (U Wo) (U W).size) ?_;intro XS Xl Wt We;have Xd:=VV Wt;have WJ:=VV ((U VY).trans (((U W).mono (U Wo)).trans We));clear Wt We))
         go_roundw
         case rel=>exact⟨k+1,by omega,by go_num,(by rw[U W8,U XI];exact Xd),WJ⟩
         case measure=>simp[intOf]<;>omega
       .have o:¬(k:Int)<(Wu:Int):=by omega
        have WR:k=Wu:=by omega
        have Wr:=U Xb
        rw[show (a.cols.take k).map (λk=>gp (VO bG k))=a.cols.map λk=>gp (VO bG k) by rw[WR,U Xv,gJ]] at Wr
        obtain⟨Wk,Wf⟩:=al (a.cols.map λk=>gp (VO bG k))
        rw[<-Wf] at Wr Y
        obtain⟨Wv,Ww,rfl,Xp⟩:=Wr.node
        have R:=VV (fP Xp (show base<=Wj from U T))
        have WC:=VV (U V2)
        have Y6:Hid (p.heap.size+1<u.heap.size):=by have:=U WD;rw[U Wq] at this;exact this
        clear Xp Wr WR WW XB Wf Xb
        go_wp2_with (first
         | (go_at_call 41;refine(bI _ _).mono ?_;rintro Xs Wm ⟨rfl,Wg⟩;replace WC:=VV (ac (U WC) Wg);replace R:=VV (aU (U R) Wg);clear Wg)
         | (go_at_call 42;(have Zf:=U XT);refine(cc _ _ _ _).mono ?_;rintro Xs ZA ⟨rfl,XA⟩;replace WC:=VV (ac (U WC) XA);replace XT:=VV (aU (U XT) XA);obtain⟨V9,Wa,Wb,WT,WU,WV⟩:=(U Wz).aa (U WC) (U Y6);clear XA Zf)
         | (go_at_call 42;refine(cc _ _ _ _).mono ?_;rintro Xs Xl ⟨rfl,We⟩;replace WC:=VV (ac (U WC) We);replace R:=VV (aU (U R) We);have XT:=VV (cW Xl [(bz ⟨#[101,109,112,116,121]⟩,none,0),(cY Wk,Wv,Ww)] base (aQ (U T) (by have:=(U WC).size;rw[<-U Wq] at this;exact this)) (by
           intro V8 B
           simp only[List.mem_cons,List.not_mem_nil,or_false] at B
           rcases B with rfl|rfl
           .exact cf
           .exact U R));have l:=ae (ar _ Xl) (.cells #[.bool false,.string ⟨#[101,109,112,116,121]⟩,.slice none 0 0,.bool true,.string ⟨#[]⟩,.slice Wv Wk.length Ww] 46);replace WC:=VV (ac (U WC) l);clear We l))
        refine aM (v:=.agg #[.bool true,.string ⟨#[]⟩,.slice (some ⟨Xl.heap.size,0,none⟩) 2 2]) (by simp[results,results13,go_sem,V9,Wa,Wb]) rfl ?_
        rw[U WK]
        exact h5.eq (eO (ac (U X) (U WC)) (Nat.le_succ _) (U Wn) (U XT) rfl) (U Y)
end Go.Proofs.YtabmgpillccfaaaGreatDoor
