import Derived.Test.YtabmgpillccfaaaGreatDoorUcI
set_option linter.all false
set_option maxHeartbeats 4000000
set_option maxRecDepth 100000
namespace Go.Proofs.YtabmgpillccfaaaGreatDoor
open Go.RowKit Go.Sort Go.Proofs.Tryz
theorem mX(V7:ByteArray)(h e p1 p2 p3 p4 p5:Dt)(Za:(Dt.mk true V7 (h::[e,p1,p2,p3,p4,p5])).fin)(t:Option Addr)(V4:Nat)(l:World)(Y0:Dt.all l t (h::[e,p1,p2,p3,p4,p5]))(YX:GT l)(Ye:ch aX (headD (.mk true V7 (h::[e,p1,p2,p3,p4,p5])))=9) (YK:∀(V2:Nat) (Z:Dt),[p5][V2]?=some Z->∀(P:Option Addr) (x:Nat) (c:World),Dt.all c P Z.l->Bw l c->Calls prog 18 #[Z.val P x] c (cS (bZ Z) c)):Calls prog 18 #[(Dt.mk true V7 (h::[e,p1,p2,p3,p4,p5])).val t V4] l (cS (bu 10 [e,p1,p2,p3,p4,p5] ([e,p1,p2,p3,p4,p5].map bZ)) l):=by
 obtain⟨V0,X2⟩:=al (bu 10 [e,p1,p2,p3,p4,p5] ([e,p1,p2,p3,p4,p5].map bZ));rw[<-X2];have XD:=Dt.af Za;have Wm:=λc (y:Dt.all c t (h::[e,p1,p2,p3,p4,p5]))=>cg (.mk true V7 (h::[e,p1,p2,p3,p4,p5])) t V4 c y XD.2.2.1;obtain⟨XF,YY⟩:=al (headD (.mk true V7 (h::[e,p1,p2,p3,p4,p5])));rw[<-YY] at Wm Ye;have Xl:=λt c y=>bL (aX.map bs) (by rw[VP,a7];decide) XF t 12 c y;rw[VP,a7,show Lib.idxOfS (aX.map bs) XF=9 from Ye] at Xl;have Xl:=VV Xl;show Calls prog 18 #[.agg #[.bool true,.string V7,.slice t 7 (7+V4)]] l (cS V0 l);have Wm:=λc (y:Dt.all c t (h::[e,p1,p2,p3,p4,p5]))=>(show Calls prog 54 #[.agg #[.bool true,.string V7,.slice t 7 (7+V4)]] c λn S=>n=.returned (.string XF)/\Bw c S from Wm c y);have Yl:7=(h::[e,p1,p2,p3,p4,p5]).length:=rfl;obtain⟨WS,XZ,W,x,Yg,Yk,X8,Yf,Yh⟩:=cU l V7 t 7 (7+V4);obtain⟨g,W8⟩:=al (gW l V7 t 7 (7+V4));rw[<-W8] at WS XZ W x Yg Yk X8 Yf Yh;unfold gW at W8;have Xv:=Dt.ab _ Y0 WS;obtain⟨YN,Xs,Yi,Y1⟩:=dY V4 1 6 7 Yl Xv (by omega) (by omega);obtain⟨Xp,cg,XE,Y2⟩:=es V4 6 7 Yl Xv (by omega);obtain⟨Wq,Y7⟩:=al (7+V4);rw[<-Y7] at Wm W8 x Yi XE ⊢;obtain⟨Xt,Y8⟩:=al (1+cg);have Yi:∀c,(Instr.slice 44 (.slice t 7 Wq) (some (.int .i64 1)) (some (.int .i64 6)) none).run prog c=.ok (.slice YN 5 Xs) c:=Yi;have XE:∀c,(Instr.slice 44 (.slice t 7 Wq) (some (.int .i64 6)) none none).run prog c=.ok (.slice Xp 1 Xt) c:=by rw[Y8];exact XE
 have YZ:∀c,Bw g c->Calls prog 55 #[.slice Xp 1 Xt] c (jG (λc t j=>Pl.all c t j) (aW ([p5].map bZ)) c):=λc y=>by skip;skip;exact(ci [p5] (by have:(h::[e,p1,p2,p3,p4,p5]).length<=1000000:=XD.2.2.1;simp only[a1,List.length_nil] at this ⊢;omega) Xp Xt c (Dt.ab _ Y2 y) λV2 Z ht P x W' W9 hb=>YK V2 Z ht P x W' W9 (ac (ac WS y) hb)).mono λ_ _ h=>h.pl
 have ZX:=VV YZ;have Wm:=VV (Wm g Xv);have Z2:=VV Y1;have ZI:Hid (CA g [((l.heap.size,2),.slice t 7 Wq),((l.heap.size+3,9),.int .i64 5),((l.heap.size+4,9),.int .i64 1)]):=⟨x,X8 9 _ rfl,Yf 9 _ rfl,trivial⟩;have HST:=VV Yk;have Wd:=VV Yg;have V9:=VV WS;have ZZ:=VV Yh;have W4:=VV XD;have XP:=VV (YX.aa WS);have HW5:=VV W8.symm;have YI:=VV X2;clear WS Yg Yk X8 Yf Yh Xv Y2 Y8 Y7 XD YZ YY Ye YK Y0 YX Za W8 Yl Y1 X2;go_enter func18,ntmps18;go_upto_region 4 with fail;rw[U HW5]
 go_upto_region 5 with (first
  | (go_at_call 53;refine(U Xl _ _ (U HST6)).mono ?_;rintro Yt ZA ⟨rfl,rfl⟩)
  | (go_at_call 54;refine(U Wm).mono ?_;rintro Yt w6 ⟨rfl,Xz⟩;have ZB:=VV Xz;have HST6:=VV ((U HST).aa Xz);have Y6:=(U ZI).aa Xz;have ZE:=VV Y6;obtain⟨C,Q,WX,_⟩:=Y6;clear Xz))
 have Yp:=cell_regrown C;have Yq:=cell_regrown Q;have WU:=cell_regrown WX;refine wp_region_quiet_below (by kernel_rfl) (by kernel_rfl) ?_;repeat (go_big_quiet_step (fail))
 refine wpQuiet_nil ?_;intro W0 Yn;have Yw:Hid (Bw g W0):=ac (U ZB) (by obtain⟨Wi,rfl⟩:=Yn;exact below_regrown _ _ _);have ZF:=VV ((U ZE).aa (by obtain⟨Wi,rfl⟩:=Yn;exact below_regrown _ _ _:Bw ZA W0));obtain⟨d,Yc⟩:=al W0.heap.size;obtain⟨Xh,Xd⟩:=al (W0.alloc (.cells #[.int .i64 10,.string ⟨#[]⟩,.slice none 0 0,.slice none 0 0,.slice none 0 0,.slice none 0 0,.int .i64 0,.int .i64 0,.int .i64 0,.int .i64 0,.slice none 0 0] 28));have W9:=ae (ar _ W0) (.cells #[.int .i64 10,.string ⟨#[]⟩,.slice none 0 0,.slice none 0 0,.slice none 0 0,.slice none 0 0,.int .i64 0,.int .i64 0,.int .i64 0,.int .i64 0,.slice none 0 0] 28);have ZC:Hid (Bw g Xh):=by rw[Xd];exact ac (U Yw) W9
 have ZK:Hid (bp Xh d [.int .i64 10,.string ⟨#[]⟩,.slice none 0 0,.slice none 0 0,.slice none 0 0,.slice none 0 0,.int .i64 0,.int .i64 0,.int .i64 0,.int .i64 0,.slice none 0 0]):=by rw[Xd,Yc];exact bp.new W0 [.int .i64 10,.string ⟨#[]⟩,.slice none 0 0,.slice none 0 0,.slice none 0 0,.slice none 0 0,.int .i64 0,.int .i64 0,.int .i64 0,.int .i64 0,.slice none 0 0] 28
 have Y9:CA Xh [((l.heap.size,2),.slice t 7 Wq),((l.heap.size+3,9),.int .i64 5),((l.heap.size+4,9),.int .i64 1)]:=by rw[Xd];exact(U ZF).aa W9
 have ZG:=VV Y9;obtain⟨C,Q,WX,_⟩:=Y9;have VZ:Hid (l.heap.size+1<d/\g.heap.size<=d):=by show _/\_;have:=(U Yw).size;have:=U ZZ;omega
 have HWL:=VV Xd.symm;have XR:=VV Yc.symm;clear Yc Xd W9 Yn Yp Yq WU;go_upto_region 8 with fail;rw[U HWL,U XR];have Yp:=cell_regrown C;have Yq:=cell_regrown Q;have WU:=cell_regrown WX;refine wp_region_quiet_below (by kernel_rfl) (by kernel_rfl) ?_;repeat (go_big_quiet_step (fail))
 refine wpQuiet_nil ?_;intro Xg Zt;have XA:Bw Xh Xg:=by obtain⟨Wi,rfl⟩:=Zt;exact below_regrown _ _ _
 have Yx:=VV (ac (U ZC) XA).drew;have Wc:Hid (CA Xg.drew [((l.heap.size,2),.slice t 7 Wq),((l.heap.size+3,9),.int .i64 5)]):=by obtain⟨C,Q,_⟩:=(U ZG).aa XA;exact⟨C,Q,trivial⟩
 have YG:Hid (bp Xg.drew d [.int .i64 10,.string ⟨#[]⟩,.slice none 0 0,.slice none 0 0,.slice none 0 0,.slice none 0 0,.int .i64 0,.int .i64 0,.int .i64 0,.int .i64 0,.slice none 0 0]):=((U ZK).aa XA).aa aN.drew;have ZT:Hid (d<Xg.drew.heap.size):=bY _ _ ((U YG) 0 _ rfl).1;clear Zt Yp Yq WU C Q WX XA;go_upto_region 10 with fail;refine VR (λc:World=>CA c [((l.heap.size,2),.slice t 7 Wq),((l.heap.size+3,9),.int .i64 5)]) 8 ?_;refine ai 0 (.pointer (some ⟨l.heap.size,2,none⟩)) rfl (U Wc) ?_;refine ai 1 (.slice t 7 Wq) rfl (U Wc) ?_ λS w=>by simp only[CA] at w;obtain⟨C,Q,_⟩:=w;go_simp
 refine ai 2 (.slice (some ⟨l.heap.size+3,0,none⟩) 12 12) rfl (U Wc) ?_;refine ai 3 (.int .i64 9) rfl (U Wc) ?_;refine ai 4 (.pointer (some ⟨l.heap.size+3,9,none⟩)) rfl (U Wc) ?_;refine ai 5 (.int .i64 5) rfl (U Wc) ?_ λS w=>by simp only[CA] at w;obtain⟨C,Q,_⟩:=w;go_simp
 refine ai 6 (.int .i64 6) rfl (U Wc) ?_ λS _=>by go_simp;rfl
 refine ai 7 (.slice Xp 1 Xt) rfl (U Wc) ?_ λS _=>by have:=XE S;go_simp
 refine ap 8 rfl λs k=>?_;go_simp;refine(U ZX _ (U Yx)).mono ?_;rintro _ w10 ⟨X3,o,WW,cv,Wy,rfl,Y3,Y4⟩;go_simp;refine aS k ?_;clear k s;refine cJ (S2:=λ_=>True) (k2:=14) _ _ _ _ (.inr rfl) ?_;have Yd:=(U YG).aa X3;obtain⟨Wg,fz10⟩:=Yd 10 _ rfl;refine ai 9 (.tuple #[.slice o WW cv,.bool Wy]) rfl trivial ?_;refine ai 10 (.slice o WW cv) rfl trivial ?_;refine ai 11 (.bool Wy) rfl trivial ?_;refine ai 12 (.pointer (some ⟨d,10,none⟩)) rfl trivial ?_;refine ap 13 rfl λs k=>?_;go_simp;refine aO k trivial ?_;clear k s;refine ap 14 rfl λs k=>?_;go_simp;refine aS k ?_;clear k s;refine bh ?_;obtain⟨VW,Xa⟩:=al (w10.setCell ⟨d,10,none⟩ (.slice o WW cv));rw[<-Xa];have XC:Bw g VW:=by rw[Xa];exact(ac (U Yx) X3).setCell (p:=⟨d,10,none⟩) (U VZ).2 _
 have VY:=VV XC;have ZD:=VV (ac (U V9) XC);have ZY:Hid (bp VW (l.heap.size+1) VT):=(U Wd).aa XC;have Xk:Hid (bp VW d [.int .i64 10,.string ⟨#[]⟩,.slice none 0 0,.slice none 0 0,.slice none 0 0,.slice none 0 0,.int .i64 0,.int .i64 0,.int .i64 0,.int .i64 0,.slice o WW cv]):=by rw[Xa];exact Yd.set 10 _
 have Zj:d+1<=Xg.drew.heap.size:=U ZT;have HX:Hid (Wy=true->∃j,aW ([p5].map bZ)=some j/\j.length=WW/\SK (SN (d+1) VW) VW λc=>Pl.all c o j):=λn=>by obtain⟨j,z,B,_,V5⟩:=Y4 n;rw[Xa];exact⟨j,z,B,(V5.low Zj).aw _⟩
 have HX0:=VV Y3;clear Xa XC Yd Y3 Y4 X3 Wg fz10 Zj;cases Wy with
 | false=>(have A:Hid (V0=none):=by show _=_;rw[U YI];have n:=U HX0 rfl;show (cn d0 e).bind (λX1=>(bO p1).bind λX0=>(bO p2).bind λYs=>(dM p3).bind λW6=>(eU p4).bind λXe=>(aW ([p5].map bZ)).map λj=>Pl.mk 10 ⟨#[]⟩ [] W6 Xe [] X1 X0 Ys 0 j)=none;rw[n];cases cn d0 e with|none=>rfl|some Yu=>cases bO p1 with|none=>rfl|some W1=>cases bO p2 with|none=>rfl|some W2=>cases dM p3 with|none=>rfl|some x3=>exact cb _);have b:=U ZY;obtain⟨D,Wz⟩:=b 0 _ rfl;obtain⟨E,WA⟩:=b 1 _ rfl;obtain⟨G,WC⟩:=b 2 _ rfl;obtain⟨I,WD⟩:=b 3 _ rfl;obtain⟨J,WE⟩:=b 4 _ rfl;obtain⟨K,WF⟩:=b 5 _ rfl;obtain⟨L,We⟩:=b 6 _ rfl;obtain⟨M,WG⟩:=b 7 _ rfl;obtain⟨N,WH⟩:=b 8 _ rfl;obtain⟨O,WI⟩:=b 9 _ rfl;obtain⟨F,WB⟩:=b 10 _ rfl;clear b;have a:=U Xk;obtain⟨Wf,_⟩:=a 0 _ rfl;obtain⟨WJ,_⟩:=a 1 _ rfl;obtain⟨WK,_⟩:=a 2 _ rfl;obtain⟨WL,_⟩:=a 3 _ rfl;obtain⟨WM,_⟩:=a 4 _ rfl;obtain⟨WN,_⟩:=a 5 _ rfl;obtain⟨WO,_⟩:=a 6 _ rfl;obtain⟨WP,_⟩:=a 7 _ rfl;obtain⟨WQ,_⟩:=a 8 _ rfl;obtain⟨WR,_⟩:=a 9 _ rfl;obtain⟨Wg,_⟩:=a 10 _ rfl;clear a;go_wp2;refine aM (v:=.tuple #[.agg #[.int .i64 10,.string ⟨#[]⟩,.slice none 0 0,.slice none 0 0,.slice none 0 0,.slice none 0 0,.int .i64 0,.int .i64 0,.int .i64 0,.int .i64 0,.slice o WW cv],.bool false]) (by simp[results,results18,go_sem,D,E,G,I,J,K,L,M,N,O,F]) rfl ?_;exact cS.no (aJ (U ZD) (Nat.le_succ _) _ _ _ _ _ _ _ _ _ _ _) (U A) _ _ _ _ _ _ _ _ _ _ _ _ _ _ _ _ _ _ _ _ _
 | true=>
  obtain⟨j,Zv,rfl,Zp⟩:=U HX rfl
  have Z3:=VV Zp
  have HXS:=VV Zv
  clear Zp Zv
  have Wr:Dt.all g YN [e,p1,p2,p3,p4]:=U Z2
  obtain⟨f,i,_,_,rfl,_,_⟩:=Dt.get Wr (show [e,p1,p2,p3,p4][0]?=some e from rfl)
  obtain⟨a0,XZ,Zk,Zd⟩:=Dt.aE (i:=0) (t:=e) Wr rfl
  have XU:Hid (g.cell? ⟨f,i,none⟩=some (.bool e.k)/\g.cell? ⟨f,i+1,none⟩=some (.string e.s)/\g.cell? ⟨f,i+2,none⟩=some (.slice a0 e.l.length (e.l.length+XZ))):=Zk
  have HL0:=VV Zd
  obtain⟨Wn,W,V6,Ze⟩:=Dt.aE (i:=1) (t:=p1) Wr rfl
  have ZU:Hid (g.cell? ⟨f,i+3,none⟩=some (.bool p1.k)/\g.cell? ⟨f,i+3+1,none⟩=some (.string p1.s)/\g.cell? ⟨f,i+3+2,none⟩=some (.slice Wn p1.l.length (p1.l.length+W))):=V6
  have ZP:=VV Ze
  obtain⟨P,x,Wh,Zf⟩:=Dt.aE (i:=2) (t:=p2) Wr rfl
  have ZV:Hid (g.cell? ⟨f,i+6,none⟩=some (.bool p2.k)/\g.cell? ⟨f,i+6+1,none⟩=some (.string p2.s)/\g.cell? ⟨f,i+6+2,none⟩=some (.slice P p2.l.length (p2.l.length+x))):=Wh
  have ZQ:=VV Zf
  obtain⟨YL,YP,Zl,Zg⟩:=Dt.aE (i:=3) (t:=p3) Wr rfl
  have XV:Hid (g.cell? ⟨f,i+9,none⟩=some (.bool p3.k)/\g.cell? ⟨f,i+9+1,none⟩=some (.string p3.s)/\g.cell? ⟨f,i+9+2,none⟩=some (.slice YL p3.l.length (p3.l.length+YP))):=Zl
  have ZR:=VV Zg
  obtain⟨YM,YQ,Zm,Zh⟩:=Dt.aE (i:=4) (t:=p4) Wr rfl
  have XW:Hid (g.cell? ⟨f,i+12,none⟩=some (.bool p4.k)/\g.cell? ⟨f,i+12+1,none⟩=some (.string p4.s)/\g.cell? ⟨f,i+12+2,none⟩=some (.slice YM p4.l.length (p4.l.length+YQ))):=Zm
  have ZS:=VV Zh
  clear Wr Zk Zd V6 Ze Wh Zf Zl Zg Zm Zh
  have Xj:Hid (V0=(cn d0 e).bind (λX1=>(bO p1).bind λX0=>(bO p2).bind λYs=>(dM p3).bind λW6=>(eU p4).bind λXe=>(aW ([p5].map bZ)).map λj=>Pl.mk 10 ⟨#[]⟩ [] W6 Xe [] X1 X0 Ys 0 j)):=U YI
  have hp0s:=(Dt.af (Dt.ag (U W4).2.2.2 (show e∈h::[e,p1,p2,p3,p4,p5] by simp))).1
  obtain⟨Wf,_⟩:=(U Xk) 0 _ rfl
  go_upto_region 46 with fail
  have Wx:Hid (CA VW.drew [((f,i+3),.bool p1.k),((f,i+3+1),.string p1.s),((f,i+3+2),.slice Wn p1.l.length (p1.l.length+W)),((f,i+6),.bool p2.k),((f,i+6+1),.string p2.s),((f,i+6+2),.slice P p2.l.length (p2.l.length+x))]):=by
   obtain⟨Yu,W1,W2⟩:=U ZU
   obtain⟨z0,r,u⟩:=U ZV
   exact⟨aG Yu (U VY).drew,aG W1 (U VY).drew,aG W2 (U VY).drew,aG z0 (U VY).drew,aG r (U VY).drew,aG u (U VY).drew,trivial⟩
  have XH:=VV (ae (ar _ VW).drew (.cells #[.bool p1.k,.string p1.s,.slice Wn p1.l.length (p1.l.length+W),.bool p2.k,.string p2.s,.slice P p2.l.length (p2.l.length+x)] 46))
  have HTW:=VV (j0 (w:=VW.drew) (p1:=p1) (p2:=p2) (c1:=W) (c2:=x) (Dt.ab _ (U ZP) (U VY).drew) (Dt.ab _ (U ZQ) (U VY).drew))
  have Zn:(p1:Dt).fin:=(Dt.ag (U W4).2.2.2 (show p1∈h::[e,p1,p2,p3,p4,p5] by simp))
  have Zo:(p2:Dt).fin:=(Dt.ag (U W4).2.2.2 (show p2∈h::[e,p1,p2,p3,p4,p5] by simp))
  have ZW:=VV λ(c:World) (y:Below (VW.drew.alloc (.cells #[.bool p1.k,.string p1.s,.slice Wn p1.l.length (p1.l.length+W),.bool p2.k,.string p2.s,.slice P p2.l.length (p2.l.length+x)] 46)).heap.size (VW.drew.alloc (.cells #[.bool p1.k,.string p1.s,.slice Wn p1.l.length (p1.l.length+W),.bool p2.k,.string p2.s,.slice P p2.l.length (p2.l.length+x)] 46)) c)=>lU Zn Zo VW.heap.size c (Dt.ab _ (U HTW) y) ((U XP).aa (ac (U VY) (ac (U XH) y)))
  clear Zn Zo
  refine VR (λc:World=>CA c [((f,i+3),.bool p1.k),((f,i+3+1),.string p1.s),((f,i+3+2),.slice Wn p1.l.length (p1.l.length+W)),((f,i+6),.bool p2.k),((f,i+6+1),.string p2.s),((f,i+6+2),.slice P p2.l.length (p2.l.length+x))]) 6 ?_
  refine ai 0 (.slice (some ⟨f,i,none⟩) 5 Xs) rfl (U Wx) ?_
  refine ai 1 (.pointer (some ⟨f,i+3,none⟩)) rfl (U Wx) ?_
  refine ai 2 (.agg #[.bool p1.k,.string p1.s,.slice Wn p1.l.length (p1.l.length+W)]) rfl (U Wx) ?_ λS w=>by simp only[CA] at w;obtain⟨C,Q,WX,s3,s4,s5,_⟩:=w;go_simp
  refine ai 3 (.slice (some ⟨f,i,none⟩) 5 Xs) rfl (U Wx) ?_
  refine ai 4 (.pointer (some ⟨f,i+6,none⟩)) rfl (U Wx) ?_
  refine ai 5 (.agg #[.bool p2.k,.string p2.s,.slice P p2.l.length (p2.l.length+x)]) rfl (U Wx) ?_ λS w=>by simp only[CA] at w;obtain⟨C,Q,WX,s3,s4,s5,_⟩:=w;go_simp
  refine ap 6 rfl λs k=>?_
  go_simp
  refine aS k ?_
  clear k s
  refine ap 7 rfl λs k=>?_
  go_simp
  refine(cc _ _ _ _).mono ?_
  rintro _ w42 ⟨rfl,Xy⟩
  go_simp
  refine aS k ?_
  clear k s
  refine ap 8 rfl λs k=>?_
  go_simp
  refine(U ZW _ Xy).mono ?_
  rintro _ V8 ⟨Y5,Xo,Xf,W5,Xr,rfl,YT,YW⟩
  go_simp
  refine aS k ?_
  clear k s
  refine cJ (S2:=λ_=>True) (k2:=13) _ _ _ _ (.inr rfl) ?_
  refine ai 9 (.tuple #[.slice Xo Xf W5,.bool Xr]) rfl trivial ?_
  refine ai 10 (.slice Xo Xf W5) rfl trivial ?_
  refine ai 11 (.bool Xr) rfl trivial ?_
  refine ai 12 (.slice Xo Xf W5) rfl trivial ?_
  refine ap 13 rfl λs k=>?_
  go_simp
  refine aS k ?_
  clear k s
  refine bh ?_
  have HX0P:=VV YT
  have HX1P:Hid (Xr=true->∃Wv,aW [bO p1,bO p2]=some Wv/\Wv.length=Xf/\SK (SN (d+1) V8) V8 λc=>bC c Xo Wv):=λn=>by
   obtain⟨Wv,z,B,_,V5⟩:=YW n
   have Zi:=bY _ _ ((U Xk) 0 _ rfl).1
   have hs1:=(U XH).size
   have hs2:=Xy.size
   exact⟨Wv,z,B,V5.low (aQ Zi (aQ hs1 hs2))⟩
  have XI:=VV (ac (U XH) (ac Xy Y5))
  clear YT YW Xy Y5
  have W3:=VV (ac (U VY) (U XI))
  have HBW1:=VV (ac (U V9) (U W3))
  have HRJ1:Hid (bp V8 (l.heap.size+1) VT):=(U Wd).aa (U W3)
  have ZL:Hid (bp V8 d [.int .i64 10,.string ⟨#[]⟩,.slice none 0 0,.slice none 0 0,.slice none 0 0,.slice none 0 0,.int .i64 0,.int .i64 0,.int .i64 0,.int .i64 0,.slice o j.length cv]):=(U Xk).aa (U XI)
  have Z4:Hid (SK (SN (d+1) V8) V8 (λc=>Pl.all c o j)):=(U Z3).up (U XI)
  clear Wf
  obtain⟨q,Xw⟩:=al (Lib.idxOfS (d0.map bs) e.s)
  have Xn:Hid (cn d0 e=if e.k=false/\0<=q then some (q+1) else none):=by show _=_;unfold cn ch;rw[Xw]
  have hir:=eE (d0.map bs) e.s 0
  rw[show Lib.idxFromS (d0.map bs) e.s 0=q from Xw.symm,VP,fE] at hir
  have XT:=VV λt c y=>bL (d0.map bs) (by rw[VP,fE];decide) e.s t 6 c y
  rw[VP,fE,<-Xw] at XT
  have Ww:Hid (CA V8.drew [((f,i+1),.string e.s)]):=⟨aG (U XU).2.1 (U W3).drew,trivial⟩
  have YH:Hid (V8.cell? ⟨f,i,none⟩=some (.bool e.k)):=aG (U XU).1 (U W3)
  obtain⟨Zx,Zb⟩:=al e.k
  obtain⟨Zz,Zr⟩:=al e.s
  rw[<-Zb] at Xn YH
  rw[<-Zr] at XT Ww
  have z:wrap64 (q+1)=q+1:=by unfold wrap64;omega
  clear Xw Zb Zr
  go_upto_region 47 with fail
  refine VR (λc:World=>CA c [((f,i+1),.string Zz)]) 5 ?_
  refine ai 1 (.slice (some ⟨f,i,none⟩) 5 Xs) rfl (U Ww) ?_
  refine ai 2 (.pointer (some ⟨f,i,none⟩)) rfl (U Ww) ?_
  refine ai 3 (.pointer (some ⟨f,i+1,none⟩)) rfl (U Ww) ?_
  refine ai 4 (.string Zz) rfl (U Ww) ?_ λS w=>by simp only[CA] at w;obtain⟨C,_⟩:=w;go_simp
  refine ap 0 rfl λs k=>?_
  go_simp
  refine(hr _).mono ?_
  rintro _ wW ⟨rfl,Zs,X6⟩
  go_simp
  refine aO k ((U Ww).aa X6) ?_
  clear k s
  refine ap 5 rfl λs k=>?_
  go_simp
  refine(U XT _ wW ⟨_,0,rfl,λV2 x Zu=>?_⟩).mono ?_
  .rw[b8] at Zu
   obtain⟨y,hy,rfl⟩:=Option.map_eq_some_iff.1 Zu
   rw[aT]
   exact Zs V2 y hy
  rintro _ wV ⟨rfl,rfl⟩
  go_simp
  refine aS k ?_
  clear k s
  have X7:=(ar _ V8).drew.trans (X6.mono aV)
  have Yb:=(U ZL).aa X7
  obtain⟨h6,We⟩:=Yb 6 _ rfl
  have ZO:=VV Yb
  have Xi:=VV X7
  clear Yb Zs X6 X7
  refine cJ (S2:=λ_=>True) (k2:=8) _ _ _ _ (.inr rfl) ?_
  refine ai 6 (.int .i64 (q+1)) rfl trivial ?_ λS _=>by go_simp;simp[IntKind.wrap,IntKind.bits,IntKind.signed];omega
  refine ai 7 (.pointer (some ⟨d,6,none⟩)) rfl trivial ?_
  refine ap 8 rfl λs k=>?_
  go_simp
  refine aS k ?_
  clear k s
  refine bh ?_
  obtain⟨R,Ws⟩:=al (wV.setCell ⟨d,6,none⟩ (.int .i64 (q+1)))
  rw[<-Ws]
  have XJ:Hid (Bw g R):=by rw[Ws];exact(ac (U W3) (U Xi)).setCell (p:=⟨d,6,none⟩) (U VZ).2 _
  have XM:=VV (ac (U V9) (U XJ))
  have XX:Hid (bp R (l.heap.size+1) VT):=(U Wd).aa (U XJ)
  have Wl:Hid (bp R d [.int .i64 10,.string ⟨#[]⟩,.slice none 0 0,.slice none 0 0,.slice none 0 0,.slice none 0 0,.int .i64 (q+1),.int .i64 0,.int .i64 0,.int .i64 0,.slice o j.length cv]):=by rw[Ws];exact(U ZO).set 6 _
  have Z5:Hid (SK (SN (d+1) R) R (λc=>Pl.all c o j)):=by rw[Ws];exact((U Z4).up (U Xi)).aw _
  have e00:R.cell? ⟨f,i,none⟩=some (.bool Zx):=by
   rw[Ws,World.cell?_setCell_other (h:=λn=>?_)]
   .exact aG (U YH) (U Xi)
   .have Zi:f<g.heap.size:=bY _ _ (U XU).1
    have h2:=(U VZ).2
    have h3:d=f:=congrArg Addr.block n
    omega
  have HUE:=VV Ws
  clear Ws h6 We
  cases Xr with
  | false=>
   have A:Hid (V0=none):=by
    show _=_
    rw[U Xj]
    have n:=U HX0P rfl
    cases cn d0 e with
    | none=>rfl
    | some Yu=>
     cases V6:bO p1 with
     | none=>rfl
     | some n1=>
      cases Wh:bO p2 with
      | none=>rfl
      | some n2=>rw[V6,Wh] at n;cases n
   have b:=U XX;obtain⟨D,Wz⟩:=b 0 _ rfl;obtain⟨E,WA⟩:=b 1 _ rfl;obtain⟨G,WC⟩:=b 2 _ rfl;obtain⟨I,WD⟩:=b 3 _ rfl;obtain⟨J,WE⟩:=b 4 _ rfl;obtain⟨K,WF⟩:=b 5 _ rfl;obtain⟨L,We⟩:=b 6 _ rfl;obtain⟨M,WG⟩:=b 7 _ rfl;obtain⟨N,WH⟩:=b 8 _ rfl;obtain⟨O,WI⟩:=b 9 _ rfl;obtain⟨F,WB⟩:=b 10 _ rfl;clear b
   have a:=U Wl;obtain⟨Wf,_⟩:=a 0 _ rfl;obtain⟨WJ,_⟩:=a 1 _ rfl;obtain⟨WK,_⟩:=a 2 _ rfl;obtain⟨WL,_⟩:=a 3 _ rfl;obtain⟨WM,_⟩:=a 4 _ rfl;obtain⟨WN,_⟩:=a 5 _ rfl;obtain⟨WO,_⟩:=a 6 _ rfl;obtain⟨WP,_⟩:=a 7 _ rfl;obtain⟨WQ,_⟩:=a 8 _ rfl;obtain⟨WR,_⟩:=a 9 _ rfl;obtain⟨Wg,_⟩:=a 10 _ rfl;clear a
   go_wp2
   refine aM (v:=.tuple #[.agg #[.int .i64 10,.string ⟨#[]⟩,.slice none 0 0,.slice none 0 0,.slice none 0 0,.slice none 0 0,.int .i64 (q+1),.int .i64 0,.int .i64 0,.int .i64 0,.slice o j.length cv],.bool false]) (by simp[results,results18,go_sem,D,E,G,I,J,K,L,M,N,O,F]) rfl ?_
   exact cS.no (aJ (U XM) (Nat.le_succ _) _ _ _ _ _ _ _ _ _ _ _) (U A) _ _ _ _ _ _ _ _ _ _ _ _ _ _ _ _ _ _ _ _ _
  | true=>
  cases Zx with
  | true=>
   have A:Hid (V0=none):=by
    show _=_;rw[U Xj,U Xn];rfl
   have b:=U XX;obtain⟨D,Wz⟩:=b 0 _ rfl;obtain⟨E,WA⟩:=b 1 _ rfl;obtain⟨G,WC⟩:=b 2 _ rfl;obtain⟨I,WD⟩:=b 3 _ rfl;obtain⟨J,WE⟩:=b 4 _ rfl;obtain⟨K,WF⟩:=b 5 _ rfl;obtain⟨L,We⟩:=b 6 _ rfl;obtain⟨M,WG⟩:=b 7 _ rfl;obtain⟨N,WH⟩:=b 8 _ rfl;obtain⟨O,WI⟩:=b 9 _ rfl;obtain⟨F,WB⟩:=b 10 _ rfl;clear b
   have a:=U Wl;obtain⟨Wf,_⟩:=a 0 _ rfl;obtain⟨WJ,_⟩:=a 1 _ rfl;obtain⟨WK,_⟩:=a 2 _ rfl;obtain⟨WL,_⟩:=a 3 _ rfl;obtain⟨WM,_⟩:=a 4 _ rfl;obtain⟨WN,_⟩:=a 5 _ rfl;obtain⟨WO,_⟩:=a 6 _ rfl;obtain⟨WP,_⟩:=a 7 _ rfl;obtain⟨WQ,_⟩:=a 8 _ rfl;obtain⟨WR,_⟩:=a 9 _ rfl;obtain⟨Wg,_⟩:=a 10 _ rfl;clear a
   go_wp2
   refine aM (v:=.tuple #[.agg #[.int .i64 10,.string ⟨#[]⟩,.slice none 0 0,.slice none 0 0,.slice none 0 0,.slice none 0 0,.int .i64 (q+1),.int .i64 0,.int .i64 0,.int .i64 0,.slice o j.length cv],.bool false]) (by simp[results,results18,go_sem,D,E,G,I,J,K,L,M,N,O,F]) rfl ?_
   exact cS.no (aJ (U XM) (Nat.le_succ _) _ _ _ _ _ _ _ _ _ _ _) (U A) _ _ _ _ _ _ _ _ _ _ _ _ _ _ _ _ _ _ _ _ _
  | false=>
  by_cases Xx:q+1=0
  .have A:Hid (V0=none):=by show _=_;rw[U Xj,U Xn,aL (by omega)];rfl
   have b1:((q+1:Int) == 0)=true:=by simp[Xx]
   clear Xx
   have b:=U XX;obtain⟨D,Wz⟩:=b 0 _ rfl;obtain⟨E,WA⟩:=b 1 _ rfl;obtain⟨G,WC⟩:=b 2 _ rfl;obtain⟨I,WD⟩:=b 3 _ rfl;obtain⟨J,WE⟩:=b 4 _ rfl;obtain⟨K,WF⟩:=b 5 _ rfl;obtain⟨L,We⟩:=b 6 _ rfl;obtain⟨M,WG⟩:=b 7 _ rfl;obtain⟨N,WH⟩:=b 8 _ rfl;obtain⟨O,WI⟩:=b 9 _ rfl;obtain⟨F,WB⟩:=b 10 _ rfl;clear b
   have a:=U Wl;obtain⟨Wf,_⟩:=a 0 _ rfl;obtain⟨WJ,_⟩:=a 1 _ rfl;obtain⟨WK,_⟩:=a 2 _ rfl;obtain⟨WL,_⟩:=a 3 _ rfl;obtain⟨WM,_⟩:=a 4 _ rfl;obtain⟨WN,_⟩:=a 5 _ rfl;obtain⟨WO,_⟩:=a 6 _ rfl;obtain⟨WP,_⟩:=a 7 _ rfl;obtain⟨WQ,_⟩:=a 8 _ rfl;obtain⟨WR,_⟩:=a 9 _ rfl;obtain⟨Wg,_⟩:=a 10 _ rfl;clear a
   go_wp2
   refine aM (v:=.tuple #[.agg #[.int .i64 10,.string ⟨#[]⟩,.slice none 0 0,.slice none 0 0,.slice none 0 0,.slice none 0 0,.int .i64 (q+1),.int .i64 0,.int .i64 0,.int .i64 0,.slice o j.length cv],.bool false]) (by simp[results,results18,go_sem,D,E,G,I,J,K,L,M,N,O,F]) rfl ?_
   exact cS.no (aJ (U XM) (Nat.le_succ _) _ _ _ _ _ _ _ _ _ _ _) (U A) _ _ _ _ _ _ _ _ _ _ _ _ _ _ _ _ _ _ _ _ _
  have hI1:((q+1:Int) == 0)=false:=by simpa using Xx
  obtain⟨Wv,Wu,Zw,Yj⟩:=U HX1P rfl
  obtain⟨r,V6⟩:∃r,bO p1=some r:=by cases h:bO p1 with|none=>rw[h] at Wu;cases Wu|some Yv=>exact⟨Yv,rfl⟩
  obtain⟨u,Wh⟩:∃u,bO p2=some u:=by cases h:bO p2 with|none=>rw[V6,h] at Wu;cases Wu|some Yv=>exact⟨Yv,rfl⟩
  have ezs:Wv=[r,u]:=by rw[V6,Wh] at Wu;injection Wu with n;exact n.symm
  subst ezs
  have hnP:Xf=2:=Zw.symm
  subst hnP
  obtain⟨V,Y,rfl,_,_⟩:=fH Yj.now
  have XO:Hid (V0=(dM p3).bind λW6=>(eU p4).bind λXe=>(aW ([p5].map bZ)).map λj=>Pl.mk 10 ⟨#[]⟩ [] W6 Xe [] (q+1) r u 0 j):=by
   show _=_
   rw[U Xj,U Xn,aR ⟨rfl,by omega⟩,V6,Wh];rfl
  have YJ:Hid (SK (SN (d+1) R) R λc=>bC c (some ⟨V,Y,none⟩) [r,u]):=by
   rw[U HUE]
   exact(Yj.up (U Xi)).aw _
  clear Wu Zw Yj V6 Wh Xx
  obtain⟨hg6,_⟩:=(U Wl) 6 _ rfl
  go_upto_region 50 with fail
  have Wk:Hid (CA R.drew [((V,Y),.int .i64 r),((V,Y+1),.int .i64 u)]):=by
   obtain⟨Wy,Zy,n,W1,W2⟩:=fH (U YJ).now
   injection n with n
   injection n with z B
   subst z B
   exact⟨aG W1 aN.drew,aG W2 aN.drew,trivial⟩
  have YD:Hid (CA (R.drew.setCell ⟨d,7,none⟩ (.int .i64 r)) [((V,Y),.int .i64 r),((V,Y+1),.int .i64 u)]):=by
   obtain⟨Wy,Zy,n,W1,W2⟩:=fH (((U YJ).up (ar _ R).drew).aw (o:=7) (.int .i64 r)).now
   injection n with n
   injection n with z B
   subst z B
   exact⟨W1,W2,trivial⟩
  obtain⟨hz1,fz1⟩:=(U Wl) 7 _ rfl
  obtain⟨hz2,fz2⟩:=(U Wl) 8 _ rfl
  refine VR (λc:World=>CA c [((V,Y),.int .i64 r),((V,Y+1),.int .i64 u)]) 9 ?_
  refine ai 0 (.slice (some ⟨V,Y,none⟩) 2 W5) rfl (U Wk) ?_
  refine ai 1 (.pointer (some ⟨V,Y,none⟩)) rfl (U Wk) ?_
  refine ai 2 (.int .i64 r) rfl (U Wk) ?_ λS w=>by simp only[CA] at w;obtain⟨C,Q,_⟩:=w;go_simp
  refine ai 3 (.slice (some ⟨V,Y,none⟩) 2 W5) rfl (U Wk) ?_
  refine ai 4 (.pointer (some ⟨V,Y+1,none⟩)) rfl (U Wk) ?_
  refine ai 5 (.int .i64 u) rfl (U Wk) ?_ λS w=>by simp only[CA] at w;obtain⟨C,Q,_⟩:=w;go_simp
  refine ai 6 (.pointer (some ⟨d,7,none⟩)) rfl (U Wk) ?_
  refine ap 7 rfl λs k=>?_
  go_simp
  refine aO k (U YD) ?_
  clear k s
  refine ai 8 (.pointer (some ⟨d,8,none⟩)) rfl (U YD) ?_
  refine ap 9 rfl λs k=>?_
  go_simp
  refine aS k ?_
  clear k s
  refine bh ?_
  obtain⟨WY,Xb⟩:=al (R.setCell ⟨d,7,none⟩ (.int .i64 r))
  rw[<-Xb]
  have XK:Hid (Bw g WY):=by rw[Xb];exact(ac (U XJ) aN).setCell (p:=⟨d,7,none⟩) (U VZ).2 _
  have HBW3:=VV (ac (U V9) (U XK))
  have HRJ3:Hid (bp WY (l.heap.size+1) VT):=(U Wd).aa (U XK)
  have ZM:Hid (bp WY d [.int .i64 10,.string ⟨#[]⟩,.slice none 0 0,.slice none 0 0,.slice none 0 0,.slice none 0 0,.int .i64 (q+1),.int .i64 r,.int .i64 0,.int .i64 0,.slice o j.length cv]):=by rw[Xb];exact(U Wl).set 7 _
  have Z6:Hid (SK (SN (d+1) WY) WY (λc=>Pl.all c o j)):=by rw[Xb];exact((U Z5).up aN).aw _
  obtain⟨Wj,Xc⟩:=al (WY.setCell ⟨d,8,none⟩ (.int .i64 u))
  rw[<-Xc]
  have XL:Hid (Bw g Wj):=by rw[Xc];exact(ac (U XK) aN).setCell (p:=⟨d,8,none⟩) (U VZ).2 _
  have HBW4:=VV (ac (U V9) (U XL))
  have HRJ4:Hid (bp Wj (l.heap.size+1) VT):=(U Wd).aa (U XL)
  have ZN:Hid (bp Wj d [.int .i64 10,.string ⟨#[]⟩,.slice none 0 0,.slice none 0 0,.slice none 0 0,.slice none 0 0,.int .i64 (q+1),.int .i64 r,.int .i64 u,.int .i64 0,.slice o j.length cv]):=by rw[Xc];exact(U ZM).set 8 _
  have Z7:Hid (SK (SN (d+1) Wj) Wj (λc=>Pl.all c o j)):=by rw[Xc];exact((U Z6).up aN).aw _
  clear Xb Xc hz1 fz1 hz2 fz2
  obtain⟨WZ,Ym⟩:=al Wj.drew
  rw[<-Ym]
  have XB:Bw Wj WZ:=by rw[Ym];exact(aN).drew
  have Wa:=VV (ac (U XL) XB)
  have HBW5:=VV (ac (U V9) (U Wa))
  have HRJ5:Hid (bp WZ (l.heap.size+1) VT):=(U Wd).aa (U Wa)
  have YE:Hid (bp WZ d [.int .i64 10,.string ⟨#[]⟩,.slice none 0 0,.slice none 0 0,.slice none 0 0,.slice none 0 0,.int .i64 (q+1),.int .i64 r,.int .i64 u,.int .i64 0,.slice o j.length cv]):=(U ZN).aa XB
  have Z8:Hid (SK (SN (d+1) WZ) WZ (λc=>Pl.all c o j)):=(U Z7).up XB
  clear Ym XB
  have YA:=VV ((hf p3 (Dt.ag (U W4).2.2.2 (show p3∈h::[e,p1,p2,p3,p4,p5] by simp)) YL YP WZ (Dt.ab _ (U ZR) (U Wa)) ((U XP).aa (U Wa))).mono λ_ _ h=>h.int)
  rw[Dt.ad] at YA
  have e30:=aG (U XV).1 (U Wa)
  have e31:=aG (U XV).2.1 (U Wa)
  have e32:=aG (U XV).2.2 (U Wa)
  go_upto_region 52 with (go_at_call 58;refine(U YA).mono ?_;rintro Yt wA ⟨X4,T,X,V1,Xq,rfl,YR,YU⟩;have HX0A:=VV YR;have HX1A:=VV YU;have Yy:=VV X4;have X9:=(U YE).aa X4;have ZJ:=VV X9;obtain⟨qA,zA⟩:=X9 3 _ rfl;clear X4 YR YU X9)
  obtain⟨V3,WT⟩:=al (wA.setCell ⟨d,3,none⟩ (.slice T X V1))
  rw[<-WT]
  have Wb:Hid (Bw g V3):=by rw[WT];exact(ac (U Wa) (U Yy)).setCell (p:=⟨d,3,none⟩) (U VZ).2 _
  have HBW6:=VV (ac (U V9) (U Wb))
  have HRJ6:Hid (bp V3 (l.heap.size+1) VT):=(U Wd).aa (U Wb)
  have YF:Hid (bp V3 d [.int .i64 10,.string ⟨#[]⟩,.slice none 0 0,.slice T X V1,.slice none 0 0,.slice none 0 0,.int .i64 (q+1),.int .i64 r,.int .i64 u,.int .i64 0,.slice o j.length cv]):=by rw[WT];exact(U ZJ).set 3 _
  have Z9:Hid (SK (SN (d+1) V3) V3 (λc=>Pl.all c o j)):=by rw[WT];exact((U Z8).up (U Yy)).aw _
  have HXA:Hid (Xq=true->∃p,dM p3=some p/\p.length=X/\X<=V1/\SK (SN (d+1) V3) V3 (λc=>bC c T p)):=λn=>by
   obtain⟨p,z,B,W7,V5⟩:=U HX1A n
   rw[WT]
   exact⟨p,z,B,W7,(V5.low (bY _ _ ((U YE) 0 _ rfl).1)).aw _⟩
  clear WT qA zA
  clear e30 e31 e32
  have ZH:Hid (SK (SN (d+1) V3) V3 λc=>Xq=true->∃p,dM p3=some p/\p.length=X/\X<=V1/\bC c T p):=λc y n=>by
   obtain⟨p,z,B,W7,V5⟩:=U HXA n
   exact⟨p,z,B,W7,V5 c y⟩
  have YB:=VV ((js p4 (Dt.ag (U W4).2.2.2 (show p4∈h::[e,p1,p2,p3,p4,p5] by simp)) YM YQ V3 (Dt.ab _ (U ZS) (U Wb)) ((U XP).aa (U Wb))).mono λ_ _ h=>h.key)
  rw[Dt.ad] at YB
  have e40:=aG (U XW).1 (U Wb)
  have e41:=aG (U XW).2.1 (U Wb)
  have e42:=aG (U XW).2.2 (U Wb)
  go_upto_region 53 with (go_at_call 60;refine(U YB).mono ?_;rintro Yt wB ⟨X5,Wo,WV,Wp,YO,rfl,YS,YV⟩;have HX0B:=VV YS;have HX1B:=VV YV;have XG:=VV X5;have Ya:=(U YF).aa X5;have XR:=VV Ya;obtain⟨qB,zB⟩:=Ya 4 _ rfl;clear X5 YS YV Ya)
  obtain⟨VX,Wt⟩:=al (wB.setCell ⟨d,4,none⟩ (.slice Wo WV Wp))
  rw[<-Wt]
  have Yz:Hid (Bw g VX):=by rw[Wt];exact(ac (U Wb) (U XG)).setCell (p:=⟨d,4,none⟩) (U VZ).2 _
  have XN:=VV (ac (U V9) (U Yz))
  have XY:Hid (bp VX (l.heap.size+1) VT):=(U Wd).aa (U Yz)
  have XS:Hid (bp VX d [.int .i64 10,.string ⟨#[]⟩,.slice none 0 0,.slice T X V1,.slice Wo WV Wp,.slice none 0 0,.int .i64 (q+1),.int .i64 r,.int .i64 u,.int .i64 0,.slice o j.length cv]):=by rw[Wt];exact(U XR).set 4 _
  have HSP1234567:Hid (SK (SN (d+1) VX) VX (λc=>Pl.all c o j)):=by rw[Wt];exact((U Z9).up (U XG)).aw _
  have YC:Hid (SK (SN (d+1) VX) VX (λc=>Xq=true->∃p,dM p3=some p/\p.length=X/\X<=V1/\bC c T p)):=by rw[Wt];exact((U ZH).up (U XG)).aw _
  have HXB:Hid (YO=true->∃p,eU p4=some p/\p.length=WV/\WV<=Wp/\SK (SN (d+1) VX) VX (λc=>cL c Wo p)):=λn=>by
   obtain⟨p,z,B,W7,V5⟩:=U HX1B n
   rw[Wt]
   exact⟨p,z,B,W7,(V5.low (bY _ _ ((U YF) 0 _ rfl).1)).aw _⟩
  clear Wt qB zB
  clear e40 e41 e42
  cases Xq with
  | false=>
   have A:Hid (V0=none):=by show _=_;rw[U XO,U HX0A rfl];rfl
   have b:=U XY;obtain⟨D,Wz⟩:=b 0 _ rfl;obtain⟨E,WA⟩:=b 1 _ rfl;obtain⟨G,WC⟩:=b 2 _ rfl;obtain⟨I,WD⟩:=b 3 _ rfl;obtain⟨J,WE⟩:=b 4 _ rfl;obtain⟨K,WF⟩:=b 5 _ rfl;obtain⟨L,We⟩:=b 6 _ rfl;obtain⟨M,WG⟩:=b 7 _ rfl;obtain⟨N,WH⟩:=b 8 _ rfl;obtain⟨O,WI⟩:=b 9 _ rfl;obtain⟨F,WB⟩:=b 10 _ rfl;clear b
   have a:=U XS;obtain⟨Wf,_⟩:=a 0 _ rfl;obtain⟨WJ,_⟩:=a 1 _ rfl;obtain⟨WK,_⟩:=a 2 _ rfl;obtain⟨WL,_⟩:=a 3 _ rfl;obtain⟨WM,_⟩:=a 4 _ rfl;obtain⟨WN,_⟩:=a 5 _ rfl;obtain⟨WO,_⟩:=a 6 _ rfl;obtain⟨WP,_⟩:=a 7 _ rfl;obtain⟨WQ,_⟩:=a 8 _ rfl;obtain⟨WR,_⟩:=a 9 _ rfl;obtain⟨Wg,_⟩:=a 10 _ rfl;clear a
   go_wp2
   refine aM (v:=.tuple #[.agg #[.int .i64 10,.string ⟨#[]⟩,.slice none 0 0,.slice T X V1,.slice Wo WV Wp,.slice none 0 0,.int .i64 (q+1),.int .i64 r,.int .i64 u,.int .i64 0,.slice o j.length cv],.bool false]) (by simp[results,results18,go_sem,D,E,G,I,J,K,L,M,N,O,F]) rfl ?_
   exact cS.no (aJ (U XN) (Nat.le_succ _) _ _ _ _ _ _ _ _ _ _ _) (U A) _ _ _ _ _ _ _ _ _ _ _ _ _ _ _ _ _ _ _ _ _
  | true=>
  cases YO with
  | false=>
   have A:Hid (V0=none):=by show _=_;rw[U XO,U HX0B rfl];cases dM p3<;>rfl
   have b:=U XY;obtain⟨D,Wz⟩:=b 0 _ rfl;obtain⟨E,WA⟩:=b 1 _ rfl;obtain⟨G,WC⟩:=b 2 _ rfl;obtain⟨I,WD⟩:=b 3 _ rfl;obtain⟨J,WE⟩:=b 4 _ rfl;obtain⟨K,WF⟩:=b 5 _ rfl;obtain⟨L,We⟩:=b 6 _ rfl;obtain⟨M,WG⟩:=b 7 _ rfl;obtain⟨N,WH⟩:=b 8 _ rfl;obtain⟨O,WI⟩:=b 9 _ rfl;obtain⟨F,WB⟩:=b 10 _ rfl;clear b
   have a:=U XS;obtain⟨Wf,_⟩:=a 0 _ rfl;obtain⟨WJ,_⟩:=a 1 _ rfl;obtain⟨WK,_⟩:=a 2 _ rfl;obtain⟨WL,_⟩:=a 3 _ rfl;obtain⟨WM,_⟩:=a 4 _ rfl;obtain⟨WN,_⟩:=a 5 _ rfl;obtain⟨WO,_⟩:=a 6 _ rfl;obtain⟨WP,_⟩:=a 7 _ rfl;obtain⟨WQ,_⟩:=a 8 _ rfl;obtain⟨WR,_⟩:=a 9 _ rfl;obtain⟨Wg,_⟩:=a 10 _ rfl;clear a
   go_wp2
   refine aM (v:=.tuple #[.agg #[.int .i64 10,.string ⟨#[]⟩,.slice none 0 0,.slice T X V1,.slice Wo WV Wp,.slice none 0 0,.int .i64 (q+1),.int .i64 r,.int .i64 u,.int .i64 0,.slice o j.length cv],.bool false]) (by simp[results,results18,go_sem,D,E,G,I,J,K,L,M,N,O,F]) rfl ?_
   exact cS.no (aJ (U XN) (Nat.le_succ _) _ _ _ _ _ _ _ _ _ _ _) (U A) _ _ _ _ _ _ _ _ _ _ _ _ _ _ _ _ _ _ _ _ _
  | true=>
  obtain⟨Yr,Zc,rfl,hcB,Zq⟩:=U HXB rfl
  obtain⟨p,Yo,rfl,hcA,_⟩:=(U YC).now rfl
  have Z1:Hid (SK (SN (d+1) VX) VX λc=>bC c T p):=λc y=>by
   obtain⟨ys',Xu,_,_,h4⟩:=U YC c y rfl
   rw[Yo] at Xu
   injection Xu with Xu
   subst Xu
   exact h4
  have Z0:=VV Zq
  have A:Hid (V0=some (.mk 10 ⟨#[]⟩ [] p Yr [] (q+1) r u 0 j)):=by
   show _=_
   rw[U XO,Yo,Zc]
   show (aW ([p5].map bZ)).map _=_
   rw[U HXS];rfl
  clear Zc Yo Zq
  have b:=U XY;obtain⟨D,Wz⟩:=b 0 _ rfl;obtain⟨E,WA⟩:=b 1 _ rfl;obtain⟨G,WC⟩:=b 2 _ rfl;obtain⟨I,WD⟩:=b 3 _ rfl;obtain⟨J,WE⟩:=b 4 _ rfl;obtain⟨K,WF⟩:=b 5 _ rfl;obtain⟨L,We⟩:=b 6 _ rfl;obtain⟨M,WG⟩:=b 7 _ rfl;obtain⟨N,WH⟩:=b 8 _ rfl;obtain⟨O,WI⟩:=b 9 _ rfl;obtain⟨F,WB⟩:=b 10 _ rfl;clear b
  have a:=U XS;obtain⟨Wf,_⟩:=a 0 _ rfl;obtain⟨WJ,_⟩:=a 1 _ rfl;obtain⟨WK,_⟩:=a 2 _ rfl;obtain⟨WL,_⟩:=a 3 _ rfl;obtain⟨WM,_⟩:=a 4 _ rfl;obtain⟨WN,_⟩:=a 5 _ rfl;obtain⟨WO,_⟩:=a 6 _ rfl;obtain⟨WP,_⟩:=a 7 _ rfl;obtain⟨WQ,_⟩:=a 8 _ rfl;obtain⟨WR,_⟩:=a 9 _ rfl;obtain⟨Wg,_⟩:=a 10 _ rfl;clear a
  go_wp2
  refine aM (v:=.tuple #[.agg #[.int .i64 10,.string ⟨#[]⟩,.slice none 0 0,.slice T p.length V1,.slice Wo Yr.length Wp,.slice none 0 0,.int .i64 (q+1),.int .i64 r,.int .i64 u,.int .i64 0,.slice o j.length cv],.bool true]) (by simp[results,results18,go_sem,D,E,G,I,J,K,L,M,N,O,F]) rfl ?_
  exact cS.some (x:=.mk 10 ⟨#[]⟩ [] p Yr [] (q+1) r u 0 j) (m:=⟨none,0,T,V1,Wo,Wp,none,0,o,cv⟩) (aJ (U XN) (Nat.le_succ _) _ _ _ _ _ _ _ _ _ _ _) (U A) bk.1 ((U Z1).fin11 (U VZ).1 (Nat.le_succ _)) ((U Z0).fin11 (U VZ).1 (Nat.le_succ _)) bk.2.2.2.1 hcA ((U HSP1234567).fin11 (U VZ).1 (Nat.le_succ _))
end Go.Proofs.YtabmgpillccfaaaGreatDoor
