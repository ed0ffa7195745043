import Derived.Test.YtabmgpillccfaaaGreatDoorUcF
set_option linter.all false
set_option maxHeartbeats 4000000
set_option maxRecDepth 100000
namespace Go.Proofs.YtabmgpillccfaaaGreatDoor
open Go.RowKit Go.Sort Go.Proofs.Tryz
theorem o0(C:ByteArray)(h e:Dt)(Xx:(Dt.mk true C (h::[e])).fin)(n:Option Addr)(B:Nat)(g:World)(Xp:Dt.all g n (h::[e]))(Xl:GT g)(WM:ch aX (headD (.mk true C (h::[e])))=0) (W5:∀(VZ:Nat) (N:Dt),[][VZ]?=some N->∀(Wg:Option Addr) (K:Nat) (c:World),Dt.all c Wg N.l->Bw g c->Calls prog 18 #[N.val Wg K] c (cS (bZ N) c)):Calls prog 18 #[(Dt.mk true C (h::[e])).val n B] g (cS (bu 1 [e] ([e].map bZ)) g):=by
 obtain⟨V6,WH⟩:=al (bu 1 [e] ([e].map bZ));rw[<-WH];have Wn:=Dt.af Xx;have J:=λc (F:Dt.all c n (h::[e]))=>cg (.mk true C (h::[e])) n B c F Wn.2.2.1;obtain⟨WA,Xn⟩:=al (headD (.mk true C (h::[e])));rw[<-Xn] at J WM;have Wf:=λn c F=>bL (aX.map bs) (by rw[VP,a7];decide) WA n 12 c F;rw[VP,a7,show Lib.idxOfS (aX.map bs) WA=0 from WM] at Wf;have Wf:=VV Wf;show Calls prog 18 #[.agg #[.bool true,.string C,.slice n 2 (2+B)]] g (cS V6 g);have J:=λc (F:Dt.all c n (h::[e]))=>(show Calls prog 54 #[.agg #[.bool true,.string C,.slice n 2 (2+B)]] c λM z=>M=.returned (.string WA)/\Bw c z from J c F);have WU:2=(h::[e]).length:=rfl;obtain⟨VX,WF,X8,K,WP,WT,WJ,WN,WQ⟩:=cU g C n 2 (2+B);obtain⟨q,V7⟩:=al (gW g C n 2 (2+B));rw[<-V7] at VX WF X8 K WP WT WJ WN WQ;unfold gW at V7;have Wk:=Dt.ab _ Xp VX;obtain⟨W6,WG,WR,Xq⟩:=dY B 1 2 2 WU Wk (by omega) (by omega);obtain⟨Wh,X9,Wo,Xr⟩:=es B 2 2 WU Wk (by omega);obtain⟨L,Xu⟩:=al (2+B);rw[<-Xu] at J V7 K WR Wo ⊢;obtain⟨Wj,Xv⟩:=al (0+X9);have WR:∀c,(Instr.slice 44 (.slice n 2 L) (some (.int .i64 1)) (some (.int .i64 2)) none).run prog c=.ok (.slice W6 1 WG) c:=WR;have Wo:∀c,(Instr.slice 44 (.slice n 2 L) (some (.int .i64 2)) none none).run prog c=.ok (.slice Wh 0 Wj) c:=by rw[Xv];exact Wo
 have Xo:∀c,Bw q c->Calls prog 55 #[.slice Wh 0 Wj] c (jG (λc n i=>Pl.all c n i) (aW ([].map bZ)) c):=λc F=>by skip;skip;exact(ci [] (by have:(h::[e]).length<=1000000:=Wn.2.2.1;simp only[a1,List.length_nil] at this ⊢;omega) Wh Wj c (Dt.ab _ Xr F) λVZ N Yi Wg K X6 V8 Yg=>W5 VZ N Yi Wg K X6 V8 (ac (ac VX F) Yg)).mono λ_ _ h=>h.pl
 have XU:=VV Xo;have J:=VV (J q Wk);have XX:=VV Xq;have XM:Hid (CA q [((g.heap.size,2),.slice n 2 L),((g.heap.size+3,0),.int .i64 1),((g.heap.size+4,0),.int .i64 0)]):=⟨K,WJ 0 _ rfl,WN 0 _ rfl,trivial⟩;have XZ:=VV WT;have W1:=VV WP;have WX:=VV VX;have XW:=VV WQ;have XN:=VV Wn;have Yn:=VV (Xl.aa VX);have X1:=VV V7.symm;have W0:=VV WH;clear VX WP WT WJ WN WQ Wk Xr Xv Xu Wn Xo Xn WM W5 Xp Xl Xx V7 WU Xq WH;go_enter func18,ntmps18;go_upto_region 4 with fail;rw[U X1]
 go_upto_region 5 with (first
  | (go_at_call 53;refine(U Wf _ _ (U X0)).mono ?_;rintro Yk XF ⟨rfl,rfl⟩)
  | (go_at_call 54;refine(U J).mono ?_;rintro Yk Yx ⟨rfl,Wl⟩;have XG:=VV Wl;have X0:=VV ((U XZ).aa Wl);have VY:=(U XM).aa Wl;have XJ:=VV VY;obtain⟨u,w,D,_⟩:=VY;clear Wl))
 have V0:=cell_regrown u;have WW:=cell_regrown w;have Wp:=cell_regrown D;refine wp_region_quiet_below (by kernel_rfl) (by kernel_rfl) ?_;repeat (go_big_quiet_step (fail))
 refine wpQuiet_nil ?_;intro V4 WV;have WY:Hid (Bw q V4):=ac (U XG) (by obtain⟨Wq,rfl⟩:=WV;exact below_regrown _ _ _);have XK:=VV ((U XJ).aa (by obtain⟨Wq,rfl⟩:=WV;exact below_regrown _ _ _:Bw XF V4));obtain⟨a,WK⟩:=al V4.heap.size;obtain⟨Wc,Wb⟩:=al (V4.alloc (.cells #[.int .i64 1,.string ⟨#[]⟩,.slice none 0 0,.slice none 0 0,.slice none 0 0,.slice none 0 0,.int .i64 0,.int .i64 0,.int .i64 0,.int .i64 0,.slice none 0 0] 28));have V8:=ae (ar _ V4) (.cells #[.int .i64 1,.string ⟨#[]⟩,.slice none 0 0,.slice none 0 0,.slice none 0 0,.slice none 0 0,.int .i64 0,.int .i64 0,.int .i64 0,.int .i64 0,.slice none 0 0] 28);have XH:Hid (Bw q Wc):=by rw[Wb];exact ac (U WY) V8
 have XP:Hid (bp Wc a [.int .i64 1,.string ⟨#[]⟩,.slice none 0 0,.slice none 0 0,.slice none 0 0,.slice none 0 0,.int .i64 0,.int .i64 0,.int .i64 0,.int .i64 0,.slice none 0 0]):=by rw[Wb,WK];exact bp.new V4 [.int .i64 1,.string ⟨#[]⟩,.slice none 0 0,.slice none 0 0,.slice none 0 0,.slice none 0 0,.int .i64 0,.int .i64 0,.int .i64 0,.int .i64 0,.slice none 0 0] 28
 have Xw:CA Wc [((g.heap.size,2),.slice n 2 L),((g.heap.size+3,0),.int .i64 1),((g.heap.size+4,0),.int .i64 0)]:=by rw[Wb];exact(U XK).aa V8
 have XL:=VV Xw;obtain⟨u,w,D,_⟩:=Xw;have Wd:Hid (g.heap.size+1<a/\q.heap.size<=a):=by show _/\_;have:=(U WY).size;have:=U XW;omega
 have X2:=VV Wb.symm;have XO:=VV WK.symm;clear WK Wb V8 WV V0 WW Wp;go_upto_region 8 with fail;rw[U X2,U XO];have V0:=cell_regrown u;have WW:=cell_regrown w;have Wp:=cell_regrown D;refine wp_region_quiet_below (by kernel_rfl) (by kernel_rfl) ?_;repeat (go_big_quiet_step (fail))
 refine wpQuiet_nil ?_;intro V5 XC;have G:Bw Wc V5:=by obtain⟨Wq,rfl⟩:=XC;exact below_regrown _ _ _
 have y:=VV (ac (U XH) G).drew;have E:Hid (CA V5.drew [((g.heap.size,2),.slice n 2 L),((g.heap.size+3,0),.int .i64 1)]):=by obtain⟨u,w,_⟩:=(U XL).aa G;exact⟨u,w,trivial⟩
 have WZ:Hid (bp V5.drew a [.int .i64 1,.string ⟨#[]⟩,.slice none 0 0,.slice none 0 0,.slice none 0 0,.slice none 0 0,.int .i64 0,.int .i64 0,.int .i64 0,.int .i64 0,.slice none 0 0]):=((U XP).aa G).aa aN.drew;have XS:Hid (a<V5.drew.heap.size):=bY _ _ ((U WZ) 0 _ rfl).1;clear XC V0 WW Wp u w D G;go_upto_region 10 with fail;refine VR (λc:World=>CA c [((g.heap.size,2),.slice n 2 L),((g.heap.size+3,0),.int .i64 1)]) 8 ?_;refine ai 0 (.pointer (some ⟨g.heap.size,2,none⟩)) rfl (U E) ?_;refine ai 1 (.slice n 2 L) rfl (U E) ?_ λz p=>by simp only[CA] at p;obtain⟨u,w,_⟩:=p;go_simp
 refine ai 2 (.slice (some ⟨g.heap.size+3,0,none⟩) 12 12) rfl (U E) ?_;refine ai 3 (.int .i64 0) rfl (U E) ?_;refine ai 4 (.pointer (some ⟨g.heap.size+3,0,none⟩)) rfl (U E) ?_;refine ai 5 (.int .i64 1) rfl (U E) ?_ λz p=>by simp only[CA] at p;obtain⟨u,w,_⟩:=p;go_simp
 refine ai 6 (.int .i64 2) rfl (U E) ?_ λz _=>by go_simp;rfl
 refine ai 7 (.slice Wh 0 Wj) rfl (U E) ?_ λz _=>by have:=Wo z;go_simp
 refine ap 8 rfl λf b=>?_;go_simp;refine(U XU _ (U y)).mono ?_;rintro _ Yl ⟨WI,o,V2,cv,Wi,rfl,Xs,Xt⟩;go_simp;refine aS b ?_;clear b f;refine cJ (S2:=λ_=>True) (k2:=14) _ _ _ _ (.inr rfl) ?_;have WL:=(U WZ).aa WI;obtain⟨Xk,Yf⟩:=WL 10 _ rfl;refine ai 9 (.tuple #[.slice o V2 cv,.bool Wi]) rfl trivial ?_;refine ai 10 (.slice o V2 cv) rfl trivial ?_;refine ai 11 (.bool Wi) rfl trivial ?_;refine ai 12 (.pointer (some ⟨a,10,none⟩)) rfl trivial ?_;refine ap 13 rfl λf b=>?_;go_simp;refine aO b trivial ?_;clear b f;refine ap 14 rfl λf b=>?_;go_simp;refine aS b ?_;clear b f;refine bh ?_;obtain⟨V3,V9⟩:=al (Yl.setCell ⟨a,10,none⟩ (.slice o V2 cv));rw[<-V9];have Wm:Bw q V3:=by rw[V9];exact(ac (U y) WI).setCell (p:=⟨a,10,none⟩) (U Wd).2 _
 have WB:=VV Wm;have XI:=VV (ac (U WX) Wm);have XV:Hid (bp V3 (g.heap.size+1) VT):=(U W1).aa Wm;have We:Hid (bp V3 a [.int .i64 1,.string ⟨#[]⟩,.slice none 0 0,.slice none 0 0,.slice none 0 0,.slice none 0 0,.int .i64 0,.int .i64 0,.int .i64 0,.int .i64 0,.slice o V2 cv]):=by rw[V9];exact WL.set 10 _
 have Xz:a+1<=V5.drew.heap.size:=U XS;have X3:Hid (Wi=true->∃i,aW ([].map bZ)=some i/\i.length=V2/\SK (SN (a+1) V3) V3 λc=>Pl.all c o i):=λM=>by obtain⟨i,Yc,Yd,_,Ye⟩:=Xt M;rw[V9];exact⟨i,Yc,Yd,(Ye.low Xz).aw _⟩
 have X4:=VV Xs;clear V9 Wm WL Xs Xt WI Xk Yf Xz;cases Wi with
 | false=>(have A:Hid (V6=none):=by show _=_;rw[U W0];have M:=U X4 rfl;cases M);have d:=U XV;obtain⟨O,W7⟩:=d 0 _ rfl;obtain⟨P,W8⟩:=d 1 _ rfl;obtain⟨R,Xa⟩:=d 2 _ rfl;obtain⟨S,Xb⟩:=d 3 _ rfl;obtain⟨T,Xc⟩:=d 4 _ rfl;obtain⟨V,Xd⟩:=d 5 _ rfl;obtain⟨W,Xe⟩:=d 6 _ rfl;obtain⟨X,Xf⟩:=d 7 _ rfl;obtain⟨Y,Xg⟩:=d 8 _ rfl;obtain⟨Z,Xh⟩:=d 9 _ rfl;obtain⟨Q,W9⟩:=d 10 _ rfl;clear d;have k:=U We;obtain⟨Xi,_⟩:=k 0 _ rfl;obtain⟨Xj,_⟩:=k 1 _ rfl;obtain⟨Yp,_⟩:=k 2 _ rfl;obtain⟨Yq,_⟩:=k 3 _ rfl;obtain⟨Yr,_⟩:=k 4 _ rfl;obtain⟨Ys,_⟩:=k 5 _ rfl;obtain⟨Yt,_⟩:=k 6 _ rfl;obtain⟨Yu,_⟩:=k 7 _ rfl;obtain⟨Yv,_⟩:=k 8 _ rfl;obtain⟨Yw,_⟩:=k 9 _ rfl;obtain⟨Xk,_⟩:=k 10 _ rfl;clear k;go_wp2;refine aM (v:=.tuple #[.agg #[.int .i64 1,.string ⟨#[]⟩,.slice none 0 0,.slice none 0 0,.slice none 0 0,.slice none 0 0,.int .i64 0,.int .i64 0,.int .i64 0,.int .i64 0,.slice o V2 cv],.bool false]) (by simp[results,results18,go_sem,O,P,R,S,T,V,W,X,Y,Z,Q]) rfl ?_;exact cS.no (aJ (U XI) (Nat.le_succ _) _ _ _ _ _ _ _ _ _ _ _) (U A) _ _ _ _ _ _ _ _ _ _ _ _ _ _ _ _ _ _ _ _ _
 | true=>
  obtain⟨i,XD,rfl,XB⟩:=U X3 rfl
  have XY:=VV XB
  have X5:=VV XD
  clear XB XD
  have XE:i=[]:=by have:=U X5;injection this with M;exact M.symm
  have WS:Dt.all q W6 [e]:=U XX
  obtain⟨s,t,_,_,rfl,_,_⟩:=Dt.get WS (show [e][0]?=some e from rfl)
  obtain⟨X7,WF,XA,Xy⟩:=Dt.aE (i:=0) (t:=e) WS rfl
  have WD:Hid (q.cell? ⟨s,t,none⟩=some (.bool e.k)/\q.cell? ⟨s,t+1,none⟩=some (.string e.s)/\q.cell? ⟨s,t+2,none⟩=some (.slice X7 e.l.length (e.l.length+WF))):=XA
  have Yo:=VV Xy
  clear WS XA Xy
  have Ya:=aG (U WD).1 (U WB)
  have Yb:=aG (U WD).2.1 (U WB)
  have Yh:=(Dt.af (Dt.ag (U XN).2.2.2 (show e∈h::[e] by simp))).1
  obtain⟨Xi,_⟩:=(U We) 0 _ rfl
  obtain⟨Xj,Ym⟩:=(U We) 1 _ rfl
  go_upto_region 16 with fail
  obtain⟨I,Wa⟩:=al (V3.setCell ⟨a,1,none⟩ (.string e.s))
  rw[<-Wa]
  have WC:Hid (Bw q I):=by rw[Wa];exact(ac (U WB) aN).setCell (p:=⟨a,1,none⟩) (U Wd).2 _
  have VW:=VV (ac (U WX) (U WC))
  have W2:Hid (bp I (g.heap.size+1) VT):=(U W1).aa (U WC)
  have XR:Hid (bp I a [.int .i64 1,.string e.s,.slice none 0 0,.slice none 0 0,.slice none 0 0,.slice none 0 0,.int .i64 0,.int .i64 0,.int .i64 0,.int .i64 0,.slice o i.length cv]):=by rw[Wa];exact(U We).set 1 _
  have W4:Hid (SK (SN (a+1) I) I (λc=>Pl.all c o i)):=by rw[Wa];exact((U XY).up aN).aw _
  clear Wa
  have VY:CA I [((a,0),.int .i64 1),((a,1),.string e.s),((a,2),.slice none 0 0),((a,3),.slice none 0 0),((a,4),.slice none 0 0),((a,5),.slice none 0 0),((a,6),.int .i64 0),((a,7),.int .i64 0),((a,8),.int .i64 0),((a,9),.int .i64 0),((a,10),.slice o i.length cv),((s,t),.bool e.k)]:=by
   have k:=U XR
   exact⟨(k 0 _ rfl).1,(k 1 _ rfl).1,(k 2 _ rfl).1,(k 3 _ rfl).1,(k 4 _ rfl).1,(k 5 _ rfl).1,(k 6 _ rfl).1,(k 7 _ rfl).1,(k 8 _ rfl).1,(k 9 _ rfl).1,(k 10 _ rfl).1,aG (U WD).1 (U WC),trivial⟩
  have W3:Hid (V6=(kg e).map λYj=>.mk 1 Yj [] [] [] [] 0 0 0 0 i):=by show _=_;rw[U W0,XE];rfl
  have XT:=VV (j5 e.s (by omega) I.drew)
  have WE:Hid (kg e=if e.k=false/\dT e.s=true then some e.s else none):=rfl
  clear Yh XE Ya Yb Xi Xj Ym
  generalize e.k=V0 at VY WE
  generalize e.s=r at *
  have l:Hid (CA I.drew [((a,0),.int .i64 1),((a,1),.string r),((a,2),.slice none 0 0),((a,3),.slice none 0 0),((a,4),.slice none 0 0),((a,5),.slice none 0 0),((a,6),.int .i64 0),((a,7),.int .i64 0),((a,8),.int .i64 0),((a,9),.int .i64 0),((a,10),.slice o i.length cv),((s,t),.bool V0)]):=VY.aa aN.drew
  clear VY
  cases V0 with
  | true=>
   have A:Hid (V6=none):=by show _=_;rw[U W3,U WE];rfl
   refine VR (λc:World=>CA c [((a,0),.int .i64 1),((a,1),.string r),((a,2),.slice none 0 0),((a,3),.slice none 0 0),((a,4),.slice none 0 0),((a,5),.slice none 0 0),((a,6),.int .i64 0),((a,7),.int .i64 0),((a,8),.int .i64 0),((a,9),.int .i64 0),((a,10),.slice o i.length cv),((s,t),.bool true)]) 11 ?_
   refine ai 0 (.agg #[.int .i64 1,.string r,.slice none 0 0,.slice none 0 0,.slice none 0 0,.slice none 0 0,.int .i64 0,.int .i64 0,.int .i64 0,.int .i64 0,.slice o i.length cv]) rfl (U l) ?_ λz p=>by simp only[CA] at p;obtain⟨u,w,D,Wt,Wu,Wv,Ww,Wx,Wy,Wz,Wr,Ws,_⟩:=p;go_simp
   refine ai 1 (.slice (some ⟨s,t,none⟩) 1 WG) rfl (U l) ?_
   refine ai 2 (.pointer (some ⟨s,t,none⟩)) rfl (U l) ?_
   refine ai 3 (.pointer (some ⟨s,t,none⟩)) rfl (U l) ?_
   refine ai 4 (.bool true) rfl (U l) ?_ λz p=>by simp only[CA] at p;obtain⟨u,w,D,Wt,Wu,Wv,Ww,Wx,Wy,Wz,Wr,Ws,_⟩:=p;go_simp
   refine ai 5 (.bool false) rfl (U l) ?_
   refine ai 6 (.bool false) rfl (U l) ?_
   refine nI 7 rfl (by kernel_rfl) (U l) (by rfl) ?_
   refine nI 8 rfl (by kernel_rfl) (U l) (by rfl) ?_
   refine nI 9 rfl (by kernel_rfl) (U l) (by rfl) ?_
   simp only[p1,p2,p3,p4,p5]
   have d:=U W2;obtain⟨O,W7⟩:=d 0 _ rfl;obtain⟨P,W8⟩:=d 1 _ rfl;obtain⟨R,Xa⟩:=d 2 _ rfl;obtain⟨S,Xb⟩:=d 3 _ rfl;obtain⟨T,Xc⟩:=d 4 _ rfl;obtain⟨V,Xd⟩:=d 5 _ rfl;obtain⟨W,Xe⟩:=d 6 _ rfl;obtain⟨X,Xf⟩:=d 7 _ rfl;obtain⟨Y,Xg⟩:=d 8 _ rfl;obtain⟨Z,Xh⟩:=d 9 _ rfl;obtain⟨Q,W9⟩:=d 10 _ rfl;clear d
   refine fj (i:=10) (j:=11) (by kernel_rfl) rfl rfl (by rfl) (by rfl) (λf b=>?_) (λf b=>?_)
   .go_simp
    refine aO b (U l) ?_
    clear b f
    refine ap 11 rfl λf b=>?_
    go_simp
    refine aS b ?_
    clear b f
    refine ap 12 rfl λf b=>?_
    go_simp
    refine aS b ?_
    clear b f
    refine bh ?_
    go_wp2
    refine aM (v:=.tuple #[.agg #[.int .i64 1,.string r,.slice none 0 0,.slice none 0 0,.slice none 0 0,.slice none 0 0,.int .i64 0,.int .i64 0,.int .i64 0,.int .i64 0,.slice o i.length cv],.bool false]) (by simp[results,results18,go_sem,O,P,R,S,T,V,W,X,Y,Z,Q]) rfl ?_
    exact cS.no (aJ (U VW) (Nat.le_succ _) _ _ _ _ _ _ _ _ _ _ _).drew (U A) _ _ _ _ _ _ _ _ _ _ _ _ _ _ _ _ _ _ _ _ _
   .go_simp
    refine aS b ?_
    clear b f
    refine ap 10 rfl λf b=>?_
    go_simp
    refine aS b ?_
    clear b f
    refine ap 12 rfl λf b=>?_
    go_simp
    refine aS b ?_
    clear b f
    refine bh ?_
    go_wp2
    refine aM (v:=.tuple #[.agg #[.int .i64 1,.string r,.slice none 0 0,.slice none 0 0,.slice none 0 0,.slice none 0 0,.int .i64 0,.int .i64 0,.int .i64 0,.int .i64 0,.slice o i.length cv],.bool false]) (by simp[results,results18,go_sem,O,P,R,S,T,V,W,X,Y,Z,Q]) rfl ?_
    exact cS.no (aJ (U VW) (Nat.le_succ _) _ _ _ _ _ _ _ _ _ _ _).drew (U A) _ _ _ _ _ _ _ _ _ _ _ _ _ _ _ _ _ _ _ _ _
  | false=>
   refine VR (λc:World=>CA c [((a,0),.int .i64 1),((a,1),.string r),((a,2),.slice none 0 0),((a,3),.slice none 0 0),((a,4),.slice none 0 0),((a,5),.slice none 0 0),((a,6),.int .i64 0),((a,7),.int .i64 0),((a,8),.int .i64 0),((a,9),.int .i64 0),((a,10),.slice o i.length cv),((s,t),.bool false)]) 11 ?_
   refine ai 0 (.agg #[.int .i64 1,.string r,.slice none 0 0,.slice none 0 0,.slice none 0 0,.slice none 0 0,.int .i64 0,.int .i64 0,.int .i64 0,.int .i64 0,.slice o i.length cv]) rfl (U l) ?_ λz p=>by simp only[CA] at p;obtain⟨u,w,D,Wt,Wu,Wv,Ww,Wx,Wy,Wz,Wr,Ws,_⟩:=p;go_simp
   refine ai 1 (.slice (some ⟨s,t,none⟩) 1 WG) rfl (U l) ?_
   refine ai 2 (.pointer (some ⟨s,t,none⟩)) rfl (U l) ?_
   refine ai 3 (.pointer (some ⟨s,t,none⟩)) rfl (U l) ?_
   refine ai 4 (.bool false) rfl (U l) ?_ λz p=>by simp only[CA] at p;obtain⟨u,w,D,Wt,Wu,Wv,Ww,Wx,Wy,Wz,Wr,Ws,_⟩:=p;go_simp
   refine ai 5 (.bool true) rfl (U l) ?_
   refine ai 6 (.bool true) rfl (U l) ?_
   refine ai 7 (.pointer (some ⟨a,1,none⟩)) rfl (U l) ?_
   refine ai 8 (.string r) rfl (U l) ?_ λz p=>by simp only[CA] at p;obtain⟨u,w,D,Wt,Wu,Wv,Ww,Wx,Wy,Wz,Wr,Ws,_⟩:=p;go_simp
   refine ap 9 rfl λf b=>?_
   go_simp
   refine(U XT).mono ?_
   rintro _ V5 ⟨rfl,G⟩
   go_simp
   refine aO b ((U l).aa G) ?_
   clear b f
   obtain⟨V1,WO⟩:=al (dT r)
   rw[<-WO]
   have A:Hid (V6=if V1 then some (.mk 1 r [] [] [] [] 0 0 0 0 i) else none):=by
    show _=_;rw[U W3,U WE,<-WO];cases V1<;>rfl
   have y:=VV G
   clear G WO
   have d:=(U W2).aa (ac aN.drew (U y));obtain⟨O,W7⟩:=d 0 _ rfl;obtain⟨P,W8⟩:=d 1 _ rfl;obtain⟨R,Xa⟩:=d 2 _ rfl;obtain⟨S,Xb⟩:=d 3 _ rfl;obtain⟨T,Xc⟩:=d 4 _ rfl;obtain⟨V,Xd⟩:=d 5 _ rfl;obtain⟨W,Xe⟩:=d 6 _ rfl;obtain⟨X,Xf⟩:=d 7 _ rfl;obtain⟨Y,Xg⟩:=d 8 _ rfl;obtain⟨Z,Xh⟩:=d 9 _ rfl;obtain⟨Q,W9⟩:=d 10 _ rfl;clear d
   refine fj (i:=10) (j:=11) (by kernel_rfl) rfl rfl (by rfl) (by rfl) (λf b=>?_) (λf b=>?_)
   .go_simp
    refine aO b ((U l).aa (U y)) ?_
    clear b f
    refine ap 11 rfl λf b=>?_
    go_simp
    refine aS b ?_
    clear b f
    refine ap 12 rfl λf b=>?_
    go_simp
    refine aS b ?_
    clear b f
    refine bh ?_
    go_wp2
    refine aM (v:=.tuple #[.agg #[.int .i64 1,.string r,.slice none 0 0,.slice none 0 0,.slice none 0 0,.slice none 0 0,.int .i64 0,.int .i64 0,.int .i64 0,.int .i64 0,.slice o i.length cv],.bool V1]) (by simp[results,results18,go_sem,O,P,R,S,T,V,W,X,Y,Z,Q]) rfl ?_
    cases V1 with
    | false=>exact cS.no (aJ (ac (U VW) (ac aN.drew (U y))) (Nat.le_succ _) _ _ _ _ _ _ _ _ _ _ _) (U A) _ _ _ _ _ _ _ _ _ _ _ _ _ _ _ _ _ _ _ _ _
    | true=>exact cS.some (x:=.mk 1 r [] [] [] [] 0 0 0 0 i) (m:=⟨none,0,none,0,none,0,none,0,o,cv⟩) (aJ (ac (U VW) (ac aN.drew (U y))) (Nat.le_succ _) _ _ _ _ _ _ _ _ _ _ _) (U A) bk.1 bk.2.1 bk.2.2.1 bk.2.2.2.1 aV (((U W4).up (ac aN.drew (U y))).fin11 (U Wd).1 (Nat.le_succ _))
   .go_simp
    refine aS b ?_
    clear b f
    refine ap 10 rfl λf b=>?_
    go_simp
    refine aS b ?_
    clear b f
    refine ap 12 rfl λf b=>?_
    go_simp
    refine aS b ?_
    clear b f
    refine bh ?_
    go_wp2
    refine aM (v:=.tuple #[.agg #[.int .i64 1,.string r,.slice none 0 0,.slice none 0 0,.slice none 0 0,.slice none 0 0,.int .i64 0,.int .i64 0,.int .i64 0,.int .i64 0,.slice o i.length cv],.bool V1]) (by simp[results,results18,go_sem,O,P,R,S,T,V,W,X,Y,Z,Q]) rfl ?_
    cases V1 with
    | false=>exact cS.no (aJ (ac (U VW) (ac aN.drew (U y))) (Nat.le_succ _) _ _ _ _ _ _ _ _ _ _ _) (U A) _ _ _ _ _ _ _ _ _ _ _ _ _ _ _ _ _ _ _ _ _
    | true=>exact cS.some (x:=.mk 1 r [] [] [] [] 0 0 0 0 i) (m:=⟨none,0,none,0,none,0,none,0,o,cv⟩) (aJ (ac (U VW) (ac aN.drew (U y))) (Nat.le_succ _) _ _ _ _ _ _ _ _ _ _ _) (U A) bk.1 bk.2.1 bk.2.2.1 bk.2.2.2.1 aV (((U W4).up (ac aN.drew (U y))).fin11 (U Wd).1 (Nat.le_succ _))
def pS(f:World)(b:Bool)(e:ByteArray)(a:Option Addr)(d c:Nat):World:=((((f.alloc (.cells #[.bool b,.string e,.slice a d c] 46)).alloc (.cells #[.int .i64 0,.string ⟨#[]⟩,.slice none 0 0,.slice none 0 0,.slice none 0 0,.slice none 0 0,.int .i64 0,.int .i64 0,.int .i64 0,.int .i64 0,.slice none 0 0] 28)).alloc (.cells #[.string ⟨#[115,99,97,110]⟩,.string ⟨#[102,105,108,116,101,114]⟩,.string ⟨#[112,114,111,106,101,99,116]⟩,.string ⟨#[106,111,105,110]⟩,.string ⟨#[108,101,102,116,106,111,105,110]⟩,.string ⟨#[103,114,111,117,112]⟩,.string ⟨#[100,105,115,116,105,110,99,116]⟩,.string ⟨#[117,110,105,111,110]⟩,.string ⟨#[116,111,112]⟩,.string ⟨#[119,105,110,100,111,119]⟩,.string ⟨#[109,105,110,117,115]⟩,.string ⟨#[101,109,112,116,121]⟩] 9)).alloc (.cells #[.int .i64 1,.int .i64 1,.int .i64 1,.int .i64 1,.int .i64 1,.int .i64 2,.int .i64 0,.int .i64 0,.int .i64 3,.int .i64 5,.int .i64 0,.int .i64 1] 3)).alloc (.cells #[.int .i64 0,.int .i64 1,.int .i64 1,.int .i64 2,.int .i64 2,.int .i64 1,.int .i64 1,.int .i64 (-1),.int .i64 1,.int .i64 1,.int .i64 2,.int .i64 0] 3)
theorem oB(a:World)(e:Bool)(i:ByteArray)(d:Option Addr)(g f:Nat):Bw a (pS a e i d g f)/\(pS a e i d g f).cell? ⟨a.heap.size,0,none⟩=some (.bool e)/\(pS a e i d g f).cell? ⟨a.heap.size,1,none⟩=some (.string i)/\(pS a e i d g f).cell? ⟨a.heap.size,2,none⟩=some (.slice d g f)/\bp (pS a e i d g f) (a.heap.size+1) VT/\gi (pS a e i d g f) (some ⟨a.heap.size+2,0,none⟩) (aX.map bs)/\(∀(c:Nat) b,rP[c]?=some b->(pS a e i d g f).cell? ⟨a.heap.size+3,c,none⟩=some (.int .i64 b))/\(∀(c:Nat) b,rF[c]?=some b->(pS a e i d g f).cell? ⟨a.heap.size+4,c,none⟩=some (.int .i64 b))/\(pS a e i d g f).heap.size=a.heap.size+5:=by
 unfold pS;have B:=ae (ar _ a) (.cells #[.bool e,.string i,.slice d g f] 46);obtain⟨k,p⟩:=al (a.alloc (.cells #[.bool e,.string i,.slice d g f] 46));have O:k.heap.size=a.heap.size+1:=by rw[p];simp
 have E:k.cell? ⟨a.heap.size,0,none⟩=some (.bool e):=by rw[p];simp[go_sem]
 have F:k.cell? ⟨a.heap.size,1,none⟩=some (.string i):=by rw[p];simp[go_sem]
 have G:k.cell? ⟨a.heap.size,2,none⟩=some (.slice d g f):=by rw[p];simp[go_sem]
 rw[<-p] at B ⊢;obtain⟨m,q⟩:=al (k.alloc (.cells #[.int .i64 0,.string ⟨#[]⟩,.slice none 0 0,.slice none 0 0,.slice none 0 0,.slice none 0 0,.int .i64 0,.int .i64 0,.int .i64 0,.int .i64 0,.slice none 0 0] 28));have I:Bw k m:=by rw[q];exact ae aN _
 have P:m.heap.size=a.heap.size+2:=by rw[q];simp;omega
 have N:bp m (a.heap.size+1) VT:=by rw[q,<-O];exact bp.new k VT 28
 rw[<-q];obtain⟨n,r⟩:=al (m.alloc (.cells #[.string ⟨#[115,99,97,110]⟩,.string ⟨#[102,105,108,116,101,114]⟩,.string ⟨#[112,114,111,106,101,99,116]⟩,.string ⟨#[106,111,105,110]⟩,.string ⟨#[108,101,102,116,106,111,105,110]⟩,.string ⟨#[103,114,111,117,112]⟩,.string ⟨#[100,105,115,116,105,110,99,116]⟩,.string ⟨#[117,110,105,111,110]⟩,.string ⟨#[116,111,112]⟩,.string ⟨#[119,105,110,100,111,119]⟩,.string ⟨#[109,105,110,117,115]⟩,.string ⟨#[101,109,112,116,121]⟩] 9));have C:Bw m n:=by rw[r];exact ae aN _
 have Q:n.heap.size=a.heap.size+3:=by rw[r];simp;omega
 have T:gi n (some ⟨a.heap.size+2,0,none⟩) (aX.map bs):=by refine⟨_,0,rfl,λy b j=>?_⟩;rw[r,aT,<-P];(have w:((aX.map bs).map Value.string)=[.string ⟨#[115,99,97,110]⟩,.string ⟨#[102,105,108,116,101,114]⟩,.string ⟨#[112,114,111,106,101,99,116]⟩,.string ⟨#[106,111,105,110]⟩,.string ⟨#[108,101,102,116,106,111,105,110]⟩,.string ⟨#[103,114,111,117,112]⟩,.string ⟨#[100,105,115,116,105,110,99,116]⟩,.string ⟨#[117,110,105,111,110]⟩,.string ⟨#[116,111,112]⟩,.string ⟨#[119,105,110,100,111,119]⟩,.string ⟨#[109,105,110,117,115]⟩,.string ⟨#[101,109,112,116,121]⟩]:=by kernel_rfl);(have l:((aX.map bs).map Value.string)[y]?=some (.string b):=by rw[b8,j];rfl);rw[w] at l;simp[go_sem];simpa using l
 rw[<-r];obtain⟨o,s⟩:=al (n.alloc (.cells #[.int .i64 1,.int .i64 1,.int .i64 1,.int .i64 1,.int .i64 1,.int .i64 2,.int .i64 0,.int .i64 0,.int .i64 3,.int .i64 5,.int .i64 0,.int .i64 1] 3));have x:Bw n o:=by rw[s];exact ae aN _
 have R:o.heap.size=a.heap.size+4:=by rw[s];simp;omega
 have L:∀(c:Nat) b,rP[c]?=some b->o.cell? ⟨a.heap.size+3,c,none⟩=some (.int .i64 b):=λc b j=>by rw[s,<-Q];(have l:(rP.map λA=>Value.int .i64 A)[c]?=some (.int .i64 b):=by rw[b8,j];rfl);simp[go_sem];simpa [rP] using l
 rw[<-s];obtain⟨z,t⟩:=al (o.alloc (.cells #[.int .i64 0,.int .i64 1,.int .i64 1,.int .i64 2,.int .i64 2,.int .i64 1,.int .i64 1,.int .i64 (-1),.int .i64 1,.int .i64 1,.int .i64 2,.int .i64 0] 3));have v:Bw o z:=by rw[t];exact ae aN _
 have S:z.heap.size=a.heap.size+5:=by rw[t];simp;omega
 have M:∀(c:Nat) b,rF[c]?=some b->z.cell? ⟨a.heap.size+4,c,none⟩=some (.int .i64 b):=λc b j=>by rw[t,<-R];(have l:(rF.map λA=>Value.int .i64 A)[c]?=some (.int .i64 b):=by rw[b8,j];rfl);simp[go_sem];simpa [rF] using l
 rw[<-t];have u:=ac I (ac C (ac x v));have J:=ac C (ac x v);have K:=ac x v;exact⟨ac B u,aG E u,aG F u,aG G u,N.aa J,(by obtain⟨D,V,w,h⟩:=T;exact⟨D,V,w,λy b j=>aG (h y b j) K⟩),(λc b j=>aG (L c b j) v),M,S⟩
theorem sX:∀a:Fin 12,∃b c,rP[a.val]?=some b/\rF[a.val]?=some c/\0<=b/\b<=5/\-1<=c/\c<=2/\(c<0 ↔ a.val=7)/\(a.val≠7->b+c=bN (a.val+1))/\(a.val=7->b=0):=by
 intro a;match a with
 | 0=>exact⟨1,0,by decide⟩
 | 1=>exact⟨1,1,by decide⟩
 | 2=>exact⟨1,1,by decide⟩
 | 3=>exact⟨1,2,by decide⟩
 | 4=>exact⟨1,2,by decide⟩
 | 5=>exact⟨2,1,by decide⟩
 | 6=>exact⟨0,1,by decide⟩
 | 7=>exact⟨0,-1,by decide⟩
 | 8=>exact⟨3,1,by decide⟩
 | 9=>exact⟨5,1,by decide⟩
 | 10=>exact⟨0,2,by decide⟩
 | 11=>exact⟨1,0,by decide⟩
theorem mY(l:Bool)(m:ByteArray)(c:List Dt)(WB:c.length<=1000000)(f:Option Addr)(V9:Nat)(j:World)(We:Dt.all j f c)(z:¬(0<=gt (.mk l m c)/\(gt (.mk l m c)=7∨(c.tail.length:Int)=bN (gt (.mk l m c)+1)))):Calls prog 18 #[(Dt.mk l m c).val f V9] j (cS none j):=by
 have k:=λVX (Wd:Dt.all VX f c)=>cg (.mk l m c) f V9 VX Wd WB;obtain⟨A,E⟩:=al (headD (.mk l m c));rw[<-E] at k;have x:=λf VX Wd=>bL (aX.map bs) (by rw[VP,a7];decide) A f 12 VX Wd;obtain⟨u,w⟩:=al (Lib.idxOfS (aX.map bs) A);have Wn:gt (.mk l m c)=u:=by unfold gt ch;rw[w,E]
 rw[Wn] at z;have Wi:=eE (aX.map bs) A 0;have Wj:u<12:=by have:=dC aX A;rw[a7] at this;unfold ch at this;rw[<-w] at this;omega
 have V0:0<=u->1<=c.length:=λWz=>by
  cases c with
  | nil=>
   exfalso
   have Wa:headD (.mk l m [])=⟨#[]⟩:=rfl
   have:ch aX ⟨#[]⟩=-1:=ep (by decide +kernel)
   unfold ch at this
   rw[w,E,Wa,this] at Wz
   omega
  | cons WW c=>simp
 rw[VP,a7,<-w] at x;rw[show Lib.idxFromS (aX.map bs) A 0=u from w.symm] at Wi;have x:=VV x;rw[Dt.ad] at k ⊢;simp only[Dt.k,Dt.s,Dt.l] at k ⊢;obtain⟨e,VY⟩:=al c.length;have Wp:c.tail.length=e-1:=by rw[List.length_tail,VY]
 rw[Wp] at z;rw[<-VY] at WB k V0 ⊢;obtain⟨y,Wf⟩:=al (e+V9);rw[<-Wf] at k ⊢;obtain⟨G,WG,WH,D,V2,V3,VZ,V1,Wo⟩:=oB j l m f e y;obtain⟨V8,F⟩:=al (pS j l m f e y);rw[<-F] at G WG WH D V2 V3 VZ V1 Wo;unfold pS at F;have k:=VV (k V8 (Dt.ab _ We G));have V6:=VV V3;have V5:=VV V2;have V4:=VV G;have V7:=VV F.symm;by_cases Wz:u<0
 .have VW:Hid (CA V8 [((j.heap.size,2),.slice f e y),((j.heap.size,2),.slice f e y),((j.heap.size,2),.slice f e y)]):=⟨D,D,D,trivial⟩;clear G V2 V3 VZ V1 Wo z Wn w E Wi Wj V0 We VY Wf F Wp;go_enter func18,ntmps18;go_upto_region 4 with fail;rw[U V7]
  go_upto_region 5 with (first
   | (go_at_call 53;refine(U x _ _ (U C)).mono ?_;rintro M t ⟨rfl,rfl⟩)
   | (go_at_call 54;refine(U k).mono ?_;rintro M WF ⟨rfl,d⟩;have o:=VV d;have C:=VV ((U V6).aa d);have I:=(U VW).aa d;obtain⟨q,r,s,_⟩:=I;clear d))
  have J:=cell_regrown q;have K:=cell_regrown r;have L:=cell_regrown s;refine wp_region_quiet_below (by kernel_rfl) (by kernel_rfl) ?_;repeat (go_big_quiet_step (fail))
  refine wpQuiet_nil ?_;intro N p;have i:Bw t N:=by obtain⟨WE,rfl⟩:=p;exact below_regrown _ _ _
  have B:=VV (ac (U V4) (ac (U o) i));have a:=((U V5).aa (U o)).aa i;obtain⟨O,Wb⟩:=a 0 _ rfl;obtain⟨P,Wq⟩:=a 1 _ rfl;obtain⟨R,Ws⟩:=a 2 _ rfl;obtain⟨S,Wt⟩:=a 3 _ rfl;obtain⟨T,Wu⟩:=a 4 _ rfl;obtain⟨V,Wc⟩:=a 5 _ rfl;obtain⟨W,Wv⟩:=a 6 _ rfl;obtain⟨X,Ww⟩:=a 7 _ rfl;obtain⟨Y,Wx⟩:=a 8 _ rfl;obtain⟨Z,Wy⟩:=a 9 _ rfl;obtain⟨Q,Wr⟩:=a 10 _ rfl;clear a;clear p J K L q r s i;go_wp2;refine aM (v:=.tuple #[.agg #[.int .i64 0,.string ⟨#[]⟩,.slice none 0 0,.slice none 0 0,.slice none 0 0,.slice none 0 0,.int .i64 0,.int .i64 0,.int .i64 0,.int .i64 0,.slice none 0 0],.bool false]) (by simp[results,results18,go_sem,O,P,R,S,T,V,W,X,Y,Z,Q]) rfl ?_;exact cS.no (aJ (U B) (Nat.le_succ _) _ _ _ _ _ _ _ _ _ _ _) rfl _ _ _ _ _ _ _ _ _ _ _ _ _ _ _ _ _ _ _ _ _
 .obtain⟨b,rfl⟩:∃b:Nat,u=(b:Int):=⟨u.toNat,by omega⟩;obtain⟨g,n,Wg,Wk,Wb,Wc,WU,WV,Wl,Wh,WA⟩:=sX ⟨b,by omega⟩;simp only at Wg Wk Wl Wh WA;have WO:=V0 (by omega);have VW:Hid (CA V8 [((j.heap.size,2),.slice f e y),((j.heap.size+3,b),.int .i64 g),((j.heap.size+4,b),.int .i64 n)]):=⟨D,VZ b g Wg,V1 b n Wk,trivial⟩;have Wm:¬b=7:=λWa=>z ⟨by omega,.inl (by omega)⟩;have WP:0<=n:=by rcases Int.lt_or_le n 0 with h|h;(.exact absurd (Wl.1 h) Wm);.exact h
  have WD:=Wh Wm;have WC:¬(e:Int)=1+g+n:=λWa=>z ⟨by omega,.inr (by rw[<-WD];omega)⟩;have WR:¬(b:Int)<0:=by omega
  have WS:(b:Int)<12:=by omega
  have WM:wrap64 (1+g)=1+g:=by unfold wrap64;omega
  have WN:wrap64 (1+g+n)=1+g+n:=by unfold wrap64;omega
  clear G V2 V3 VZ V1 Wo z Wn w E Wi Wj V0 We VY Wf F Wp Wg Wk Wh WA Wl WD Wm;by_cases Wj:(e:Int)<1+g
  .clear WC;go_enter func18,ntmps18;go_upto_region 4 with fail;rw[U V7]
   go_upto_region 5 with (first
    | (go_at_call 53;refine(U x _ _ (U C)).mono ?_;rintro M t ⟨rfl,rfl⟩)
    | (go_at_call 54;refine(U k).mono ?_;rintro M WF ⟨rfl,d⟩;have o:=VV d;have C:=VV ((U V6).aa d);have I:=(U VW).aa d;obtain⟨q,r,s,_⟩:=I;clear d))
   (have WI:¬(b:Int)<0:=by omega);(have WK:(b:Int)<12:=by omega);(have WL:¬(12:Int)<=(b:Int):=by omega);(have WJ:(e:Int)<1+g:=by omega);have J:=cell_regrown q;have K:=cell_regrown r;have L:=cell_regrown s;refine wp_region_quiet_below (by kernel_rfl) (by kernel_rfl) ?_;(repeat (go_big_quiet_step (fail)));refine wpQuiet_nil ?_;intro N p;(have i:Bw t N:=by obtain⟨WE,rfl⟩:=p;exact below_regrown _ _ _);have B:=VV (ac (U V4) (ac (U o) i));have a:=((U V5).aa (U o)).aa i;obtain⟨O,Wb⟩:=a 0 _ rfl;obtain⟨P,Wq⟩:=a 1 _ rfl;obtain⟨R,Ws⟩:=a 2 _ rfl;obtain⟨S,Wt⟩:=a 3 _ rfl;obtain⟨T,Wu⟩:=a 4 _ rfl;obtain⟨V,Wc⟩:=a 5 _ rfl;obtain⟨W,Wv⟩:=a 6 _ rfl;obtain⟨X,Ww⟩:=a 7 _ rfl;obtain⟨Y,Wx⟩:=a 8 _ rfl;obtain⟨Z,Wy⟩:=a 9 _ rfl;obtain⟨Q,Wr⟩:=a 10 _ rfl;clear a;clear p J K L q r s i;go_wp2;refine aM (v:=.tuple #[.agg #[.int .i64 0,.string ⟨#[]⟩,.slice none 0 0,.slice none 0 0,.slice none 0 0,.slice none 0 0,.int .i64 0,.int .i64 0,.int .i64 0,.int .i64 0,.slice none 0 0],.bool false]) (by simp[results,results18,go_sem,O,P,R,S,T,V,W,X,Y,Z,Q]) rfl ?_;exact cS.no (aJ (U B) (Nat.le_succ _) _ _ _ _ _ _ _ _ _ _ _) rfl _ _ _ _ _ _ _ _ _ _ _ _ _ _ _ _ _ _ _ _ _
  ·(have WQ:((e:Int) != 1+g+n)=true:=by simpa using WC);go_enter func18,ntmps18;go_upto_region 4 with fail;rw[U V7]
   go_upto_region 5 with (first
    | (go_at_call 53;refine(U x _ _ (U C)).mono ?_;rintro M t ⟨rfl,rfl⟩)
    | (go_at_call 54;refine(U k).mono ?_;rintro M WF ⟨rfl,d⟩;have o:=VV d;have C:=VV ((U V6).aa d);have I:=(U VW).aa d;obtain⟨q,r,s,_⟩:=I;clear d))
   (have WI:¬(b:Int)<0:=by omega);(have WK:(b:Int)<12:=by omega);(have WL:¬(12:Int)<=(b:Int):=by omega);(have WJ:¬(e:Int)<1+g:=by omega);(have WT:(0:Int)<=n:=by omega);have J:=cell_regrown q;have K:=cell_regrown r;have L:=cell_regrown s;refine wp_region_quiet_below (by kernel_rfl) (by kernel_rfl) ?_;(repeat (go_big_quiet_step (fail)));refine wpQuiet_nil ?_;intro N p;(have i:Bw t N:=by obtain⟨WE,rfl⟩:=p;exact below_regrown _ _ _);have B:=VV (ac (U V4) (ac (U o) i));have a:=((U V5).aa (U o)).aa i;obtain⟨O,Wb⟩:=a 0 _ rfl;obtain⟨P,Wq⟩:=a 1 _ rfl;obtain⟨R,Ws⟩:=a 2 _ rfl;obtain⟨S,Wt⟩:=a 3 _ rfl;obtain⟨T,Wu⟩:=a 4 _ rfl;obtain⟨V,Wc⟩:=a 5 _ rfl;obtain⟨W,Wv⟩:=a 6 _ rfl;obtain⟨X,Ww⟩:=a 7 _ rfl;obtain⟨Y,Wx⟩:=a 8 _ rfl;obtain⟨Z,Wy⟩:=a 9 _ rfl;obtain⟨Q,Wr⟩:=a 10 _ rfl;clear a;clear p J K L q r s i;go_wp2;refine aM (v:=.tuple #[.agg #[.int .i64 0,.string ⟨#[]⟩,.slice none 0 0,.slice none 0 0,.slice none 0 0,.slice none 0 0,.int .i64 0,.int .i64 0,.int .i64 0,.int .i64 0,.slice none 0 0],.bool false]) (by simp[results,results18,go_sem,O,P,R,S,T,V,W,X,Y,Z,Q]) rfl ?_;exact cS.no (aJ (U B) (Nat.le_succ _) _ _ _ _ _ _ _ _ _ _ _) rfl _ _ _ _ _ _ _ _ _ _ _ _ _ _ _ _ _ _ _ _ _
end Go.Proofs.YtabmgpillccfaaaGreatDoor
