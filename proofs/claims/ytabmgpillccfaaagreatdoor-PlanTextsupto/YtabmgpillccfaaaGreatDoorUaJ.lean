import Derived.Test.YtabmgpillccfaaaGreatDoorUaE
set_option linter.all false
set_option maxHeartbeats 16000000
set_option maxRecDepth 100000
namespace Go.Proofs.YtabmgpillccfaaaGreatDoor
open Go.RowKit Go.Sort Go.Proofs.Tryz
variable{w:World}{n:Nat}{D:List Value}
theorem bp.set(h:bp w n D)(d:Nat)(f:Value):bp (w.setCell ⟨n,d,none⟩ f) n (D.set d f):=λb k a=>by
 have e:b<D.length:=by have:=(b6 a).1;rwa [List.length_set] at this
 obtain⟨g,j⟩:=h b D[b] (ba e)
 refine⟨?_,(World.frozen?_setCell _ _ _ _).trans j⟩
 by_cases c:d=b
 .subst c
  rw[List.getElem?_set_self e] at a
  injection a with a
  subst a
  simp[go_sem,g]
 .rw[List.getElem?_set_ne c] at a
  obtain⟨i,_⟩:=h b k a
  simp[go_sem,c,i]
theorem rI(c:World)(a:Nat)(f d g:Value):fm (λe=>a+1<=e/\e<c.heap.size) c (((c.setCell ⟨a,3,none⟩ f).setCell ⟨a,4,none⟩ d).setCell ⟨a,10,none⟩ g):=λd j k b i=>bA b.1 (bA b.1 (bA b.1 i))
theorem m3(w:Tt)(Yv:w.fin)(Wp:Option Addr)(Wq:Nat)(g:World)(Yo:Tt.all g Wp w.l)(XW:GT g)(V5:List Tt)(X0:bB aX w=some (10,V5))(Xn:V5.length=6)  (Yg:∀K,Bw g K->∀(Wi:Nat) (b:Tt),V5[Wi]?=some b->∀(Wa:Option Addr) (Wr:Nat) (r:World),Tt.all r Wa b.l->Bw K r->Calls prog 50 #[b.val Wa Wr] r (PQ (b9 b) r)):Calls prog 50 #[w.val Wp Wq] g (PQ (bm 10 V5 (V5.map b9)) g):=by
 obtain⟨Wn,XX⟩:=al (PQ (bm 10 V5 (V5.map b9)) g);rw[<-XX];have Yh:=VV XX;have XZ:=Tt.af Yv;obtain⟨Wo,Wd⟩:=bq ((g.alloc (.cells #[.int .i64 w.k,.string w.s,.slice Wp w.l.length (w.l.length+Wq)] 51)).alloc (.cells #[.int .i64 0,.string ⟨#[]⟩,.slice none 0 0,.slice none 0 0,.slice none 0 0,.slice none 0 0,.int .i64 0,.int .i64 0,.int .i64 0,.int .i64 0,.slice none 0 0] 28));have Wf:=ae (ar _ g) (.cells #[.int .i64 w.k,.string w.s,.slice Wp w.l.length (w.l.length+Wq)] 51);have Xj:Bw g Wo:=by rw[<-Wd];exact ae Wf _
 have Yt:bp Wo (g.heap.size+1) VT:=by rw[<-Wd];have:=bp.new (g.alloc (.cells #[.int .i64 w.k,.string w.s,.slice Wp w.l.length (w.l.length+Wq)] 51)) VT 28;simpa using this
 have Y3:=VV Yt;have YU:Hid (g.heap.size+1<Wo.heap.size):=by show _<_;rw[<-Wd];simp
 have Zx:Wo.cell? ⟨g.heap.size,0,none⟩=some (.int .i64 w.k):=by rw[<-Wd];simp[go_sem]
 have Zy:Wo.cell? ⟨g.heap.size,1,none⟩=some (.string w.s):=by rw[<-Wd];simp[go_sem]
 have Zz:Wo.cell? ⟨g.heap.size,2,none⟩=some (.slice Wp w.l.length (w.l.length+Wq)):=by rw[<-Wd];simp[go_sem]
 have YP:=VV Xj;have Y8:=VV Wd;have WX:=bM bE aX aZ (by decide) (by decide) (ascii_of_all (by decide)) w XZ.2.1 Wp Wq Wo (Tt.ab _ Yo Xj) (XW.aa Xj);unfold bE at WX;rw[X0,Tt.ad] at WX;have WX:=VV WX;have YZ:=VV λ(r:World)=>b5 10 (by decide) r;have Yf:=VV Yg;obtain⟨XN,Wh,_⟩:=cd X0;have XY:=XZ.2.2;rw[Wh,Tt.ah] at XY;have YR:=VV XY.2;have WU:=VV λ(r:World) (V:Bw g r)=>XW.aa V;have YV:=VV Xn;rw[Tt.ad];generalize w.l.length+Wq=Zw at *;generalize w.l.length=ZE at *;clear Xj Wf Yt XX Wd Yg XW Yo X0 Yv XZ Wh XY
 obtain⟨u,p1,p2,p3,p4,V6,Zg⟩:∃u p1 p2 p3 p4 V6,V5=u::p1::p2::p3::p4::V6:=by
  match V5,Xn with
  | u::p1::p2::p3::p4::V6,_=>exact⟨u,p1,p2,p3,p4,V6,rfl⟩
 subst Zg;have Zh:V6.length=1:=by simp only[a1] at Xn;omega
 have Yr:=(U YR);simp only[Tt.ah] at Yr;obtain⟨Xw,W6,W7,Wt,W8,WS⟩:=Yr;have X7:=Tt.af Wt;have X8:=Tt.af W8;have Wm:=VV λ(B:Option Addr) (C:Nat) (r:World) (V:Bw g r)=>il mC d0 iz (by decide) (by decide) (ascii_of_all (by decide)) u B C r (U WU r V);unfold mC at Wm;have V8:=VV λ(B:Option Addr) (C:Nat) (r:World) (V:Bw g r)=>cH p1 (Tt.af W6).1 B C r (U WU r V);have Z:=VV λ(B:Option Addr) (C:Nat) (r:World) (V:Bw g r)=>cH p2 (Tt.af W7).1 B C r (U WU r V);have WV:=VV λ(B:Option Addr) (C:Nat) (r:World)=>d3 p3 B C r;have WW:=VV λ(B:Option Addr) (C:Nat) (r:World)=>d3 p4 B C r;simp only[Tt.ad] at Wm V8 Z WV WW;have XP:=VV λ(VY:Option Addr) (Wb:Nat) (K:World) (We:Tt.all K VY p3.l) (WZ:Bw g K)=>iF cp p3.l X7.2.1 VY Wb K We λWi b W0 Wa Wr M WQ WY=>cH b (Tt.af (Tt.ag X7.2.2 (a8 W0))).1 Wa Wr M (U WU M (ac WZ WY));have XR:=VV λ(VY:Option Addr) (Wb:Nat) (K:World) (We:Tt.all K VY p4.l) (WZ:Bw g K)=>iG fr p4.l X8.2.1 VY Wb K We λWi b W0 Wa Wr M WQ WY=>kq b (Tt.ag X8.2.2 (a8 W0)) Wa Wr M WQ (U WU M (ac WZ WY));have Xc:=VV λ(VY:Option Addr) (Wb:Nat) (K:World) (We:Tt.all K VY V6) (WZ:Bw g K)=>db b9 V6 (by omega) VY Wb K We λWi b W0 Wa Wr M WQ WY=>U Yf K WZ (Wi+5) b (by simpa using W0) Wa Wr M WQ WY;rw[Zh] at Xc;have XU:Hid (Wn=PQ ((bW d0 u).bind λF=>(cp p1).bind λE=>(cp p2).bind λI=>(bF p3).bind λX9=>(a6 cp X9).bind λWc=>(bF p4).bind λYa=>(a6 fr Ya).bind λV4=>(a6 b9 V6).map λV7=>.mk 10 ⟨#[]⟩ [] Wc V4 [] F E I 0 V7) g):=by have:=U Yh;rw[cu b9];exact this
 obtain⟨XN,Wh⟩:=al (bW d0 u);obtain⟨XO,W4⟩:=al (cp p1);obtain⟨Xb,W5⟩:=al (cp p2);obtain⟨Yb,Xo⟩:=al (a6 cp p3.l);obtain⟨Yc,X5⟩:=al (a6 fr p4.l);obtain⟨Xv,X6⟩:=al (a6 b9 V6);rw[<-Wh,<-W4,<-W5,<-X6] at XU;rw[<-Wh] at Wm;rw[<-W4] at V8;rw[<-W5] at Z;rw[<-Xo] at XP;rw[<-X5] at XR;rw[<-X6] at Xc;obtain⟨V9,WR⟩:∃V9:Int->Int->Int->Option Pl,V9=λF E I=>(bF p3).bind λX9=>(a6 cp X9).bind λWc=>(bF p4).bind λYa=>(a6 fr Ya).bind λV4=>Xv.map λV7=>.mk 10 ⟨#[]⟩ [] Wc V4 [] F E I 0 V7:=⟨_,rfl⟩;have z:Hid (Wn=PQ (XN.bind λF=>XO.bind λE=>Xb.bind λI=>V9 F E I) g):=by rw[WR];exact U XU
 have Y9:Hid (p3.k=3->p4.k=3->∀F E I,V9 F E I=Yb.bind λWc=>Yc.bind λV4=>Xv.map λV7=>.mk 10 ⟨#[]⟩ [] Wc V4 [] F E I 0 V7):=λL V3 F E I=>by rw[WR];unfold bF;rw[aR L,aR V3,Xo,X5];rfl
 have Za:Hid (¬p3.k=3->∀F E I,V9 F E I=none):=λL F E I=>by rw[WR];unfold bF;rw[aL L];rfl
 have Zb:Hid (Yb=none->p3.k=3->∀F E I,V9 F E I=none):=λZe L F E I=>by rw[WR];unfold bF;rw[aR L];show (a6 cp p3.l).bind _=none;rw[<-Xo,Ze];rfl
 have Zc:Hid (¬p4.k=3->∀F E I,V9 F E I=none):=λV3 F E I=>by rw[WR];unfold bF;rw[aL V3];by_cases L:p3.k=3;(.rw[aR L];show (a6 cp p3.l).bind (λ_=>none)=none;cases a6 cp p3.l<;>rfl);.rw[aL L];rfl
 clear Yh Yf Xo X5 X6 Wh W4 W5 Xn XU X7 X8 Xw W6 W7 Wt W8 WS WR;go_enter func50,ntmps50;go_upto_region 1 with fail;rw[U Y8]
 go_upto_region 17 with (first
  | (go_at_call 93;refine(U WX).mono ?_;rintro YM Zi ⟨Wf,VY,Wb,rfl,We⟩;simp only[U YV];have YO:=VV (Tt.ab _ We Wf);have o:=VV (ac (U YP) Wf);have Y4:=VV ((U Y3).aa Wf);have Y5:=VV Wf.size;obtain⟨e,f,Xd,Xe,rfl,⟨Xw,W6,W7⟩,Wh,Yy⟩:=Tt.all_cons (U YO);obtain⟨Xf,Xr,⟨Wt,W8,WS⟩,W4,Yz⟩:=Tt.aD Yy;obtain⟨Xg,Xs,⟨Xx,YJ,YK⟩,W5,YA⟩:=Tt.aD Yz;obtain⟨Xh,Xt,⟨YL,YE,YF⟩,Yw,YB⟩:=Tt.aD YA;obtain⟨Xi,Xu,⟨YG,YH,YI⟩,Yx,YC⟩:=Tt.aD YB;have Yi:=VV Yw;have Yj:=VV Yx;have Yk:=VV YC;have l:Hid (CA Zi [((e,f),.int .i64 u.k),((e,f+1),.string u.s),((e,f+2),.slice Xd u.l.length (u.l.length+Xe)),((e,f+3),.int .i64 p1.k),((e,f+4),.string p1.s),((e,f+5),.slice Xf p1.l.length (p1.l.length+Xr)),((e,f+6),.int .i64 p2.k),((e,f+7),.string p2.s),((e,f+8),.slice Xg p2.l.length (p2.l.length+Xs)),((e,f+9),.int .i64 p3.k),((e,f+10),.string p3.s),((e,f+11),.slice Xh p3.l.length (p3.l.length+Xt)),((e,f+12),.int .i64 p4.k),((e,f+13),.string p4.s),((e,f+14),.slice Xi p4.l.length (p4.l.length+Xu))]):=⟨Xw,W6,W7,Wt,W8,WS,Xx,YJ,YK,YL,YE,YF,YG,YH,YI,trivial⟩;clear Wf We Wh W4 W5 Yw Yx Yy Yz YA YB YC Xw W6 W7 Wt W8 WS Xx YJ YK YL YE YF YG YH YI)
  | (go_at_call 95;refine(U YZ _).mono ?_;rintro YM Y ⟨rfl,rfl⟩)
  | (go_at_call 94;refine(bc _).mono ?_;rintro YM Y ⟨rfl,rfl⟩))
 obtain⟨S,Yn⟩:=al (6+Wb);rw[<-Yn];have ZA:¬S=5:=by omega
 have ZB:6<=S:=by omega
 have ZC:¬(S:Int)<5:=by omega
 have Zk:Hid (S-5=1+Wb):=by show _=_;omega
 clear Yn;go_cut[5] from 93 (λWT YN=>∃(q:Nat) (x t s:Int),WT=.pointer (some ⟨q,0,none⟩)/\Hid (Wn=PQ (V9 x t s) g/\Bw Y YN/\bp YN q [.int .i64 10,.string ⟨#[]⟩,.slice none 0 0,.slice none 0 0,.slice none 0 0,.slice none 0 0,.int .i64 x,.int .i64 t,.int .i64 s,.int .i64 0,.slice none 0 0]/\Y.heap.size<=q))
 case first=>
  refine dR (λM=>Wn=PQ none g/\Bw g M) (λZd Zj XV i=>?_) (λM:World=>CA M [((e,f),.int .i64 u.k),((e,f+1),.string u.s),((e,f+2),.slice Xd u.l.length (u.l.length+Xe)),((e,f+3),.int .i64 p1.k),((e,f+4),.string p1.s),((e,f+5),.slice Xf p1.l.length (p1.l.length+Xr)),((e,f+6),.int .i64 p2.k),((e,f+7),.string p2.s),((e,f+8),.slice Xg p2.l.length (p2.l.length+Xs)),((e,f+9),.int .i64 p3.k),((e,f+10),.string p3.s),((e,f+11),.slice Xh p3.l.length (p3.l.length+Xt)),((e,f+12),.int .i64 p4.k),((e,f+13),.string p4.s),((e,f+14),.slice Xi p4.l.length (p4.l.length+Xu))]) 15 ?_;.refine⟨XV,?_⟩;rw[i.1];exact⟨i.2,rfl⟩
  have VW:=(ar Y.heap.size Y).drew;obtain⟨b,W3⟩:=al Y.drew;rw[<-W3] at VW ⊢;have a:=VV VW;clear W3 VW;refine VS 0 (.int .i64 10) rfl ((U l).aa (U a)) ?_;refine VS 1 (.slice (some ⟨e,f,none⟩) 6 S) rfl ((U l).aa (U a)) ?_;refine VS 2 (.pointer (some ⟨e,f,none⟩)) rfl ((U l).aa (U a)) ?_;refine VS 3 (.agg #[.int .i64 u.k,.string u.s,.slice Xd u.l.length (u.l.length+Xe)]) rfl ((U l).aa (U a)) ?_ λXM O=>by simp only[CA] at O;obtain⟨Xy,Xz,XF,XG,XH,WT,XI,XJ,XK,XL,XA,XB,XC,XD,XE,_⟩:=O;go_simp
  refine VS 5 (.slice (some ⟨e,f,none⟩) 6 S) rfl ((U l).aa (U a)) ?_;refine VS 6 (.pointer (some ⟨e,f+3,none⟩)) rfl ((U l).aa (U a)) ?_;refine VS 7 (.agg #[.int .i64 p1.k,.string p1.s,.slice Xf p1.l.length (p1.l.length+Xr)]) rfl ((U l).aa (U a)) ?_ λXM O=>by simp only[CA] at O;obtain⟨Xy,Xz,XF,XG,XH,WT,XI,XJ,XK,XL,XA,XB,XC,XD,XE,_⟩:=O;go_simp
  refine VS 9 (.slice (some ⟨e,f,none⟩) 6 S) rfl ((U l).aa (U a)) ?_;refine VS 10 (.pointer (some ⟨e,f+6,none⟩)) rfl ((U l).aa (U a)) ?_;refine VS 11 (.agg #[.int .i64 p2.k,.string p2.s,.slice Xg p2.l.length (p2.l.length+Xs)]) rfl ((U l).aa (U a)) ?_ λXM O=>by simp only[CA] at O;obtain⟨Xy,Xz,XF,XG,XH,WT,XI,XJ,XK,XL,XA,XB,XC,XD,XE,_⟩:=O;go_simp
  refine fj (i:=4) (j:=14) (by kernel_rfl) rfl rfl (by rfl) (by rfl) (λk c=>?_) (λk c=>?_)
  .go_simp
   cases XN with
   | none=>
    refine(U Wm _ _ _ (ac (U o) (U a))).mono ?_
    rintro _ J ⟨i,rfl⟩
    exact⟨rfl,rfl,U z,ac (ac (U o) (U a)) i⟩
   | some x=>
    refine(U Wm _ _ _ (ac (U o) (U a))).mono ?_
    rintro _ J ⟨i,rfl⟩
    replace a:=VV (ac (U a) i)
    clear i
    clear b
    rename World=>b
    go_simp
    refine aO c ((U l).aa (U a)) ?_
    clear c k
    refine fj (i:=8) (j:=14) (by kernel_rfl) rfl rfl (by rfl) (by rfl) (λk c=>?_) (λk c=>?_)
    .go_simp
     cases XO with
     | none=>
      refine(U V8 _ _ _ (ac (U o) (U a))).mono ?_
      rintro _ J ⟨i,rfl⟩
      exact⟨rfl,rfl,U z,ac (ac (U o) (U a)) i⟩
     | some t=>
      refine(U V8 _ _ _ (ac (U o) (U a))).mono ?_
      rintro _ J ⟨i,rfl⟩
      replace a:=VV (ac (U a) i)
      clear i
      clear b
      rename World=>b
      go_simp
      refine aO c ((U l).aa (U a)) ?_
      clear c k
      refine fj (i:=12) (j:=14) (by kernel_rfl) rfl rfl (by rfl) (by rfl) (λk c=>?_) (λk c=>?_)
      .go_simp
       cases Xb with
       | none=>
        refine(U Z _ _ _ (ac (U o) (U a))).mono ?_
        rintro _ J ⟨i,rfl⟩
        exact⟨rfl,rfl,U z,ac (ac (U o) (U a)) i⟩
       | some s=>
        refine(U Z _ _ _ (ac (U o) (U a))).mono ?_
        rintro _ J ⟨i,rfl⟩
        replace a:=VV (ac (U a) i)
        clear i
        clear b
        rename World=>b
        go_simp
        refine aO c ((U l).aa (U a)) ?_
        clear c k
        refine VS 13 (.agg #[.int .i64 10,.string ⟨#[]⟩,.slice none 0 0,.slice none 0 0,.slice none 0 0,.slice none 0 0,.int .i64 x,.int .i64 t,.int .i64 s,.int .i64 0,.slice none 0 0]) rfl ((U l).aa (U a)) ?_
        refine ap 14 rfl λk c=>?_
        go_simp
        obtain⟨q,G⟩:=al b.heap.size
        have N:=ae (ar _ b) (.cells #[.int .i64 0,.string ⟨#[]⟩,.slice none 0 0,.slice none 0 0,.slice none 0 0,.slice none 0 0,.int .i64 0,.int .i64 0,.int .i64 0,.int .i64 0,.slice none 0 0] 28)
        have D:bp (b.alloc (.cells #[.int .i64 0,.string ⟨#[]⟩,.slice none 0 0,.slice none 0 0,.slice none 0 0,.slice none 0 0,.int .i64 0,.int .i64 0,.int .i64 0,.int .i64 0,.slice none 0 0] 28)) b.heap.size VT:=bp.new b VT 28
        have y:Hid (Y.heap.size<=q):=by show _<=_;rw[G];exact(U a).size
        rw[<-G] at D ⊢
        obtain⟨Yd,X⟩:=al (b.alloc (.cells #[.int .i64 0,.string ⟨#[]⟩,.slice none 0 0,.slice none 0 0,.slice none 0 0,.slice none 0 0,.int .i64 0,.int .i64 0,.int .i64 0,.int .i64 0,.slice none 0 0] 28))
        rw[<-X] at N D ⊢
        have n:=VV D
        replace a:=VV (ac (U a) N)
        clear N D G X b
        rename World=>b
        refine aO c ((U l).aa (U a)) ?_
        clear c k
        refine ap 15 rfl λk c=>?_
        have d:=U n
        obtain⟨Wu,WF⟩:=d 0 _ rfl;obtain⟨Wv,WG⟩:=d 1 _ rfl;obtain⟨Wx,WI⟩:=d 2 _ rfl;obtain⟨Wy,WJ⟩:=d 3 _ rfl;obtain⟨Wz,WK⟩:=d 4 _ rfl;obtain⟨WA,WL⟩:=d 5 _ rfl;obtain⟨WB,WM⟩:=d 6 _ rfl;obtain⟨WC,WN⟩:=d 7 _ rfl;obtain⟨WD,WO⟩:=d 8 _ rfl;obtain⟨WE,WP⟩:=d 9 _ rfl;obtain⟨Ww,WH⟩:=d 10 _ rfl
        clear d
        go_simp
        refine aS c ?_
        clear c k
        refine fk ?_
        go_wp2
        go_meet
        refine⟨q,x,t,s,rfl,VV ⟨U z,aJ (U a) (U y) _ _ _ _ _ _ _ _ _ _ _,(((((((((((U n).set 0 (.int .i64 10)).set 1 (.string ⟨#[]⟩)).set 2 (.slice none 0 0)).set 3 (.slice none 0 0)).set 4 (.slice none 0 0)).set 5 (.slice none 0 0)).set 6 (.int .i64 x)).set 7 (.int .i64 t)).set 8 (.int .i64 s)).set 9 (.int .i64 0)).set 10 (.slice none 0 0),U y⟩⟩
      .go_simp
       obtain⟨q,G⟩:=al b.heap.size
       have N:=ae (ar _ b) (.cells #[.int .i64 0,.string ⟨#[]⟩,.slice none 0 0,.slice none 0 0,.slice none 0 0,.slice none 0 0,.int .i64 0,.int .i64 0,.int .i64 0,.int .i64 0,.slice none 0 0] 28)
       have D:bp (b.alloc (.cells #[.int .i64 0,.string ⟨#[]⟩,.slice none 0 0,.slice none 0 0,.slice none 0 0,.slice none 0 0,.int .i64 0,.int .i64 0,.int .i64 0,.int .i64 0,.slice none 0 0] 28)) b.heap.size VT:=bp.new b VT 28
       have y:Hid (Y.heap.size<=q):=by show _<=_;rw[G];exact(U a).size
       rw[<-G] at D ⊢
       obtain⟨Yd,X⟩:=al (b.alloc (.cells #[.int .i64 0,.string ⟨#[]⟩,.slice none 0 0,.slice none 0 0,.slice none 0 0,.slice none 0 0,.int .i64 0,.int .i64 0,.int .i64 0,.int .i64 0,.slice none 0 0] 28))
       rw[<-X] at N D ⊢
       have n:=VV D
       replace a:=VV (ac (U a) N)
       clear N D G X b
       rename World=>b
       refine aO c ((U l).aa (U a)) ?_
       clear c k
       refine ap 12 rfl λk c=>?_
       go_simp
       cases Xb with
       | none=>
        refine(U Z _ _ _ (ac (U o) (U a))).mono ?_
        rintro _ J ⟨i,rfl⟩
        exact⟨rfl,rfl,U z,ac (ac (U o) (U a)) i⟩
       | some s=>
        refine(U Z _ _ _ (ac (U o) (U a))).mono ?_
        rintro _ J ⟨i,rfl⟩
        replace a:=VV (ac (U a) i)
        replace n:=VV ((U n).aa i)
        clear i
        clear b
        rename World=>b
        go_simp
        refine aO c ((U l).aa (U a)) ?_
        clear c k
        refine VS 13 (.agg #[.int .i64 10,.string ⟨#[]⟩,.slice none 0 0,.slice none 0 0,.slice none 0 0,.slice none 0 0,.int .i64 x,.int .i64 t,.int .i64 s,.int .i64 0,.slice none 0 0]) rfl ((U l).aa (U a)) ?_
        refine ap 15 rfl λk c=>?_
        have d:=U n
        obtain⟨Wu,WF⟩:=d 0 _ rfl;obtain⟨Wv,WG⟩:=d 1 _ rfl;obtain⟨Wx,WI⟩:=d 2 _ rfl;obtain⟨Wy,WJ⟩:=d 3 _ rfl;obtain⟨Wz,WK⟩:=d 4 _ rfl;obtain⟨WA,WL⟩:=d 5 _ rfl;obtain⟨WB,WM⟩:=d 6 _ rfl;obtain⟨WC,WN⟩:=d 7 _ rfl;obtain⟨WD,WO⟩:=d 8 _ rfl;obtain⟨WE,WP⟩:=d 9 _ rfl;obtain⟨Ww,WH⟩:=d 10 _ rfl
        clear d
        go_simp
        refine aS c ?_
        clear c k
        refine fk ?_
        go_wp2
        go_meet
        refine⟨q,x,t,s,rfl,VV ⟨U z,aJ (U a) (U y) _ _ _ _ _ _ _ _ _ _ _,(((((((((((U n).set 0 (.int .i64 10)).set 1 (.string ⟨#[]⟩)).set 2 (.slice none 0 0)).set 3 (.slice none 0 0)).set 4 (.slice none 0 0)).set 5 (.slice none 0 0)).set 6 (.int .i64 x)).set 7 (.int .i64 t)).set 8 (.int .i64 s)).set 9 (.int .i64 0)).set 10 (.slice none 0 0),U y⟩⟩
    .go_simp
     obtain⟨q,G⟩:=al b.heap.size
     have N:=ae (ar _ b) (.cells #[.int .i64 0,.string ⟨#[]⟩,.slice none 0 0,.slice none 0 0,.slice none 0 0,.slice none 0 0,.int .i64 0,.int .i64 0,.int .i64 0,.int .i64 0,.slice none 0 0] 28)
     have D:bp (b.alloc (.cells #[.int .i64 0,.string ⟨#[]⟩,.slice none 0 0,.slice none 0 0,.slice none 0 0,.slice none 0 0,.int .i64 0,.int .i64 0,.int .i64 0,.int .i64 0,.slice none 0 0] 28)) b.heap.size VT:=bp.new b VT 28
     have y:Hid (Y.heap.size<=q):=by show _<=_;rw[G];exact(U a).size
     rw[<-G] at D ⊢
     obtain⟨Yd,X⟩:=al (b.alloc (.cells #[.int .i64 0,.string ⟨#[]⟩,.slice none 0 0,.slice none 0 0,.slice none 0 0,.slice none 0 0,.int .i64 0,.int .i64 0,.int .i64 0,.int .i64 0,.slice none 0 0] 28))
     rw[<-X] at N D ⊢
     have n:=VV D
     replace a:=VV (ac (U a) N)
     clear N D G X b
     rename World=>b
     refine aO c ((U l).aa (U a)) ?_
     clear c k
     refine ap 8 rfl λk c=>?_
     go_simp
     cases XO with
     | none=>
      refine(U V8 _ _ _ (ac (U o) (U a))).mono ?_
      rintro _ J ⟨i,rfl⟩
      exact⟨rfl,rfl,U z,ac (ac (U o) (U a)) i⟩
     | some t=>
      refine(U V8 _ _ _ (ac (U o) (U a))).mono ?_
      rintro _ J ⟨i,rfl⟩
      replace a:=VV (ac (U a) i)
      replace n:=VV ((U n).aa i)
      clear i
      clear b
      rename World=>b
      go_simp
      refine aO c ((U l).aa (U a)) ?_
      clear c k
      refine ap 12 rfl λk c=>?_
      go_simp
      cases Xb with
      | none=>
       refine(U Z _ _ _ (ac (U o) (U a))).mono ?_
       rintro _ J ⟨i,rfl⟩
       exact⟨rfl,rfl,U z,ac (ac (U o) (U a)) i⟩
      | some s=>
       refine(U Z _ _ _ (ac (U o) (U a))).mono ?_
       rintro _ J ⟨i,rfl⟩
       replace a:=VV (ac (U a) i)
       replace n:=VV ((U n).aa i)
       clear i
       clear b
       rename World=>b
       go_simp
       refine aO c ((U l).aa (U a)) ?_
       clear c k
       refine VS 13 (.agg #[.int .i64 10,.string ⟨#[]⟩,.slice none 0 0,.slice none 0 0,.slice none 0 0,.slice none 0 0,.int .i64 x,.int .i64 t,.int .i64 s,.int .i64 0,.slice none 0 0]) rfl ((U l).aa (U a)) ?_
       refine ap 15 rfl λk c=>?_
       have d:=U n
       obtain⟨Wu,WF⟩:=d 0 _ rfl;obtain⟨Wv,WG⟩:=d 1 _ rfl;obtain⟨Wx,WI⟩:=d 2 _ rfl;obtain⟨Wy,WJ⟩:=d 3 _ rfl;obtain⟨Wz,WK⟩:=d 4 _ rfl;obtain⟨WA,WL⟩:=d 5 _ rfl;obtain⟨WB,WM⟩:=d 6 _ rfl;obtain⟨WC,WN⟩:=d 7 _ rfl;obtain⟨WD,WO⟩:=d 8 _ rfl;obtain⟨WE,WP⟩:=d 9 _ rfl;obtain⟨Ww,WH⟩:=d 10 _ rfl
       clear d
       go_simp
       refine aS c ?_
       clear c k
       refine fk ?_
       go_wp2
       go_meet
       refine⟨q,x,t,s,rfl,VV ⟨U z,aJ (U a) (U y) _ _ _ _ _ _ _ _ _ _ _,(((((((((((U n).set 0 (.int .i64 10)).set 1 (.string ⟨#[]⟩)).set 2 (.slice none 0 0)).set 3 (.slice none 0 0)).set 4 (.slice none 0 0)).set 5 (.slice none 0 0)).set 6 (.int .i64 x)).set 7 (.int .i64 t)).set 8 (.int .i64 s)).set 9 (.int .i64 0)).set 10 (.slice none 0 0),U y⟩⟩
  .go_simp
   obtain⟨q,G⟩:=al b.heap.size
   have N:=ae (ar _ b) (.cells #[.int .i64 0,.string ⟨#[]⟩,.slice none 0 0,.slice none 0 0,.slice none 0 0,.slice none 0 0,.int .i64 0,.int .i64 0,.int .i64 0,.int .i64 0,.slice none 0 0] 28)
   have D:bp (b.alloc (.cells #[.int .i64 0,.string ⟨#[]⟩,.slice none 0 0,.slice none 0 0,.slice none 0 0,.slice none 0 0,.int .i64 0,.int .i64 0,.int .i64 0,.int .i64 0,.slice none 0 0] 28)) b.heap.size VT:=bp.new b VT 28
   have y:Hid (Y.heap.size<=q):=by show _<=_;rw[G];exact(U a).size
   rw[<-G] at D ⊢
   obtain⟨Yd,X⟩:=al (b.alloc (.cells #[.int .i64 0,.string ⟨#[]⟩,.slice none 0 0,.slice none 0 0,.slice none 0 0,.slice none 0 0,.int .i64 0,.int .i64 0,.int .i64 0,.int .i64 0,.slice none 0 0] 28))
   rw[<-X] at N D ⊢
   have n:=VV D
   replace a:=VV (ac (U a) N)
   clear N D G X b
   rename World=>b
   refine aO c ((U l).aa (U a)) ?_
   clear c k
   refine ap 4 rfl λk c=>?_
   go_simp
   cases XN with
   | none=>
    refine(U Wm _ _ _ (ac (U o) (U a))).mono ?_
    rintro _ J ⟨i,rfl⟩
    exact⟨rfl,rfl,U z,ac (ac (U o) (U a)) i⟩
   | some x=>
    refine(U Wm _ _ _ (ac (U o) (U a))).mono ?_
    rintro _ J ⟨i,rfl⟩
    replace a:=VV (ac (U a) i)
    replace n:=VV ((U n).aa i)
    clear i
    clear b
    rename World=>b
    go_simp
    refine aO c ((U l).aa (U a)) ?_
    clear c k
    refine ap 8 rfl λk c=>?_
    go_simp
    cases XO with
    | none=>
     refine(U V8 _ _ _ (ac (U o) (U a))).mono ?_
     rintro _ J ⟨i,rfl⟩
     exact⟨rfl,rfl,U z,ac (ac (U o) (U a)) i⟩
    | some t=>
     refine(U V8 _ _ _ (ac (U o) (U a))).mono ?_
     rintro _ J ⟨i,rfl⟩
     replace a:=VV (ac (U a) i)
     replace n:=VV ((U n).aa i)
     clear i
     clear b
     rename World=>b
     go_simp
     refine aO c ((U l).aa (U a)) ?_
     clear c k
     refine ap 12 rfl λk c=>?_
     go_simp
     cases Xb with
     | none=>
      refine(U Z _ _ _ (ac (U o) (U a))).mono ?_
      rintro _ J ⟨i,rfl⟩
      exact⟨rfl,rfl,U z,ac (ac (U o) (U a)) i⟩
     | some s=>
      refine(U Z _ _ _ (ac (U o) (U a))).mono ?_
      rintro _ J ⟨i,rfl⟩
      replace a:=VV (ac (U a) i)
      replace n:=VV ((U n).aa i)
      clear i
      clear b
      rename World=>b
      go_simp
      refine aO c ((U l).aa (U a)) ?_
      clear c k
      refine VS 13 (.agg #[.int .i64 10,.string ⟨#[]⟩,.slice none 0 0,.slice none 0 0,.slice none 0 0,.slice none 0 0,.int .i64 x,.int .i64 t,.int .i64 s,.int .i64 0,.slice none 0 0]) rfl ((U l).aa (U a)) ?_
      refine ap 15 rfl λk c=>?_
      have d:=U n
      obtain⟨Wu,WF⟩:=d 0 _ rfl;obtain⟨Wv,WG⟩:=d 1 _ rfl;obtain⟨Wx,WI⟩:=d 2 _ rfl;obtain⟨Wy,WJ⟩:=d 3 _ rfl;obtain⟨Wz,WK⟩:=d 4 _ rfl;obtain⟨WA,WL⟩:=d 5 _ rfl;obtain⟨WB,WM⟩:=d 6 _ rfl;obtain⟨WC,WN⟩:=d 7 _ rfl;obtain⟨WD,WO⟩:=d 8 _ rfl;obtain⟨WE,WP⟩:=d 9 _ rfl;obtain⟨Ww,WH⟩:=d 10 _ rfl
      clear d
      go_simp
      refine aS c ?_
      clear c k
      refine fk ?_
      go_wp2
      go_meet
      refine⟨q,x,t,s,rfl,VV ⟨U z,aJ (U a) (U y) _ _ _ _ _ _ _ _ _ _ _,(((((((((((U n).set 0 (.int .i64 10)).set 1 (.string ⟨#[]⟩)).set 2 (.slice none 0 0)).set 3 (.slice none 0 0)).set 4 (.slice none 0 0)).set 5 (.slice none 0 0)).set 6 (.int .i64 x)).set 7 (.int .i64 t)).set 8 (.int .i64 s)).set 9 (.int .i64 0)).set 10 (.slice none 0 0),U y⟩⟩
 case rest=>
  obtain⟨q,x,t,s,rfl,Yq⟩:=hcut
  obtain⟨YD,VW,G,W⟩:=U Yq
  have z:=VV YD
  have y:=VV W
  clear Yq YD W
  go_upto_region 18 with fail
  refine dR (λM=>Wn=PQ none g/\Bw g M) (λZd Zj XV i=>?_) (λM:World=>CA M [((e,f),.int .i64 u.k),((e,f+1),.string u.s),((e,f+2),.slice Xd u.l.length (u.l.length+Xe)),((e,f+3),.int .i64 p1.k),((e,f+4),.string p1.s),((e,f+5),.slice Xf p1.l.length (p1.l.length+Xr)),((e,f+6),.int .i64 p2.k),((e,f+7),.string p2.s),((e,f+8),.slice Xg p2.l.length (p2.l.length+Xs)),((e,f+9),.int .i64 p3.k),((e,f+10),.string p3.s),((e,f+11),.slice Xh p3.l.length (p3.l.length+Xt)),((e,f+12),.int .i64 p4.k),((e,f+13),.string p4.s),((e,f+14),.slice Xi p4.l.length (p4.l.length+Xu))]) 18 ?_
  .refine⟨XV,?_⟩
   rw[i.1]
   exact⟨i.2,rfl⟩
  have Xk:=(ar wc.heap.size wc).drew
  obtain⟨b,W3⟩:=al wc.drew
  rw[<-W3] at Xk ⊢
  have a:=VV (ac VW Xk)
  have n:=VV (G.aa Xk)
  clear W3 Xk VW G
  refine VS 0 (.slice (some ⟨e,f,none⟩) 6 S) rfl ((U l).aa (U a)) ?_
  refine VS 1 (.pointer (some ⟨e,f+9,none⟩)) rfl ((U l).aa (U a)) ?_
  refine VS 2 (.agg #[.int .i64 p3.k,.string p3.s,.slice Xh p3.l.length (p3.l.length+Xt)]) rfl ((U l).aa (U a)) ?_ λXM O=>by simp only[CA] at O;obtain⟨Xy,Xz,XF,XG,XH,WT,XI,XJ,XK,XL,XA,XB,XC,XD,XE,_⟩:=O;go_simp
  refine VS 5 (.slice (some ⟨e,f,none⟩) 6 S) rfl ((U l).aa (U a)) ?_
  refine VS 6 (.pointer (some ⟨e,f+12,none⟩)) rfl ((U l).aa (U a)) ?_
  refine VS 7 (.agg #[.int .i64 p4.k,.string p4.s,.slice Xi p4.l.length (p4.l.length+Xu)]) rfl ((U l).aa (U a)) ?_ λXM O=>by simp only[CA] at O;obtain⟨Xy,Xz,XF,XG,XH,WT,XI,XJ,XK,XL,XA,XB,XC,XD,XE,_⟩:=O;go_simp
  refine VS 10 (.slice (some ⟨e,f,none⟩) 6 S) rfl ((U l).aa (U a)) ?_
  refine VS 11 (.slice (some ⟨e,f+15,none⟩) 1 (S-5)) rfl ((U l).aa (U a)) ?_
  refine ap 3 rfl λk c=>?_
  go_simp
  by_cases L:p3.k=3
  case neg=>
   simp only[aL L] at WV
   refine(U WV _ _ _).mono ?_
   rintro _ Ye ⟨rfl,P⟩
   exact⟨rfl,rfl,by rw[U z,U Za L],ac (ac (U o) (U a)) P⟩
  simp only[aR L] at WV
  refine(U WV _ _ _).mono ?_
  rintro _ Ye ⟨rfl,P⟩
  replace a:=VV (ac (U a) P)
  replace n:=VV ((U n).aa P)
  have Ym:=VV L
  clear P L b
  rename World=>b
  go_simp
  refine aO c ((U l).aa (U a)) ?_
  clear c k
  refine ap 4 rfl λk c=>?_
  go_simp
  cases Yb with
  | none=>
   refine(U XP _ _ _ (Tt.ab _ (U Yi) (U a)) (ac (U o) (U a))).mono ?_
   rintro _ W9 ⟨A,rfl⟩
   exact⟨rfl,rfl,by rw[U z,U Zb rfl (U Ym)],ac (ac (U o) (U a)) A⟩
  | some Wc=>
  refine(U XP _ _ _ (Tt.ab _ (U Yi) (U a)) (ac (U o) (U a))).mono ?_
  rintro _ W9 ⟨A,ZQ,Wt,rfl,W1,W⟩
  obtain⟨VZ,V1,rfl,Yp,Wg⟩:=W.ints
  have YQ:=VV Yp
  obtain⟨Wj,X2⟩:=al Wt.length
  rw[<-X2]
  have YW:=VV X2
  have Y0:=VV W1
  have VX:=VV (Wg.low (m:=q+1) (bY _ _ ((U n) 0 _ rfl).1))
  replace a:=VV (ac (U a) A)
  replace n:=VV ((U n).aa A)
  clear A W Wg X2 W1 Yp b
  rename World=>b
  go_simp
  refine aO c ((U l).aa (U a)) ?_
  clear c k
  refine VS 13 (.pointer (some ⟨q,3,none⟩)) rfl ((U l).aa (U a)) ?_
  refine ap 8 rfl λk c=>?_
  go_simp
  by_cases V3:p4.k=3
  case neg=>
   simp only[aL V3] at WW
   refine(U WW _ _ _).mono ?_
   rintro _ Ye ⟨rfl,P⟩
   exact⟨rfl,rfl,by rw[U z,U Zc V3],ac (ac (U o) (U a)) P⟩
  simp only[aR V3] at WW
  replace z:Hid (Wn=PQ (Yc.bind λV4=>Xv.map λV7=>.mk 10 ⟨#[]⟩ [] Wc V4 [] x t s 0 V7) g):=by show _=_;rw[U z,U Y9 (U Ym) V3];rfl
  refine(U WW _ _ _).mono ?_
  rintro _ Ye ⟨rfl,P⟩
  replace a:=VV (ac (U a) P)
  replace n:=VV ((U n).aa P)
  replace VX:=VV ((U VX).up P)
  clear P V3 b
  rename World=>b
  go_simp
  refine aO c ((U l).aa (U a)) ?_
  clear c k
  refine ap 9 rfl λk c=>?_
  go_simp
  cases Yc with
  | none=>
   refine(U XR _ _ _ (Tt.ab _ (U Yj) (U a)) (ac (U o) (U a))).mono ?_
   rintro _ W9 ⟨A,rfl⟩
   exact⟨rfl,rfl,U z,ac (ac (U o) (U a)) A⟩
  | some V4=>
  refine(U XR _ _ _ (Tt.ab _ (U Yj) (U a)) (ac (U o) (U a))).mono ?_
  rintro _ W9 ⟨A,ZR,WS,rfl,W2,W⟩
  obtain⟨B,C,rfl,Wg⟩:=W.keys
  obtain⟨Wk,X3⟩:=al WS.length
  rw[<-X3]
  have YX:=VV X3
  have Y1:=VV W2
  have XT:=VV (Wg.low (m:=q+1) (bY _ _ ((U n) 0 _ rfl).1))
  replace a:=VV (ac (U a) A)
  replace n:=VV ((U n).aa A)
  replace VX:=VV ((U VX).up A)
  clear A W Wg X3 W2 b
  rename World=>b
  go_simp
  refine aO c ((U l).aa (U a)) ?_
  clear c k
  refine ap 12 rfl λk c=>?_
  go_simp
  cases Xv with
  | none=>
   refine(U Xc _ _ _ (Tt.ab _ (U Yk) (U a)) (ac (U o) (U a))).mono ?_
   rintro _ W9 ⟨A,rfl⟩
   exact⟨rfl,rfl,U z,ac (ac (U o) (U a)) A⟩
  | some V7=>
  refine(U Xc _ _ _ (Tt.ab _ (U Yk) (U a)) (ac (U o) (U a))).mono ?_
  rintro _ W9 ⟨A,ZS,Xx,rfl,Xp,W⟩
  obtain⟨V0,V2,rfl,Wg⟩:=W.pls
  obtain⟨Wl,X4⟩:=al ((Xx.map Prod.fst).length)
  rw[<-X4]
  have YY:=VV X4
  have Y2:=VV Xp
  have Y6:=VV (Wg.low (m:=q+1) (bY _ _ ((U n) 0 _ rfl).1))
  replace a:=VV (ac (U a) A)
  replace n:=VV ((U n).aa A)
  replace VX:=VV ((U VX).up A)
  replace XT:=VV ((U XT).up A)
  clear A W Wg X4 Xp b
  rename World=>b
  go_simp
  refine aO c ((U l).aa (U a)) ?_
  clear c k
  have d:=U n
  obtain⟨Wu,WF⟩:=d 0 _ rfl;obtain⟨Wv,WG⟩:=d 1 _ rfl;obtain⟨Wx,WI⟩:=d 2 _ rfl;obtain⟨Wy,WJ⟩:=d 3 _ rfl;obtain⟨Wz,WK⟩:=d 4 _ rfl;obtain⟨WA,WL⟩:=d 5 _ rfl;obtain⟨WB,WM⟩:=d 6 _ rfl;obtain⟨WC,WN⟩:=d 7 _ rfl;obtain⟨WD,WO⟩:=d 8 _ rfl;obtain⟨WE,WP⟩:=d 9 _ rfl;obtain⟨Ww,WH⟩:=d 10 _ rfl
  clear d
  refine ap 14 rfl λk c=>?_
  go_simp
  refine aO c ((U l).aa ((U a).setCell (p:=⟨q,3,none⟩) (U y) _)) ?_
  clear c k
  refine VS 15 (.pointer (some ⟨q,4,none⟩)) rfl ((U l).aa ((U a).setCell (p:=⟨q,3,none⟩) (U y) _)) ?_
  refine ap 16 rfl λk c=>?_
  go_simp
  refine aO c ((U l).aa (((U a).setCell (p:=⟨q,3,none⟩) (U y) _).setCell (p:=⟨q,4,none⟩) (U y) _)) ?_
  clear c k
  refine VS 17 (.pointer (some ⟨q,10,none⟩)) rfl ((U l).aa (((U a).setCell (p:=⟨q,3,none⟩) (U y) _).setCell (p:=⟨q,4,none⟩) (U y) _)) ?_
  refine ap 18 rfl λk c=>?_
  go_simp
  refine aS c ?_
  clear c k
  refine fk ?_
  obtain⟨Xa,Xq⟩:=al (((b.setCell ⟨q,3,none⟩ (.slice VZ Wj V1)).setCell ⟨q,4,none⟩ (.slice B Wk C)).setCell ⟨q,10,none⟩ (.slice V0 Wl V2))
  have Q:bp Xa q [.int .i64 10,.string ⟨#[]⟩,.slice none 0 0,.slice VZ Wj V1,.slice B Wk C,.slice none 0 0,.int .i64 x,.int .i64 t,.int .i64 s,.int .i64 0,.slice V0 Wl V2]:=by rw[Xq];exact(((U n).set 3 (.slice VZ Wj V1)).set 4 (.slice B Wk C)).set 10 (.slice V0 Wl V2)
  have VW:=(((U a).setCell (p:=⟨q,3,none⟩) (U y) (.slice VZ Wj V1)).setCell (p:=⟨q,4,none⟩) (U y) (.slice B Wk C)).setCell (p:=⟨q,10,none⟩) (U y) (.slice V0 Wl V2)
  have X1:=rI b q (.slice VZ Wj V1) (.slice B Wk C) (.slice V0 Wl V2)
  have Yu:b.heap.size<=Xa.heap.size:=by rw[Xq];simp
  rw[<-Xq] at VW X1 ⊢
  have YT:=VV X1
  have Y7:=VV Yu
  replace a:=VV VW
  have Ys:g.heap.size+1<q:=by have:=U y;have:=U YU;have:=U Y5;omega
  have YS:=VV Ys
  clear n WF WG WI WJ WK WL WM WN WO WP WH Wu Wv Wx Wy Wz WA WB WC WD WE Ww VW X1 Yu Xq Ys
  obtain⟨ZF,Zl⟩:=Q 0 _ rfl;obtain⟨ZG,Zm⟩:=Q 1 _ rfl;obtain⟨ZI,Zo⟩:=Q 2 _ rfl;obtain⟨ZJ,Zp⟩:=Q 3 _ rfl;obtain⟨ZK,Zq⟩:=Q 4 _ rfl;obtain⟨ZL,Zr⟩:=Q 5 _ rfl;obtain⟨ZM,Zs⟩:=Q 6 _ rfl;obtain⟨ZN,Zt⟩:=Q 7 _ rfl;obtain⟨ZO,Zu⟩:=Q 8 _ rfl;obtain⟨ZP,Zv⟩:=Q 9 _ rfl;obtain⟨ZH,Zn⟩:=Q 10 _ rfl
  have R:=(U Y4).aa (U a)
  obtain⟨Wu,WF⟩:=R 0 _ rfl;obtain⟨Wv,WG⟩:=R 1 _ rfl;obtain⟨Wx,WI⟩:=R 2 _ rfl;obtain⟨Wy,WJ⟩:=R 3 _ rfl;obtain⟨Wz,WK⟩:=R 4 _ rfl;obtain⟨WA,WL⟩:=R 5 _ rfl;obtain⟨WB,WM⟩:=R 6 _ rfl;obtain⟨WC,WN⟩:=R 7 _ rfl;obtain⟨WD,WO⟩:=R 8 _ rfl;obtain⟨WE,WP⟩:=R 9 _ rfl;obtain⟨Ww,WH⟩:=R 10 _ rfl
  clear R Q
  go_wp2
  refine aM (v:=.agg #[.int .i64 10,.string ⟨#[]⟩,.slice none 0 0,.slice VZ Wj V1,.slice B Wk C,.slice none 0 0,.int .i64 x,.int .i64 t,.int .i64 s,.int .i64 0,.slice V0 Wl V2]) (by simp[results,results50,go_sem,Wu,Wv,Wx,Wy,Wz,WA,WB,WC,WD,WE,Ww]) rfl ?_
  rw[show Wn=PQ (some (.mk 10 ⟨#[]⟩ [] Wc V4 [] x t s 0 V7)) g from U z]
  have W1:=U Y0
  have W2:=U Y1
  have Xp:=U Y2
  rw[List.map_id] at W1 W2
  subst W1 W2 Xp
  have ZD:=U YS
  have XS:=λ(Yl:World->Prop) (VX:Hid (SK (SN (q+1) b) b Yl))=>(show SK _ _ Yl from((U VX).kept (U YT) (T:=λWs=>g.heap.size+1+1<=Ws/\Ws<Xa.heap.size) λWs Xl=>⟨by have:=Xl.1;omega,be Xl.2 (U Y7)⟩).kept (bR Xa (g.heap.size+1) (.int .i64 10) (.string ⟨#[]⟩) (.slice none 0 0) (.slice VZ Wj V1) (.slice B Wk C) (.slice none 0 0) (.int .i64 x) (.int .i64 t) (.int .i64 s) (.int .i64 0) (.slice V0 Wl V2)) (T:=λWs=>g.heap.size<=Ws/\Ws<((((((((((((Xa.setCell ⟨g.heap.size+1,0,none⟩ (.int .i64 10)).setCell ⟨g.heap.size+1,1,none⟩ (.string ⟨#[]⟩)).setCell ⟨g.heap.size+1,2,none⟩ (.slice none 0 0)).setCell ⟨g.heap.size+1,3,none⟩ (.slice VZ Wj V1)).setCell ⟨g.heap.size+1,4,none⟩ (.slice B Wk C)).setCell ⟨g.heap.size+1,5,none⟩ (.slice none 0 0)).setCell ⟨g.heap.size+1,6,none⟩ (.int .i64 x)).setCell ⟨g.heap.size+1,7,none⟩ (.int .i64 t)).setCell ⟨g.heap.size+1,8,none⟩ (.int .i64 s)).setCell ⟨g.heap.size+1,9,none⟩ (.int .i64 0)).setCell ⟨g.heap.size+1,10,none⟩ (.slice V0 Wl V2))).heap.size) λWs Xl=>⟨by omega,be Xl.2 (by simp)⟩)
  have L:=XS _ VX
  have Zf:=XS _ XT
  have WQ:=XS _ Y6
  refine⟨aJ (ac (U o) (U a)) (Nat.le_succ _) _ _ _ _ _ _ _ _ _ _ _,⟨none,0,VZ,V1,B,C,none,0,V0,V2⟩,by rw[U YW,U YX,U YY];rfl,?_⟩
  exact λr V=>⟨⟨by show Ex.all r none [];rw[Ex.all];trivial,L r V,Zf r V,.inl rfl,U YQ⟩,WQ r V⟩
end Go.Proofs.YtabmgpillccfaaaGreatDoor
