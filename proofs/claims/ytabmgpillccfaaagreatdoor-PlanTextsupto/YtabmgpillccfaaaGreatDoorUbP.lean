import Derived.Test.YtabmgpillccfaaaGreatDoorUbK
set_option linter.all false
set_option maxHeartbeats 4000000
set_option maxRecDepth 100000
namespace Go.Proofs.YtabmgpillccfaaaGreatDoor
open Go.RowKit Go.Sort Go.Proofs.Tryz
theorem oa:(Tryz.prog.info? 46).map (λa=>(a.zero,a.size,a.bytes))=some (some (.agg #[.bool false,.string ⟨#[]⟩,.slice none 0 0]),3,48):=by kernel_rfl
theorem Dt.all_drop{g:World}:∀{d:List Dt} {c b:Nat} (a:Nat),a<=d.length->Dt.all g (some ⟨c,b,none⟩) d->Dt.all g (some ⟨c,b+a*3,none⟩) (d.drop a)
 | d,c,b,0,_,h=>by simpa using h
 | [],c,b,a+1,f,_=>absurd f (by simp)
 | n::d,c,b,a+1,f,h=>by rw[Dt.all] at h;obtain⟨l,m,e,_,k⟩:=h;injection e with e;injection e with i j;subst i j;have:=Dt.all_drop a (by simpa using f) k;rw[List.drop_succ_cons,show b+(a+1)*3=b+3+a*3 by omega];exact this
variable{W w:World}{a b:Option Addr}{j k m n:Nat}{P:Nat->Prop}
theorem es{h:Dt}{g:List Dt}(d c b:Nat)(s:b=(h::g).length)(p:Dt.all w a (h::g))(f:c<=b):∃i v,(∀e,(Instr.slice 44 (.slice a b (b+d)) (some (.int .i64 (c:Int))) none none).run prog e=.ok (.slice i (b-c) ((b-c)+v)) e)/\Dt.all w i ((h::g).drop c):=by
 have q:=p;rw[Dt.all] at q;obtain⟨j,u,rfl,_⟩:=q;obtain⟨y,r,_,t,_⟩:=info_parts oa;have k:¬(b:Int)<(c:Int):=by omega
 have l:(c:Int)<=(b:Int):=by omega
 have m:(b:Int)<=(b:Int)+(d:Int):=by omega
 have n:¬(b:Int)+(d:Int)<(b:Int):=by omega
 have x:b+d-c=b-c+d:=by omega
 by_cases o:b+d-c=0;.refine⟨some ⟨j,u,none⟩,d,λe=>?_,?_⟩;(.simp[Instr.slice,run_underlying underlying44,Instr.sliceBounds,Instr.sliceBound,asIntOf,sizeOf,typeInfo,r,t,k,l,m,n,o,Addr.add];rw[aR f,aR (by omega:b+d=c),show b-c+d=0 by omega]);.rw[dG (by rw[<-s];omega),Dt.all];trivial
 .refine⟨some ⟨j,u+c*3,none⟩,d,λe=>?_,Dt.all_drop c (by rw[<-s];exact f) p⟩;simp[Instr.slice,run_underlying underlying44,Instr.sliceBounds,Instr.sliceBound,asIntOf,sizeOf,typeInfo,r,t,k,l,m,n,o,Addr.add];rw[aR f,aL (by omega:¬b+d=c),x];congr 4;split<;>first|rfl | (congr 1;omega)
theorem kD.some{b:Option Ex}{x:Ex}(d:Bw w W)(h:b=.some x)(e:SK (SN w.heap.size W) W λc=>Ex.all c a x.args):kD b w (.returned (.tuple #[x.val a n,.bool true])) W:=by subst h;exact⟨d,a,n,rfl,e⟩
theorem eE(b:List ByteArray)(c:ByteArray):∀a:Nat,-1<=Lib.idxFromS b c a/\Lib.idxFromS b c a<=(a:Int)+b.length:=by
 induction b with
 | nil=>intro a;exact⟨by show (-1:Int)<=-1;omega,by show (-1:Int)<=_;omega⟩
 | cons e b d=>intro a;rw[Lib.idxFromS];split;(.exact⟨by omega,by omega⟩);.have:=d (a+1);rw[a1];exact⟨this.1,by omega⟩
theorem pL(a:Int):-1<=fD a/\fD a<=3:=by
 unfold fD;split;.omega
 split;.omega
 split;.omega
 split;.omega
 split;.omega
 .omega
theorem nB(p:ByteArray)(r:List Dt)(Xo:r.length<=1000000)(n:Option Addr)(WE:Nat)(b:World)(Wl:Dt.all b n r) (WD:∀(x:Nat) (k:Dt),r.tail[x]?=some k->∀(J:Option Addr) (W:Nat) (e:World),Dt.all e J k.l->Bw b e->Calls prog 109 #[k.val J W] e (kD (d9 k) e)):Calls prog 109 #[(Dt.mk true p r).val n WE] b (kD (d9 (.mk true p r)) b):=by
 obtain⟨WW,Wj⟩:=al (d9 (.mk true p r));rw[<-Wj];have V5:=λe (Wk:Dt.all e n r)=>cg (.mk true p r) n WE e Wk Xo;obtain⟨WA,X⟩:=al (headD (.mk true p r));rw[<-X] at V5;have WP:=λn e Wk=>bL (bV.map bs) (by rw[VP,d5];decide) WA n 19 e Wk;rw[VP,d5] at WP;obtain⟨f,Q⟩:=al (Lib.idxOfS (bV.map bs) WA);rw[<-Q] at WP;have Xn:=eE (bV.map bs) WA 0;rw[show Lib.idxFromS (bV.map bs) WA 0=f from Q.symm,VP,d5] at Xn
 have L:WW=if 0<=f/\(r.length:Int)-1=fD (f+3) then (aW (r.tail.map d9)).map λr=>.mk (f+3) 0 ⟨0,0,⟨#[]⟩⟩ r else none:=by
  rw[Wj]
  cases r with
  | nil=>rw[oj,aL];rintro⟨V6,_⟩;rw[Q,X,show headD (.mk true p [])=⟨#[]⟩ from rfl] at V6;have:ch bV ⟨#[]⟩=-1:=ep (by decide +kernel);unfold ch at this;omega
  | cons h y=>
   rw[ml,<-k4]
   have XS:ch bV (headD (.mk true ⟨#[]⟩ [h]))=f:=by rw[Q,X];rfl
   rw[XS,List.tail_cons,a1]
   congr 2
   exact propext (by omega)
 rw[Dt.ad] at V5 ⊢;simp only[Dt.k,Dt.s,Dt.l] at V5 ⊢;obtain⟨g,VW⟩:=al r.length;rw[<-VW] at Xo L V5 ⊢;obtain⟨u,Wm⟩:=al (g+WE);rw[<-Wm] at V5 ⊢;obtain⟨m,K⟩:=al (s5 b true p n g u);unfold s5 at K;have V8:Bw b m:=by rw[K];exact ae (ae (ar _ b) _) _
 have v:CA m [((b.heap.size,0),.bool true),((b.heap.size,1),.string p),((b.heap.size,2),.slice n g u)]:=by rw[K];exact⟨by simp[go_sem],by simp[go_sem],by simp[go_sem],trivial⟩
 have WI:bp m (b.heap.size+1) VK:=by rw[K];have:=bp.new (b.alloc (.cells #[.bool true,.string p,.slice n g u] 46)) VK 72;simpa using this
 have WJ:m.heap.size=b.heap.size+2:=by rw[K];simp
 have X6:=v.1;have WN:=VV λ(e:World) (Wk:Bw m e)=>V5 e (Dt.ab _ Wl (ac V8 Wk));have Wh:=VV λ(e:World)=>ke (f+3) e;have WO:=VV WP;have V4:=VV (ar m.heap.size m).drew;have s:=VV (v.aa (ar _ m).drew);have WR:=VV WI;have Wd:=VV V8;have WU:=VV K.symm;have XI:=VV WJ;have t:=pL (f+3);by_cases Y:0<=f/\(g:Int)-1=fD (f+3);case neg=>rw[aL Y] at L;have Wi:=VV L;obtain⟨Xb,W3⟩:=al (fD (f+3));rw[<-W3] at Wh Y t;by_cases W4:f<0;(.clear L V8 v WI K Wj X Q WD Wl Wm VW WJ W3 Y;go_enter func109,ntmps109;go_upto_region 1 with fail;rw[U WU];go_upto_region 12 with fail;refine VR (λe:World=>CA e [((b.heap.size,0),.bool true),((b.heap.size,1),.string p),((b.heap.size,2),.slice n g u)]) 4 ?_;(refine ai 1 (.agg #[.bool true,.string p,.slice n g u]) rfl (U s) ?_ λWu R=>by simp only[CA] at R;obtain⟨z,A,B,_⟩:=R;go_simp);refine ap 0 rfl λi c=>?_;go_simp;refine(fw _).mono ?_;rintro _ Wv ⟨rfl,S,j⟩;go_simp;refine aO c ((U s).aa j) ?_;clear c i;refine ap 2 rfl λi c=>?_;go_simp;refine(U WN Wv (ac (U V4) j)).mono ?_;rintro _ Ww ⟨rfl,o⟩;go_simp;refine aO c (((U s).aa j).aa o) ?_;clear c i;refine ap 3 rfl λi c=>?_;go_simp;refine(U WO _ Ww ⟨_,0,rfl,λx a V=>?_⟩).mono ?_;(.rw[b8] at V;obtain⟨O,VX,rfl⟩:=Option.map_eq_some_iff.1 V;rw[aT];exact aG (S x O VX) o);rintro _ _ ⟨rfl,rfl⟩;go_simp;refine aO c (((U s).aa j).aa o) ?_;clear c i;refine ap 4 rfl λi c=>?_;go_simp;refine aS c ?_;clear c i;refine bh ?_;have We:=VV (ac (ac (U V4) j) o);have P:=VV (((U s).aa j).aa o);clear S j o;go_upto_region 13 with fail;have v:=U P;simp only[CA] at v;obtain⟨z,A,B,_⟩:=v;have Wr:=cell_regrown z;have Ws:=cell_regrown A;have Wt:=cell_regrown B;refine wp_region_quiet_below (by kernel_rfl) (by kernel_rfl) ?_;(repeat (go_big_quiet_step ((go_at_call 145;exact Calls.regrown_of ((U Wh _).mono λV6 Wu h=>⟨h.1,by rw[h.2];exact aN⟩)))));refine wpQuiet_nil ?_;intro C D;have I:Hid (Bw m C):=ac (U We) (by obtain⟨Wa,rfl⟩:=D;exact below_regrown _ _ _);have WM:Hid (CA C [((b.heap.size,0),.bool true),((b.heap.size,1),.string p),((b.heap.size,2),.slice n g u)]):=(U P).aa (by obtain⟨Wa,rfl⟩:=D;exact below_regrown _ _ _);clear D z A B Wr Ws Wt;have d:=(U WR).aa (U I);obtain⟨VY,WX⟩:=d 0 _ rfl;obtain⟨VZ,WY⟩:=d 1 _ rfl;obtain⟨V0,WZ⟩:=d 2 _ rfl;obtain⟨V1,W0⟩:=d 3 _ rfl;obtain⟨V2,W1⟩:=d 4 _ rfl;obtain⟨V3,W2⟩:=d 5 _ rfl;clear d;go_wp2;refine aM (v:=.tuple #[.agg #[.int .i64 0,.int .i64 0,.int .i64 0,.int .i64 0,.string ⟨#[]⟩,.slice none 0 0],.bool false]) (by simp[results,results109,go_sem,VY,VZ,V0,V1,V2,V3]) rfl ?_;exact kD.no (b1 (ac (U Wd) (U I)) (Nat.le_succ _) _ _ _ _ _ _) (U Wi) (.mk 0 0 ⟨0,0,⟨#[]⟩⟩ []) none 0);.have XY:¬f<0:=W4;have WH:¬(g:Int)-1=Xb:=λV6=>Y ⟨by omega,V6⟩;(have XN:((g:Int)-1 != Xb)=true:=by simpa using WH);(have XT:wrap64 (f+3)=f+3:=by unfold wrap64;omega);(have XU:wrap64 ((g:Int)-1)=(g:Int)-1:=by unfold wrap64;omega);clear L V8 v WI K Wj X Q WD Wl Wm VW WJ W3 Y;go_enter func109,ntmps109;go_upto_region 1 with fail;rw[U WU];go_upto_region 12 with fail;refine VR (λe:World=>CA e [((b.heap.size,0),.bool true),((b.heap.size,1),.string p),((b.heap.size,2),.slice n g u)]) 4 ?_;(refine ai 1 (.agg #[.bool true,.string p,.slice n g u]) rfl (U s) ?_ λWu R=>by simp only[CA] at R;obtain⟨z,A,B,_⟩:=R;go_simp);refine ap 0 rfl λi c=>?_;go_simp;refine(fw _).mono ?_;rintro _ Wv ⟨rfl,S,j⟩;go_simp;refine aO c ((U s).aa j) ?_;clear c i;refine ap 2 rfl λi c=>?_;go_simp;refine(U WN Wv (ac (U V4) j)).mono ?_;rintro _ Ww ⟨rfl,o⟩;go_simp;refine aO c (((U s).aa j).aa o) ?_;clear c i;refine ap 3 rfl λi c=>?_;go_simp;refine(U WO _ Ww ⟨_,0,rfl,λx a V=>?_⟩).mono ?_;(.rw[b8] at V;obtain⟨O,VX,rfl⟩:=Option.map_eq_some_iff.1 V;rw[aT];exact aG (S x O VX) o);rintro _ _ ⟨rfl,rfl⟩;go_simp;refine aO c (((U s).aa j).aa o) ?_;clear c i;refine ap 4 rfl λi c=>?_;go_simp;refine aS c ?_;clear c i;refine bh ?_;have We:=VV (ac (ac (U V4) j) o);have P:=VV (((U s).aa j).aa o);clear S j o;go_upto_region 13 with fail;have v:=U P;simp only[CA] at v;obtain⟨z,A,B,_⟩:=v;have Wr:=cell_regrown z;have Ws:=cell_regrown A;have Wt:=cell_regrown B;refine wp_region_quiet_below (by kernel_rfl) (by kernel_rfl) ?_;(repeat (go_big_quiet_step ((go_at_call 145;exact Calls.regrown_of ((U Wh _).mono λV6 Wu h=>⟨h.1,by rw[h.2];exact aN⟩)))));refine wpQuiet_nil ?_;intro C D;have I:Hid (Bw m C):=ac (U We) (by obtain⟨Wa,rfl⟩:=D;exact below_regrown _ _ _);have WM:Hid (CA C [((b.heap.size,0),.bool true),((b.heap.size,1),.string p),((b.heap.size,2),.slice n g u)]):=(U P).aa (by obtain⟨Wa,rfl⟩:=D;exact below_regrown _ _ _);clear D z A B Wr Ws Wt;have d:=(U WR).aa (U I);obtain⟨VY,WX⟩:=d 0 _ rfl;obtain⟨VZ,WY⟩:=d 1 _ rfl;obtain⟨V0,WZ⟩:=d 2 _ rfl;obtain⟨V1,W0⟩:=d 3 _ rfl;obtain⟨V2,W1⟩:=d 4 _ rfl;obtain⟨V3,W2⟩:=d 5 _ rfl;clear d;go_wp2;refine aM (v:=.tuple #[.agg #[.int .i64 0,.int .i64 0,.int .i64 0,.int .i64 0,.string ⟨#[]⟩,.slice none 0 0],.bool false]) (by simp[results,results109,go_sem,VY,VZ,V0,V1,V2,V3]) rfl ?_;exact kD.no (b1 (ac (U Wd) (U I)) (Nat.le_succ _) _ _ _ _ _ _) (U Wi) (.mk 0 0 ⟨0,0,⟨#[]⟩⟩ []) none 0
 case pos=>
  rw[aR Y] at L;obtain⟨W4,WH⟩:=Y;have XY:¬f<0:=by omega
  rw[<-WH] at Wh;have XN:((g:Int)-1 != (g:Int)-1)=false:=by simp
  have XT:wrap64 (f+3)=f+3:=by unfold wrap64;omega
  have XU:wrap64 ((g:Int)-1)=(g:Int)-1:=by unfold wrap64;omega
  have XW:∃h y,r=h::y:=by
   cases r with
   | nil=>exfalso;rw[Q,X,show headD (.mk true p [])=⟨#[]⟩ from rfl] at W4;have:ch bV ⟨#[]⟩=-1:=ep (by decide +kernel);unfold ch at this;omega
   | cons h y=>exact⟨h,y,rfl⟩
  obtain⟨h,y,rfl⟩:=XW;rw[List.tail_cons] at L;have Wi:=VV L;obtain⟨XK,XO,Wp,W5⟩:=es WE 1 g VW (Dt.ab _ Wl V8) (by rw[VW];simp);rw[List.drop_one,List.tail_cons] at W5;rw[<-Wm] at Wp;obtain⟨M,W9⟩:=al (g-1);have Xp:M=y.length:=by rw[W9,VW];rfl
  rw[<-W9] at Wp;generalize M+XO=X0 at Wp;have Yf:∀e,(Instr.slice 44 (.slice n g u) (some (.int .i64 1)) none none).run prog e=.ok (.slice XK M X0) e:=Wp;clear Wp;have Xg:=VV Xp;have Xt:=VV W5;have Ye:M<=1000000:=by omega
  have Xz:=VV (show ∀(x:Nat) (k:Dt),y[x]?=some k->∀(J:Option Addr) (W:Nat) (e:World),Dt.all e J k.l->Bw b e->Calls prog 109 #[k.val J W] e (kD (d9 k) e) from WD);clear L V8 v WI K Wj X Q WD Wl Wm VW WJ t WH Xp W5 W9 Xn;go_enter func109,ntmps109;go_upto_region 1 with fail;rw[U WU];go_upto_region 12 with fail;refine VR (λe:World=>CA e [((b.heap.size,0),.bool true),((b.heap.size,1),.string p),((b.heap.size,2),.slice n g u)]) 4 ?_;refine ai 1 (.agg #[.bool true,.string p,.slice n g u]) rfl (U s) ?_ λWu R=>by simp only[CA] at R;obtain⟨z,A,B,_⟩:=R;go_simp
  refine ap 0 rfl λi c=>?_;go_simp;refine(fw _).mono ?_;rintro _ Wv ⟨rfl,S,j⟩;go_simp;refine aO c ((U s).aa j) ?_;clear c i;refine ap 2 rfl λi c=>?_;go_simp;refine(U WN Wv (ac (U V4) j)).mono ?_;rintro _ Ww ⟨rfl,o⟩;go_simp;refine aO c (((U s).aa j).aa o) ?_;clear c i;refine ap 3 rfl λi c=>?_;go_simp;refine(U WO _ Ww ⟨_,0,rfl,λx a V=>?_⟩).mono ?_;.rw[b8] at V;obtain⟨O,VX,rfl⟩:=Option.map_eq_some_iff.1 V;rw[aT];exact aG (S x O VX) o
  rintro _ _ ⟨rfl,rfl⟩;go_simp;refine aO c (((U s).aa j).aa o) ?_;clear c i;refine ap 4 rfl λi c=>?_;go_simp;refine aS c ?_;clear c i;refine bh ?_;have We:=VV (ac (ac (U V4) j) o);have P:=VV (((U s).aa j).aa o);clear S j o;go_upto_region 13 with fail;have v:=U P;simp only[CA] at v;obtain⟨z,A,B,_⟩:=v;have Wr:=cell_regrown z;have Ws:=cell_regrown A;have Wt:=cell_regrown B;refine wp_region_quiet_below (by kernel_rfl) (by kernel_rfl) ?_;repeat (go_big_quiet_step ((go_at_call 145;exact Calls.regrown_of ((U Wh _).mono λV6 Wu h=>⟨h.1,by rw[h.2];exact aN⟩))))
  refine wpQuiet_nil ?_;intro C D;have I:Hid (Bw m C):=ac (U We) (by obtain⟨Wa,rfl⟩:=D;exact below_regrown _ _ _);have WM:Hid (CA C [((b.heap.size,0),.bool true),((b.heap.size,1),.string p),((b.heap.size,2),.slice n g u)]):=(U P).aa (by obtain⟨Wa,rfl⟩:=D;exact below_regrown _ _ _);clear D z A B Wr Ws Wt;obtain⟨w,W8⟩:=al C.heap.size;obtain⟨Wy,Wq⟩:=al (C.alloc (.cells #[.int .i64 (f+3),.int .i64 0,.int .i64 0,.int .i64 0,.string ⟨#[]⟩,.slice none 0 0] 72));have W7:=ae (ar _ C) (.cells #[.int .i64 (f+3),.int .i64 0,.int .i64 0,.int .i64 0,.string ⟨#[]⟩,.slice none 0 0] 72);have Xc:Hid (Bw m Wy):=by rw[Wq];exact ac (U I) W7
  have Xy:Hid (bp Wy w ([.int .i64 (f+3),.int .i64 0,.int .i64 0,.int .i64 0,.string ⟨#[]⟩,.slice none 0 0])):=by rw[Wq,W8];exact bp.new C ([.int .i64 (f+3),.int .i64 0,.int .i64 0,.int .i64 0,.string ⟨#[]⟩,.slice none 0 0]) 72
  have XF:Hid (bp Wy (b.heap.size+1) VK):=(U WR).aa (U Xc);have Xw:Hid (CA Wy [((b.heap.size,0),.bool true),((b.heap.size,1),.string p),((b.heap.size,2),.slice n g u)]):=by rw[Wq];exact(U WM).aa W7
  have Xd:Hid (m.heap.size<=w):=by show _<=_;have:=(U I).size;omega
  have WL:Hid (b.heap.size+1<w):=by show _<_;have:=(U I).size;have:=U XI;omega
  have XJ:=VV Wq.symm;have Xx:=VV W8.symm;clear W8 Wq W7;go_upto_region 16 with fail;rw[U XJ,U Xx];obtain⟨z,A,B,_⟩:=U Xw;go_wp2_with fail;clear z A B;go_loopw[85] (λx Wz=>∃(q:Nat) (E:List Xm) (N:Value),q<=M/\x=.int .i64 q/\Hid (GL ej Wz (w+1) N E)/\Hid (Bw m Wz)/\Hid (bp Wz w ([.int .i64 (f+3),.int .i64 0,.int .i64 0,.int .i64 0,.string ⟨#[]⟩,N]))/\Hid (bp Wz (b.heap.size+1) VK)/\Hid (E.length=q)/\Hid (aW (y.map d9)=(aW ((y.drop q).map d9)).map λXa=>E.map Prod.fst++Xa)) (λx Wz=>M-(intOf x).toNat);case atStart=>exact⟨0,[],.slice none 0 0,bf,rfl,GL.nil ej Wy (w+1),Xc,Xy,XF,rfl,by show _=_;rw[List.drop_zero];cases aW (y.map d9)<;>rfl⟩
  case round=>
   obtain⟨q,E,N,Yd,rfl,WQ,Wg,WC,WS,Xh,Xf⟩:=hrel;have Xe:Hid (w+1<=wr.heap.size):=bY _ _ ((U WC) 0 _ rfl).1;by_cases XV:q<M
   .have XZ:(q:Int)<(M:Int):=by omega
    obtain⟨k,WK⟩:∃k,y[q]?=some k:=⟨_,ba (by rw[<-U Xg];exact XV)⟩
    have V9:=U Xf
    rw[en d9 WK] at V9
    obtain⟨X4,Yg,J,W,Xj,⟨Yh,Yi,Yj⟩,Xl⟩:=Dt.get (Dt.ab _ (U Xt) (U Wg)) WK
    have t:=ae (ar _ wr) (.cells #[.bool k.k,.string k.s,.slice J k.l.length (k.l.length+W)] 46)
    have Wc:=VV t
    have WB:=VV (U Xz q k WK J W (wr.alloc (.cells #[.bool k.k,.string k.s,.slice J k.l.length (k.l.length+W)] 46)) (Dt.ab _ Xl t) (ac (ac (U Wd) (U Wg)) t))
    obtain⟨X1,Xq⟩:=al (d9 k)
    rw[<-Xq] at WB V9
    rw[Dt.ad] at WB
    rw[Xj]
    clear Xj WK Xl t Xq
    cases X1 with
    | none=>
     have WV:Hid (WW=none):=by show _=_;rw[U Wi,V9];rfl
     clear V9
     go_wp2_with (go_at_call 109;refine(U WB).mono ?_;rintro X2 Wx ⟨V7,Wb,XM,XR,rfl⟩;rw[Ex.ad];have t:=ae V7 (.cells #[.int .i64 Wb.op,.int .i64 Wb.n,.int .i64 Wb.v.k,.int .i64 Wb.v.n,.string Wb.v.s,.slice XM Wb.args.length XR] 72);have Xu:=VV (ac (U Wc) t);have d:=(U WS).aa (ac (U Wc) t);obtain⟨VY,WX⟩:=d 0 _ rfl;obtain⟨VZ,WY⟩:=d 1 _ rfl;obtain⟨V0,WZ⟩:=d 2 _ rfl;obtain⟨V1,W0⟩:=d 3 _ rfl;obtain⟨V2,W1⟩:=d 4 _ rfl;obtain⟨V3,W2⟩:=d 5 _ rfl;clear V7 d t)
     refine aM (v:=.tuple #[.agg #[.int .i64 0,.int .i64 0,.int .i64 0,.int .i64 0,.string ⟨#[]⟩,.slice none 0 0],.bool false]) (by simp[results,results109,go_sem,VY,VZ,V0,V1,V2,V3]) rfl ?_
     exact kD.no (b1 (ac (ac (U Wd) (U Wg)) (U Xu)) (Nat.le_succ _) _ _ _ _ _ _) (U WV) (.mk 0 0 ⟨0,0,⟨#[]⟩⟩ []) none 0
    | some a=>
     have XB:Hid (∀O:Xm,Prod.fst O=a->aW (y.map d9)=(aW ((y.drop (q+1)).map d9)).map λXa=>(E++[O]).map Prod.fst++Xa):=λO VX=>by
      rw[V9]
      simp only[Option.bind_some,fK,bX,bi,List.map_nil,VX,d8,List.singleton_append]
     have XA:Hid (E.length+1<=1048577):=by show _<=_;rw[U Xh];omega
     clear V9
     go_wp2_with (first
      | (refine bK ej.ok _ rfl (.tmp 98) (.tmp 100) ej.t rfl rfl (w+1) N E (a,F,G) (Wx.heap.size+1) rfl (U XC) (by simp[Act.eval,go_sem]) (U WT) (λXr Yk l=>by
        match Xr,l with
        | 0,l=>simp[ej,cI] at l;subst l;simp[go_sem]
        | 1,l=>simp[ej,cI] at l;subst l;simp[go_sem]
        | 2,l=>simp[ej,cI] at l;subst l;simp[go_sem]
        | 3,l=>simp[ej,cI] at l;subst l;simp[go_sem]
        | 4,l=>simp[ej,cI] at l;subst l;simp[go_sem]
        | 5,l=>simp[ej,cI] at l;subst l;simp[go_sem]
        | Xr+6,l=>simp[ej,cI] at l) (U XA) (aQ (U Xe) (U Wf).size) ?_;intro Yl Ym WG WF;obtain⟨X3,X5,rfl,_⟩:=WG.node ej.ok;rw[bj,List.length_singleton] at WG ⊢;have XD:=VV WG;have Xv:=VV WF;have Xi:=VV ((U XE).low WF (Nat.lt_succ_self w));have XH:=VV ((U XG).low WF (Nat.lt_trans (U WL) (Nat.lt_succ_self w)));obtain⟨Xk,X7⟩:=(U Xi) 5 _ rfl;clear WG WF)
      | (go_at_call 109;refine(U WB).mono ?_;rintro X2 Wx ⟨V7,F,G,rfl,Wo⟩;rw[Ex.ad];have W6:=ae (ar _ Wx) (.cells #[.int .i64 a.op,.int .i64 a.n,.int .i64 a.v.k,.int .i64 a.v.n,.string a.v.s,.slice F a.args.length G] 72);have t:=ae W6 (.cells #[.int .i64 a.op,.int .i64 a.n,.int .i64 a.v.k,.int .i64 a.v.n,.string a.v.s,.slice F a.args.length G] 72);have WT:Hid (SK (NS ((Wx.alloc (.cells #[.int .i64 a.op,.int .i64 a.n,.int .i64 a.v.k,.int .i64 a.v.n,.string a.v.s,.slice F a.args.length G] 72)).alloc (.cells #[.int .i64 a.op,.int .i64 a.n,.int .i64 a.v.k,.int .i64 a.v.n,.string a.v.s,.slice F a.args.length G] 72)) (w+1) N) ((Wx.alloc (.cells #[.int .i64 a.op,.int .i64 a.n,.int .i64 a.v.k,.int .i64 a.v.n,.string a.v.s,.slice F a.args.length G] 72)).alloc (.cells #[.int .i64 a.op,.int .i64 a.n,.int .i64 a.v.k,.int .i64 a.v.n,.string a.v.s,.slice F a.args.length G] 72)) λe=>ej.P e (a,F,G)):=SK.fresh (U WQ).lt (U Xe) Wo (U Wc).size t;have Wf:=VV (ac (U Wc) (ac V7 t));have XC:=VV ((U WQ).aa (U Wf));have XE:=VV ((U WC).aa (U Wf));have XG:=VV ((U WS).aa (U Wf));obtain⟨Xk,_⟩:=(U WC).aa (ac (U Wc) (ac V7 W6)) 5 _ rfl;clear V7 W6 t Wo))
     go_roundw
     case rel=>exact⟨q+1,E++[(a,F,G)],_,by omega,by go_num,VV ((U XD).setlow (Nat.lt_succ_self w) _),VV (((ac (U Wg) (U Wf)).trans ((U Xv).mono (Nat.le_succ_of_le (U Xd)))).setCell (p:=⟨w,5,none⟩) (U Xd) _),VV ((U Xi).set 5 _),VV ((U XH).ne (Nat.ne_of_gt (U WL)) _),by show _=_;rw[bj,U Xh];rfl,U XB (a,F,G) rfl⟩
     case measure=>simp[intOf]<;>omega
   ·(have XZ:¬(q:Int)<(M:Int):=by omega);(have WV:Hid (WW=some (.mk (f+3) 0 ⟨0,0,⟨#[]⟩⟩ (E.map Prod.fst))):=by show _=_;rw[U Wi,U Xf,dG (by rw[<-U Xg];omega)];show some (Ex.mk (f+3) 0 ⟨0,0,⟨#[]⟩⟩ (E.map Prod.fst++[]))=_;rw[d7]);obtain⟨XL,XP,rfl,Wo⟩:=(U WQ).exs;have WT:=VV Wo;generalize XX:E.map Prod.fst=Xs at *;have Z:=U WC;obtain⟨X8,_⟩:=Z 0 _ rfl;obtain⟨X9,_⟩:=Z 1 _ rfl;obtain⟨Ya,_⟩:=Z 2 _ rfl;obtain⟨Yb,_⟩:=Z 3 _ rfl;obtain⟨Yc,_⟩:=Z 4 _ rfl;obtain⟨Xk,_⟩:=Z 5 _ rfl;have d:=U WS;obtain⟨VY,WX⟩:=d 0 _ rfl;obtain⟨VZ,WY⟩:=d 1 _ rfl;obtain⟨V0,WZ⟩:=d 2 _ rfl;obtain⟨V1,W0⟩:=d 3 _ rfl;obtain⟨V2,W1⟩:=d 4 _ rfl;obtain⟨V3,W2⟩:=d 5 _ rfl;clear d Z Wo XX;go_wp2;refine aM (v:=.tuple #[.agg #[.int .i64 (f+3),.int .i64 0,.int .i64 0,.int .i64 0,.string ⟨#[]⟩,.slice XL Xs.length XP],.bool true]) (by simp[results,results109,go_sem,VY,VZ,V0,V1,V2,V3]) rfl ?_;refine kD.some (x:=.mk (f+3) 0 ⟨0,0,⟨#[]⟩⟩ Xs) (b1 (ac (U Wd) (U Wg)) (Nat.le_succ _) _ _ _ _ _ _) (U WV) ?_;exact((U WT).mono (T:=λq=>b.heap.size+1+1<=q/\q<wr.heap.size) λq Wn=>⟨by have:=U WL;have:=Wn.1;omega,Wn.2⟩).kept (kr wr (b.heap.size+1) _ _ _ _ _ _) λq Wn=>⟨by have:=Wn.1;omega,be Wn.2 (by simp)⟩
theorem fe:∀(d:Nat) (c:Dt),c.size<=d->c.fin->∀(b:Option Addr) (e:Nat) (a:World),Dt.all a b c.l->GT a->Calls prog 109 #[c.val b e] a (kD (d9 c) a)
 | 0,c,f,_,_,_,_,_,_=>by rw[Dt.am] at f;omega
 | d+1,.mk false k g,_,j,b,e,a,_,i=>by have h:=Dt.af j;rw[oh];exact nA k g (h.2.1 rfl) h.1 b e a i
 | d+1,.mk true k g,f,j,b,e,a,r,i=>by have h:=Dt.af j;refine nB k g h.2.2.1 b e a r λv m t o p n q s=>?_;have l:m∈g:=List.mem_of_mem_tail (a8 t);have u:=Dt.an l;rw[Dt.am] at f;have f:Dt.sizes g+1<=d+1:=f;exact fe d m (by omega) (Dt.ag h.2.2.2 l) o p n q (i.aa s)
def jG{f:Type}(k:World->Option Addr->List f->Prop)(j:Option (List f))(c:World)(m:Ending)(d:World):Prop:=Bw c d/\∃g b i a,m=.returned (.tuple #[.slice g b i,.bool a])/\(a=false->j=none)/\(a=true->∃e,j=some e/\e.length=b/\b<=i/\SK (SN c.heap.size d) d λl=>k l g e)
theorem jG.no{f:Type}{e:World->Option Addr->List f->Prop}{d:Ending}(g:Bw w W)(h:∃a c b,d=.returned (.tuple #[.slice a c b,.bool false])):jG e none w d W:=by obtain⟨a,c,b,rfl⟩:=h;exact⟨g,a,c,b,false,rfl,λ_=>rfl,λh=>by cases h⟩
theorem e6(h:Value.slice a n k=.slice b m j):a=b/\n=m/\k=j:=by injection h with c d e;exact⟨c,d,e⟩
theorem iV.ex{c:Option (List Ex)}{a:Ending}(h:iV ej Prod.fst c w a W):jG (λg b f=>Ex.all g b f) c w a W:=by
 obtain⟨d,h⟩:=h;cases c with
 | none=>exact jG.no d h
 | some f=>obtain⟨o,l,rfl,rfl,e⟩:=h;obtain⟨b,i,rfl,j,_⟩:=e.node ej.ok;obtain⟨m,n,a,k⟩:=e.exs;obtain⟨rfl,_,rfl⟩:=e6 a;exact⟨d,b,l.length,i,true,rfl,(λh=>by cases h),λ_=>⟨_,rfl,by simp,j,k⟩⟩
theorem iV.pl{c:Option (List Pl)}{a:Ending}(h:iV eS Prod.fst c w a W):jG (λg b f=>Pl.all g b f) c w a W:=by
 obtain⟨d,h⟩:=h;cases c with
 | none=>exact jG.no d h
 | some f=>obtain⟨o,l,rfl,rfl,e⟩:=h;obtain⟨b,i,rfl,j,_⟩:=e.node eS.ok;obtain⟨m,n,a,k⟩:=e.pls;obtain⟨rfl,_,rfl⟩:=e6 a;exact⟨d,b,l.length,i,true,rfl,(λh=>by cases h),λ_=>⟨_,rfl,by simp,j,k⟩⟩
theorem iV.int{b:Option (List Int)}{c:Ending}(h:iV cF id b w c W):jG (λf a e=>bC f a e) b w c W:=by
 obtain⟨d,h⟩:=h;cases b with
 | none=>exact jG.no d h
 | some e=>obtain⟨m,l,rfl,rfl,j⟩:=h;obtain⟨a,g,rfl,i,k⟩:=j.ints;exact⟨d,a,l.length,g,true,rfl,(λh=>by cases h),λ_=>⟨_,rfl,by simp,i,by rw[List.map_id];exact k⟩⟩
theorem iV.key{c:Option (List (Int×Bool))}{a:Ending}(h:iV dw id c w a W):jG (λg b f=>cL g b f) c w a W:=by
 obtain⟨d,h⟩:=h;cases c with
 | none=>exact jG.no d h
 | some f=>obtain⟨o,l,rfl,rfl,e⟩:=h;obtain⟨b,i,rfl,j,_⟩:=e.node dw.ok;obtain⟨m,n,a,k⟩:=e.keys;obtain⟨rfl,_,rfl⟩:=e6 a;exact⟨d,b,l.length,i,true,rfl,(λh=>by cases h),λ_=>⟨_,rfl,by simp,j,by rw[List.map_id];exact k⟩⟩
theorem SK.aw{o:Nat}{a:World->Prop}(h:SK (SN (n+1) w) w a)(c:Value):SK (SN (n+1) (w.setCell ⟨n,o,none⟩ c)) (w.setCell ⟨n,o,none⟩ c) a:=
 h.kept (λg i k e f=>by rw[World.cell?_setCell_other (h:=λd=>by have:=e.1;have:=congrArg Addr.block d;simp at this;omega)];exact f) λj b=>⟨b.1,by simpa using b.2⟩
theorem cS.some{c:Option Pl}{x:Pl}{m:Pm}(j:Bw w W)(h:c=.some x)(f:SK (SN w.heap.size W) W λa=>Ex.all a m.aE x.ex)(e:SK (SN w.heap.size W) W λa=>bC a m.aC x.cols)(g:SK (SN w.heap.size W) W λa=>cL a m.aK x.keys)(d:SK (SN w.heap.size W) W λa=>dI a m.aA x.aggs)(k:x.cols.length<=m.cC)(i:SK (SN w.heap.size W) W λa=>Pl.all a m.aP x.args):cS c w (.returned (.tuple #[x.val m,.bool true])) W:=by subst h;exact⟨j,m,rfl,λa b=>⟨⟨f a b,e a b,g a b,d a b,k⟩,i a b⟩⟩
theorem cS.no{t:Option Pl}(y:Bw w W)(h:t=none)(v m l n u:Int)(x:ByteArray)(c b d a e:Option Addr)(q i p g r j o f s k:Nat):cS t w (.returned (.tuple #[.agg #[.int .i64 v,.string x,.slice c q i,.slice b p g,.slice d r j,.slice a o f,.int .i64 m,.int .i64 l,.int .i64 n,.int .i64 u,.slice e s k],.bool false])) W:=by subst h;refine⟨y,.mk v x (List.replicate q (.mk 0 0 ⟨0,0,⟨#[]⟩⟩ [])) (List.replicate p 0) (List.replicate r (0,false)) (List.replicate o (0,0)) m l n u (List.replicate s rk),⟨c,i,b,g,d,j,a,f,e,k⟩,?_⟩;rw[Pl.ad];simp only[Pl.op,Pl.tab,Pl.ex,Pl.cols,Pl.keys,Pl.aggs,Pl.fn,Pl.col,Pl.n,Pl.off,Pl.args,List.length_replicate]
theorem bk:(SK P w λa=>Ex.all a none [])/\(SK P w λa=>bC a none [])/\(SK P w λa=>cL a none [])/\(SK P w λa=>dI a none [])/\SK P w λa=>Pl.all a none []:=
 ⟨λa _=>(show Ex.all a none [] by rw[Ex.all];trivial),λa _=>.inl rfl,λa _=>.inl rfl,λa _=>.inl rfl,λa _=>(show Pl.all a none [] by rw[Pl.all];trivial)⟩
theorem Dt.all_take{d:World}:∀{c:List Dt} {a:Option Addr} (b:Nat),Dt.all d a c->Dt.all d a (c.take b)
 | c,a,0,_=>by rw[List.take_zero,Dt.all];trivial
 | [],a,b+1,_=>by rw[List.take_nil,Dt.all];trivial
 | k::c,a,b+1,h=>by rw[Dt.all] at h;obtain⟨e,j,f,g,i⟩:=h;rw[List.take_succ_cons,Dt.all];exact⟨e,j,f,g,Dt.all_take b i⟩
theorem dY{h:Dt}{g:List Dt}(e b d c:Nat)(x:c=(h::g).length)(p:Dt.all w a (h::g))(s:b<=d)(y:d<=c):∃i v,(∀f,(Instr.slice 44 (.slice a c (c+e)) (some (.int .i64 (b:Int))) (some (.int .i64 (d:Int))) none).run prog f=.ok (.slice i (d-b) v) f)/\Dt.all w i (((h::g).drop b).take (d-b)):=by
 have q:=p;rw[Dt.all] at q;obtain⟨j,u,rfl,_⟩:=q;obtain⟨z,r,_,t,_⟩:=info_parts oa;have k:¬(d:Int)<(b:Int):=by omega
 have l:(b:Int)<=(d:Int):=by omega
 have m:(d:Int)<=(c:Int)+(e:Int):=by omega
 have n:¬(c:Int)+(e:Int)<(d:Int):=by omega
 by_cases o:c+e-b=0;.refine⟨some ⟨j,u,none⟩,c+e-b,λf=>?_,?_⟩;(.simp[Instr.slice,run_underlying underlying44,Instr.sliceBounds,Instr.sliceBound,asIntOf,sizeOf,typeInfo,r,t,k,l,m,n,o,Addr.add];rw[aR (by omega:d<=c+e),aR s,aR (by omega:c+e=b)]);.rw[show d-b=0 by omega,List.take_zero,Dt.all];trivial
 .refine⟨some ⟨j,u+b*3,none⟩,c+e-b,λf=>?_,Dt.all_take _ (Dt.all_drop b (by rw[<-x];omega) p)⟩;simp[Instr.slice,run_underlying underlying44,Instr.sliceBounds,Instr.sliceBound,asIntOf,sizeOf,typeInfo,r,t,k,l,m,n,o,Addr.add];rw[aR (by omega:d<=c+e),aR s,aL (by omega:¬c+e=b)];congr 4;split<;>first|rfl | (congr 1;omega)
def gW(e:World)(d:ByteArray)(a:Option Addr)(c b:Nat):World:=((((e.alloc (.cells #[.bool true,.string d,.slice a c b] 46)).alloc (.cells #[.int .i64 0,.string ⟨#[]⟩,.slice none 0 0,.slice none 0 0,.slice none 0 0,.slice none 0 0,.int .i64 0,.int .i64 0,.int .i64 0,.int .i64 0,.slice none 0 0] 28)).alloc (.cells #[.string ⟨#[115,99,97,110]⟩,.string ⟨#[102,105,108,116,101,114]⟩,.string ⟨#[112,114,111,106,101,99,116]⟩,.string ⟨#[106,111,105,110]⟩,.string ⟨#[108,101,102,116,106,111,105,110]⟩,.string ⟨#[103,114,111,117,112]⟩,.string ⟨#[100,105,115,116,105,110,99,116]⟩,.string ⟨#[117,110,105,111,110]⟩,.string ⟨#[116,111,112]⟩,.string ⟨#[119,105,110,100,111,119]⟩,.string ⟨#[109,105,110,117,115]⟩,.string ⟨#[101,109,112,116,121]⟩] 9)).alloc (.cells #[.int .i64 1,.int .i64 1,.int .i64 1,.int .i64 1,.int .i64 1,.int .i64 2,.int .i64 0,.int .i64 0,.int .i64 3,.int .i64 5,.int .i64 0,.int .i64 1] 3)).alloc (.cells #[.int .i64 0,.int .i64 1,.int .i64 1,.int .i64 2,.int .i64 2,.int .i64 1,.int .i64 1,.int .i64 (-1),.int .i64 1,.int .i64 1,.int .i64 2,.int .i64 0] 3)
def rP:List Int:=[1,1,1,1,1,2,0,0,3,5,0,1]
def rF:List Int:=[0,1,1,2,2,1,1,-1,1,1,2,0]
theorem cU(a:World)(g:ByteArray)(d:Option Addr)(f e:Nat):Bw a (gW a g d f e)/\(gW a g d f e).cell? ⟨a.heap.size,0,none⟩=some (.bool true)/\(gW a g d f e).cell? ⟨a.heap.size,1,none⟩=some (.string g)/\(gW a g d f e).cell? ⟨a.heap.size,2,none⟩=some (.slice d f e)/\bp (gW a g d f e) (a.heap.size+1) VT/\gi (gW a g d f e) (some ⟨a.heap.size+2,0,none⟩) (aX.map bs)/\(∀(c:Nat) b,rP[c]?=some b->(gW a g d f e).cell? ⟨a.heap.size+3,c,none⟩=some (.int .i64 b))/\(∀(c:Nat) b,rF[c]?=some b->(gW a g d f e).cell? ⟨a.heap.size+4,c,none⟩=some (.int .i64 b))/\(gW a g d f e).heap.size=a.heap.size+5:=by
 unfold gW;have A:=ae (ar _ a) (.cells #[.bool true,.string g,.slice d f e] 46);obtain⟨j,o⟩:=al (a.alloc (.cells #[.bool true,.string g,.slice d f e] 46));have N:j.heap.size=a.heap.size+1:=by rw[o];simp
 have D:j.cell? ⟨a.heap.size,0,none⟩=some (.bool true):=by rw[o];simp[go_sem]
 have E:j.cell? ⟨a.heap.size,1,none⟩=some (.string g):=by rw[o];simp[go_sem]
 have F:j.cell? ⟨a.heap.size,2,none⟩=some (.slice d f e):=by rw[o];simp[go_sem]
 rw[<-o] at A ⊢;obtain⟨l,p⟩:=al (j.alloc (.cells #[.int .i64 0,.string ⟨#[]⟩,.slice none 0 0,.slice none 0 0,.slice none 0 0,.slice none 0 0,.int .i64 0,.int .i64 0,.int .i64 0,.int .i64 0,.slice none 0 0] 28));have G:Bw j l:=by rw[p];exact ae aN _
 have O:l.heap.size=a.heap.size+2:=by rw[p];simp;omega
 have M:bp l (a.heap.size+1) VT:=by rw[p,<-N];exact bp.new j VT 28
 rw[<-p];obtain⟨m,q⟩:=al (l.alloc (.cells #[.string ⟨#[115,99,97,110]⟩,.string ⟨#[102,105,108,116,101,114]⟩,.string ⟨#[112,114,111,106,101,99,116]⟩,.string ⟨#[106,111,105,110]⟩,.string ⟨#[108,101,102,116,106,111,105,110]⟩,.string ⟨#[103,114,111,117,112]⟩,.string ⟨#[100,105,115,116,105,110,99,116]⟩,.string ⟨#[117,110,105,111,110]⟩,.string ⟨#[116,111,112]⟩,.string ⟨#[119,105,110,100,111,119]⟩,.string ⟨#[109,105,110,117,115]⟩,.string ⟨#[101,109,112,116,121]⟩] 9));have B:Bw l m:=by rw[q];exact ae aN _
 have P:m.heap.size=a.heap.size+3:=by rw[q];simp;omega
 have S:gi m (some ⟨a.heap.size+2,0,none⟩) (aX.map bs):=by refine⟨_,0,rfl,λx b i=>?_⟩;rw[q,aT,<-O];(have v:((aX.map bs).map Value.string)=[.string ⟨#[115,99,97,110]⟩,.string ⟨#[102,105,108,116,101,114]⟩,.string ⟨#[112,114,111,106,101,99,116]⟩,.string ⟨#[106,111,105,110]⟩,.string ⟨#[108,101,102,116,106,111,105,110]⟩,.string ⟨#[103,114,111,117,112]⟩,.string ⟨#[100,105,115,116,105,110,99,116]⟩,.string ⟨#[117,110,105,111,110]⟩,.string ⟨#[116,111,112]⟩,.string ⟨#[119,105,110,100,111,119]⟩,.string ⟨#[109,105,110,117,115]⟩,.string ⟨#[101,109,112,116,121]⟩]:=by kernel_rfl);(have k:((aX.map bs).map Value.string)[x]?=some (.string b):=by rw[b8,i];rfl);rw[v] at k;simp[go_sem];simpa using k
 rw[<-q];obtain⟨n,r⟩:=al (m.alloc (.cells #[.int .i64 1,.int .i64 1,.int .i64 1,.int .i64 1,.int .i64 1,.int .i64 2,.int .i64 0,.int .i64 0,.int .i64 3,.int .i64 5,.int .i64 0,.int .i64 1] 3));have w:Bw m n:=by rw[r];exact ae aN _
 have Q:n.heap.size=a.heap.size+4:=by rw[r];simp;omega
 have K:∀(c:Nat) b,rP[c]?=some b->n.cell? ⟨a.heap.size+3,c,none⟩=some (.int .i64 b):=λc b i=>by rw[r,<-P];(have k:(rP.map λz=>Value.int .i64 z)[c]?=some (.int .i64 b):=by rw[b8,i];rfl);simp[go_sem];simpa [rP] using k
 rw[<-r];obtain⟨y,s⟩:=al (n.alloc (.cells #[.int .i64 0,.int .i64 1,.int .i64 1,.int .i64 2,.int .i64 2,.int .i64 1,.int .i64 1,.int .i64 (-1),.int .i64 1,.int .i64 1,.int .i64 2,.int .i64 0] 3));have u:Bw n y:=by rw[s];exact ae aN _
 have R:y.heap.size=a.heap.size+5:=by rw[s];simp;omega
 have L:∀(c:Nat) b,rF[c]?=some b->y.cell? ⟨a.heap.size+4,c,none⟩=some (.int .i64 b):=λc b i=>by rw[s,<-Q];(have k:(rF.map λz=>Value.int .i64 z)[c]?=some (.int .i64 b):=by rw[b8,i];rfl);simp[go_sem];simpa [rF] using k
 rw[<-s];have t:=ac G (ac B (ac w u));have I:=ac B (ac w u);have J:=ac w u;exact⟨ac A t,aG D t,aG E t,aG F t,M.aa I,(by obtain⟨C,T,v,h⟩:=S;exact⟨C,T,v,λx b i=>aG (h x b i) J⟩),(λc b i=>aG (K c b i) u),L,R⟩
end Go.Proofs.YtabmgpillccfaaaGreatDoor
