import Derived.Test.YtabmgpillccfaaaGreatDoorUbP
import Derived.Test.YtabmgpillccfaaaGreatDoorUbT
set_option linter.all false
set_option maxHeartbeats 4000000
set_option maxRecDepth 100000
namespace Go.Proofs.YtabmgpillccfaaaGreatDoor
open Go.RowKit Go.Sort Go.Proofs.Tryz
variable{W w:World}{a:Option Addr}{k m n:Nat}{V u v:Value}
theorem gi.aa{b:List ByteArray}(h:gi w a b)(e:Bw w W):gi W a b:=by obtain⟨c,i,d,h⟩:=h;exact⟨c,i,d,λg j f=>aG (h g j f) e⟩
theorem SK.fin11{c:World->Prop}(h:SK (SN (m+1) w) w c)(o:n<m)(p:k<=n){d e f g i a j l:Value}:SK (SN k (((((((((((w.setCell ⟨n,0,none⟩ v).setCell ⟨n,1,none⟩ u).setCell ⟨n,2,none⟩ V).setCell ⟨n,3,none⟩ d).setCell ⟨n,4,none⟩ e).setCell ⟨n,5,none⟩ f).setCell ⟨n,6,none⟩ g).setCell ⟨n,7,none⟩ i).setCell ⟨n,8,none⟩ a).setCell ⟨n,9,none⟩ j).setCell ⟨n,10,none⟩ l)) (((((((((((w.setCell ⟨n,0,none⟩ v).setCell ⟨n,1,none⟩ u).setCell ⟨n,2,none⟩ V).setCell ⟨n,3,none⟩ d).setCell ⟨n,4,none⟩ e).setCell ⟨n,5,none⟩ f).setCell ⟨n,6,none⟩ g).setCell ⟨n,7,none⟩ i).setCell ⟨n,8,none⟩ a).setCell ⟨n,9,none⟩ j).setCell ⟨n,10,none⟩ l) c:=
 (h.mono (T:=λa=>n+1<=a/\a<w.heap.size) λa b=>⟨by have:=b.1;omega,b.2⟩).kept (bR w n _ _ _ _ _ _ _ _ _ _ _) λa b=>⟨by have:=b.1;omega,be b.2 (by simp)⟩
theorem oU(l:ByteArray)(h f:Dt)(WP:(Dt.mk true l (h::[f])).fin)(e:Option Addr)(k:Nat)(d:World)(WG:Dt.all d e (h::[f]))(WD:GT d)(V7:ch aX (headD (.mk true l (h::[f])))=6) (WC:∀(Wf:Nat) (A:Dt),[f][Wf]?=some A->∀(P:Option Addr) (u:Nat) (a:World),Dt.all a P A.l->Bw d a->Calls prog 18 #[A.val P u] a (cS (bZ A) a)):Calls prog 18 #[(Dt.mk true l (h::[f])).val e k] d (cS (bu 7 [f] ([f].map bZ)) d):=by
 obtain⟨V0,V2⟩:=al (bu 7 [f] ([f].map bZ));rw[<-V2];have Y:=Dt.af WP;have t:=λa (q:Dt.all a e (h::[f]))=>cg (.mk true l (h::[f])) e k a q Y.2.2.1;obtain⟨VY,WE⟩:=al (headD (.mk true l (h::[f])));rw[<-WE] at t V7;have O:=λe a q=>bL (aX.map bs) (by rw[VP,a7];decide) VY e 12 a q;rw[VP,a7,show Lib.idxOfS (aX.map bs) VY=6 from V7] at O;have O:=VV O;show Calls prog 18 #[.agg #[.bool true,.string l,.slice e 2 (2+k)]] d (cS V0 d);have t:=λa (q:Dt.all a e (h::[f]))=>(show Calls prog 54 #[.agg #[.bool true,.string l,.slice e 2 (2+k)]] a λE B=>E=.returned (.string VY)/\Bw a B from t a q);have Wd:2=(h::[f]).length:=rfl;obtain⟨y,Xi,Xj,u,V9,Wc,V4,V8,Wa⟩:=cU d l e 2 (2+k);obtain⟨g,G⟩:=al (gW d l e 2 (2+k));rw[<-G] at y Xi Xj u V9 Wc V4 V8 Wa;unfold gW at G;have T:=Dt.ab _ WG y;obtain⟨Xh,Xk,Wb,WH⟩:=dY k 1 1 2 Wd T (by omega) (by omega);obtain⟨Q,Xl,Z,WI⟩:=es k 1 2 Wd T (by omega);obtain⟨w,WM⟩:=al (2+k);rw[<-WM] at t G u Wb Z ⊢;obtain⟨S,WN⟩:=al (1+Xl);have Wb:∀a,(Instr.slice 44 (.slice e 2 w) (some (.int .i64 1)) (some (.int .i64 1)) none).run prog a=.ok (.slice Xh 0 Xk) a:=Wb;have Z:∀a,(Instr.slice 44 (.slice e 2 w) (some (.int .i64 1)) none none).run prog a=.ok (.slice Q 1 S) a:=by rw[WN];exact Z
 have WF:∀a,Bw g a->Calls prog 55 #[.slice Q 1 S] a (jG (λa e j=>Pl.all a e j) (aW ([f].map bZ)) a):=λa q=>by skip;skip;exact(ci [f] (by have:(h::[f]).length<=1000000:=Y.2.2.1;simp only[a1,List.length_nil] at this ⊢;omega) Q S a (Dt.ab _ WI q) λWf A XN P u Xg I XM=>WC Wf A XN P u Xg I (ac (ac y q) XM)).mono λ_ _ h=>h.pl
 have W5:=VV WF;have t:=VV (t g T);have XU:=VV WH;have W1:Hid (CA g [((d.heap.size,2),.slice e 2 w),((d.heap.size+3,6),.int .i64 0),((d.heap.size+4,6),.int .i64 1)]):=⟨u,V4 6 _ rfl,V8 6 _ rfl,trivial⟩;have W9:=VV Wc;have W6:=VV V9;have WV:=VV y;have W7:=VV Wa;have XS:=VV Y;have XT:=VV (WD.aa y);have Xb:=VV G.symm;have WA:=VV V2;clear y V9 Wc V4 V8 Wa T WI WN WM Y WF WE V7 WC WG WD WP G Wd WH V2;go_enter func18,ntmps18;go_upto_region 4 with fail;rw[U Xb]
 go_upto_region 5 with (first
  | (go_at_call 53;refine(U O _ _ (U Xa)).mono ?_;rintro XO WU ⟨rfl,rfl⟩)
  | (go_at_call 54;refine(U t).mono ?_;rintro XO XV ⟨rfl,V⟩;have WW:=VV V;have Xa:=VV ((U W9).aa V);have WL:=(U W1).aa V;have WY:=VV WL;obtain⟨r,s,VX,_⟩:=WL;clear V))
 have Wg:=cell_regrown r;have Wh:=cell_regrown s;have VW:=cell_regrown VX;refine wp_region_quiet_below (by kernel_rfl) (by kernel_rfl) ?_;repeat (go_big_quiet_step (fail))
 refine wpQuiet_nil ?_;intro C We;have Wu:Hid (Bw g C):=ac (U WW) (by obtain⟨Wi,rfl⟩:=We;exact below_regrown _ _ _);have WZ:=VV ((U WY).aa (by obtain⟨Wi,rfl⟩:=We;exact below_regrown _ _ _:Bw WU C));obtain⟨i,V5⟩:=al C.heap.size;obtain⟨N,K⟩:=al (C.alloc (.cells #[.int .i64 7,.string ⟨#[]⟩,.slice none 0 0,.slice none 0 0,.slice none 0 0,.slice none 0 0,.int .i64 0,.int .i64 0,.int .i64 0,.int .i64 0,.slice none 0 0] 28));have I:=ae (ar _ C) (.cells #[.int .i64 7,.string ⟨#[]⟩,.slice none 0 0,.slice none 0 0,.slice none 0 0,.slice none 0 0,.int .i64 0,.int .i64 0,.int .i64 0,.int .i64 0,.slice none 0 0] 28);have WX:Hid (Bw g N):=by rw[K];exact ac (U Wu) I
 have W3:Hid (bp N i [.int .i64 7,.string ⟨#[]⟩,.slice none 0 0,.slice none 0 0,.slice none 0 0,.slice none 0 0,.int .i64 0,.int .i64 0,.int .i64 0,.int .i64 0,.slice none 0 0]):=by rw[K,V5];exact bp.new C [.int .i64 7,.string ⟨#[]⟩,.slice none 0 0,.slice none 0 0,.slice none 0 0,.slice none 0 0,.int .i64 0,.int .i64 0,.int .i64 0,.int .i64 0,.slice none 0 0] 28
 have WO:CA N [((d.heap.size,2),.slice e 2 w),((d.heap.size+3,6),.int .i64 0),((d.heap.size+4,6),.int .i64 1)]:=by rw[K];exact(U WZ).aa I
 have W0:=VV WO;obtain⟨r,s,VX,_⟩:=WO;have Wx:Hid (d.heap.size+1<i/\g.heap.size<=i):=by show _/\_;have:=(U Wu).size;have:=U W7;omega
 have Xc:=VV K.symm;have W2:=VV V5.symm;clear V5 K I We Wg Wh VW;go_upto_region 8 with fail;rw[U Xc,U W2];have Wg:=cell_regrown r;have Wh:=cell_regrown s;have VW:=cell_regrown VX;refine wp_region_quiet_below (by kernel_rfl) (by kernel_rfl) ?_;repeat (go_big_quiet_step (fail))
 refine wpQuiet_nil ?_;intro M WS;have W:Bw N M:=by obtain⟨Wi,rfl⟩:=WS;exact below_regrown _ _ _
 have Wv:=VV (ac (U WX) W).drew;have n:Hid (CA M.drew [((d.heap.size,2),.slice e 2 w),((d.heap.size+3,6),.int .i64 0)]):=by obtain⟨r,s,_⟩:=(U W0).aa W;exact⟨r,s,trivial⟩
 have Wz:Hid (bp M.drew i [.int .i64 7,.string ⟨#[]⟩,.slice none 0 0,.slice none 0 0,.slice none 0 0,.slice none 0 0,.int .i64 0,.int .i64 0,.int .i64 0,.int .i64 0,.slice none 0 0]):=((U W3).aa W).aa aN.drew;have W4:Hid (i<M.drew.heap.size):=bY _ _ ((U Wz) 0 _ rfl).1;clear WS Wg Wh VW r s VX W;go_upto_region 10 with fail;refine VR (λa:World=>CA a [((d.heap.size,2),.slice e 2 w),((d.heap.size+3,6),.int .i64 0)]) 8 ?_;refine ai 0 (.pointer (some ⟨d.heap.size,2,none⟩)) rfl (U n) ?_;refine ai 1 (.slice e 2 w) rfl (U n) ?_ λB F=>by simp only[CA] at F;obtain⟨r,s,_⟩:=F;go_simp
 refine ai 2 (.slice (some ⟨d.heap.size+3,0,none⟩) 12 12) rfl (U n) ?_;refine ai 3 (.int .i64 6) rfl (U n) ?_;refine ai 4 (.pointer (some ⟨d.heap.size+3,6,none⟩)) rfl (U n) ?_;refine ai 5 (.int .i64 0) rfl (U n) ?_ λB F=>by simp only[CA] at F;obtain⟨r,s,_⟩:=F;go_simp
 refine ai 6 (.int .i64 1) rfl (U n) ?_ λB _=>by go_simp;rfl
 refine ai 7 (.slice Q 1 S) rfl (U n) ?_ λB _=>by have:=Z B;go_simp
 refine ap 8 rfl λD p=>?_;go_simp;refine(U W5 _ (U Wv)).mono ?_;rintro _ XP ⟨V3,o,z,cv,R,rfl,WJ,WK⟩;go_simp;refine aS p ?_;clear p D;refine cJ (S2:=λ_=>True) (k2:=14) _ _ _ _ (.inr rfl) ?_;have V6:=(U Wz).aa V3;obtain⟨V1,XB⟩:=V6 10 _ rfl;refine ai 9 (.tuple #[.slice o z cv,.bool R]) rfl trivial ?_;refine ai 10 (.slice o z cv) rfl trivial ?_;refine ai 11 (.bool R) rfl trivial ?_;refine ai 12 (.pointer (some ⟨i,10,none⟩)) rfl trivial ?_;refine ap 13 rfl λD p=>?_;go_simp;refine aO p trivial ?_;clear p D;refine ap 14 rfl λD p=>?_;go_simp;refine aS p ?_;clear p D;refine bh ?_;obtain⟨L,J⟩:=al (XP.setCell ⟨i,10,none⟩ (.slice o z cv));rw[<-J];have X:Bw g L:=by rw[J];exact(ac (U Wv) V3).setCell (p:=⟨i,10,none⟩) (U Wx).2 _
 have XR:=VV X;have Ww:=VV (ac (U WV) X);have WB:Hid (bp L (d.heap.size+1) VT):=(U W6).aa X;have Wy:Hid (bp L i [.int .i64 7,.string ⟨#[]⟩,.slice none 0 0,.slice none 0 0,.slice none 0 0,.slice none 0 0,.int .i64 0,.int .i64 0,.int .i64 0,.int .i64 0,.slice o z cv]):=by rw[J];exact V6.set 10 _
 have WQ:i+1<=M.drew.heap.size:=U W4;have Xd:Hid (R=true->∃j,aW ([f].map bZ)=some j/\j.length=z/\SK (SN (i+1) L) L λa=>Pl.all a o j):=λE=>by obtain⟨j,Xn,Xo,_,Xp⟩:=WK E;rw[J];exact⟨j,Xn,Xo,(Xp.low WQ).aw _⟩
 have Xe:=VV WJ;clear J X V6 WJ WK V3 V1 XB WQ;cases R with
 | false=>(have VZ:Hid (V0=none):=by show _=_;rw[U WA];have E:=U Xe rfl;show (aW ([f].map bZ)).map _=none;rw[E];rfl);have c:=U WB;obtain⟨Wj,Xq⟩:=c 0 _ rfl;obtain⟨Wk,Xr⟩:=c 1 _ rfl;obtain⟨Wm,Xt⟩:=c 2 _ rfl;obtain⟨Wn,Xu⟩:=c 3 _ rfl;obtain⟨Wo,Xv⟩:=c 4 _ rfl;obtain⟨Wp,Xw⟩:=c 5 _ rfl;obtain⟨Wq,Xx⟩:=c 6 _ rfl;obtain⟨Wr,Xy⟩:=c 7 _ rfl;obtain⟨Ws,Xz⟩:=c 8 _ rfl;obtain⟨Wt,XA⟩:=c 9 _ rfl;obtain⟨Wl,Xs⟩:=c 10 _ rfl;clear c;have b:=U Wy;obtain⟨XC,_⟩:=b 0 _ rfl;obtain⟨XD,_⟩:=b 1 _ rfl;obtain⟨XE,_⟩:=b 2 _ rfl;obtain⟨XF,_⟩:=b 3 _ rfl;obtain⟨XG,_⟩:=b 4 _ rfl;obtain⟨XH,_⟩:=b 5 _ rfl;obtain⟨XI,_⟩:=b 6 _ rfl;obtain⟨XJ,_⟩:=b 7 _ rfl;obtain⟨XK,_⟩:=b 8 _ rfl;obtain⟨XL,_⟩:=b 9 _ rfl;obtain⟨V1,_⟩:=b 10 _ rfl;clear b;go_wp2;refine aM (v:=.tuple #[.agg #[.int .i64 7,.string ⟨#[]⟩,.slice none 0 0,.slice none 0 0,.slice none 0 0,.slice none 0 0,.int .i64 0,.int .i64 0,.int .i64 0,.int .i64 0,.slice o z cv],.bool false]) (by simp[results,results18,go_sem,Wj,Wk,Wm,Wn,Wo,Wp,Wq,Wr,Ws,Wt,Wl]) rfl ?_;exact cS.no (aJ (U Ww) (Nat.le_succ _) _ _ _ _ _ _ _ _ _ _ _) (U VZ) _ _ _ _ _ _ _ _ _ _ _ _ _ _ _ _ _ _ _ _ _
 | true=>obtain⟨j,WT,rfl,WR⟩:=U Xd rfl;have W8:=VV WR;have Xf:=VV WT;clear WR WT;(have VZ:Hid (V0=some (.mk 7 ⟨#[]⟩ [] [] [] [] 0 0 0 0 j)):=by show _=_;rw[U WA];show (aW ([f].map bZ)).map _=_;rw[U Xf];rfl);have c:=U WB;obtain⟨Wj,Xq⟩:=c 0 _ rfl;obtain⟨Wk,Xr⟩:=c 1 _ rfl;obtain⟨Wm,Xt⟩:=c 2 _ rfl;obtain⟨Wn,Xu⟩:=c 3 _ rfl;obtain⟨Wo,Xv⟩:=c 4 _ rfl;obtain⟨Wp,Xw⟩:=c 5 _ rfl;obtain⟨Wq,Xx⟩:=c 6 _ rfl;obtain⟨Wr,Xy⟩:=c 7 _ rfl;obtain⟨Ws,Xz⟩:=c 8 _ rfl;obtain⟨Wt,XA⟩:=c 9 _ rfl;obtain⟨Wl,Xs⟩:=c 10 _ rfl;clear c;have b:=U Wy;obtain⟨XC,_⟩:=b 0 _ rfl;obtain⟨XD,_⟩:=b 1 _ rfl;obtain⟨XE,_⟩:=b 2 _ rfl;obtain⟨XF,_⟩:=b 3 _ rfl;obtain⟨XG,_⟩:=b 4 _ rfl;obtain⟨XH,_⟩:=b 5 _ rfl;obtain⟨XI,_⟩:=b 6 _ rfl;obtain⟨XJ,_⟩:=b 7 _ rfl;obtain⟨XK,_⟩:=b 8 _ rfl;obtain⟨XL,_⟩:=b 9 _ rfl;obtain⟨V1,_⟩:=b 10 _ rfl;clear b;go_wp2;refine aM (v:=.tuple #[.agg #[.int .i64 7,.string ⟨#[]⟩,.slice none 0 0,.slice none 0 0,.slice none 0 0,.slice none 0 0,.int .i64 0,.int .i64 0,.int .i64 0,.int .i64 0,.slice o j.length cv],.bool true]) (by simp[results,results18,go_sem,Wj,Wk,Wm,Wn,Wo,Wp,Wq,Wr,Ws,Wt,Wl]) rfl ?_;exact cS.some (x:=.mk 7 ⟨#[]⟩ [] [] [] [] 0 0 0 0 j) (m:=⟨none,0,none,0,none,0,none,0,o,cv⟩) (aJ (U Ww) (Nat.le_succ _) _ _ _ _ _ _ _ _ _ _ _) (U VZ) bk.1 bk.2.1 bk.2.2.1 bk.2.2.2.1 aV ((U W8).fin11 (U Wx).1 (Nat.le_succ _))
theorem Dt.aE{d:List Dt}{i:Nat}{t:Dt}(h:Dt.all w (some ⟨n,m,none⟩) d)(k:d[i]?=some t):∃a b,(w.cell? ⟨n,m+i*3,none⟩=some (.bool t.k)/\w.cell? ⟨n,m+i*3+1,none⟩=some (.string t.s)/\w.cell? ⟨n,m+i*3+2,none⟩=some (.slice a t.l.length (t.l.length+b)))/\Dt.all w a t.l:=by obtain⟨l,o,a,b,c,j,g⟩:=Dt.get h k;injection c with c;injection c with e f;subst e f;exact⟨a,b,j,g⟩
theorem gD{a:Dt}(h:a.k=false):dd a=none:=by unfold dd;rw[h];rfl
theorem fL{a:Dt}(h:a.k=true):dd a=some a.l:=by unfold dd;rw[h];rfl
theorem oY(q:ByteArray)(h b p1:Dt)(XH:(Dt.mk true q (h::[b,p1])).fin)(f:Option Addr)(n:Nat)(e:World)(Xy:Dt.all e f (h::[b,p1]))(Xv:GT e)(p:ch aX (headD (.mk true q (h::[b,p1])))=2) (W4:∀(W:Nat) (l:Dt),[p1][W]?=some l->∀(F:Option Addr) (o:Nat) (a:World),Dt.all a F l.l->Bw e a->Calls prog 18 #[l.val F o] a (cS (bZ l) a)):Calls prog 18 #[(Dt.mk true q (h::[b,p1])).val f n] e (cS (bu 3 [b,p1] ([b,p1].map bZ)) e):=by
 obtain⟨Wb,WA⟩:=al (bu 3 [b,p1] ([b,p1].map bZ));rw[<-WA];have Wl:=Dt.af XH;have z:=λa (u:Dt.all a f (h::[b,p1]))=>cg (.mk true q (h::[b,p1])) f n a u Wl.2.2.1;obtain⟨Wr,Xw⟩:=al (headD (.mk true q (h::[b,p1])));rw[<-Xw] at z p;have Wa:=λf a u=>bL (aX.map bs) (by rw[VP,a7];decide) Wr f 12 a u;rw[VP,a7,show Lib.idxOfS (aX.map bs) Wr=2 from p] at Wa;have Wa:=VV Wa;show Calls prog 18 #[.agg #[.bool true,.string q,.slice f 3 (3+n)]] e (cS Wb e);have z:=λa (u:Dt.all a f (h::[b,p1]))=>(show Calls prog 54 #[.agg #[.bool true,.string q,.slice f 3 (3+n)]] a λC O=>C=.returned (.string Wr)/\Bw a O from z a u);have WP:3=(h::[b,p1]).length:=rfl;obtain⟨J,We,Yq,o,WK,WO,WE,WI,WL⟩:=cU e q f 3 (3+n);obtain⟨g,S⟩:=al (gW e q f 3 (3+n));rw[<-S] at J We Yq o WK WO WE WI WL;unfold gW at S;have Wh:=Dt.ab _ Xy J;obtain⟨W6,Yr,WM,Xz⟩:=dY n 1 2 3 WP Wh (by omega) (by omega);obtain⟨Wc,Ys,Wm,XA⟩:=es n 2 3 WP Wh (by omega);obtain⟨B,XE⟩:=al (3+n);rw[<-XE] at z S o WM Wm ⊢;obtain⟨Wf,XF⟩:=al (1+Ys);have WM:∀a,(Instr.slice 44 (.slice f 3 B) (some (.int .i64 1)) (some (.int .i64 2)) none).run prog a=.ok (.slice W6 1 Yr) a:=WM;have Wm:∀a,(Instr.slice 44 (.slice f 3 B) (some (.int .i64 2)) none none).run prog a=.ok (.slice Wc 1 Wf) a:=by rw[XF];exact Wm
 have Xx:∀a,Bw g a->Calls prog 55 #[.slice Wc 1 Wf] a (jG (λa f j=>Pl.all a f j) (aW ([p1].map bZ)) a):=λa u=>by skip;skip;exact(ci [p1] (by have:(h::[b,p1]).length<=1000000:=Wl.2.2.1;simp only[a1,List.length_nil] at this ⊢;omega) Wc Wf a (Dt.ab _ XA u) λW l WQ F o Yp D WB=>W4 W l WQ F o Yp D (ac (ac J u) WB)).mono λ_ _ h=>h.pl
 have X8:=VV Xx;have z:=VV (z g Wh);have Yc:=VV Xz;have X0:Hid (CA g [((e.heap.size,2),.slice f 3 B),((e.heap.size+3,2),.int .i64 1),((e.heap.size+4,2),.int .i64 1)]):=⟨o,WE 2 _ rfl,WI 2 _ rfl,trivial⟩;have Yf:=VV WO;have W2:=VV WK;have WU:=VV J;have Ya:=VV WL;have X1:=VV Wl;have X2:=VV (Xv.aa J);have Yh:=VV S.symm;have Wu:=VV WA;clear J WK WO WE WI WL Wh XA XF XE Wl Xx Xw p W4 Xy Xv XH S WP Xz WA;go_enter func18,ntmps18;go_upto_region 4 with fail;rw[U Yh]
 go_upto_region 5 with (first
  | (go_at_call 53;refine(U Wa _ _ (U Yg)).mono ?_;rintro XS XT ⟨rfl,rfl⟩)
  | (go_at_call 54;refine(U z).mono ?_;rintro XS YE ⟨rfl,Wi⟩;have XU:=VV Wi;have Yg:=VV ((U Yf).aa Wi);have XD:=(U X0).aa Wi;have XX:=VV XD;obtain⟨w,y,Wq,_⟩:=XD;clear Wi))
 have L:=cell_regrown w;have WS:=cell_regrown y;have Wn:=cell_regrown Wq;refine wp_region_quiet_below (by kernel_rfl) (by kernel_rfl) ?_;repeat (go_big_quiet_step (fail))
 refine wpQuiet_nil ?_;intro P WR;have WV:Hid (Bw g P):=ac (U XU) (by obtain⟨Wp,rfl⟩:=WR;exact below_regrown _ _ _);have XY:=VV ((U XX).aa (by obtain⟨Wp,rfl⟩:=WR;exact below_regrown _ _ _:Bw XT P));obtain⟨i,WG⟩:=al P.heap.size;obtain⟨Z,V⟩:=al (P.alloc (.cells #[.int .i64 3,.string ⟨#[]⟩,.slice none 0 0,.slice none 0 0,.slice none 0 0,.slice none 0 0,.int .i64 0,.int .i64 0,.int .i64 0,.int .i64 0,.slice none 0 0] 28));have D:=ae (ar _ P) (.cells #[.int .i64 3,.string ⟨#[]⟩,.slice none 0 0,.slice none 0 0,.slice none 0 0,.slice none 0 0,.int .i64 0,.int .i64 0,.int .i64 0,.int .i64 0,.slice none 0 0] 28);have XV:Hid (Bw g Z):=by rw[V];exact ac (U WV) D
 have X5:Hid (bp Z i [.int .i64 3,.string ⟨#[]⟩,.slice none 0 0,.slice none 0 0,.slice none 0 0,.slice none 0 0,.int .i64 0,.int .i64 0,.int .i64 0,.int .i64 0,.slice none 0 0]):=by rw[V,WG];exact bp.new P [.int .i64 3,.string ⟨#[]⟩,.slice none 0 0,.slice none 0 0,.slice none 0 0,.slice none 0 0,.int .i64 0,.int .i64 0,.int .i64 0,.int .i64 0,.slice none 0 0] 28
 have XG:CA Z [((e.heap.size,2),.slice f 3 B),((e.heap.size+3,2),.int .i64 1),((e.heap.size+4,2),.int .i64 1)]:=by rw[V];exact(U XY).aa D
 have XZ:=VV XG;obtain⟨w,y,Wq,_⟩:=XG;have V8:Hid (e.heap.size+1<i/\g.heap.size<=i):=by show _/\_;have:=(U WV).size;have:=U Ya;omega
 have Yi:=VV V.symm;have X4:=VV WG.symm;clear WG V D WR L WS Wn;go_upto_region 8 with fail;rw[U Yi,U X4];have L:=cell_regrown w;have WS:=cell_regrown y;have Wn:=cell_regrown Wq;refine wp_region_quiet_below (by kernel_rfl) (by kernel_rfl) ?_;repeat (go_big_quiet_step (fail))
 refine wpQuiet_nil ?_;intro Y XO;have Wj:Bw Z Y:=by obtain⟨Wp,rfl⟩:=XO;exact below_regrown _ _ _
 have WW:=VV (ac (U XV) Wj).drew;have s:Hid (CA Y.drew [((e.heap.size,2),.slice f 3 B),((e.heap.size+3,2),.int .i64 1)]):=by obtain⟨w,y,_⟩:=(U XZ).aa Wj;exact⟨w,y,trivial⟩
 have W0:Hid (bp Y.drew i [.int .i64 3,.string ⟨#[]⟩,.slice none 0 0,.slice none 0 0,.slice none 0 0,.slice none 0 0,.int .i64 0,.int .i64 0,.int .i64 0,.int .i64 0,.slice none 0 0]):=((U X5).aa Wj).aa aN.drew;have X7:Hid (i<Y.drew.heap.size):=bY _ _ ((U W0) 0 _ rfl).1;clear XO L WS Wn w y Wq Wj;go_upto_region 10 with fail;refine VR (λa:World=>CA a [((e.heap.size,2),.slice f 3 B),((e.heap.size+3,2),.int .i64 1)]) 8 ?_;refine ai 0 (.pointer (some ⟨e.heap.size,2,none⟩)) rfl (U s) ?_;refine ai 1 (.slice f 3 B) rfl (U s) ?_ λO R=>by simp only[CA] at R;obtain⟨w,y,_⟩:=R;go_simp
 refine ai 2 (.slice (some ⟨e.heap.size+3,0,none⟩) 12 12) rfl (U s) ?_;refine ai 3 (.int .i64 2) rfl (U s) ?_;refine ai 4 (.pointer (some ⟨e.heap.size+3,2,none⟩)) rfl (U s) ?_;refine ai 5 (.int .i64 1) rfl (U s) ?_ λO R=>by simp only[CA] at R;obtain⟨w,y,_⟩:=R;go_simp
 refine ai 6 (.int .i64 2) rfl (U s) ?_ λO _=>by go_simp;rfl
 refine ai 7 (.slice Wc 1 Wf) rfl (U s) ?_ λO _=>by have:=Wm O;go_simp
 refine ap 8 rfl λQ t=>?_;go_simp;refine(U X8 _ (U WW)).mono ?_;rintro _ Yz ⟨WC,k,M,cv,Wd,rfl,XB,XC⟩;go_simp;refine aS t ?_;clear t Q;refine cJ (S2:=λ_=>True) (k2:=14) _ _ _ _ (.inr rfl) ?_;have WH:=(U W0).aa WC;obtain⟨Wg,Yx⟩:=WH 10 _ rfl;refine ai 9 (.tuple #[.slice k M cv,.bool Wd]) rfl trivial ?_;refine ai 10 (.slice k M cv) rfl trivial ?_;refine ai 11 (.bool Wd) rfl trivial ?_;refine ai 12 (.pointer (some ⟨i,10,none⟩)) rfl trivial ?_;refine ap 13 rfl λQ t=>?_;go_simp;refine aO t trivial ?_;clear t Q;refine ap 14 rfl λQ t=>?_;go_simp;refine aS t ?_;clear t Q;refine bh ?_;obtain⟨N,T⟩:=al (Yz.setCell ⟨i,10,none⟩ (.slice k M cv));rw[<-T];have Wk:Bw g N:=by rw[T];exact(ac (U WW) WC).setCell (p:=⟨i,10,none⟩) (U V8).2 _
 have V7:=VV Wk;have XW:=VV (ac (U WU) Wk);have X9:Hid (bp N (e.heap.size+1) VT):=(U W2).aa Wk;have V9:Hid (bp N i [.int .i64 3,.string ⟨#[]⟩,.slice none 0 0,.slice none 0 0,.slice none 0 0,.slice none 0 0,.int .i64 0,.int .i64 0,.int .i64 0,.int .i64 0,.slice k M cv]):=by rw[T];exact WH.set 10 _
 have XJ:i+1<=Y.drew.heap.size:=U X7;have Yj:Hid (Wd=true->∃j,aW ([p1].map bZ)=some j/\j.length=M/\SK (SN (i+1) N) N λa=>Pl.all a k j):=λC=>by obtain⟨j,Ww,Wx,_,Wy⟩:=XC C;rw[T];exact⟨j,Ww,Wx,(Wy.low XJ).aw _⟩
 have Yk:=VV XB;clear T Wk WH XB XC WC Wg Yx XJ;cases Wd with
 | false=>(have A:Hid (Wb=none):=by show _=_;rw[U Wu];have C:=U Yk rfl;show (dd b).bind (λWo=>(aW (Wo.map d9)).bind λYw=>(aW ([p1].map bZ)).map _)=none;rw[C];cases dd b with|none=>rfl|some Wo=>exact cb _);have d:=U X9;obtain⟨VW,W8⟩:=d 0 _ rfl;obtain⟨VX,W9⟩:=d 1 _ rfl;obtain⟨VZ,Xb⟩:=d 2 _ rfl;obtain⟨V0,Xc⟩:=d 3 _ rfl;obtain⟨V1,Xd⟩:=d 4 _ rfl;obtain⟨V2,Xe⟩:=d 5 _ rfl;obtain⟨V3,Xf⟩:=d 6 _ rfl;obtain⟨V4,Xg⟩:=d 7 _ rfl;obtain⟨V5,Xh⟩:=d 8 _ rfl;obtain⟨V6,Xi⟩:=d 9 _ rfl;obtain⟨VY,Xa⟩:=d 10 _ rfl;clear d;have c:=U V9;obtain⟨Wz,_⟩:=c 0 _ rfl;obtain⟨Xj,_⟩:=c 1 _ rfl;obtain⟨Xk,_⟩:=c 2 _ rfl;obtain⟨Xl,_⟩:=c 3 _ rfl;obtain⟨Xn,_⟩:=c 4 _ rfl;obtain⟨Xo,_⟩:=c 5 _ rfl;obtain⟨Xp,_⟩:=c 6 _ rfl;obtain⟨Xq,_⟩:=c 7 _ rfl;obtain⟨Xr,_⟩:=c 8 _ rfl;obtain⟨Xs,_⟩:=c 9 _ rfl;obtain⟨Wg,_⟩:=c 10 _ rfl;clear c;go_wp2;refine aM (v:=.tuple #[.agg #[.int .i64 3,.string ⟨#[]⟩,.slice none 0 0,.slice none 0 0,.slice none 0 0,.slice none 0 0,.int .i64 0,.int .i64 0,.int .i64 0,.int .i64 0,.slice k M cv],.bool false]) (by simp[results,results18,go_sem,VW,VX,VZ,V0,V1,V2,V3,V4,V5,V6,VY]) rfl ?_;exact cS.no (aJ (U XW) (Nat.le_succ _) _ _ _ _ _ _ _ _ _ _ _) (U A) _ _ _ _ _ _ _ _ _ _ _ _ _ _ _ _ _ _ _ _ _
 | true=>
  obtain⟨j,XP,rfl,XM⟩:=U Yj rfl
  have Yd:=VV XM
  have Yo:=VV XP
  clear XM XP
  have WN:Dt.all g W6 [b]:=U Yc
  obtain⟨Wv,WT,_,_,rfl,_,_⟩:=Dt.get WN (show [b][0]?=some b from rfl)
  obtain⟨W5,We,XK,XI⟩:=Dt.aE (i:=0) (t:=b) WN rfl
  have W1:Hid (g.cell? ⟨Wv,WT,none⟩=some (.bool b.k)/\g.cell? ⟨Wv,WT+1,none⟩=some (.string b.s)/\g.cell? ⟨Wv,WT+2,none⟩=some (.slice W5 b.l.length (b.l.length+We))):=XK
  have X6:=VV XI
  clear WN XK XI
  have WJ:(b:Dt).fin:=(Dt.ag (U X1).2.2.2 (show b∈h::[b,p1] by simp))
  have WY:=VV ((fA b.l (Dt.af WJ).2.2.1 W5 (b.l.length+We) N (Dt.ab _ (U X6) (U V7)) λW l WQ F o a D WB=>fe l.size l aV (Dt.ag (Dt.af WJ).2.2.2 (a8 WQ)) F o a D ((U X2).aa (ac (U V7) WB))).mono λ_ _ h=>h.ex)
  clear WJ
  obtain⟨Wz,_⟩:=(U V9) 0 _ rfl
  have Yu:=aG (U W1).2.2 (U V7)
  obtain⟨YD,XL⟩:=al b.l.length
  rw[<-XL] at WY Yu
  clear XL
  go_upto_region 23 with (go_at_call 57;refine(U WY).mono ?_;rintro XS YA ⟨WD,G,X,I,W7,rfl,Xt,Xu⟩;have Yl:=VV Xt;have Ym:=VV Xu;have WX:=VV WD;have WF:=(U V9).aa WD;have X3:=VV WF;obtain⟨Yy,YB⟩:=WF 2 _ rfl;clear WD Xt Xu WF)
  obtain⟨E,K⟩:=al (YA.setCell ⟨i,2,none⟩ (.slice G X I))
  rw[<-K]
  have Ws:Hid (Bw g E):=by rw[K];exact(ac (U V7) (U WX)).setCell (p:=⟨i,2,none⟩) (U V8).2 _
  have Wt:=VV (ac (U WU) (U Ws))
  have W3:Hid (bp E (e.heap.size+1) VT):=(U W2).aa (U Ws)
  have WZ:Hid (bp E i [.int .i64 3,.string ⟨#[]⟩,.slice G X I,.slice none 0 0,.slice none 0 0,.slice none 0 0,.int .i64 0,.int .i64 0,.int .i64 0,.int .i64 0,.slice k j.length cv]):=by rw[K];exact(U X3).set 2 _
  have Ye:Hid (SK (SN (i+1) E) E (λa=>Pl.all a k j)):=by rw[K];exact((U Yd).up (U WX)).aw _
  have Yn:Hid (W7=true->∃r,aW (b.l.map d9)=some r/\r.length=X/\X<=I/\SK (SN (i+1) E) E (λa=>Ex.all a G r)):=λC=>by
   obtain⟨r,Ww,Wx,Yv,Wy⟩:=U Ym C
   rw[K]
   exact⟨r,Ww,Wx,Yv,(Wy.low (bY _ _ ((U V9) 0 _ rfl).1)).aw _⟩
  clear K Yy YB
  cases W7 with
  | false=>
   have A:Hid (Wb=none):=by
    show _=_
    rw[U Wu]
    show (dd b).bind _=none
    cases p:b.k with
    | false=>rw[gD p];rfl
    | true=>rw[fL p];show (aW (b.l.map d9)).bind _=none;rw[U Yl rfl];rfl
   have d:=U W3;obtain⟨VW,W8⟩:=d 0 _ rfl;obtain⟨VX,W9⟩:=d 1 _ rfl;obtain⟨VZ,Xb⟩:=d 2 _ rfl;obtain⟨V0,Xc⟩:=d 3 _ rfl;obtain⟨V1,Xd⟩:=d 4 _ rfl;obtain⟨V2,Xe⟩:=d 5 _ rfl;obtain⟨V3,Xf⟩:=d 6 _ rfl;obtain⟨V4,Xg⟩:=d 7 _ rfl;obtain⟨V5,Xh⟩:=d 8 _ rfl;obtain⟨V6,Xi⟩:=d 9 _ rfl;obtain⟨VY,Xa⟩:=d 10 _ rfl;clear d
   have c:=U WZ;obtain⟨Wz,_⟩:=c 0 _ rfl;obtain⟨Xj,_⟩:=c 1 _ rfl;obtain⟨Xk,_⟩:=c 2 _ rfl;obtain⟨Xl,_⟩:=c 3 _ rfl;obtain⟨Xn,_⟩:=c 4 _ rfl;obtain⟨Xo,_⟩:=c 5 _ rfl;obtain⟨Xp,_⟩:=c 6 _ rfl;obtain⟨Xq,_⟩:=c 7 _ rfl;obtain⟨Xr,_⟩:=c 8 _ rfl;obtain⟨Xs,_⟩:=c 9 _ rfl;obtain⟨Wg,_⟩:=c 10 _ rfl;clear c
   go_wp2
   refine aM (v:=.tuple #[.agg #[.int .i64 3,.string ⟨#[]⟩,.slice G X I,.slice none 0 0,.slice none 0 0,.slice none 0 0,.int .i64 0,.int .i64 0,.int .i64 0,.int .i64 0,.slice k j.length cv],.bool false]) (by simp[results,results18,go_sem,VW,VX,VZ,V0,V1,V2,V3,V4,V5,V6,VY]) rfl ?_
   exact cS.no (aJ (U Wt) (Nat.le_succ _) _ _ _ _ _ _ _ _ _ _ _) (U A) _ _ _ _ _ _ _ _ _ _ _ _ _ _ _ _ _ _ _ _ _
  | true=>
   obtain⟨r,XR,rfl,YC,XN⟩:=U Yn rfl
   have A:Hid (Wb=if b.k then some (.mk 3 ⟨#[]⟩ r [] [] [] 0 0 0 0 j) else none):=by
    show _=_
    rw[U Wu]
    show (dd b).bind (λWo=>(aW (Wo.map d9)).bind λYw=>(aW ([p1].map bZ)).map _)=_
    cases p:b.k with
    | false=>rw[gD p];rfl
    | true=>rw[fL p];show (aW (b.l.map d9)).bind _=_;rw[XR];show (aW ([p1].map bZ)).map _=_;rw[U Yo];rfl
   have Yb:=VV XN
   clear XR XN
   have Yt:=aG (U W1).1 (U Ws)
   generalize b.k=L at Yt A
   have d:=U W3;obtain⟨VW,W8⟩:=d 0 _ rfl;obtain⟨VX,W9⟩:=d 1 _ rfl;obtain⟨VZ,Xb⟩:=d 2 _ rfl;obtain⟨V0,Xc⟩:=d 3 _ rfl;obtain⟨V1,Xd⟩:=d 4 _ rfl;obtain⟨V2,Xe⟩:=d 5 _ rfl;obtain⟨V3,Xf⟩:=d 6 _ rfl;obtain⟨V4,Xg⟩:=d 7 _ rfl;obtain⟨V5,Xh⟩:=d 8 _ rfl;obtain⟨V6,Xi⟩:=d 9 _ rfl;obtain⟨VY,Xa⟩:=d 10 _ rfl;clear d
   have c:=U WZ;obtain⟨Wz,_⟩:=c 0 _ rfl;obtain⟨Xj,_⟩:=c 1 _ rfl;obtain⟨Xk,_⟩:=c 2 _ rfl;obtain⟨Xl,_⟩:=c 3 _ rfl;obtain⟨Xn,_⟩:=c 4 _ rfl;obtain⟨Xo,_⟩:=c 5 _ rfl;obtain⟨Xp,_⟩:=c 6 _ rfl;obtain⟨Xq,_⟩:=c 7 _ rfl;obtain⟨Xr,_⟩:=c 8 _ rfl;obtain⟨Xs,_⟩:=c 9 _ rfl;obtain⟨Wg,_⟩:=c 10 _ rfl;clear c
   go_wp2
   refine aM (v:=.tuple #[.agg #[.int .i64 3,.string ⟨#[]⟩,.slice G r.length I,.slice none 0 0,.slice none 0 0,.slice none 0 0,.int .i64 0,.int .i64 0,.int .i64 0,.int .i64 0,.slice k j.length cv],.bool L]) (by simp[results,results18,go_sem,VW,VX,VZ,V0,V1,V2,V3,V4,V5,V6,VY]) rfl ?_
   cases L with
   | false=>
    exact cS.no (aJ (U Wt) (Nat.le_succ _) _ _ _ _ _ _ _ _ _ _ _) (U A) _ _ _ _ _ _ _ _ _ _ _ _ _ _ _ _ _ _ _ _ _
   | true=>
    exact cS.some (x:=.mk 3 ⟨#[]⟩ r [] [] [] 0 0 0 0 j) (m:=⟨G,I,none,0,none,0,none,0,k,cv⟩) (aJ (U Wt) (Nat.le_succ _) _ _ _ _ _ _ _ _ _ _ _) (U A) ((U Yb).fin11 (U V8).1 (Nat.le_succ _)) bk.2.1 bk.2.2.1 bk.2.2.2.1 aV ((U Ye).fin11 (U V8).1 (Nat.le_succ _))
end Go.Proofs.YtabmgpillccfaaaGreatDoor
