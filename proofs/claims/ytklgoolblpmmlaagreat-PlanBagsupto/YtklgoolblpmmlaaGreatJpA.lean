import Derived.Test.YtklgoolblpmmlaaGreatJnQ
import Derived.Test.YtklgoolblpmmlaaGreatJsA
import Derived.Test.YtklgoolblpmmlaaGreatGrG
import Derived.Test.YtklgoolblpmmlaaGreatLkJ
set_option linter.all false
set_option maxHeartbeats 8000000
set_option maxRecDepth 100000
namespace Go.Proofs.YtklgoolblpmmlaaGreat
open Go.RowKit Go.Sort Go.Lib Go.Proofs.Tryz
def jA(b c:List (List aH))(a:Nat):List (List aH):=if a=0 then b else c
variable{i j k l m n s t:Nat}{e:Ex}{W X Y w:World}{o:Bool}{P Q R:Nat->Prop}{v:Value}{L M:List Ex}{A r:List (List aH)}{C K:List Int}{T:List Tb}{g:Pm}{x y:List aH}{I J:Int}{c:aH}
theorem yK(d:0<n)(g:k<2):∀b a,b.length=n+m->a.length=eQ n m k->gu (ip (eq0 n e) (eq1 n e) k) (dB b (gG n k) a)=nP n m e k a:=λb a c f=>yM d g c (by simp) f
theorem Bk{n1:Nat}(d:e.fin):∀c∈wD n1 e,c.1.fin/\c.2.fin:=λc g=>by
 obtain⟨j,f,_,a,_⟩:=lX g
 have b:=oy _ e bi d j f
 rcases a with a|a
 .exact⟨Ex.aq b (i:=0) (by rw[a];rfl),Ex.aq b (i:=1) (by rw[a];rfl)⟩
 .exact⟨Ex.aq b (i:=1) (by rw[a];rfl),Ex.aq b (i:=0) (by rw[a];rfl)⟩
theorem Ca(i:e.fin)(g:bJ e=true)(f:Nat):(ip (eq0 n e) (eq1 n e) f).length<=1000000/\∀d∈ip (eq0 n e) (eq1 n e) f,d.fin:=by
 have j:(wD n e).length<=400:=cw (List.length_filterMap_le _ _) (kH g);have h:=Bk (n1:=n) i;unfold ip eq0 eq1;split;.exact⟨by rw[bQ];omega,λd b=>by obtain⟨c,a,rfl⟩:=b6 b;exact(h c a).1⟩
 .exact⟨by rw[bQ];omega,λd b=>by obtain⟨c,a,rfl⟩:=b6 b;exact(h c a).2⟩
structure Ey(w0 W1:World)(bp px mx pb lb mb n1 n2:Nat)(e:Ex)(al:Bool)(s:Nat)(Q O:Nat->Prop)(w:World):Prop where
 c:w.cell? ⟨bp,0,none⟩=some (.pointer (some ⟨px,0,none⟩))
 h:zZ w0 px mx pb lb mb n1 n2 e (eq0 n1 e) (eq1 n1 e) al s Q (nP n1 n2 e s) O [] w
 n:¬O bp
 o:∀k,O k->W1.heap.size<=k
 b:W1.heap.size<=bp/\bp<w.heap.size
 w:Bw W1 w
theorem v2{W1:World}(h:zZ w n m k j i l s e (eq0 l e) (eq1 l e) o t P (nP l s e t) Q [] W)(r:∀a,Q a->W1.heap.size<=a)(c:Bw W1 W):Ey w W1 W.heap.size n m k j i l s e o t P Q ((W.alloc (.cells #[.pointer none] 164)).setCell ⟨W.heap.size,0,none⟩ (.pointer (some ⟨n,0,none⟩))):=by have d:=am (VT _ W) (.cells #[.pointer none] 164);have q:Ky (λa=>a=W.heap.size) W ((W.alloc (.cells #[.pointer none] 164)).setCell ⟨W.heap.size,0,none⟩ (.pointer (some ⟨n,0,none⟩))):=(Ky.ab d).trans (cS _ _ _ _ rfl (F:=λa=>a=W.heap.size)) (Nw.refl _ _);have f:=λa b=>(j2 (w0:=w)).foot h a b;have g:=c.size;refine⟨by simp[go_sem],j2.keep h q λa b e=>by have:=(f a b).2;omega,λb=>by have:=(f _ b).2;omega,r,⟨g,by simp[World.setCell]⟩,(ac c d).setCell (p:=⟨W.heap.size,0,none⟩) g _⟩
theorem UK{g:Bool}(q:Bw W X)(h:zZ w n m k j i l s e (eq0 l e) (eq1 l e) g t P (nP l s e t) Q [] Y)(f:∀a,Q a->(X.alloc (.cells #[.pointer none] 164)).heap.size<=a)(d:Below (X.alloc (.cells #[.pointer none] 164)).heap.size (X.alloc (.cells #[.pointer none] 164)) Y):Ey w W X.heap.size n m k j i l s e g t P Q (Y.setCell ⟨X.heap.size,0,none⟩ (.pointer (some ⟨n,0,none⟩)))/\Y.cell? ⟨X.heap.size,0,none⟩=some (.pointer none)/\Y.frozen? ⟨X.heap.size,0,none⟩=false:=by
 have v:=am (VT _ X) (.cells #[.pointer none] 164);have z:(X.alloc (.cells #[.pointer none] 164)).heap.size=X.heap.size+1:=by simp
 have r:Y.cell? ⟨X.heap.size,0,none⟩=some (.pointer none):=ae (by simp[go_sem]) d;have x:Y.frozen? ⟨X.heap.size,0,none⟩=false:=by have:=(Ky.ab d (F:=λ_=>False)).frozen (b:=X.heap.size) (o:=0) (by omega) id;rw[this];simp[go_sem]
 have y:Ky (λa=>a=X.heap.size) Y (Y.setCell ⟨X.heap.size,0,none⟩ (.pointer (some ⟨n,0,none⟩))):=cS _ _ _ _ rfl;have u:=q.size;have A:=d.size;refine⟨⟨b5 r,j2.keep h y λa c e=>by have:=f a c;omega,λc=>by have:=f _ c;omega,λa c=>by have:=f a c;omega,⟨u,by simp[World.setCell];omega⟩,(ac (ac q v) d).setCell (p:=⟨X.heap.size,0,none⟩) u _⟩,r,x⟩
theorem jH(b:w.cell? ⟨n,0,none⟩=some v)(c:w.frozen? ⟨n,0,none⟩=false)(a:Nat):(Instr.storeAt 164 (.pointer (some ⟨n,0,none⟩)) (.pointer (some ⟨a,0,none⟩))).run prog w=.ok () (w.setCell ⟨n,0,none⟩ (.pointer (some ⟨a,0,none⟩))):=by go_simp
theorem yb{y:(Nat->Prop)->List (List aH)->World->Prop}{F:Nat}{u I:Nat}{G:Nat->Prop}{E:List aH->Option (List aH)}{f:ia}{φ:List (List aH)->List (List aH)}{z:Ending}(B:Ky Q W X)(C:Nw Q G W)(h:gm (i6 y (zX w n m k j i l s t F e L M o u P E f I v) r φ) G A X z Y):z=.returned (.tuple #[])/\∃c d p g,y c (r++φ A) Y/\Vm w k j i l s t F e L M o u P d f (f.map (·.1)) (e9 (List.replicate f.length false) (A.flatMap λJ=>fa u e f (E J) J)) I p g Y/\Y.cell? ⟨n,0,none⟩=some (.pointer (some ⟨k,0,none⟩))/\Y.cell? ⟨m,0,none⟩=some v/\(∀a,c a->¬d a)/\Nw Q (λa=>c a∨d a) W/\Ky Q W Y:=by
 obtain⟨S,K,⟨c,VX,V,x,N,O⟩,VW,Z⟩:=h;obtain⟨d,p,g,T,D,_,_⟩:=x.g;refine⟨S,c,d,p,g,V,T,x.c3,x.c4,λa b q=>N a b ((D a).2 (.inl q)),λa b=>?_,B.trans Z C⟩;have R:K a:=(O a).2 (b.imp id λq=>(D a).2 (.inl q));rcases VW a R with b|b;.exact C a b
 .exact .inr (by have:=B.size;omega)
theorem ya{c:(Nat->Prop)->List (List aH)->World->Prop}{i:List aH->List aH->World->Prop}{d:Ending}(e:Ky P w W)(f:Nw P (λa=>Q a∨R a) w)(h:BH c Q r R W i d X):gm c P r w d X:=by
 obtain⟨j,g,o,n,k,_,m,l,_⟩:=h;refine⟨j,g,k,λa b=>?_,e.trans l f⟩;rcases m a b with b|b;.exact f a (.inl b)
 .exact .inr (by have:=e.size;omega)
theorem U0{x:Nv}{g:Nat}{V6 V7:Nv}{sp0 sp1:Int}{ys0 ys1:List (List aH)}(WV:ge w n m x)(XA:x.q.ex=[e])(Xw:Ex.all w x.m.aE x.q.ex)(WP:e.fin)(WN:bJ e=true)(XJ:x.na=some ⟨g,0,none⟩)(XK:x.nl=2)(Xk:ge w g 0 V6)(Xl:ge w g 16 V7)(XE:V6.k.2.2.length=k)(XF:V7.k.2.2.length=j)(Wf:0<k)(XI:0<j)(YO:k+j<=64) (XN:∀o,Bw w o->Calls prog 132 #[.pointer (some ⟨g,0,none⟩)] o λWi q=>Wi=.returned (.int .i64 sp0)/\Bw o q) (XO:∀o,Bw w o->Calls prog 132 #[.pointer (some ⟨g,16,none⟩)] o λWi q=>Wi=.returned (.int .i64 sp1)/\Bw o q) (Xm:∀a,a<2->cU 40 w g (a*16) (eQ k j a) (jA ys0 ys1 a)) (XH:∀a,a<2->(jA ys0 ys1 a).length<=2147483648) (XM:∀a,a<2->∀Wi∈jA ys0 ys1 a,dH (eQ k j a) Wi):cU 74 w n m (k+j) (if sp0<sp1 then el 0 k j e (x.q.op == 5) ys0 ys1 else el 1 k j e (x.q.op == 5) ys1 ys0):=by
 intro Yz YN V3 y V8 o WJ Xn WF S Xr;obtain⟨WD,WM⟩:=bj (decide (sp0<sp1));have WA:Hid (∀a:Nat,a=(if WD then 0 else 1)->(if sp0<sp1 then el 0 k j e (x.q.op == 5) ys0 ys1 else el 1 k j e (x.q.op == 5) ys1 ys0)=el a k j e (x.q.op == 5) (jA ys0 ys1 a) (jA ys0 ys1 (1-a))):=λa Wh=>by rw[<-WM] at Wh;by_cases c:sp0<sp1;(.simp only[c,decide_true,if_true] at Wh ⊢;subst Wh;rfl);.simp only[c,decide_false,Bool.false_eq_true,if_false] at Wh ⊢;subst Wh;rfl
 obtain⟨Xg,Xp⟩:=bj (if sp0<sp1 then el 0 k j e (x.q.op == 5) ys0 ys1 else el 1 k j e (x.q.op == 5) ys1 ys0);rw[Xp] at WA S ⊢;have X4:=H S;have Yy:=H Xr;have Wa:=H WJ;have W5:=H Xn;have WZ:=H WF;have W3:=H Xm;have Wn:=H XH;have X6:=H XM;have Xa:=H XN;have Xb:=H XO;have WE:=WV.a;rw[XJ,XK] at WE;have Wr:=Xk.k;have Ws:=Xl.k;rw[XE] at Wr;rw[XF] at Ws;simp only[bI,Nat.reduceAdd] at Wr Ws;have N:Hid (∀s,Bw w s->dL s n m x.q x.m/\s.cell? ⟨n,m+15,none⟩=some (.slice (some ⟨g,0,none⟩) 2 x.nc)/\s.cell? ⟨g,14,none⟩=some (.slice V6.k.1 k V6.k.2.1)/\s.cell? ⟨g,30,none⟩=some (.slice V7.k.1 j V7.k.2.1)):=λs P=>⟨WV.e.aa P,ae WE P,ae Wr P,ae Ws P⟩;have W8:Hid (∀s,Bw w s->Calls prog 179 #[x.q.val x.m,.int .i64 (k:Int),.int .i64 (j:Int)] s (Ew k j e s)):=λs P=>pK XA (Ex.af _ Xw P) WP WN (by omega) Wf XI;have Wq:Hid (∀a,(ip (eq0 k e) (eq1 k e) a).length<=1000000/\∀x∈ip (eq0 k e) (eq1 k e) a,x.fin):=λa=>Ca WP WN a;obtain⟨C,D,B,Yi⟩:=WJ.fn;have Wt:=am (VT _ o) (.cells #[.func C D B] 117);have WO:(o.alloc (.cells #[.func C D B] 117)).cell? ⟨o.heap.size,0,none⟩=some (.func C D B):=by simp[go_sem]
 have VW:(o.alloc (.cells #[.func C D B] 117)).heap.size=o.heap.size+1:=by simp
 subst Yi;obtain⟨A,WK⟩:=bj (o.alloc (.cells #[.func C D B] 117));rw[WK] at Wt WO VW;have Xf:=H WK;have Wy:=H Wt;have W4:=H WO;have Xc:=H VW;have Wj:=H (ac WF Wt);have XX:=H WM;clear WJ Xn WF S Xr Xm XH XM XN XO WV Xk Xl XE XF WE Wr Ws XJ XK XA Xw WP WN WK Wt WO VW Xp;go_enter func74,ntmps74;go_upto_region 2 with fail;rw[U Xf];obtain⟨O,X⟩:=bn o.heap.size;rw[<-X] at W4 ⊢;have W2:=H X;clear X Xf;have d:Hid (Bw w A.drew):=(U Wj).drew;have R:Hid (Bw A A.drew):=(VS).drew;refine bH (λV5:World=>Bw w V5) 12 ?_;obtain⟨Ya,Xt⟩:=bn A.drew;rw[<-Xt] at d R ⊢;clear Xt;refine ap 0 (.pointer (some ⟨n,m,none⟩)) rfl (U d) ?_;refine ap 1 (.pointer (some ⟨n,m,none⟩)) rfl (U d) ?_;refine ap 2 (.pointer (some ⟨n,m+15,none⟩)) rfl (U d) ?_;refine ap 3 (.slice (some ⟨g,0,none⟩) 2 x.nc) rfl (U d) ?_ λq r=>by obtain⟨VY,T,VZ,V0⟩:=U N q r;go_simp
 refine ap 4 (.pointer (some ⟨g,0,none⟩)) rfl (U d) ?_;refine ap 6 (.pointer (some ⟨n,m,none⟩)) rfl (U d) ?_;refine ap 7 (.pointer (some ⟨n,m,none⟩)) rfl (U d) ?_;refine ap 8 (.pointer (some ⟨n,m+15,none⟩)) rfl (U d) ?_;refine ap 9 (.slice (some ⟨g,0,none⟩) 2 x.nc) rfl (U d) ?_ λq r=>by obtain⟨VY,T,VZ,V0⟩:=U N q r;go_simp
 refine ap 10 (.pointer (some ⟨g,16,none⟩)) rfl (U d) ?_;refine bh 5 rfl λt l=>?_;go_simp;refine(U Xa Ya (U d)).mono ?_;rintro _ Yu ⟨rfl,Wd⟩;go_simp;have Wk:=H (ac (U d) Wd);have W0:=H (ac (U R) Wd);clear Wd;refine VP l (U Wk) ?_;clear l t;refine bh 11 rfl λt l=>?_;go_simp;refine(U Xb Yu (U Wk)).mono ?_;rintro _ Wv ⟨rfl,WL⟩;go_simp;have Wx:=H (ac (U Wk) WL);have W1:=H (ac (U W0) WL);clear WL;refine VP l (U Wx) ?_;clear l t;refine bh 12 rfl λt l=>?_;go_simp;refine bE l ?_;clear l t;refine cf ?_;try rw[U XX]
 clear Xa Xb Wk W0 d R WM;go_upto_if 19 with fail;go_cut[4,5] (λYr Ys WY=>∃a:Nat,a<2/\Yr=.int .i64 (a:Int)/\Ys=.int .i64 ((1-a:Nat):Int)/\Hid (a=if WD then 0 else 1)/\Wv=WY)
 case first=>
  cases WD with
  | false=>go_wp2;go_meet;exact⟨1,by omega,rfl,rfl,(rfl:(1:Nat)=1),rfl⟩
  | true=>go_wp2;go_meet;exact⟨0,by omega,rfl,rfl,(rfl:(0:Nat)=0),rfl⟩
 case rest=>
  obtain⟨a,Q,rfl,rfl,Xd,rfl⟩:=hcut;have XP:=U Xd;have W6:=H (U WA a XP);obtain⟨i,WT⟩:=bn (1-a);rw[<-WT] at W6 ⊢;have WU:i<2:=by omega
  have Xe:=H WT;clear Xd WA XP WT;have Wp:Hid (∀s,Bw w s->Calls prog 133 #[x.q.val x.m,.int .i64 (k:Int),.int .i64 (j:Int),.int .i64 (a:Int)] s (Ev w k j e (x.q.op == 5) a (nP k j e a) s)):=λs P=>rt _ (λX9 Wd=>U W8 X9 (ac P Wd)) P;go_upto_region 4 with fail;go_cut[6] (λYt WY=>∃u p G I E F z L,Yt=.pointer (some ⟨u,0,none⟩)/\Hid (Ey w A u p G I E F k j e (x.q.op == 5) a z L WY));case first=>have d:Hid (Bw w Wv.drew):=(U Wx).drew;have R:Hid (Bw A Wv.drew):=(U W1).drew;refine bH (λV5:World=>Bw w V5) 23 ?_;obtain⟨Xh,Xu⟩:=bn Wv.drew;rw[<-Xu] at d R ⊢;simp only[Pl.ad] at Wp;clear Xu;refine ap 0 (.pointer (some ⟨n,m,none⟩)) rfl (U d) ?_;refine ap 1 (.pointer (some ⟨n,m,none⟩)) rfl (U d) ?_;refine ap 2 (.pointer (some ⟨n,m,none⟩)) rfl (U d) ?_;(refine ap 3 (.agg #[.int .i64 x.q.op,.string x.q.au,.slice x.m.aE x.q.ex.length x.m.cE,.slice x.m.aC x.q.cols.length x.m.cC,.slice x.m.aK x.q.keys.length x.m.cK,.slice x.m.aA x.q.aggs.length x.m.cA,.int .i64 x.q.fn,.int .i64 x.q.aj,.int .i64 x.q.n,.int .i64 x.q.off,.slice x.m.aP x.q.args.length x.m.cP]) rfl (U d) ?_ λq r=>by obtain⟨⟨YF,YG,YI,Yd,Ye,YJ,YK,YL,YM,Yf,YH⟩,T,VZ,V0⟩:=U N q r;go_simp);refine ap 4 (.pointer (some ⟨n,m,none⟩)) rfl (U d) ?_;refine ap 5 (.pointer (some ⟨n,m,none⟩)) rfl (U d) ?_;refine ap 6 (.pointer (some ⟨n,m+15,none⟩)) rfl (U d) ?_;(refine ap 7 (.slice (some ⟨g,0,none⟩) 2 x.nc) rfl (U d) ?_ λq r=>by obtain⟨VY,T,VZ,V0⟩:=U N q r;go_simp);refine ap 8 (.pointer (some ⟨g,0,none⟩)) rfl (U d) ?_;refine ap 9 (.pointer (some ⟨g,14,none⟩)) rfl (U d) ?_;(refine ap 10 (.slice V6.k.1 k V6.k.2.1) rfl (U d) ?_ λq r=>by obtain⟨VY,T,VZ,V0⟩:=U N q r;go_simp);refine ap 11 (.int .i64 (k:Int)) rfl (U d) ?_;refine ap 12 (.pointer (some ⟨n,m,none⟩)) rfl (U d) ?_;refine ap 13 (.pointer (some ⟨n,m,none⟩)) rfl (U d) ?_;refine ap 14 (.pointer (some ⟨n,m+15,none⟩)) rfl (U d) ?_;(refine ap 15 (.slice (some ⟨g,0,none⟩) 2 x.nc) rfl (U d) ?_ λq r=>by obtain⟨VY,T,VZ,V0⟩:=U N q r;go_simp);refine ap 16 (.pointer (some ⟨g,16,none⟩)) rfl (U d) ?_;refine ap 17 (.pointer (some ⟨g,30,none⟩)) rfl (U d) ?_;(refine ap 18 (.slice V7.k.1 j V7.k.2.1) rfl (U d) ?_ λq r=>by obtain⟨VY,T,VZ,V0⟩:=U N q r;go_simp);refine ap 19 (.int .i64 (j:Int)) rfl (U d) ?_;refine ap 20 (.int .i64 (a:Int)) rfl (U d) ?_;refine ed [21,22] (by kernel_rfl) (by simp) ?_;intro YR XD;simp only[List.mem_cons,List.not_mem_nil,or_false] at XD;rcases XD with rfl|rfl;(.refine b8 rfl (by rfl) λt l=>?_;go_simp;refine(U Wp Xh (U d)).mono ?_;rintro _ Ww ⟨p,G,I,E,F,z,L,rfl,We,Wg,Y⟩;go_simp;have Wl:=H (ac (U d) Y);have V9:=H (ac (U Wl) (am (VT _ Ww) (.cells #[.pointer none] 164)));have WW:=(U R).size;have V2:=H (v2 We (W1:=A) (λb c=>by have:=Wg b c;omega) (ac (U R) Y));have WC:=H (jH (show (Ww.alloc (.cells #[.pointer none] 164)).cell? ⟨Ww.heap.size,0,none⟩=some (.pointer none) by simp[go_sem]) (by simp[go_sem]) p);clear We Wg Y WW;refine VP l (U Wl) ?_;clear l t;refine bh 22 rfl λt l=>?_;go_simp;refine VP l (U V9) ?_;clear l t;refine fK 23 rfl (by kernel_rfl) (by rfl) 164 (.tmp 6) (.tmp 41) rfl _ _ (by first|rfl|simp[Act.eval,Act.put]) (by first|rfl|simp[Act.eval,Act.put]) (U WC) ?_;(try simp only[p1,p2,p3,p4,p5]);refine NoPanic.normal ?_;go_wp2;go_meet;exact⟨_,p,G,I,E,F,z,L,rfl,V2⟩);.refine b8 rfl (by rfl) λt l=>?_;go_simp;have V9:=H (ac (U d) (am (VT _ Xh) (.cells #[.pointer none] 164)));refine VP l (U V9) ?_;clear l t;refine bh 21 rfl λt l=>?_;go_simp;refine(U Wp _ (U V9)).mono ?_;rintro _ Ww ⟨p,G,I,E,F,z,L,rfl,We,Wg,Y⟩;go_simp;have Wl:=H (ac (U V9) Y);obtain⟨f,Xx,XB⟩:=UK (U R) We Wg Y;have V2:=H f;have WC:=H (jH Xx XB p);clear We Wg Y f Xx XB;refine VP l (U Wl) ?_;clear l t;refine fK 23 rfl (by kernel_rfl) (by rfl) 164 (.tmp 6) (.tmp 41) rfl _ _ (by first|rfl|simp[Act.eval,Act.put]) (by first|rfl|simp[Act.eval,Act.put]) (U WC) ?_;(try simp only[p1,p2,p3,p4,p5]);refine NoPanic.normal ?_;go_wp2;go_meet;exact⟨_,p,G,I,E,F,z,L,rfl,V2⟩
  case rest=>
   obtain⟨u,p,G,I,E,F,z,L,rfl,V2⟩:=hcut;clear Wp W8 Wx W1;have f:=U V2;have Yj:=(U Wj).size;have Yl:=(U Wy).size;have VW:=U Xc;have X:=U W2;have Wm:=H (ac (U Wj) f.w);have XY:=H (ae (U W4) f.w);have X3:Hid (Ky y o wc):=Ky.ab (ac (U Wy) f.w);have X1:Hid (V3 y V8 wc):=(U Wa).stb.keep (U W5) (Ky.ab (ac (U Wy) f.w) (F:=λ_=>False)) λ_ _ c=>c;have Z:∀b,y b->w.heap.size<=b/\b<o.heap.size:=λb c=>(U Wa).stb.foot (U W5) b c;have X0:=H Z;have WB:Hid (Calls prog 40 #[.pointer (some ⟨g,a*16,none⟩),.func (.func 134) #[.pointer (some ⟨p,0,none⟩)] #[]] wc.drew (gm (zZ w p G I E F k j e (eq0 k e) (eq1 k e) (x.q.op == 5) a z (nP k j e a)) L ([]++jA ys0 ys1 a) wc.drew)):=U W3 a Q (jA ys0 ys1 a) _ _ L [] wc.drew (Am Q (by unfold eQ;split<;>omega) (by omega) (U Wq a).1 (U Wq a).2 (yK Wf Q) (U Wn a Q)) (j2.keep f.h (Ky.ab VS.drew (F:=λ_=>False)) λ_ _ c=>c) (U Wm).drew (by simp) (U Wn a Q);have K:Hid (Bw w wc.drew/\wc.drew.cell? ⟨u,0,none⟩=some (.pointer (some ⟨p,0,none⟩))):=⟨(U Wm).drew,ae f.c VS.drew⟩;have Wz:Hid (Bw wc wc.drew):=(VS).drew;clear f Yj Yl VW X Z;(have YP:(a:Int)<2:=by omega);(have YQ:(i:Int)<2:=by omega);go_upto_region 5 with fail;refine bH (λV5:World=>Bw w V5/\V5.cell? ⟨u,0,none⟩=some (.pointer (some ⟨p,0,none⟩))) 8 ?_;obtain⟨YD,Xv⟩:=bn wc.drew;rw[<-Xv] at WB K Wz ⊢;clear Xv;refine ap 0 (.pointer (some ⟨n,m,none⟩)) rfl (U K) ?_;refine ap 1 (.pointer (some ⟨n,m,none⟩)) rfl (U K) ?_;refine ap 2 (.pointer (some ⟨n,m+15,none⟩)) rfl (U K) ?_;(refine ap 3 (.slice (some ⟨g,0,none⟩) 2 x.nc) rfl (U K) ?_ λq r=>by obtain⟨VY,T,VZ,V0⟩:=U N q r.1;go_simp);refine ap 4 (.int .i64 (a:Int)) rfl (U K) ?_;refine ap 5 (.pointer (some ⟨g,a*16,none⟩)) rfl (U K) ?_;(refine ap 6 (.pointer (some ⟨p,0,none⟩)) rfl (U K) ?_ λq r=>by obtain⟨VY,T⟩:=r;go_simp);refine ap 7 (.func (.func 134) #[.pointer (some ⟨p,0,none⟩)] #[]) rfl (U K) ?_;refine bh 8 rfl λt l=>?_;go_simp;refine(U WB).mono ?_;rintro W J M;have W9:=H M;obtain⟨rfl,_⟩:=M;go_simp;refine bE l ?_;clear l t;refine cf ?_;obtain⟨_,Wb,XC,WX,XR⟩:=U W9;rw[dK] at XC;obtain⟨X8,X7,WS⟩:=XC;have f:=U V2;have VW:=U Xc;have X:=U W2;have Z:=U X0;have WW:=(U Wj).size;have XQ:=(U WZ).size;have Ym:=(U Wz).size;have VX:Ky L wc J:=(Ky.ab (U Wz)).trans XR (Nw.refl _ _);have WG:Bw w J:=(U Wm).trans (VX.below (λb c=>by have:=f.o b c;omega) (U Wm).size);(have XU:¬L O:=λc=>by have:=f.o _ c;omega);(have Wu:∀b,Wb b->A.heap.size<=b:=λb c=>by rcases WX b c with c|c;(.exact f.o b c);.have:=f.w.size;omega);(have XV:¬Wb u:=λc=>by rcases WX _ c with c|c;(.exact f.n c);.have:=f.b.2;omega);(have XT:¬Wb O:=λc=>by have:=Wu _ c;omega);(have Xo:V3 y V8 J:=(U Wa).stb.keep (U X1) VX λb c v=>by have:=(Z b c).2;have:=f.o b v;omega);have Xi:=VX.cell f.c f.n;have Xj:=VX.cell (U XY) XU;have Yk:=VX.size;have Yn:=f.w.size;obtain⟨V4,Wc⟩:∃V4:Nat->Prop,∀b,V4 b ↔ Wb b∨b=u∨b=O:=⟨_,λb=>Iff.rfl⟩;have XL:zX w u O p G I E F k j e (eq0 k e) (eq1 k e) (x.q.op == 5) a z (nP k j e i) (dQ a k j e (x.q.op == 5) (jA ys0 ys1 a)) (jA ys0 ys1 a).length (.func C D B) V4 [] J:=⟨Xi,Xj,⟨Wb,X8,X7,WS,Wc,XV,XT⟩,λb c=>by rcases(Wc b).1 c with c|c|c;(.exact WS.lim b c);(.have:=f.b;omega);.omega⟩;(have Xz:∀b,y b->¬V4 b:=λb c v=>by have:=(Z b c).2;rcases(Wc b).1 v with v|v|v;(.have:=Wu b v;omega);(.have:=f.b;omega);.omega);obtain⟨V,WH⟩:∃V:Nat->Prop,∀b,V b ↔ y b∨V4 b:=⟨_,λb=>Iff.rfl⟩;have Xy:i6 V3 (zX w u O p G I E F k j e (eq0 k e) (eq1 k e) (x.q.op == 5) a z (nP k j e i) (dQ a k j e (x.q.op == 5) (jA ys0 ys1 a)) (jA ys0 ys1 a).length (.func C D B)) V8 (fw a j ((x.q.op == 5) && decide (i=0)) e (nP k j e i) (dQ a k j e (x.q.op == 5) (jA ys0 ys1 a))) V [] J:=⟨y,V4,by simpa [fw] using Xo,XL,Xz,WH⟩;have WQ:(dQ a k j e (x.q.op == 5) (jA ys0 ys1 a)).length<=2147483648:=cw (tp _ _ _) (U Wn a Q);have WR:∀c∈(dQ a k j e (x.q.op == 5) (jA ys0 ys1 a)),dH (eQ k j a) c.1:=oT (U X6 a Q);(have WI:Xg=fw a j ((x.q.op == 5) && decide (i=0)) e (nP k j e i) (dQ a k j e (x.q.op == 5) (jA ys0 ys1 a)) (jA ys0 ys1 i)++VG ((x.q.op == 5) && decide (a=0)) j ((dQ a k j e (x.q.op == 5) (jA ys0 ys1 a)).map (·.1)) (e9 (List.replicate (dQ a k j e (x.q.op == 5) (jA ys0 ys1 a)).length false) ((jA ys0 ys1 i).flatMap λXW=>fa a e (dQ a k j e (x.q.op == 5) (jA ys0 ys1 a)) (nP k j e i XW) XW)):=by rw[U W6];unfold el;rw[<-U Xe]);have S:=U X4;rw[WI,<-cI] at S;(have Xs:Nw y V o:=λb c=>by rcases(WH b).1 c with c|c;(.exact .inl c);.refine .inr ?_;rcases(Wc b).1 c with v|v|v;(.have:=Wu b v;omega);(.have:=f.b;omega);.omega);have Xq:Ky y o J:=(U X3).trans VX λb v=>.inr (by have:=f.o b v;omega);have W7:Hid (Calls prog 40 #[.pointer (some ⟨g,i*16,none⟩),.func (.func 135) #[] #[.pointer (some ⟨u,0,none⟩),.pointer (some ⟨O,0,none⟩)]] J (gm (i6 V3 (zX w u O p G I E F k j e (eq0 k e) (eq1 k e) (x.q.op == 5) a z (nP k j e i) (dQ a k j e (x.q.op == 5) (jA ys0 ys1 a)) (jA ys0 ys1 a).length (.func C D B)) V8 (fw a j ((x.q.op == 5) && decide (i=0)) e (nP k j e i) (dQ a k j e (x.q.op == 5) (jA ys0 ys1 a)))) V ([]++jA ys0 ys1 i) J)):=U W3 i WU (jA ys0 ys1 i) _ _ V [] J (Al (U Wa) Q (U Xe) Wf XI (by omega) (U Wq i).1 (U Wq i).2 (yK Wf WU) WQ WR ((List.prefix_append _ _).trans S)) Xy WG (by simp) (U Wn i WU);rw[dK] at W7;(have XZ:Hid (∀W V1,gm (i6 V3 (zX w u O p G I E F k j e (eq0 k e) (eq1 k e) (x.q.op == 5) a z (nP k j e i) (dQ a k j e (x.q.op == 5) (jA ys0 ys1 a)) (jA ys0 ys1 a).length (.func C D B)) V8 (fw a j ((x.q.op == 5) && decide (i=0)) e (nP k j e i) (dQ a k j e (x.q.op == 5) (jA ys0 ys1 a)))) V (jA ys0 ys1 i) J W V1->W=.returned (.tuple #[])/\V1.cell? ⟨u,0,none⟩=some (.pointer (some ⟨p,0,none⟩))/\V1.cell? ⟨O,0,none⟩=some (.func C D B)/\Calls prog 137 #[.pointer (some ⟨p,0,none⟩),.func C D B] V1 (gm V3 y (V8++Xg) o)):=λW V1 M=>by obtain⟨Yh,Yw,YB,YC,YA,Yo,Yq,c3,Yb,Yc,Yp,XS⟩:=yb Xq Xs M;refine⟨Yh,c3,Yb,(xW (U Wa) Yq (by rw[jG,List.length_replicate]) Yo Yc ((U WZ).trans (XS.below (λb c=>(Z b c).1) XQ)) Q Wf WQ WR S).mono λYf Yv Yg=>?_⟩;have:=ya XS Yp Yg;rw[WI,<-cI];exact this);obtain⟨_,YE,_,_⟩:=U N J WG;have Yx:Hid True:=trivial;clear XL Xy Xz WH Wc Xo WS VX XR WX f Z WQ WR S Xs Xq WI Wu XV XT XU WG Xi Xj WW XQ Ym Yk Yn VW X W9 K WB
   go_wp2_with (first
    | (go_at_call 137;refine(U X2).mono ?_;rintro W Yv M;have X5:=H M;obtain⟨rfl,_⟩:=M)
    | (go_at_call 40;refine(U W7).mono ?_;rintro W V1 M;obtain⟨rfl,Yd,Ye,XG⟩:=U XZ W V1 M;have X2:=H XG;clear XG M))
   go_end0;exact U X5
mutual
def Pl.aQ:Pl->Prop
 | .mk _ _ _ _ _ _ _ _ _ b a=>b<=9223372036854775807/\Pl.aO a
def Pl.aO:List Pl->Prop
 | []=>True
 | b::a=>b.aQ/\Pl.aO a
end
variable{p q:Pl}
theorem Pl.aT(h:p.aQ):p.off<=9223372036854775807/\Pl.aO p.args:=by cases p;rw[Pl.aQ] at h;exact h
theorem Pl.aS:∀{c:List Pl} {a:Pl},Pl.aO c->a∈c->a.aQ
 | [],_,_,h=>by cases h
 | d::c,a,h,b=>by rw[Pl.aO] at h;rcases dr b with rfl|b;(.exact h.1);.exact Pl.aS h.2 b
theorem qs(h:C.any (λa=>decide ((n:Int)<=a))=false):∀a∈C,a<(n:Int):=λa b=>by
 have:=cL h b
 simp only[decide_eq_false_iff_not] at this
 omega
theorem uE{a:List (Int×Bool)}(e:d6 (a.map Prod.fst)=true)(f:(a.map Prod.fst).any (λd=>decide ((n:Int)<=d))=false)(g:a.length<=1048576):eZ a n:=
 ⟨g,λc b=>⟨iY e c.1 (fA b),qs f c.1 (fA b)⟩⟩
theorem yS(o:p.op=6)(j:BF T p)(x:p.fin)(m:iO w p g)(b:bV (cy T p)=(bK T q).2)(t:i5 (bK T q).2):sz w p g (bK T q).2.length:=by
 have u:=j.a2;obtain⟨_,_,r,l⟩:=Vq o u;have c:pY (bV (cy T p)) p.cols p.aggs=0:=by have:=j.z;unfold bA at this;rw[o] at this;exact this
 rw[b] at c;unfold pY at c
 have i:(p.cols.any (λd=>decide (((bK T q).2.length:Int)<=d)) || decide (32<p.cols.length+p.aggs.length) || p.aggs.any (hj (bK T q).2.length))=false:=by
  cases v:(p.cols.any (λd=>decide (((bK T q).2.length:Int)<=d)) || decide (32<p.cols.length+p.aggs.length) || p.aggs.any (hj (bK T q).2.length)) with
  | false=>rfl
  | true=>rw[v] at c;simp at c
 simp only[Bool.or_eq_false_iff,decide_eq_false_iff_not] at i;refine⟨m.c,by omega,λn b=>⟨r n b,qs i.1.1 n b⟩,m.a,by omega,λa f=>⟨(l a f).1,?_⟩⟩;have e:=cL i.2 f;unfold hj at e;have:=t.lo;by_cases k:a.1=1;.have:=(l a f).2 k;omega
 ·(have s:(a.1 != 1)=true:=by simpa using k);rw[s] at e;simp at e;omega
theorem rq:∀(b:Nat) (a:List Nat),a.Nodup->(∀c∈a,c<b)->a.length<=b
 | 0,a,_,h=>by
  cases a with
  | nil=>simp
  | cons c a=>exact absurd (h c (by simp)) (by omega)
 | b+1,a,f,h=>by(have d:=rq b (a.erase b) (f.erase b) λc g=>by have e:=f.mem_erase_iff.1 g;have:=h c e.2;have:=e.1;omega);rw[List.length_erase] at d;split at d<;>omega
theorem xn(m:p.op=10)(n:BF T p)(D:p.fin)(r:iO w p g)(i:bV (cy T p)=(bK T q).2)(E:i5 (bK T q).2):zR w p g (bK T q).2.length:=by
 have o:=n.a2;obtain⟨_,z,R⟩:=gd m o;have j:pn (bV (cy T p)) p.cols (p.keys.map Prod.fst) p.fn p.aj=0:=by have:=n.z;unfold bA at this;rw[m] at this;exact this
 rw[i] at j;unfold pn at j
 have f:(p.cols.any (λd=>decide (((bK T q).2.length:Int)<=d)) || (p.keys.map Prod.fst).any (λd=>decide (((bK T q).2.length:Int)<=d)) || (decide (4<=p.fn) && decide (((bK T q).2.length:Int)<=p.aj)) || decide (32<=(bK T q).2.length))=false:=by
  cases I:(p.cols.any (λd=>decide (((bK T q).2.length:Int)<=d)) || (p.keys.map Prod.fst).any (λd=>decide (((bK T q).2.length:Int)<=d)) || (decide (4<=p.fn) && decide (((bK T q).2.length:Int)<=p.aj)) || decide (32<=(bK T q).2.length)) with
  | false=>rfl
  | true=>rw[I] at j;simp at j
 simp only[Bool.or_eq_false_iff,decide_eq_false_iff_not] at f;have l:=o.n;unfold eM at l;rw[m] at l;have e:(d6 p.cols && d6 (p.keys.map Prod.fst) && jB p.fn p.aj p.n)=true:=l;simp only[cc] at e;have V:p.cols.length<=32:=by(have G:p.cols.Nodup:=by have:=e.1.1;unfold d6 at this;simp only[cc,cF] at this;exact this.2);have F:=qs f.1.1.1;have k:=iY e.1.1;have S:=E.hi;(have:(p.cols.map Int.toNat).Nodup:=by rw[List.nodup_iff_pairwise_ne,List.pairwise_map];refine List.Pairwise.imp_of_mem ?_ G;intro v x B a C K;have:=k v B;have:=k x a;exact C (by omega));have b:=rq 32 _ this (λW J=>by obtain⟨u,s,rfl⟩:=b6 J;have:=F u s;have:=k u s;omega);simpa using b
 obtain⟨⟨L,M,N,O,P,Q,y,_⟩,_⟩:=Pl.an D;refine⟨r.c,by omega,λt i=>⟨iY e.1.1 t i,qs f.1.1.1 t i⟩,r.k,uE e.1.2 f.1.1.2 (by omega),?_,y,λb=>?_⟩;.have b:=e.2;unfold jB at b;have c:=f.1.2;by_cases A:4<=p.fn;(.rw[decide_eq_true A] at c;simp at c;exact .inr (.inr (.inr ⟨z,c⟩)));.split at b;(.rename_i a;simp only[Bool.or_eq_true,beq_iff_eq] at a;(rcases a with (a|a)|a);(.exact .inl a);(.exact .inr (.inl a));.exact .inr (.inr (.inl a)));.split at b;(.rename_i a;simp only[Bool.or_eq_true,beq_iff_eq] at a;omega);.split at b;(.rename_i a;simp only[beq_iff_eq] at a;omega);.cases b
 .have c:=e.2;rw[b] at c;unfold jB at c;simp at c;exact c.2
theorem rY{b:List Tb}(R:e5 b=true)(V4:Sk b)(WA:∀S∈b,S.fin){w0:World}:∀(o:Nat) (c:Pl),c.size<=o->c.fin->c.aQ->eR c=true->(bK b c).1=0->bC b c<=2147483647->∀t,Dd w0 b c t->∀Wc Ws,ge w0 Wc Ws t->cU 40 w0 Wc Ws (bK b c).2.length (cg b c)
 | 0,c,Wj,_,_,_,_,_,_,_,_,_,_=>by rw[Pl.ak] at Wj;omega
 | o+1,c,Wj,Q,WB,V2,Wa,Wm,t,WI,Wc,Ws,i=>by
  have V8:eI b=true:=by unfold e5 at R;simp only[cc] at R;exact R.1
  have m:=iq V2 Wa
  have n:=m.a2
  have Wx:=hW V8 c.size c bi V2 Wa
  have WN:∀a∈c.args,a.size<=o:=λa e=>by have:=Pl.az e;rw[Pl.ak] at Wj;omega
  have V7:∀a∈c.args,bC b a<=2147483647:=λa e=>by have:=hv n e Wm;omega
  have V3:∀a∈c.args,a.fin:=λa e=>Pl.av (Pl.an Q).2.2 e
  have y:∀a∈c.args,(cg b a).length<=2147483648:=λa e=>by
   have J:=iR V8 a.size a bi (m.c a e).1 (m.c a e).2 (V7 a e)
   have:=V7 a e
   omega
  have V1:∀a∈c.args,∀G∈cg b a,dH (bK b a).2.length G:=λa e=>hP R V4 a.size a bi (V3 a e) (m.c a e).1 (m.c a e).2 (V7 a e)
  have v:∀a∈c.args,i5 (bK b a).2:=λa e=>hW V8 a.size a bi (m.c a e).1 (m.c a e).2
  have M:(cg b c).length<=2147483648:=by
   have J:=iR V8 c.size c bi V2 Wa Wm
   omega
  have N:=hP R V4 c.size c bi Q V2 Wa Wm
  have V9:=(Pl.an Q).2.1
  have WL:∀a∈c.args,a.aQ:=λa e=>Pl.aS (Pl.aT WB).2 e
  cases WI with
  | mk _ _ K x S W8 WR W7 Wb I Wu WX WS Wt Z=>
   have T:∀(B:Nat) a,c.args[B]?=some a->cU 40 w0 I (B*16) (bK b a).2.length (cg b a):=λB a e=>by
    have f:=VQ e
    obtain⟨C,A⟩:∃C,Wu[B]?=some C:=⟨_,VR (by rw[WX];exact(bD e).1)⟩
    exact rY R V4 WA o a (WN a f) (V3 a f) (WL a f) (m.c a f).1 (m.c a f).2 (V7 a f) C (Z B a C e A) I (B*16) (Wt B C A)
   have F:∀a,a∈c.args->t.na=some ⟨I,0,none⟩:=λa e=>WS.elim (λk=>by rw[k] at e;cases e) id
   have s:t.q.op=c.op:=by rw[K]
   have one:c.args.length=1->∃a,c.args=[a]/\a∈c.args/\n9 (c.args.map (cg b))=cg b a/\bV (cy b c)=(bK b a).2/\cU 40 w0 I 0 (bK b a).2.length (cg b a):=λJ=>by
    obtain⟨a,e⟩:=List.length_eq_one_iff.1 J
    exact⟨a,e,by rw[e];simp,by rw[e];rfl,by unfold cy bV;rw[e];rfl,by have:=T 0 a (by rw[e];rfl);simpa using this⟩
   have Wf:Ex.all w0 t.m.aE t.q.ex:=by rw[K];exact x.e
   have WH:∀k∈c.ex,bJ k=true:=λk z=>jm (cL m.x z)
   have X:0<c.args.length->0<t.nl:=λh=>by rw[Wb];exact h
   have W:∀{l:List Int},(bA b c (cy b c)).2=l->(bK b c).2.length=l.length:=λh=>by rw[m.o,h]
   rw[iS] at M N ⊢
   rcases fN n with d|d|d|d|d|d|d|d|d|d|d|d
   .obtain⟨Wg,WM⟩:=S d
    have p:ef b c (c.args.map (cg b))=t.t.rows.map cp:=by unfold ef;rw[ba d,Wg]
    have Wh:(bK b c).2=t.t.cols.map Prod.snd:=by rw[m.o];unfold bA nI;rw[d,Wg];rfl
    rw[p]
    refine zj i (s.trans d) (lH i WM (by rw[WR]) (by have:=Wx.hi;omega) λG VW=>?_)
    rw[Wh,bQ]
    exact uj R V4 (List.mem_of_find?_eq_some Wg) G VW
   .obtain⟨J,VZ⟩:=jc d n
    obtain⟨a,e,f,u,p,q⟩:=one J
    obtain⟨k,z⟩:∃k,c.ex=[k]:=List.length_eq_one_iff.1 VZ
    have j:ef b c (c.args.map (cg b))=(cg b a).filter λG=>VK (bZ G k):=by unfold ef;rw[VU (by omega),ba d,u,z];rfl
    rw[j,W (l:=(bK b a).2) (by unfold bA;rw[d];exact p)]
    exact zi i (s.trans d) (qb i (by rw[K];exact z) Wf (Ex.av V9 (by rw[z];simp)) (F a f) (X (by omega)) (by have:=(v a f).hi;omega) q (y a f))
   .obtain⟨J,VZ,W6⟩:=jU d n
    obtain⟨a,e,f,u,p,q⟩:=one J
    have j:ef b c (c.args.map (cg b))=(cg b a).map (ig c.ex):=by unfold ef;rw[VU (by omega),VU (by omega),ba d,u]
    rw[j,W (l:=fx (bV (cy b c)) c.ex) (by unfold bA;rw[d];rfl)]
    unfold fx
    rw[bQ]
    exact zh i (s.trans d) (j9 i (by rw[K]) Wf V9 (by omega) (F a f) (X (by omega)) (by have:=(v a f).hi;omega) q (y a f) λG VW=>xl (V1 a f G VW) V9)
   all_goals first
    | (have Wr : c.op = 4 ∨ c.op = 5 := by omega
       have Wi : c.args.length = 2 ∧ c.ex.length = 1 := by rcases Wr with x | x; exact h3 x n; exact Vp x n
       obtain ⟨a, g, r⟩ := hN Wi.1
       obtain ⟨k, z⟩ : ∃ k, c.ex = [k] := List.length_eq_one_iff.1 Wi.2
       have E : c.args[0]? = some a := by rw [r]; rfl
       have O : c.args[1]? = some g := by rw [r]; rfl
       have f := VQ E
       have P := VQ O
       obtain ⟨VX, Wn⟩ : ∃ C, Wu[0]? = some C := ⟨_, VR (by omega)⟩
       obtain ⟨VY, Wp⟩ : ∃ C, Wu[1]? = some C := ⟨_, VR (by omega)⟩
       have WK : VX.k.2.2 = (bK b a).2 := by cases Z 0 a VX E Wn with | mk _ _ _ _ _ _ o => exact o
       have V5 : VY.k.2.2 = (bK b g).2 := by cases Z 1 g VY O Wp with | mk _ _ _ _ _ _ o => exact o
       have WC : ∀ S ∈ b, S.rows.length ≤ 1048576 := λS WO => (WA S WO).r
       have Wk := Wt 0 VX Wn
       have Wl := Wt 1 VY Wp
       rw [Nat.zero_mul] at Wk
       rw [Nat.one_mul] at Wl
       have WV : kq b c 0 = (bK b a).2.length := by unfold kq; rw [r]; rfl
       have WW : kq b c 1 = (bK b g).2.length := by unfold kq; rw [r]; rfl
       have WT : zV b c 0 = UZ b a := by unfold zV; rw [r]; rfl
       have WU : zV b c 1 = UZ b g := by unfold zV; rw [r]; rfl
       have j : ef b c (c.args.map (cg b)) = if UZ b a < UZ b g then el 0 (bK b a).2.length (bK b g).2.length k (t.q.op == 5) (cg b a) (cg b g) else el 1 (bK b a).2.length (bK b g).2.length k (t.q.op == 5) (cg b g) (cg b a) := by
         unfold ef
         rw [VU (by omega), VU (by omega), VU (by omega), ba Wr]
         unfold oR
         rw [z, WV, WW, WT, WU, s, r]
         rfl
       have Wh : (bK b c).2.length = (bK b a).2.length + (bK b g).2.length := by
         rw [W (l := (bK b a).2 ++ (bK b g).2) (by unfold bA cy bV gU; rcases Wr with x | x <;> rw [x, r] <;> rfl), bG]
       have WP := v a f
       have WQ := v g P
       have kp := Wx.hi
       rw [j, Wh]
       have Wy := U0 (g := I) (sp0 := UZ b a) (sp1 := UZ b g) (ys0 := cg b a) (ys1 := cg b g) i (by rw [K]; exact z) Wf (Ex.av V9 (by rw [z]; simp)) (WH k (by rw [z]; simp)) (F a f) (by rw [Wb]; exact Wi.1) Wk Wl (by rw [WK]) (by rw [V5]) (by have := WP.lo; omega) (by have := WQ.lo; omega) (by omega)
         (λV D => by have := kM WC a.size a bi (V3 a f) VX (Z 0 a VX E Wn) I 0 Wk V D; exact this)
         (λV D => by have := kM WC g.size g bi (V3 g P) VY (Z 1 g VY O Wp) I 16 Wl V D; exact this)
         (λL WD => by
           rcases (show L = 0 ∨ L = 1 by omega) with rfl | rfl
           . exact T 0 a E
           . exact T 1 g O)
         (λL WD => by
           rcases (show L = 0 ∨ L = 1 by omega) with rfl | rfl
           . exact y a f
           . exact y g P)
         (λL WD => by
           rcases (show L = 0 ∨ L = 1 by omega) with rfl | rfl
           . exact V1 a f
           . exact V1 g P)
       first
         | exact zg i (s.trans d) Wy
         | exact zf i (s.trans d) Wy)
    | skip
   .obtain⟨a,e,f,u,p,q⟩:=one (Vq d n).1
    have j:ef b c (c.args.map (cg b))=fk c (cg b a):=by unfold ef;rw[VU (by omega),VU (by omega),VU (by omega),VU (by omega),ba d,u]
    rw[j] at M N ⊢
    refine ze i (s.trans d) (fH (φ:=fk c) i (F a f) (X (by have:=(Vq d n).1;omega)) (λV D=>?_) q (y a f) N M)
    rw[K]
    exact tK d D (yS d m Q x p (v a f)) (by have:=(v a f).hi;omega)
   .obtain⟨a,e,f,u,p,q⟩:=one (jT d n)
    have j:ef b c (c.args.map (cg b))=ih (cg b a):=by unfold ef;rw[VU (by omega),VU (by omega),VU (by omega),VU (by omega),VU (by omega),ba d,u]
    rw[j,W (l:=(bK b a).2) (by unfold bA;rw[d];exact p)]
    exact zc i (s.trans d) (m7 i (F a f) (X (by have:=jT d n;omega)) (by have:=(v a f).hi;omega) q (y a f))
   .have J:=ru d n
    have j:ef b c (c.args.map (cg b))=(c.args.map (cg b)).flatten:=by unfold ef;rw[VU (by omega),VU (by omega),VU (by omega),VU (by omega),VU (by omega),VU (by omega),ba d]
    have WJ:∀a∈c.args,(bK b a).2=bV (cy b c):=λa e=>by
     have w:=m.z
     have Wq:(bA b c (cy b c)).1=if ((cy b c).drop 1).any (λo=>!decide (o=bV (cy b c))) then 4 else 0:=by unfold bA;rw[d];rfl
     rw[Wq] at w
     have Wz:((cy b c).drop 1).any (λo=>!decide (o=bV (cy b c)))=false:=by
      cases Y:((cy b c).drop 1).any (λo=>!decide (o=bV (cy b c))) with
      | false=>rfl
      | true=>rw[Y] at w;simp at w
     have V6:(bK b a).2∈cy b c:=fA e
     cases V0:cy b c with
     | nil=>rw[V0] at V6;cases V6
     | cons W9 l=>
      rw[V0] at V6 Wz
      rcases dr V6 with k|k
      .rw[k];rfl
      .have:=cL Wz (x:=(bK b a).2) (by simpa using k)
       simpa using this
    obtain⟨WE,E⟩:∃a,c.args[0]?=some a:=⟨_,VR (by omega)⟩
    rw[j,W (l:=bV (cy b c)) (by unfold bA;rw[d];rfl)]
    refine zb i (s.trans d) (F WE (VQ E)) (by rw[Wb,bQ]) (by rw[bQ];exact(Pl.an Q).1.2.2.2.2.2.1) λB C A=>?_
    rw[bL] at A
    cases e:c.args[B]? with
    | none=>rw[e] at A;cases A
    | some a=>
     rw[e] at A
     injection A with A
     subst A
     have:=T B a e
     rw[WJ a (VQ e)] at this
     exact this
   .obtain⟨a,e,f,u,p,q⟩:=one (jS d n)
    have j:ef b c (c.args.map (cg b))=nG c.keys c.off.toNat (U2 c.n.toNat c.off.toNat) (cg b a):=by unfold ef;rw[VU (by omega),VU (by omega),VU (by omega),VU (by omega),VU (by omega),VU (by omega),VU (by omega),ba d,u]
    have We:=n.n
    unfold eM at We
    rw[d] at We
    have Wv:(d6 (c.keys.map Prod.fst) && decide (0<=c.n) && decide (0<=c.off))=true:=We
    simp only[cc,cF] at Wv
    have w:(if (c.keys.map Prod.fst).any (λa=>decide (((bV (cy b c)).length:Int)<=a)) then (1:Int) else 0)=0:=by have:=m.z;unfold bA at this;rw[d] at this;exact this
    rw[p] at w
    have WG:(c.keys.map Prod.fst).any (λWd=>decide (((bK b a).2.length:Int)<=Wd))=false:=by
     cases Y:(c.keys.map Prod.fst).any (λWd=>decide (((bK b a).2.length:Int)<=Wd)) with
     | false=>rfl
     | true=>rw[Y] at w;simp at w
    obtain⟨⟨WY,WZ,W0,W1,W2,W3,WF,_⟩,_⟩:=Pl.an Q
    have W4:=(Pl.aT WB).1
    have W5:=WF.2
    rw[j] at M N ⊢
    refine za i (s.trans d) (fH (φ:=nG c.keys c.off.toNat (U2 c.n.toNat c.off.toNat)) i (F a f) (X (by have:=jS d n;omega)) (λV D=>?_) q (y a f) N M)
    rw[K]
    exact tJ d D x.k (uE Wv.1.1 WG (by omega)) (by have:=(v a f).hi;omega) (by omega) (by omega) (by omega) (by omega)
   .obtain⟨a,e,f,u,p,q⟩:=one (gd d n).1
    have j:ef b c (c.args.map (cg b))=eE c (cg b a):=by unfold ef;rw[VU (by omega),VU (by omega),VU (by omega),VU (by omega),VU (by omega),VU (by omega),VU (by omega),VU (by omega),ba d,u]
    rw[j] at M N ⊢
    refine wJ i (s.trans d) (fH (φ:=eE c) i (F a f) (X (by have:=(gd d n).1;omega)) (λV D=>?_) q (y a f) N M)
    rw[K]
    exact tI d D (xn d m Q x p (v a f)) (by have:=(v a f).hi;omega)
   .have VZ:=iy d n
    obtain⟨a,g,r⟩:=hN VZ
    have E:c.args[0]?=some a:=by rw[r];rfl
    have O:c.args[1]?=some g:=by rw[r];rfl
    have f:=VQ E
    have P:=VQ O
    have j:ef b c (c.args.map (cg b))=dP (cg b g) (cg b a):=by unfold ef;rw[VU (by omega),VU (by omega),VU (by omega),VU (by omega),VU (by omega),VU (by omega),VU (by omega),VU (by omega),VU (by omega),ba d,r];rfl
    have p:bV (cy b c)=(bK b a).2:=by unfold cy bV;rw[r];rfl
    have V5:(bK b g).2=(bK b a).2:=by
     have w:=m.z
     have Wq:(bA b c (cy b c)).1=if ((cy b c).drop 1).any (λo=>!decide (o=bV (cy b c))) then 4 else 0:=by unfold bA;rw[d];rfl
     rw[Wq,p] at w
     have V0:cy b c=[(bK b a).2,(bK b g).2]:=by unfold cy;rw[r];rfl
     rw[V0] at w
     by_cases Y:(bK b g).2=(bK b a).2
     .exact Y
     .simp[Y] at w
    have q:=T 0 a E
    have Ww:=T 1 g O
    rw[Nat.zero_mul] at q
    rw[Nat.one_mul,V5] at Ww
    rw[j,W (l:=(bK b a).2) (by unfold bA;rw[d];exact p)]
    exact wI i (s.trans d) (qd i (F a f) (by rw[Wb];omega) (by have:=(v a f).hi;omega) q Ww (y a f) (y g P) (λG VW=>by have:=V1 g P G VW;rw[V5] at this;exact this))
   .have j:ef b c (c.args.map (cg b))=[]:=by unfold ef;rw[VU (by omega),VU (by omega),VU (by omega),VU (by omega),VU (by omega),VU (by omega),VU (by omega),VU (by omega),VU (by omega),VU (by omega)]
    rw[j]
    exact wH i (s.trans d)
def qV(a:List (List aH)):List (List aH):=a.mergeSort λb c=>decide (cd b c<=0)
theorem gE(a:List (List aH)):(qV a).Perm a:=List.mergeSort_perm _ _
theorem vo(e:List (List aH)):k6 (qV e):=by have:=List.pairwise_mergeSort (le:=λg i=>decide (cd g i<=0)) (λa b f c d=>by simp only[cF] at c d ⊢;exact jJ a b f c d) (λa b=>by simp only[Bool.or_eq_true,cF];have:=fE a b;omega) e;exact this.imp λh=>of_decide_eq_true h
theorem B0(c:∀e∈r,dH n e)(a:A.Perm r)(b:k6 A):A=qV r:=
 ou b (vo r) (a.trans (gE r).symm) λf d=>(c f (a.mem_iff.1 d)).clean
def gO(b:List Tb)(a:Pl):Int:=if e5 b then (if iK a=0 then (bK b a).1 else iK a) else 1
def VC(b:List Tb)(a:Pl):List (List aH):=if gO b a=0 then qV (cg b a) else []
def BW(f:List Tb)(e:Pl)(a:World)(i:Ending)(c:World):Prop:=∃g d,i=.returned (.tuple #[g,.int .i64 (gO f e)])/\fQ d c g (VC f e)/\(∀b,d b->a.heap.size<=b/\b<c.heap.size)/\Bw a c
theorem BW.err{ts:List Tb}{p:Pl}(h:¬gO ts p=0)(a:Bw w W):BW ts p w (.returned (.tuple #[.slice none 0 0,.int .i64 (gO ts p)])) W:=
 ⟨_,λ_=>False,rfl,by unfold VC;rw[VU h];exact fQ.nil _ _,λ_ b=>b.elim,a⟩
theorem nu{p:Pl}(h:iK p=0):eR p=true:=by
 unfold iK at h;split at h;.split at h;(.assumption);.cases h
 .cases h
theorem D4:cr 13:=λargs a=>by kernel_rfl
theorem B4(p:fQ P w v r)(a:∀D∈r,dH n D)(E:n<=64)(s:r.length<=2147483648):Calls prog 26 #[v,.func (.func 13) #[] #[]] w λc b=>c=.returned (.tuple #[])/\fQ P b v (qV r)/\Ky (λB=>v.ownBlock=some B) w b:=by
 refine(oj p D4 (C:=cd) fE jJ (λg J K e f d z A x y=>?_) s).mono ?_;.obtain⟨i,k,rfl,m,_⟩:=x;obtain⟨j,l,rfl,o,_⟩:=y;have F:=(a e z).len;have G:=(a f A).len;exact up i j k l e f g (by unfold maxLen;omega) (by unfold maxLen;omega) m o
 .rintro c b ⟨rfl,I,t,u,q,d,_⟩;rw[<-B0 a t u];exact⟨rfl,q,d⟩
theorem ud(b:List Tb)(W:∀WW∈b,WW.fin)(V5:Sk b)(Wy:b.length<=1048576)(R:Option Addr)(V0:Nat)(a:Pl)(D:a.fin)(Ww:a.aQ)(X:bC b a<=2147483647)(t:Pm)(d:World)(V3:hI d a t)(V2:lZ d R b):Calls prog 8 #[a.val t,.slice R b.length V0] d (BW b a d):=by
 have V4:=am (VT _ d) (a.box t);have p:=H (dL.new d a t);have g:=H V4;have l:=H (yU b W Wy R V0 (d.alloc (a.box t)) (V2.aa V4));have A:=H (λ(i:World) (T:Bw d i)=>t6 a D t i (V3.aa T));have B:=H (λ(V6:eI b=true) (q:eR a=true) (i:World) (T:Bw d i)=>tk b V6 W Wy R V0 a D q t i (V3.aa T) (V2.aa T));have K:=H (λ(f:e5 b=true) (q:eR a=true) (n:(bK b a).1=0)=>And.intro (λV8 WY WT VZ WV=>rY f V5 W (w0:=V8) a.size a bi D Ww q n X WY WT VZ 0 WV) (And.intro (hP f V5 a.size a bi D q n X) (iR (by unfold e5 at f;simp only[cc] at f;exact f.1) a.size a bi q n X)));have M:=H (λ(V6:eI b=true) (q:eR a=true) (n:(bK b a).1=0)=>hW V6 a.size a bi q n);obtain⟨J,e⟩:=bj (gO b a);have Wf:=H e;have Wa:Hid (∀i r G Q,fQ Q r G (VC b a)->(∀k,Q k->i.heap.size<=k/\k<r.heap.size)->Bw i r->BW b a i (.returned (.tuple #[G,.int .i64 J])) r):=λi r G Q WP WQ WR=>⟨G,Q,by rw[e],WP,WQ,WR⟩;have z:Hid (¬J=0->∀r,Bw d r->BW b a d (.returned (.tuple #[.slice none 0 0,.int .i64 J])) r):=λh r q=>by have:=BW.err (ts:=b) (p:=a) (by rw[e];exact h) q;rw[e] at this;exact this
 obtain⟨WZ,V1⟩:=bj (BW b a d);have WC:=H V1;rw[V1] at z ⊢;unfold gO at e;rw[Pl.ad] at ⊢;simp only[Pl.ad] at A B;unfold Pl.box at p g l;obtain⟨W5,V7⟩:=bn (d.alloc (a.box t));rw[<-V7] at p g l;have P:=H V7;clear V7 V4 V3 D W V2 V5 Ww X V1;cases f:e5 b;case false=>rw[f] at e l;simp only[Bool.false_eq_true,if_false] at e l;subst e;clear B K A M f;go_enter func8,ntmps8;go_upto_region 1 with fail;rw[<-U P];go_wp2_with (go_at_call 22;refine(U l).mono ?_;rintro o V9 ⟨rfl,c⟩;have m:=H ((U p).aa c).load;rw[Pl.ad] at m);exact U z (by decide) _ (ac (U g) c)
 rw[f] at e l;simp only[if_true] at e l;have WA:eI b=true:=by unfold e5 at f;simp only[cc] at f;exact f.1
 have Y:=H (λh=>nu (p:=a) h);have WD:=H f;have Wj:=H WA;clear f WA;generalize iK a=Wk at *;by_cases C:Wk=0;case neg=>rw[VU C] at e;subst e;(have WM:(Wk != 0)=true:=by simpa using C);have VW:=H C;clear B K Y M C;go_enter func8,ntmps8;go_upto_region 1 with fail;rw[<-U P];go_wp2_with (first | (refine a1 ?_ 28 (.tmp 2) rfl _ (by simp[Act.eval]) _ (U m) ?_;. simp[Region.wanted,yielded]) | (go_at_call 23;refine(U A _ (ac (U g) c)).mono ?_;rintro o WB ⟨rfl,j⟩;have u:=H ((U p).aa (ac c j)).load;rw[Pl.ad] at u) | (go_at_call 22;refine(U l).mono ?_;rintro o V9 ⟨rfl,c⟩;have m:=H ((U p).aa c).load;rw[Pl.ad] at m));exact U z (U VW) _ (ac (U g) (ac c j))
 subst C;rw[ba rfl] at e;have V:=U Y rfl;have Wd:=H (U B (U Wj) V);have L:=H (U K (U WD) V);have N:=H (U M (U Wj) V);clear B K Y M V;have Wh:Hid (VC b a=if J=0 then qV (cg b a) else []):=by show _=_;unfold VC;rw[U Wf]
 clear Wf;generalize bK b a=WN at *;obtain⟨Wl,W3⟩:=WN;simp only at e L N;subst e;by_cases n:Wl=0
 .subst n;obtain⟨Wm,Wr,WS⟩:=U L rfl;have Wv:=(U N rfl).hi;have We:=H Wm;have WH:=H Wr;have Wx:(cg b a).length<=2147483648:=by have:=dl b a;omega
  have Wi:=H Wx;have Wg:=H Wv;clear L N Wm Wr WS Wx Wv z;go_enter func8,ntmps8;go_upto_region 1 with fail;rw[<-U P];go_upto_region 10 with (first | (refine a1 ?_ 28 (.tmp 2) rfl _ (by simp[Act.eval]) _ (U u) ?_;. simp[Region.wanted,yielded]) | (refine a1 ?_ 28 (.tmp 2) rfl _ (by simp[Act.eval]) _ (U m) ?_;. simp[Region.wanted,yielded]) | (go_at_call 24;refine(U Wd _ (ac (U g) (ac c j))).mono ?_;rintro o v ⟨w,rfl,F,x⟩;have VX:=H F;have s:=H (am (VT _ v) (Nv.box w));clear F;rw[Nv.open_]) | (go_at_call 23;refine(U A _ (ac (U g) c)).mono ?_;rintro o WB ⟨rfl,j⟩;have u:=H ((U p).aa (ac c j)).load;rw[Pl.ad] at u) | (go_at_call 22;refine(U l).mono ?_;rintro o V9 ⟨rfl,c⟩;have m:=H ((U p).aa c).load;rw[Pl.ad] at m));obtain⟨I,Wz⟩:=bj (v.alloc (Nv.box w));have O:=H (ii.new v w).s;unfold Nv.box at O;rw[Wz] at s O ⊢;have Wp:Dd I b a w:=(U VX (by first|trivial|rfl)).2.2 I ((ac (ac (U g) (ac c j)) (ac x (U s))) |> λh=>(ac x (U s))) λVZ y=>(U s).block VZ y.2;have Z:=H (U We I w Wp v.heap.size (U O));obtain⟨W0,Wt⟩:=bn v.heap.size;rw[<-Wt] at Z ⊢;have WI:=H (Aw (w0:=I) (W:=I) (by have:=U Wg;omega) (U Z) (U Wi) VS);have Wb:=H (ac (ac (U g) (ac c j)) (ac x (U s)));clear Wp Wt Wz VX O Z We c j x s
  go_wp2_with (first
   | (go_at_call 26;refine(U WJ).mono ?_;rintro o WX ⟨rfl,Wn,E⟩;have WG:=H Wn;have WE:=H E;clear Wn E)
   | (go_at_call 25;refine(U WI).mono ?_;rintro o W4 ⟨G,WK,rfl,S,Wq,Ws⟩;have VY:=H Wq;have Wc:=H Ws;have WF:=H S;obtain⟨WL,WO,rfl⟩:=S.form;have WJ:=H (B4 S (U WH) (by have:=U Wg;omega) (U Wi));clear S Wq Ws))
  have W1:=(U Wb).size;have W2:=(U Wc).size;have E:=U WE;have WU:∀k,(Value.slice WL (cg b a).length WO).ownBlock=some k->d.heap.size<=k:=λk y=>by have:=(U VY k ((U WF).g k y)).1;omega
  have Wu:=U Wa d WX _ WK (by rw[U Wh,ba (by first|trivial|rfl)];exact U WG) (λk y=>⟨by have:=(U VY k y).1;omega,by have:=(U VY k y).2;have:=E.size;omega⟩) ((ac (U Wb) (U Wc)).trans (E.below WU (by omega)));rw[U WC] at Wu;exact Wu
 ·(have WM:(Wl != 0)=true:=by simpa using n);have VW:=H n;clear L N Wh n Wa;go_enter func8,ntmps8;go_upto_region 1 with fail;rw[<-U P];go_wp2_with (first | (refine a1 ?_ 28 (.tmp 2) rfl _ (by simp[Act.eval]) _ (U u) ?_;. simp[Region.wanted,yielded]) | (refine a1 ?_ 28 (.tmp 2) rfl _ (by simp[Act.eval]) _ (U m) ?_;. simp[Region.wanted,yielded]) | (go_at_call 24;refine(U Wd _ (ac (U g) (ac c j))).mono ?_;rintro o v ⟨w,rfl,F,x⟩;have VX:=H F;have s:=H (am (VT _ v) (Nv.box w));clear F;rw[Nv.open_]) | (go_at_call 23;refine(U A _ (ac (U g) c)).mono ?_;rintro o WB ⟨rfl,j⟩;have u:=H ((U p).aa (ac c j)).load;rw[Pl.ad] at u) | (go_at_call 22;refine(U l).mono ?_;rintro o V9 ⟨rfl,c⟩;have m:=H ((U p).aa c).load;rw[Pl.ad] at m));exact U z (U VW) _ (ac (ac (U g) (ac c j)) (ac x (U s)))
def nD(c:List Int)(d:List aH):Prop:=∀(a:Nat) (b:aH),d[a]?=some b->kr (c.getD a 0) b
theorem hb(d:nD C x)(e:nD K y)(f:x.length=C.length):nD (C++K) (x++y):=λb c a=>by
 rcases Nat.lt_or_ge b x.length with h|h
 .rw[eK h] at a
  have:=d b c a
  rwa [cQ,eK (by omega),<-cQ]
 .rw[ez h] at a
  have:=e _ c a
  rw[cQ,ez (by omega),<-cQ]
  rwa [f] at this
theorem oA(b:List Int)(c:Nat):nD b (List.replicate c aH.null):=λd e a=>by
 have:=VQ a
 rw[(List.mem_replicate.1 this).2]
 exact ej _
theorem AQ(h:kr I c):nD [I] [c]:=λb d a=>by
 match b,a with
 | 0,a=>simp at a;subst a;exact h
 | b+1,a=>simp at a
theorem pF(h:nD C x)(a:Nat):kr (C.getD a 0) (x.getD a .null):=by
 rw[cQ (l:=x)];cases b:x[a]? with
 | none=>exact ej _
 | some c=>exact h a c b
theorem pE{α:Type}{c:List α}{d:α->aH}{e:α->Int}(h:∀x∈c,kr (e x) (d x)):nD (c.map e) (c.map d):=λf g a=>by
 rw[bL] at a
 cases b:c[f]? with
 | none=>rw[b] at a;cases a
 | some x=>
  rw[b] at a
  injection a with a
  subst a
  rw[cQ,bL,b]
  exact h x (VQ b)
theorem ux(a:Nat)(b:Int):kr 1 (kx a b):=by unfold kx;split;exact ej _;exact hQ _
theorem Dx(h:∀b∈x,kr I b):kr I (gX J x):=by
 have key:∀(a:List aH),(∀b∈a,kr I b)->∀c,kr I c->kr I (a.foldl (f7 J) c):=by
  intro a
  induction a with
  | nil=>intro _ c d;exact d
  | cons b a i=>
   intro e c d
   refine i (λj g=>e j (by simp[g])) _ ?_
   have f:=e b (by simp)
   unfold f7
   repeat' split
   all_goals first|exact d|exact f
 exact key x h _ (ej _)
theorem ta(d:¬I=4)(e:¬I=5)(c:List aH):gX I c=.null:=by
 have key:∀(b:List aH) (a:aH),b.foldl (f7 I) a=a:=by
  intro b
  induction b with
  | nil=>intro a;rfl
  | cons g b f=>
   intro a
   rw[List.foldl_cons]
   have:f7 I a g=a:=by unfold f7;rw[VU d,VU e];split<;>rfl
   rw[this];exact f a
 exact key c _
theorem Dy(h:∀b∈r,nD C b)(a:Int×Int):kr (i4 C a) (gV a.1 (g2 a.2 r)):=by
 have f:∀e∈g2 a.2 r,kr (h6 C a.2) e:=λe d=>by unfold g2 at d;obtain⟨b,g,rfl⟩:=b6 d;have:=pF (h b g) a.2.toNat;unfold h6;rwa [cQ (l:=C)] at this
 unfold gV i4;by_cases c:a.1=4∨a.1=5;.rw[ba (by simpa using c),VU (by omega),VU (by omega),VU (by omega),VU (by omega)];exact Dx f
 .rw[VU (by simpa using c)];(repeat' split);(.exact hQ _);(.exact hQ _);(.exact ux _ _);(.exact hQ _);.rw[ta (by omega) (by omega)];exact ej _
theorem vR(h:∀b∈r,nD C b):∀b∈fk p r,nD (hS C p.cols p.aggs) b:=λb c=>by
 unfold fk at c
 obtain⟨d,e,rfl⟩:=b6 c
 have k:=fh (tL p.cols) p.cols r d e
 have n:∀b∈d.2,nD C b:=λb c=>by rw[k] at c;exact h b (List.mem_filter.1 c).1
 unfold dO hS
 have a:d.1.length=p.cols.length/\nD (p.cols.map (h6 C)) d.1:=by
  rcases(gq p.cols r d.1).1 (fA e) with a|⟨q,m,g⟩
  .unfold g0 at a
   split at a
   .rename_i j
    simp at a
    rw[a,j]
    exact⟨rfl,λs t o=>by simp at o⟩
   .cases a
  .rw[<-g]
   refine⟨by simp[eC],?_⟩
   unfold eC
   exact pE λf _=>by
    have:=pF (h q m) f.toNat
    unfold h6
    rwa [cQ (l:=C)] at this
 exact hb a.2 (pE λi _=>Dy n i) (by rw[a.1,bQ])
theorem AM{p:Pl}(h:∀d∈r,nD C d):∀e∈gY p r,kr (if p.fn == 6 then h6 C p.aj else 1) e:=λe a=>by
 unfold gY at a
 split at a
 .rename_i f
  rw[f]
  unfold kJ at a
  obtain⟨b,_,rfl⟩:=b6 a
  exact hQ _
 .split at a
  .rename_i i
   rw[VU (by simp;omega)]
   unfold fg at a
   obtain⟨b,_,rfl⟩:=b6 a
   exact hQ _
  .split at a
   .rename_i c
    rw[ba (by simpa using c)]
    unfold eY at a
    obtain⟨b,_,rfl⟩:=b6 a
    split
    .rw[cQ (l:=r)]
     cases g:r[b-p.n.toNat]? with
     | none=>exact ej _
     | some d=>
      have:=pF (h d (VQ g)) p.aj.toNat
      unfold h6
      rwa [cQ (l:=C)] at this
    .exact ej _
   .rename_i c
    rw[VU (by simpa using c)]
    unfold fd at a
    obtain⟨b,_,rfl⟩:=b6 a
    split
    .exact hQ _
    .exact ux _ _
theorem td(h:∀a∈r,nD C a)(m:∀a∈r,a.length=C.length):∀a∈eE p r,nD (hM C p.fn p.aj) a:=λa b=>by
 unfold eE at b
 obtain⟨c,d,b⟩:=List.mem_flatMap.1 b
 have o:=fh (l0:=[]) (λc d=>by cases d) p.cols r c d
 have g:∀a∈cj p.keys c.2,nD C a/\a.length=C.length:=λa b=>by
  have:=(cB p.keys c.2).mem_iff.1 b
  rw[o] at this
  exact⟨h a (List.mem_filter.1 this).1,m a (List.mem_filter.1 this).1⟩
 unfold fv at b
 obtain⟨i,k,e⟩:=List.mem_iff_getElem.1 b
 rw[List.getElem_zipWith] at e
 rw[<-e]
 rw[List.length_zipWith] at k
 have f:=g _ (List.getElem_mem (l:=cj p.keys c.2) (n:=i) (by omega))
 have j:=AM (p:=p) (λa b=>(g a b).1) _ (List.getElem_mem (l:=gY p (cj p.keys c.2)) (n:=i) (by omega))
 unfold hM
 exact hb f.1 (AQ j) f.2
theorem AP(g:e5 T=true){f:Tb}(l:f∈T):∀e∈f.rows,nD (f.cols.map Prod.snd) (cp e):=λe k=>by
 unfold e5 at g
 simp only[cc,Bool.not_eq_true'] at g
 have j:=cL g.2 l
 unfold Vr at j
 have b:=cL j k
 simp only[Bool.not_eq_false'] at b
 unfold U1 at b
 simp only[cc,cF,Bool.not_eq_true',bQ] at b
 intro d o a
 unfold cp at a
 rw[bL] at a
 cases i:e[d]? with
 | none=>rw[i] at a;cases a
 | some m=>
  rw[i] at a
  injection a with a
  subst a
  obtain⟨n,rfl⟩:=bD i
  have c:=cL b.2 (x:=(e[d],(f.cols.map Prod.snd)[d]'(by rw[bQ];omega))) (by
   rw[List.mem_iff_getElem]
   exact⟨d,by rw[List.length_zip,bQ];omega,by rw[List.getElem_zip]⟩)
  simp only[Bool.not_eq_false'] at c
  unfold p8 at c
  simp only[Bool.not_eq_true',Bool.or_eq_false_iff,Bool.and_eq_false_iff,decide_eq_false_iff_not,Decidable.not_not] at c
  rw[cQ,VR (by rw[bQ];omega)]
  exact c.1
theorem uV(d:x.length=C.length)(f:nD C x)(a:cY C e=0):kr (kK C e) (bZ x e):=by
 unfold kK;rw[ba a];unfold cY at a;split at a;.rename_i b;simp only[cc] at b;split at a;(.rename_i g;obtain⟨i,c⟩:=Option.isSome_iff_exists.1 g;unfold bZ;rw[ba b.1.1,c];exact wB C x d f e (da b.1.1) i c);.cases a
 .cases a
theorem oS:∀c∈dQ n m k e o r,c.1∈r:=λc a=>by
 unfold dQ kp at a
 obtain⟨d,b,e⟩:=List.mem_filterMap.1 a
 split at e
 .injection e with e;subst e;exact b
 .split at e
  .injection e with e;subst e;exact b
  .cases e
theorem rG(u:n<2):∀d∈el n m k e o r A,(∃h∈r,∃b∈A,d=jz n h b)∨∃c∈(if n=0 then r else A),d=c++List.replicate k aH.null:=λd a=>by
 unfold el at a
 rcases cM a with a|a
 .unfold fw at a
  obtain⟨b,i,a⟩:=List.mem_flatMap.1 a
  unfold gj at a
  rcases cM a with a|a
  .obtain⟨s,j,rfl⟩:=b6 a
   have g:=pW s j
   refine .inl ⟨_,?_,b,i,rfl⟩
   rw[cQ,bL,VR g]
   exact oS _ (List.getElem_mem g)
  .split at a
   .rename_i h
    simp only[cc,cF] at h
    rw[List.mem_singleton] at a
    refine .inr ⟨b,?_,a⟩
    rw[VU (by omega)]
    exact i
   .cases a
 .unfold VG at a
  obtain⟨c,l,e⟩:=List.mem_filterMap.1 a
  split at e
  .rename_i f
   simp only[cc,cF] at f
   injection e with e
   obtain⟨t,p,q⟩:=b6 (List.of_mem_zip l).1
   refine .inr ⟨c.1,?_,e.symm⟩
   rw[ba f.1.2,<-q]
   exact oS t p
  .cases e
theorem wW(d:p.op=8∨p.op=11)(j:BF T p):∀b∈p.args,(bK T b).2=bV (cy T p):=λb k=>by
 have f:=j.z
 have m:(bA T p (cy T p)).1=if ((cy T p).drop 1).any (λa=>!decide (a=bV (cy T p))) then 4 else 0:=by unfold bA;rcases d with d|d<;>rw[d]<;>rfl
 rw[m] at f
 have i:((cy T p).drop 1).any (λa=>!decide (a=bV (cy T p)))=false:=by
  cases l:((cy T p).drop 1).any (λa=>!decide (a=bV (cy T p))) with
  | false=>rfl
  | true=>rw[l] at f;simp at f
 have c:(bK T b).2∈cy T p:=fA k
 cases g:cy T p with
 | nil=>rw[g] at c;cases c
 | cons o n=>
  rw[g] at c i
  rcases dr c with e|e
  .rw[e];rfl
  .have:=cL i (x:=(bK T b).2) (by simpa using e)
   simpa using this
theorem q9{c:List Tb}(F:e5 c=true)(M:Sk c):∀(D:Nat) (b:Pl),b.size<=D->b.fin->eR b=true->(bK c b).1=0->bC c b<=2147483647->∀g∈cg c b,nD (bK c b).2 g
 | 0,b,G,_,_,_,_=>by rw[Pl.ak] at G;omega
 | D+1,b,G,K,S,Y,W=>by
  have t:=iq S Y;have o:=t.a2;have X:∀a∈b.args,a.size<=D:=λa e=>by have:=Pl.az e;rw[Pl.ak] at G;omega
  have O:∀a∈b.args,bC c a<=2147483647:=λa e=>by have:=hv o e W;omega
  have L:∀a∈b.args,a.fin:=λa e=>Pl.av (Pl.an K).2.2 e;have p:∀a∈b.args,∀g∈cg c a,nD (bK c a).2 g:=λa e=>q9 F M D a (X a e) (L a e) (t.c a e).1 (t.c a e).2 (O a e);have y:∀a∈b.args,∀g∈cg c a,dH (bK c a).2.length g:=λa e=>hP F M a.size a bi (L a e) (t.c a e).1 (t.c a e).2 (O a e);have one:b.args.length=1->∃a,a∈b.args/\n9 (b.args.map (cg c))=cg c a/\bV (cy c b)=(bK c a).2:=λR=>by obtain⟨a,e⟩:=List.length_eq_one_iff.1 R;exact⟨a,by rw[e];simp,by rw[e];rfl,by unfold cy bV;rw[e];rfl⟩
  have q:∀{l:List Int},(bA c b (cy c b)).2=l->(bK c b).2=l:=λh=>by rw[t.o,h]
  rw[iS];rcases fN o with d|d|d|d|d|d|d|d|d|d|d|d
  .unfold ef
   rw[ba d]
   intro g f
   cases A:c.find? (λJ=>decide (J.name=b.au)) with
   | none=>rw[A] at f;cases f
   | some J=>
    rw[A] at f
    obtain⟨v,u,rfl⟩:=b6 f
    rw[q (l:=J.cols.map Prod.snd) (by unfold bA nI;rw[d,A];rfl)]
    exact AP F (List.mem_of_find?_eq_some A) v u
  .obtain⟨a,e,i,j⟩:=one (jc d o).1;unfold ef;rw[VU (by omega),ba d,i,q (l:=(bK c a).2) (by unfold bA;rw[d];exact j)];intro g f;split at f;(.exact p a e g (List.mem_filter.1 f).1);.cases f
  .obtain⟨a,e,i,j⟩:=one (jU d o).1;(have x:mj (bV (cy c b)) b.ex=0:=by have:=t.z;unfold bA at this;rw[d] at this;exact this);unfold ef;rw[VU (by omega),VU (by omega),ba d,i,q (l:=fx (bV (cy c b)) b.ex) (by unfold bA;rw[d];rfl)];rw[j] at x ⊢;intro g f;obtain⟨v,u,rfl⟩:=b6 f;unfold fx ig;refine pE λs z=>?_;(have T:cY (bK c a).2 s=0:=by unfold mj at x;split at x;(.cases x);.split at x;(.cases x);.rename_i m;(have V:∀k∈b.ex,cY (bK c a).2 k=0:=by simpa using m);exact V s z);have:=uV (y a e v u).len (p a e v u) T;rcases this with h|h;(.exact .inl h);.by_cases Q:kK (bK c a).2 s=0;(.exact .inl (h.trans Q));.refine .inr ?_;(have:0<=(bZ v s).k:=by have:=(iD (y a e v u).val (Ex.av (Pl.an K).2.1 z)).2.2;unfold bk at this;rw[<-this];split;(.simp[aH.num]);.split;(.simp[aH.str]);.simp[aH.null]);omega
  all_goals first
   | (have I : b.op = 4 ∨ b.op = 5 := by omega
      have N : b.args.length = 2 ∧ b.ex.length = 1 := by rcases I with d | d; exact h3 d o; exact Vp d o
      obtain ⟨k, w, n⟩ := hN N.1
      obtain ⟨s, z⟩ : ∃ s, b.ex = [s] := List.length_eq_one_iff.1 N.2
      have C := p k (by rw [n]; simp)
      have P := p w (by rw [n]; simp)
      have E := y k (by rw [n]; simp)
      have VX := y w (by rw [n]; simp)
      have Z : kq c b 0 = (bK c k).2.length := by unfold kq; rw [n]; rfl
      have VW : kq c b 1 = (bK c w).2.length := by unfold kq; rw [n]; rfl
      rw [q (l := (bK c k).2 ++ (bK c w).2) (by unfold bA cy bV gU; rcases I with d | d <;> rw [d, n] <;> rfl)]
      unfold ef
      rw [VU (by omega), VU (by omega), VU (by omega), ba I]
      intro g f
      unfold oR at f
      rw [z, n] at f
      change g ∈ (if zV c b 0 < zV c b 1 then el 0 (kq c b 0) (kq c b 1) s (b.op == 5) (cg c k) (cg c w) else el 1 (kq c b 0) (kq c b 1) s (b.op == 5) (cg c w) (cg c k)) at f
      rw [Z, VW] at f
      split at f
      . rcases rG (by omega) g f with ⟨h, B, r, m, rfl⟩ | ⟨r, m, rfl⟩
        . exact hb (C h B) (P r m) (E h B).len
        . exact hb (C r m) (oA _ _) (E r m).len
      . rcases rG (by omega) g f with ⟨h, B, r, m, rfl⟩ | ⟨r, m, rfl⟩
        . exact hb (C r m) (P h B) (E r m).len
        . exact hb (C r m) (oA _ _) (E r m).len)
   | skip
  .obtain⟨a,e,i,j⟩:=one (Vq d o).1;unfold ef;rw[VU (by omega),VU (by omega),VU (by omega),VU (by omega),ba d,i,q (l:=hS (bV (cy c b)) b.cols b.aggs) (by unfold bA;rw[d];rfl),j];exact vR (p a e)
  .obtain⟨a,e,i,j⟩:=one (jT d o);unfold ef;rw[VU (by omega),VU (by omega),VU (by omega),VU (by omega),VU (by omega),ba d,i,q (l:=(bK c a).2) (by unfold bA;rw[d];exact j)];exact λg f=>p a e g (qa _ _ g f)
  .unfold ef;rw[VU (by omega),VU (by omega),VU (by omega),VU (by omega),VU (by omega),VU (by omega),ba d,q (l:=bV (cy c b)) (by unfold bA;rw[d];rfl)];intro g f;obtain⟨v,u,f⟩:=List.mem_flatten.1 f;obtain⟨a,e,rfl⟩:=b6 u;rw[<-wW (.inl d) t a e];exact p a e g f
  .obtain⟨a,e,i,j⟩:=one (jS d o);unfold ef;rw[VU (by omega),VU (by omega),VU (by omega),VU (by omega),VU (by omega),VU (by omega),VU (by omega),ba d,i,q (l:=(bK c a).2) (by unfold bA;rw[d];exact j)];exact λg f=>p a e g (ui g f)
  .obtain⟨a,e,i,j⟩:=one (gd d o).1;unfold ef;rw[VU (by omega),VU (by omega),VU (by omega),VU (by omega),VU (by omega),VU (by omega),VU (by omega),VU (by omega),ba d,i,q (l:=hM (bV (cy c b)) b.fn b.aj) (by unfold bA;rw[d];rfl),j];exact td (p a e) λg f=>(y a e g f).len
  .obtain⟨k,w,n⟩:=hN (iy d o);(have i:n9 (b.args.map (cg c))=cg c k:=by rw[n];rfl);(have j:bV (cy c b)=(bK c k).2:=by unfold cy bV;rw[n];rfl);unfold ef;rw[VU (by omega),VU (by omega),VU (by omega),VU (by omega),VU (by omega),VU (by omega),VU (by omega),VU (by omega),VU (by omega),ba d,i,q (l:=(bK c k).2) (by unfold bA;rw[d];exact j)];exact λg f=>p k (by rw[n];simp) g (qa _ _ g f)
  .unfold ef;rw[VU (by omega),VU (by omega),VU (by omega),VU (by omega),VU (by omega),VU (by omega),VU (by omega),VU (by omega),VU (by omega),VU (by omega)];intro g f;cases f
end Go.Proofs.YtklgoolblpmmlaaGreat
