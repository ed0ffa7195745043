import Derived.Test.YtklgoolblpmmlaaGreatBgX
import Derived.Test.YtklgoolblpmmlaaGreatLkA
set_option linter.all false
set_option maxHeartbeats 4000000
set_option maxRecDepth 100000
namespace Go.Proofs.YtklgoolblpmmlaaGreat
open Go.RowKit Go.Sort Go.Lib Go.Proofs.Tryz
structure Dg(w0:World)(wd:Nat)(vI:Value)(φ:List (List aH)->List (List aH))(St:(Nat->Prop)->List (List aH)->World->Prop):Prop where
 i:∃t p,vI=.iface t p
 add:∀O ys W a c r,St O ys W->Bw w0 W->ys.length+1<=2147483648->dH wd r->bX W a r->(∀b off,a=some ⟨b,off,none⟩->r≠[]->¬O b)->sE a->∃n args,xf (.func (.method "Add") #[vI] #[]) (.slice a r.length c) n args/\Calls prog n args W (gm St O (ys++[r]) W)
 rows:∃n args,(∀w,(invoke (.fn (.method "Rows") #[]) #[vI]).run prog w=.ok (.enter n args) w)/\∀O ys W,St O ys W->Bw w0 W->ys.length<=2147483648->Calls prog n args W λe w'=>∃v O',e=.returned v/\vd O' w' v (φ ys)/\Ky O W w'/\Nw O O' W/\∀k,O' k->k<w'.heap.size
 stb:qA w0 St
variable{W w:World}{i j k m n:Nat}{r:List (List aH)}{p:Pl}{g:Pm}
theorem pk{k:Array Oper}{rest:List Oper}{a:Oper}{b:Act}{f:Exit->Act->World->Prop}(q:a.guard=none)(x:Operand)(j:String)(v:Array TypeId)(r:a.op=Op.call { callee:=.invoke x j,args:=#[],argTypes:=v })(i:Value)(u:b.eval x=i){args:Array Value}(m:∀w,(invoke (.fn (.method j) #[]) #[i]).run prog w=.ok (.enter n args) w){g:Ending->World->Prop}(l:Calls prog n args w g) (h:∀c d,g c d->∃e,c=.returned e/\wpList prog k f rest (b.put a.dst e) d):wpList prog k f (a::rest) b w:=by
 refine wpList_plain q λy o=>?_;unfold Oper.wp;have s:(execOp b.eval a).run prog w=.ok (.enter n args) w:=by have:=m w;simp only[execOp,r,resolve];simpa [u] using this
 rw[s,Oper.upon_enter];refine l.mono ?_;rintro c d p;obtain⟨e,rfl,t⟩:=h c d p;exact o _ _ t
theorem n7{α:Type}{a:List α}{x:α}(h:a[n]?=some x):a.take (n+1)=a.take n++[x]:=by rw[List.take_add_one,h];rfl
structure GI(Inv:(Nat->Prop)->List (List aH)->World->Prop)(F:Nat->Prop)(zs rs:List (List aH))(w3:World)(k:Nat)(F':Nat->Prop)(wr:World):Prop where
 i:Inv F' (zs++rs.take k) wr
 nw:Nw F F' w3
 ky:Ky F w3 wr
theorem fH{x:Nv}(X:ge w n m x)(Xn:x.na=some ⟨k,0,none⟩)(XL:0<x.nl){φ:List (List aH)->List (List aH)} (Wk:∀e,Bw w e->Calls prog 138 #[x.q.val x.m] e λE WQ=>∃Y D y,E=.returned Y/\Dg w j Y φ D/\D y [] WQ/\(∀a,y a->e.heap.size<=a)/\Bw e WQ) (We:cU 40 w k 0 j r) (WK:r.length<=2147483648) (WL:∀c∈φ r,dH i c) (XN:(φ r).length<=2147483648):cU 75 w n m i (φ r):=by
 intro W9 F V9 q VW e V Wl G Wp XH;obtain⟨b,XC,XO,rfl⟩:=V.fn;have Wy:=(X.e.aa G).load;have V2:=H Wy;have V3:=H (Wk e G);have Q:=X.a;rw[Xn] at Q;have XG:(0:Int)<(x.nl:Int):=by omega
 have VZ:=H Q;have C:=H V;have N:=H Wl;have VY:=H We;have v:=H G;have W1:=H Wp;have W4:=H WL;clear Q V Wl We X Wy G Wk Wp WL;go_enter func75,ntmps75
 go_upto_region 1 with (first
  | (refine a1 (by rfl) 28 (.tmp 9) rfl _ (by rfl) _ (U V2) ?_)
  | (go_at_call 138;refine(U V3).mono ?_;rintro _ g ⟨Y,D,y,rfl,W,WJ,WE,Wt⟩;obtain⟨L,J,rfl⟩:=W.i;have B:=H W;have W6:=H WJ;have P:=H WE;have A:=H Wt;clear W WJ WE Wt))
 have s:=ac (U v) (U A);have Ws:Tk w r j (.func (.method "Add") #[.iface L J] #[]) D:=by refine⟨⟨_,_,_,rfl⟩,λWS Xu Xa Xb Xc c o Xi Xl p Xg Xm Xf=>?_,(U B).stb⟩;exact(U B).add WS Xu Xa Xb Xc c o Xi (by have:=Xl.length_le;simp at this;omega) p Xg Xm Xf
 have V0:=H (U VY r _ _ y [] g.drew Ws ((U B).stb.keep (U W6) (Ky.ab (F:=λ_=>False) (VT _ g).drew) λ_ _=>id) (ac s (VT _ g).drew) (List.prefix_refl _) WK);have l:Hid (g.drew.cell? ⟨n,m+15,none⟩=some (.slice (some ⟨k,0,none⟩) x.nl x.nc)):=ae (ae (U VZ) s) (VT _ g).drew;clear Ws s;refine bH (λe:World=>e.cell? ⟨n,m+15,none⟩=some (.slice (some ⟨k,0,none⟩) x.nl x.nc)) 8 ?_;refine ap 0 (.pointer (some ⟨n,m,none⟩)) rfl (U l) ?_;refine ap 1 (.pointer (some ⟨n,m,none⟩)) rfl (U l) ?_;refine ap 2 (.pointer (some ⟨n,m+15,none⟩)) rfl (U l) ?_;refine ap 3 (.slice (some ⟨k,0,none⟩) x.nl x.nc) rfl (U l) ?_;refine ap 4 (.pointer (some ⟨k,0,none⟩)) rfl (U l) ?_;refine ap 5 (.iface L J) rfl (U l) ?_;refine ap 6 (.iface L J) rfl (U l) ?_;refine ap 7 (.func (.method "Add") #[.iface L J] #[]) rfl (U l) ?_;refine bh 8 rfl λW8 Wm=>?_;go_simp;refine(U V0).mono ?_;rintro _ Z ⟨rfl,Wa,WP,WN,WM⟩;go_simp;have W7:=H WP;have W2:=H WN;have V7:=H WM;clear WP WN WM;refine bE Wm ?_;clear Wm W8;refine cf ?_;obtain⟨XQ,Xz,Wh,Wf⟩:=(U B).rows;have s:=ac (U v) (U A);have Xw:=(U v).size;have Xv:=(U A).size;have S:Bw w g.drew:=ac s (VT _ g).drew;have Wq:∀a,y a->w.heap.size<=a:=λa b=>by have:=U P a b;omega
 have R:Bw w Z:=S.trans ((U V7).below Wq S.size);have Wn:Ky (λ_=>False) e Z:=((Ky.ab (U A)).trans (Ky.ab (VT _ g).drew) (Nw.refl _ _)).trans (U V7) λa b=>.inr (U P a b);have Wr:∀a,Wa a->e.heap.size<=a:=λa b=>by have XJ:g.drew.heap.size=g.heap.size:=rfl;rcases U W2 a b with b|b;(.exact U P a b);.omega
 have V1:=H (Wf Wa r Z (by simpa using U W7) R WK);have WX:=H Wh;have V5:=H Wn;have V8:=H Wr;have Xx:=H R;obtain⟨t,WD⟩:=bj ((φ r).length);have O:=H WD;have XM:t<=2147483648:=by omega
 clear Wh Wf s Xw Xv S Wq R Wn Wr WD
 go_wp2_with (first
  | (refine pk rfl (.tmp 21) _ _ rfl _ (by rfl) (U WX) (U V1) ?_;rintro _ z ⟨XT,Wb,rfl,⟨Xy,c3,rfl,WB⟩,WA,WC,Wu⟩;rw[U O];refine⟨_,rfl,?_⟩;have WZ:=H WB;have WY:=H WA;have W3:=H WC;have WT:=H Wu;clear WB WA WC Wu))
 have I:Ky (λ_=>False) e z:=(U V5).trans (U WY) λa b=>.inr (U V8 a b);have Wc:Bw w z:=(U v).trans (I.below (λa b=>b.elim) (U v).size);have Wi:∀a,q a->¬Wb a:=λa b K=>by have XE:=((U C).stb.foot (U N) a b).2;have XF:=(U V5).size;rcases U W3 a K with WO|WO;(.have:=U V8 a WO;omega);.omega
 have Wz:GI V9 q VW (φ r) z 0 q z:=⟨by simpa using(U C).stb.keep (U N) I λ_ _=>id,Nw.refl _ _,Ky.refl _ _⟩;have V4:=H Wz;have V6:=H I;have VX:=H Wc;have M:=H Wi;have W0:Hid (∀o c,(φ r)[o]?=some c->c∈φ r):=λo c h=>VQ h;clear Wz I Wc Wi V0 V1 V2 V3 VZ l VY;go_loopw[24] (λo wr=>∃(a:Nat) (u:Nat->Prop),a<=t/\o=.int .i64 (a:Int)/\Hid (GI V9 q VW (φ r) z a u wr)) (λo _=>t-(intOf o).toNat);case atStart=>exact⟨0,q,bt,rfl,V4⟩
 case round=>clear V4;obtain⟨a,u,XK,rfl,d⟩:=hrel;by_cases Xk:a<t;(·(have Xe:(a:Int)<(t:Int):=by omega);obtain⟨c,p⟩:∃c,(φ r)[a]?=some c:=⟨_,VR (by rw[U O];exact Xk)⟩;(have Wj:∀f,u f->¬Wb f:=λf b K=>by rcases(U d).nw f b with b|b;(.exact U M f b K);.have:=U WT f K;omega);obtain⟨XD,XR,XS,rfl,Xj,Ww,WI⟩:=U WZ a c p;have XI:=(U d).ky.cell Ww λb=>U M _ b Xj;obtain⟨Xs,Xt,rfl,WH,Wv,Xh⟩:=WI.ky (U d).ky λf b _ F=>U M f F b;have Wd:Bw w wr:=(U VX).trans ((U d).ky.below (λf b=>((U C).stb.foot (U N) f b).1) (U VX).size);(have WF:VW++(φ r).take a++[c] <+: W9:=by rw[cI,<-n7 p];exact List.IsPrefix.trans ((List.prefix_append_right_inj _).2 (List.take_prefix _ _)) (U W1));obtain⟨XP,XA,Wg,T⟩:=(U C).call u _ wr Xs Xt c (U d).i Wd WF (U W4 c (U W0 a c p)) WH (λn Xr b Xd F=>Wj n F (Wv n Xr b Xd).1) Xh;rw[cI,<-n7 p] at T;have WW:=H Wg;have WU:=H T;clear Wg T WF Wd WH Wv WI Ww Wj p;go_wp2_with (refine cX rfl (.tmp 28) (.tmp 29) _ rfl _ _ (by rfl) (by rfl) (U WW) (U WU) ?_;rintro XB XU WG;have W5:=H WG;obtain⟨Wx,_⟩:=WG;refine⟨_,Wx,?_⟩;clear Wx);go_roundw;(case rel=>obtain⟨_,WR,Xo,Xq,Xp⟩:=U W5;exact⟨a+1,WR,by omega,by go_num,Xo,(U d).nw.trans Xq (U d).ky.size,(U d).ky.trans Xp (U d).nw⟩);case measure=>simp[intOf];omega);·(have Xe:¬(a:Int)<(t:Int):=by omega);(have E:a=(φ r).length:=by rw[U O];omega);have WV:=H E;clear E;go_wp2;go_end0;have:=(U d).i;rw[U WV,dy] at this;exact⟨rfl,u,this,λf b=>by rcases(U d).nw f b with b|b;(.exact .inl b);.have:=(U V6).size;exact .inr (by omega),((U V6).mono λ_ b=>b.elim).trans (U d).ky (Nw.refl _ _)⟩
theorem qQ(a x:Value):xf (.func (.method "Add") #[.iface 204 a] #[]) x 261 #[a,x]:=λb=>by kernel_rfl
theorem pr(a:Value)(b:World):(invoke (.fn (.method "Rows") #[]) #[.iface 204 a]).run prog b=.ok (.enter 262 #[a]) b:=by kernel_rfl
theorem Aj{off:Nat}(h:n<=9223372036854775807):U2 n off<=9223372036854775807:=by unfold U2;omega
theorem Ah{w0:World}{gx B2 B:Nat}{aK:Option Addr}{cK:Nat}{ks:List (Int×Bool)}{wd off en:Nat}(hK:dh w0 aK ks)(hk0:eZ ks wd)(hwd:wd<=64)(hen:en<=9223372036854775807)(hof:off<=9223372036854775807) :
  Dg w0 wd (.iface 204 (.pointer (some ⟨gx,0,none⟩))) (nG ks off en) (vf w0 gx B2 B aK cK ks wd off en) where
 i:=⟨_,_,rfl⟩
 add O ys W a c r s hB hl hr ha _ hA:=⟨261,_,qQ _ _,sJ s hB hK hk0 hwd hl hen hr ha hA⟩
 rows:=⟨262,_,pr _,λO ys W s hB hl=>(qP s hB hK hk0 hwd hl hen hof).mono (by
  rintro e w' ⟨v,rfl,h1,h2⟩
  exact⟨v,O,rfl,h1,h2,Nw.refl _ _,λk q=>cN (s.lim k q).2 h2.size⟩)⟩
 stb:=uO
theorem tJ(o:p.op=9)(t:Bw w W)(u:dh w g.aK p.keys)(v:eZ p.keys k)(Q:k<=64)(x:p.n=(n:Int))(z:p.off=(m:Int))(y:n<=9223372036854775807)(A:m<=9223372036854775807):Calls prog 138 #[p.val g] W λP E=>∃D r d,P=.returned D/\Dg w k D (nG p.keys m (U2 n m)) r/\r d [] E/\(∀f,d f->W.heap.size<=f)/\Bw W E:=by
 obtain⟨i,a⟩:=bj (W.alloc (p.box g));have l:Bw W i:=by rw[<-a];exact am VS _
 have q:i.heap.size=W.heap.size+1:=by rw[<-a];simp
 have j:dL i W.heap.size 0 p g:=by rw[<-a];refine⟨?_,?_,?_,?_,?_,?_,?_,?_,?_,?_,?_⟩<;>simp[go_sem]
 have I:=H (pL (wd:=k) (m:=g) (ac t l) x z y A);have J:=H j.load;have F:=H l;have M:=H q;have K:=H (λe c b=>Ah (w0:=w) (gx:=e) (B2:=c) (B:=b) (cK:=g.cK) u v Q (Aj (off:=m) y) A);have O:=H a;have S:=j.c0;have T:(p.op == 6)=false:=by rw[o];decide
 have V:(p.op == 9)=true:=by rw[o];decide
 clear j l q a t u v x z o;rw[Pl.ad];go_enter func138,ntmps138;go_upto_region 1 with fail;rw[U O]
 go_wp2_with (first
  | (refine a1 (by rfl) 28 (.tmp 1) rfl _ (by rfl) _ (U J) ?_)
  | (go_at_call 185;refine(U I).mono ?_;rintro _ X ⟨e,c,b,d,rfl,C,B,s⟩;have N:=H C;have L:=H B;have G:=H s;clear C B s))
 go_ret;have q:=U M;exact⟨_,_,d,rfl,U K e c b,U N,λf R=>by have:=U L f R;omega,ac (U F) (U G)⟩
end Go.Proofs.YtklgoolblpmmlaaGreat
