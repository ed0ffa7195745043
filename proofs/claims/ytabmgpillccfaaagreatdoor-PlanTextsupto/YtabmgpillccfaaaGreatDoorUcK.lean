import Derived.Test.YtabmgpillccfaaaGreatDoorUcI
set_option linter.all false
set_option maxHeartbeats 4000000
set_option maxRecDepth 100000
namespace Go.Proofs.YtabmgpillccfaaaGreatDoor
open Go.RowKit Go.Sort Go.Proofs.Tryz
theorem GL.push2{α:Type}{b:Lk α}(f:b.Ok)(c:World)(x:TypeId)(base:Nat)(j:Value)(k:List α)(I:GL b c base j k)(n:α)(K:SK (NS c base j) c λy=>b.P y n)(e:Nat)(C:∀g l,(b.cells n)[g]?=some l->c.cell? ⟨e,g,none⟩=some l)(G:k.length+1<=1048577)(w:base<=c.heap.size):∃m d,(Builtin.append_ #[b.t,b.t] x #[j,.slice (some ⟨e,0,none⟩) 1 1]).run prog c=.ok m d/\GL b d base m (k++[n])/\Below base c d/\∀o:World->Prop,SK (NS c base j) c o->SK (NS d base m) d o:=by
 obtain⟨L,E,Q,R,S⟩:=info_parts f.hi;obtain⟨u,A⟩:=I;obtain⟨m,d,J,M,s,_,N⟩:=run_append_own_at (P:=prog) c base b.t x b.e L b.z b.sz b.bt f.hu E Q R S f.hz f.pos j k.length (k.flatMap b.cells) u ⟨e,0,none⟩ 1 1 (b.cells n) (by rw[f.len,Nat.one_mul]) (λg l F=>by(have z:(⟨e,0,none⟩:Addr).add g=⟨e,g,none⟩:=by by_cases h:g=0<;>simp[Addr.add,h]);rw[z];exact C g l F) (f.one n) (by unfold maxLen;omega) (aQ (Nat.mul_le_mul G f.bb) (by decide)) w;have q:fm (NS c base j) c d:=λt O l v D=>by rw[World.cell?_of_block (w:=c) (a:=⟨t,O,none⟩) (s.block t v.2.1 λp=>v.2.2 p.symm)];exact D
 have r:=NS.push (base:=base) s.size N;refine⟨m,d,J,⟨?_,λP i=>?_⟩,bP s w λe p=>(World.ownsRow.lt u e p).1,λo B=>B.kept q r⟩;.rw[List.flatMap_append,bj];simpa using M
 .rcases jD i with i|i;(.exact(A P i).kept q r);.rw[List.mem_singleton] at i;subst i;exact K.kept q r
theorem iW{α:Type}{b:Lk α}(x:b.Ok){r:Array Oper}{rest:List Oper}{e:Oper}{g:Act}{p:Exit->Act->World->Prop}(a:World)(A:e.guard=none)(l n:Operand)(m:TypeId)(C:e.op=.call { callee:=.builtin .append,args:=#[l,n],argTypes:=#[m,m] })(G:m=b.t) (base:Nat) (d:Value) (i:List α) (j:α) (k:Nat) (F:g.eval l=d) (D:GL b a base d i) (I:g.eval n=.slice (some ⟨k,0,none⟩) 1 1) (J:SK (NS a base d) a λt=>b.P t j) (z:∀q s,(b.cells j)[q]?=some s->a.cell? ⟨k,q,none⟩=some s) (B:i.length+1<=1048577) (y:base<=a.heap.size) (h:∀f c,GL b c base f (i++[j])->Below base a c->(∀o:World->Prop,SK (NS a base d) a o->SK (NS c base f) c o)->wpList prog r p rest (g.put e.dst f) c):wpList prog r p (e::rest) g a:=by subst G;obtain⟨f,c,E,u,v,w⟩:=GL.push2 x a e.type base d i D j J k z B y;exact di A l n b.t C d _ F I E (h f c u v w)
variable{v:Value}{W w:World}{m n:Nat}
theorem SK.nup{base:Nat}{b:World->Prop}(h:SK (NS w base v) w b)(c:Bw w W):SK (NS W base v) W b:=(h.aa c).mono λd a=>⟨a.1,be a.2.1 c.size,a.2.2⟩
theorem SK.nset{b:World->Prop}(h:SK (NS w (n+1) v) w b)(c:Value):SK (NS (w.setCell ⟨n,m,none⟩ c) (n+1) v) (w.setCell ⟨n,m,none⟩ c) b:=
 h.kept (λg i k e f=>by rw[World.cell?_setCell_other (h:=λd=>by have:=e.1;have:=congrArg Addr.block d;simp at this;omega)];exact f) λj a=>⟨a.1,by simpa using a.2.1,a.2.2⟩
theorem oV(O:ByteArray)(h d p1 p2:Dt)(W:(Dt.mk true O (h::[d,p1,p2])).fin)(l:Option Addr)(N:Nat)(i:World)(YR:Dt.all i l (h::[d,p1,p2]))(YM:GT i)(q:ch aX (headD (.mk true O (h::[d,p1,p2])))=5) (Yn:∀(E:Nat) (e:Dt),[p2][E]?=some e->∀(B:Option Addr) (z:Nat) (a:World),Dt.all a B e.l->Bw i a->Calls prog 18 #[e.val B z] a (cS (bZ e) a)):Calls prog 18 #[(Dt.mk true O (h::[d,p1,p2])).val l N] i (cS (bu 6 [d,p1,p2] ([d,p1,p2].map bZ)) i):=by
 obtain⟨VY,Xz⟩:=al (bu 6 [d,p1,p2] ([d,p1,p2].map bZ));rw[<-Xz];have W8:=Dt.af W;have VX:=λa (m:Dt.all a l (h::[d,p1,p2]))=>cg (.mk true O (h::[d,p1,p2])) l N a m W8.2.2.1;obtain⟨Xf,YN⟩:=al (headD (.mk true O (h::[d,p1,p2])));rw[<-YN] at VX q;have WR:=λl a m=>bL (aX.map bs) (by rw[VP,a7];decide) Xf l 12 a m;rw[VP,a7,show Lib.idxOfS (aX.map bs) Xf=5 from q] at WR;have WR:=VV WR;show Calls prog 18 #[.agg #[.bool true,.string O,.slice l 4 (4+N)]] i (cS VY i);have VX:=λa (m:Dt.all a l (h::[d,p1,p2]))=>(show Calls prog 54 #[.agg #[.bool true,.string O,.slice l 4 (4+N)]] a λx V3=>x=.returned (.string Xf)/\Bw a V3 from VX a m);have XV:4=(h::[d,p1,p2]).length:=rfl;obtain⟨Wo,WU,Xs,z,XP,XU,XF,XL,XR⟩:=cU i O l 4 (4+N);obtain⟨j,WC⟩:=al (gW i O l 4 (4+N));rw[<-WC] at Wo WU Xs z XP XU XF XL XR;unfold gW at WC;have W0:=Dt.ab _ YR Wo;obtain⟨Yp,Z8,XS,YS⟩:=dY N 1 3 4 XV W0 (by omega) (by omega);obtain⟨WT,Z9,Xb,u⟩:=es N 3 4 XV W0 (by omega);obtain⟨VZ,YV⟩:=al (4+N);rw[<-YV] at VX WC z XS Xb ⊢;obtain⟨WV,YW⟩:=al (1+Z9);have XS:∀a,(Instr.slice 44 (.slice l 4 VZ) (some (.int .i64 1)) (some (.int .i64 3)) none).run prog a=.ok (.slice Yp 2 Z8) a:=XS;have Xb:∀a,(Instr.slice 44 (.slice l 4 VZ) (some (.int .i64 3)) none none).run prog a=.ok (.slice WT 1 WV) a:=by rw[YW];exact Xb
 have YQ:∀a,Bw j a->Calls prog 55 #[.slice WT 1 WV] a (jG (λa l k=>Pl.all a l k) (aW ([p2].map bZ)) a):=λa m=>by skip;skip;exact(ci [p2] (by have:(h::[d,p1,p2]).length<=1000000:=W8.2.2.1;simp only[a1,List.length_nil] at this ⊢;omega) WT WV a (Dt.ab _ u m) λE e V0 B z Z4 WD hb=>Yn E e V0 B z Z4 WD (ac (ac Wo m) hb)).mono λ_ _ h=>h.pl
 have ZK:=VV YQ;have VX:=VV (VX j W0);have ZO:=VV YS;have Zq:Hid (CA j [((i.heap.size,2),.slice l 4 VZ),((i.heap.size+3,5),.int .i64 2),((i.heap.size+4,5),.int .i64 1)]):=⟨z,XF 5 _ rfl,XL 5 _ rfl,trivial⟩;have ZT:=VV XU;have Xq:=VV XP;have WN:=VV Wo;have ZM:=VV XR;have Yb:=VV W8;have Yd:=VV (YM.aa Wo);have ZW:=VV WC.symm;have Yj:=VV Xz;clear Wo XP XU XF XL XR W0 u YW YV W8 YQ YN q Yn YR YM W WC XV YS Xz;go_enter func18,ntmps18;go_upto_region 4 with fail;rw[U ZW]
 go_upto_region 5 with (first
  | (go_at_call 53;refine(U WR _ _ (U ZU)).mono ?_;rintro X2 X5 ⟨rfl,rfl⟩)
  | (go_at_call 54;refine(U VX).mono ?_;rintro X2 w6 ⟨rfl,W5⟩;have Zk:=VV W5;have ZU:=VV ((U ZT).aa W5);have V:=(U Zq).aa W5;have Zo:=VV V;obtain⟨J,K,Wv,_⟩:=V;clear W5))
 have XZ:=cell_regrown J;have X0:=cell_regrown K;have Xe:=cell_regrown Wv;refine wp_region_quiet_below (by kernel_rfl) (by kernel_rfl) ?_;repeat (go_big_quiet_step (fail))
 refine wpQuiet_nil ?_;intro Ww XX;have Y:Hid (Bw j Ww):=ac (U Zk) (by obtain⟨WH,rfl⟩:=XX;exact below_regrown _ _ _);have Zp:=VV ((U Zo).aa (by obtain⟨WH,rfl⟩:=XX;exact below_regrown _ _ _:Bw X5 Ww));obtain⟨f,XI⟩:=al Ww.heap.size;obtain⟨WK,WG⟩:=al (Ww.alloc (.cells #[.int .i64 6,.string ⟨#[]⟩,.slice none 0 0,.slice none 0 0,.slice none 0 0,.slice none 0 0,.int .i64 0,.int .i64 0,.int .i64 0,.int .i64 0,.slice none 0 0] 28));have WD:=ae (ar _ Ww) (.cells #[.int .i64 6,.string ⟨#[]⟩,.slice none 0 0,.slice none 0 0,.slice none 0 0,.slice none 0 0,.int .i64 0,.int .i64 0,.int .i64 0,.int .i64 0,.slice none 0 0] 28);have Zm:Hid (Bw j WK):=by rw[WG];exact ac (U Y) WD
 have Zv:Hid (bp WK f [.int .i64 6,.string ⟨#[]⟩,.slice none 0 0,.slice none 0 0,.slice none 0 0,.slice none 0 0,.int .i64 0,.int .i64 0,.int .i64 0,.int .i64 0,.slice none 0 0]):=by rw[WG,XI];exact bp.new Ww [.int .i64 6,.string ⟨#[]⟩,.slice none 0 0,.slice none 0 0,.slice none 0 0,.slice none 0 0,.int .i64 0,.int .i64 0,.int .i64 0,.int .i64 0,.slice none 0 0] 28
 have Wp:CA WK [((i.heap.size,2),.slice l 4 VZ),((i.heap.size+3,5),.int .i64 2),((i.heap.size+4,5),.int .i64 1)]:=by rw[WG];exact(U Zp).aa WD
 have X9:=VV Wp;obtain⟨J,K,Wv,_⟩:=Wp;have VW:Hid (i.heap.size+1<f/\j.heap.size<=f):=by show _/\_;have:=(U Y).size;have:=U ZM;omega
 have ZX:=VV WG.symm;have Zu:=VV XI.symm;clear XI WG WD XX XZ X0 Xe;go_upto_region 8 with fail;rw[U ZX,U Zu];have XZ:=cell_regrown J;have X0:=cell_regrown K;have Xe:=cell_regrown Wv;refine wp_region_quiet_below (by kernel_rfl) (by kernel_rfl) ?_;repeat (go_big_quiet_step (fail))
 refine wpQuiet_nil ?_;intro WJ Zb;have W6:Bw WK WJ:=by obtain⟨WH,rfl⟩:=Zb;exact below_regrown _ _ _
 have Wf:=VV (ac (U Zm) W6).drew;have Q:Hid (CA WJ.drew [((i.heap.size,2),.slice l 4 VZ),((i.heap.size+3,5),.int .i64 2)]):=by obtain⟨J,K,_⟩:=(U X9).aa W6;exact⟨J,K,trivial⟩
 have Ye:Hid (bp WJ.drew f [.int .i64 6,.string ⟨#[]⟩,.slice none 0 0,.slice none 0 0,.slice none 0 0,.slice none 0 0,.int .i64 0,.int .i64 0,.int .i64 0,.int .i64 0,.slice none 0 0]):=((U Zv).aa W6).aa aN.drew;have ZC:Hid (f<WJ.drew.heap.size):=bY _ _ ((U Ye) 0 _ rfl).1;clear Zb XZ X0 Xe J K Wv W6;go_upto_region 10 with fail;refine VR (λa:World=>CA a [((i.heap.size,2),.slice l 4 VZ),((i.heap.size+3,5),.int .i64 2)]) 8 ?_;refine ai 0 (.pointer (some ⟨i.heap.size,2,none⟩)) rfl (U Q) ?_;refine ai 1 (.slice l 4 VZ) rfl (U Q) ?_ λV3 S=>by simp only[CA] at S;obtain⟨J,K,_⟩:=S;go_simp
 refine ai 2 (.slice (some ⟨i.heap.size+3,0,none⟩) 12 12) rfl (U Q) ?_;refine ai 3 (.int .i64 5) rfl (U Q) ?_;refine ai 4 (.pointer (some ⟨i.heap.size+3,5,none⟩)) rfl (U Q) ?_;refine ai 5 (.int .i64 2) rfl (U Q) ?_ λV3 S=>by simp only[CA] at S;obtain⟨J,K,_⟩:=S;go_simp
 refine ai 6 (.int .i64 3) rfl (U Q) ?_ λV3 _=>by go_simp;rfl
 refine ai 7 (.slice WT 1 WV) rfl (U Q) ?_ λV3 _=>by have:=Xb V3;go_simp
 refine ap 8 rfl λw n=>?_;go_simp;refine(U ZK _ (U Wf)).mono ?_;rintro _ w10 ⟨XC,o,Wt,cv,t,rfl,YT,I⟩;go_simp;refine aS n ?_;clear n w;refine cJ (S2:=λ_=>True) (k2:=14) _ _ _ _ (.inr rfl) ?_;have XJ:=(U Ye).aa XC;obtain⟨WY,fz10⟩:=XJ 10 _ rfl;refine ai 9 (.tuple #[.slice o Wt cv,.bool t]) rfl trivial ?_;refine ai 10 (.slice o Wt cv) rfl trivial ?_;refine ai 11 (.bool t) rfl trivial ?_;refine ai 12 (.pointer (some ⟨f,10,none⟩)) rfl trivial ?_;refine ap 13 rfl λw n=>?_;go_simp;refine aO n trivial ?_;clear n w;refine ap 14 rfl λw n=>?_;go_simp;refine aS n ?_;clear n w;refine bh ?_;obtain⟨V2,r⟩:=al (w10.setCell ⟨f,10,none⟩ (.slice o Wt cv));rw[<-r];have W7:Bw j V2:=by rw[r];exact(ac (U Wf) XC).setCell (p:=⟨f,10,none⟩) (U VW).2 _
 have Wh:=VV W7;have Zn:=VV (ac (U WN) W7);have ZL:Hid (bp V2 (i.heap.size+1) VT):=(U Xq).aa W7;have WP:Hid (bp V2 f [.int .i64 6,.string ⟨#[]⟩,.slice none 0 0,.slice none 0 0,.slice none 0 0,.slice none 0 0,.int .i64 0,.int .i64 0,.int .i64 0,.int .i64 0,.slice o Wt cv]):=by rw[r];exact XJ.set 10 _
 have Y1:f+1<=WJ.drew.heap.size:=U ZC;have ZY:Hid (t=true->∃k,aW ([p2].map bZ)=some k/\k.length=Wt/\SK (SN (f+1) V2) V2 λa=>Pl.all a o k):=λx=>by obtain⟨k,Wm,WA,_,WB⟩:=I x;rw[r];exact⟨k,Wm,WA,(WB.low Y1).aw _⟩
 have ZZ:=VV YT;clear r W7 XJ YT I XC WY fz10 Y1;cases t with
 | false=>(have F:Hid (VY=none):=by show _=_;rw[U Yj];have x:=U ZZ rfl;show (dM d).bind (λWW=>(dd p1).bind λX1=>(aW (X1.map gh)).bind λXr=>(aW ([p2].map bZ)).map λk=>Pl.mk 6 ⟨#[]⟩ [] WW [] Xr 0 0 0 0 k)=none;rw[x];cases dM d with|none=>rfl|some x0=>cases dd p1 with|none=>rfl|some x1=>exact cb _);have c:=U ZL;obtain⟨V4,Yr⟩:=c 0 _ rfl;obtain⟨V5,Ys⟩:=c 1 _ rfl;obtain⟨V7,Yu⟩:=c 2 _ rfl;obtain⟨V8,Yv⟩:=c 3 _ rfl;obtain⟨V9,Yw⟩:=c 4 _ rfl;obtain⟨Wa,Yx⟩:=c 5 _ rfl;obtain⟨Wb,Yy⟩:=c 6 _ rfl;obtain⟨Wc,Yz⟩:=c 7 _ rfl;obtain⟨Wd,YA⟩:=c 8 _ rfl;obtain⟨We,YB⟩:=c 9 _ rfl;obtain⟨V6,Yt⟩:=c 10 _ rfl;clear c;have b:=U WP;obtain⟨WX,_⟩:=b 0 _ rfl;obtain⟨YC,_⟩:=b 1 _ rfl;obtain⟨YD,_⟩:=b 2 _ rfl;obtain⟨YE,_⟩:=b 3 _ rfl;obtain⟨YF,_⟩:=b 4 _ rfl;obtain⟨Xw,_⟩:=b 5 _ rfl;obtain⟨YG,_⟩:=b 6 _ rfl;obtain⟨YH,_⟩:=b 7 _ rfl;obtain⟨YI,_⟩:=b 8 _ rfl;obtain⟨YJ,_⟩:=b 9 _ rfl;obtain⟨WY,_⟩:=b 10 _ rfl;clear b;go_wp2;refine aM (v:=.tuple #[.agg #[.int .i64 6,.string ⟨#[]⟩,.slice none 0 0,.slice none 0 0,.slice none 0 0,.slice none 0 0,.int .i64 0,.int .i64 0,.int .i64 0,.int .i64 0,.slice o Wt cv],.bool false]) (by simp[results,results18,go_sem,V4,V5,V7,V8,V9,Wa,Wb,Wc,Wd,We,V6]) rfl ?_;exact cS.no (aJ (U Zn) (Nat.le_succ _) _ _ _ _ _ _ _ _ _ _ _) (U F) _ _ _ _ _ _ _ _ _ _ _ _ _ _ _ _ _ _ _ _ _
 | true=>
  obtain⟨k,Zd,rfl,Y7⟩:=U ZY rfl;have ZQ:=VV Y7;have Z3:=VV Zd;clear Y7 Zd;have Xa:Dt.all j Yp [d,p1]:=U ZO;obtain⟨Wk,Wu,_,_,rfl,_,_⟩:=Dt.get Xa (show [d,p1][0]?=some d from rfl);obtain⟨Yo,WU,Y2,YZ⟩:=Dt.aE (i:=0) (t:=d) Xa rfl;have Xl:Hid (j.cell? ⟨Wk,Wu,none⟩=some (.bool d.k)/\j.cell? ⟨Wk,Wu+1,none⟩=some (.string d.s)/\j.cell? ⟨Wk,Wu+2,none⟩=some (.slice Yo d.l.length (d.l.length+WU))):=Y2;have Zy:=VV YZ;obtain⟨Z5,Xs,Y3,Y0⟩:=Dt.aE (i:=1) (t:=p1) Xa rfl;have Yg:Hid (j.cell? ⟨Wk,Wu+3,none⟩=some (.bool p1.k)/\j.cell? ⟨Wk,Wu+3+1,none⟩=some (.string p1.s)/\j.cell? ⟨Wk,Wu+3+2,none⟩=some (.slice Z5 p1.l.length (p1.l.length+Xs))):=Y3;have Zz:=VV Y0;clear Xa Y2 YZ Y3 Y0;have e00:=aG (U Xl).1 (U Wh);have e01:=aG (U Xl).2.1 (U Wh);have e02:=aG (U Xl).2.2 (U Wh);have Yc:Hid (VY=(dM d).bind (λWW=>(dd p1).bind λX1=>(aW (X1.map gh)).bind λXr=>(aW ([p2].map bZ)).map λk=>Pl.mk 6 ⟨#[]⟩ [] WW [] Xr 0 0 0 0 k)):=U Yj;have X8:=VV ((hf d (Dt.ag (U Yb).2.2.2 (show d∈h::[d,p1,p2] by simp)) Yo WU V2 (Dt.ab _ (U Zy) (U Wh)) ((U Yd).aa (U Wh))).mono λ_ _ h=>h.int);rw[Dt.ad] at X8;have XN:(p1:Dt).fin:=(Dt.ag (U Yb).2.2.2 (show p1∈h::[d,p1,p2] by simp));have ZG:=VV XN;obtain⟨WX,_⟩:=(U WP) 0 _ rfl;go_upto_region 26 with (go_at_call 58;refine(U X8).mono ?_;rintro X2 wA ⟨WE,y,A,D,C,rfl,YK,YL⟩;have Z0:=VV YK;have Z1:=VV YL;have X6:=VV WE;have XH:=(U WP).aa WE;have Zt:=VV XH;obtain⟨qA,zA⟩:=XH 3 _ rfl;clear WE YK YL XH);obtain⟨L,Wr⟩:=al (wA.setCell ⟨f,3,none⟩ (.slice y A D));rw[<-Wr];have WO:Hid (Bw j L):=by rw[Wr];exact(ac (U Wh) (U X6)).setCell (p:=⟨f,3,none⟩) (U VW).2 _
  have HBW1:=VV (ac (U WN) (U WO));have HRJ1:Hid (bp L (i.heap.size+1) VT):=(U Xq).aa (U WO);have Zw:Hid (bp L f [.int .i64 6,.string ⟨#[]⟩,.slice none 0 0,.slice y A D,.slice none 0 0,.slice none 0 0,.int .i64 0,.int .i64 0,.int .i64 0,.int .i64 0,.slice o k.length cv]):=by rw[Wr];exact(U Zt).set 3 _
  have ZR:Hid (SK (SN (f+1) L) L (λa=>Pl.all a o k)):=by rw[Wr];exact((U ZQ).up (U X6)).aw _
  have Z2:Hid (C=true->∃g,dM d=some g/\g.length=A/\A<=D/\SK (SN (f+1) L) L (λa=>bC a y g)):=λx=>by obtain⟨g,Wm,WA,Xu,WB⟩:=U Z1 x;rw[Wr];exact⟨g,Wm,WA,Xu,(WB.low (bY _ _ ((U WP) 0 _ rfl).1)).aw _⟩
  clear Wr qA zA;clear WX e00 e01 e02;have ZJ:Hid (SK (SN (f+1) L) L λa=>Pl.all a o k/\(C=true->∃g,dM d=some g/\g.length=A/\A<=D/\bC a y g)):=λa m=>⟨U ZR a m,λx=>by obtain⟨g,Wm,WA,Xu,WB⟩:=U Z2 x;exact⟨g,Wm,WA,Xu,WB a m⟩⟩;have e12:=aG (U Yg).2.2 (U WO);have hml:=(Dt.af XN).2.2.1;obtain⟨Ws,XK⟩:=al p1.l.length;rw[<-XK] at e12 hml;have Yf:=VV XK;obtain⟨Wi,XA⟩:=al (aW (p1.l.map gh));have Ym:=VV XA
  have Yl:Hid (C=false∨Wi=none->VY=none):=λh=>by
   rw[U Yc];rcases h with h|h;.rw[U Z0 h];rfl
   .cases dM d with
    | none=>rfl
    | some WW=>
     show (dd p1).bind _=none
     cases q:p1.k with
     | false=>rw[gD q];rfl
     | true=>rw[fL q];show (aW (p1.l.map gh)).bind _=none;rw[<-XA,h];rfl
  have ZA:=VV (λa (m:Bw j a)=>Dt.ab _ (U Zz) m);clear XK XA XN;go_upto_region 27 with fail;go_wp2_with fail;go_loopw[10,157] (λok E Wx=>∃(s:Nat) (p:List (Int×Int)) (M:Value) (t:Bool),s<=Ws/\E=.int .i64 s/\ok=.bool t/\Hid (GL eu Wx (f+1) M p)/\Hid (Bw j Wx)/\Hid (bp Wx f [.int .i64 6,.string ⟨#[]⟩,.slice none 0 0,.slice y A D,.slice none 0 0,M,.int .i64 0,.int .i64 0,.int .i64 0,.int .i64 0,.slice o k.length cv])/\Hid (p.length=s)/\Hid (SK (NS Wx (f+1) M) Wx λa=>Pl.all a o k/\(C=true->∃g,dM d=some g/\g.length=A/\A<=D/\bC a y g))/\Hid (if t then C=true/\Wi=(aW ((p1.l.drop s).map gh)).map λg=>p++g else C=false∨Wi=none)) (λok E Wx=>Ws-(intOf E).toNat)
  case atStart=>exact⟨0,[],.slice none 0 0,C,bf,rfl,rfl,GL.nil eu L (f+1),WO,Zw,rfl,VV ((U ZJ).mono λs q=>⟨q.1,q.2,λx=>by cases x⟩),by
   show (if C then _ else _)
   cases C with
   | false=>exact .inl rfl
   | true=>refine⟨rfl,?_⟩;rw[List.drop_zero,U Ym];cases aW (p1.l.map gh)<;>rfl⟩
  case round=>
   obtain⟨s,p,M,t,hk1,rfl,rfl,Xo,Z,WQ,Yi,Yh,Xk⟩:=hrel;have Zx:Hid (f+1<=wr.heap.size):=bY _ _ ((U WQ) 0 _ rfl).1;have Wq:=(U Xq).aa (U Z);by_cases R:s<Ws
   ·(have i1:(s:Int)<(Ws:Int):=by omega);obtain⟨e,V0⟩:∃e,p1.l[s]?=some e:=⟨_,ba (by rw[<-U Yf];exact R)⟩;have YX:=en gh V0;obtain⟨b2,off,B,z,Yq,⟨q0,q1,q2⟩,XB⟩:=Dt.get (U ZA _ (U Z)) V0;have XW:=Dt.ag (Dt.af (U ZG)).2.2.2 (a8 V0);obtain⟨X,Xd⟩:=al (wr.alloc (.cells #[.bool e.k,.string e.s,.slice B e.l.length (e.l.length+z)] 46));(have XE:Bw wr X:=by rw[Xd];exact ae (ar _ wr) _);(have V:CA X [((wr.heap.size,0),.bool e.k),((wr.heap.size,1),.string e.s),((wr.heap.size,2),.slice B e.l.length (e.l.length+z))]:=by rw[Xd];exact⟨by simp[go_sem],by simp[go_sem],by simp[go_sem],trivial⟩);have Wz:=VV λa (m:Bw X a)=>cg e B z a (Dt.ab _ XB (ac XE m)) (Dt.af XW).2.2.1;obtain⟨WL,Xy⟩:=al (headD e);have Xj:=VV λl a m=>bL (ea.map bs) (by rw[VP,fQ];decide) WL l 6 a m;rw[VP,fQ] at Xj;obtain⟨v,W2⟩:=al (Lib.idxOfS (ea.map bs) WL);have hir:=eE (ea.map bs) WL 0;rw[show Lib.idxFromS (ea.map bs) WL 0=v from W2.symm,VP,fQ] at hir;(have u:gh e=if 0<=v/\e.l.length=2 then (bO (dc e.l 1)).map λP=>(v+1,P) else none:=by unfold gh ch;rw[<-Xy,<-W2]);rw[<-W2] at Xj;rw[<-Xy,Dt.ad] at Wz;have Y:=VV XE;have Zj:=VV XB;have ZV:=VV XW;have WS:=VV Xd.symm;have Ya:=VV YX;have Xg:=VV u;have HHT:=VV V0;rw[Yq];obtain⟨X3,Y8⟩:=al e.k;obtain⟨X4,Y9⟩:=al e.s;rw[<-Y8] at q0 WS V Wz;rw[<-Y9] at q1 WS V Wz;obtain⟨V1,XM⟩:=al e.l.length;obtain⟨Xt,Wp⟩:=al (e.l.length+z);rw[<-Wp,<-XM] at q2 WS V Wz;have Xn:=VV XM;have X9:=VV Wp;have Wy:Hid (CA X.drew [((wr.heap.size,0),.bool X3),((wr.heap.size,1),.string X4),((wr.heap.size,2),.slice B V1 Xt)]):=V.aa (ar _ X).drew;have X7:=VV (ar X.heap.size X).drew;clear Yq Xd XE W2 u Y8 Y9 XM Wp Xy XB XW YX V0 V;go_upto_region 29 with fail;rw[U WS];refine VR (λa:World=>CA a [((wr.heap.size,0),.bool X3),((wr.heap.size,1),.string X4),((wr.heap.size,2),.slice B V1 Xt)]) 4 ?_;(refine ai 1 (.agg #[.bool X3,.string X4,.slice B V1 Xt]) rfl (U Wy) ?_ λV3 S=>by simp only[CA] at S;obtain⟨J,K,Wv,_⟩:=S;go_simp);refine ap 0 rfl λw n=>?_;go_simp;refine(h4 _).mono ?_;rintro _ w1 ⟨rfl,Za,I⟩;go_simp;refine aO n ((U Wy).aa I) ?_;clear n w;refine ap 2 rfl λw n=>?_;go_simp;refine(U Wz w1 (ac (U X7) I)).mono ?_;rintro _ w3 ⟨rfl,Wn⟩;go_simp;refine aO n (((U Wy).aa I).aa Wn) ?_;clear n w;refine ap 3 rfl λw n=>?_;go_simp;refine(U Xj _ w3 ⟨_,0,rfl,λE P Zc=>?_⟩).mono ?_;(.rw[b8] at Zc;obtain⟨y,hy,rfl⟩:=Option.map_eq_some_iff.1 Zc;rw[aT];exact aG (Za E y hy) Wn);rintro _ wv ⟨rfl,rfl⟩;go_simp;refine aO n (((U Wy).aa I).aa Wn) ?_;clear n w;refine ap 4 rfl λw n=>?_;go_simp;refine aS n ?_;clear n w;refine bh ?_;have WM:=VV (ac (ac (U X7) I) Wn);have hca3:=((U Wy).aa I).aa Wn;obtain⟨J,K,Wv,_⟩:=hca3;clear Za I Wn;by_cases WF:0<=v/\V1=2
    .obtain⟨YO,Y4⟩:=WF;subst Y4;obtain⟨WI,Xc⟩:∃WI,e.l[1]?=some WI:=⟨_,ba (by rw[<-U Xn];decide)⟩;(have Y6:dc e.l 1=WI:=by unfold dc;rw[fC,Xc];rfl);have u:=U Xg;rw[aR ⟨YO,(U Xn).symm⟩,Y6] at u;obtain⟨b3,Zg,Z6,Z7,ea3,⟨r0,r1,r2⟩,hu3⟩:=Dt.get (Dt.ab _ (U Zj) (ac (U Y) (U WM))) Xc;rw[show Zg+1*3=Zg+3 by omega] at r0 r1 r2;have Xi:=VV (d2 WI (Dt.af (Dt.ag (Dt.af (U ZV)).2.2.2 (a8 Xc))).1 Z6 Z7 wv ((U Yd).aa (ac (U Z) (ac (U Y) (U WM)))));rw[Dt.ad] at Xi;obtain⟨o,Y5⟩:=al (bO WI);rw[<-Y5] at u Xi;subst ea3;(have i0:¬v<0:=by omega);(have Wm:wrap64 (v+1)=v+1:=by unfold wrap64;omega);have Zi:=VV u;clear Y5 Y6 Xc u hu3 Wq Xg;go_upto_region 33 with (go_at_call 59;refine(U Xi).mono ?_;intro X2 Zh WZ;obtain⟨YU,P,Xv,rfl,YY⟩:=WZ.both;have Zr:=VV YY;have Xh:=VV (ac (U Y) (ac (U WM) YU));clear WZ YU YY);have XG:=(U WQ).aa (U Xh);have W4:=ae (ar _ Zh) (.cells #[.int .i64 (v+1),.int .i64 P] 78);obtain⟨Xw,_⟩:=XG 5 _ rfl;have ZE:=VV (((U Xo).aa (U Xh)).aa W4);have Zs:=VV (XG.aa W4);have Wf:=VV (ac (U Xh) W4);have ZI:=VV ((U Yh).nup (U Wf));have ZB:Hid (p.length+1<=1048577):=by show _<=_;rw[U Yi];omega
     have ZD:Hid (if t && Xv then C=true/\Wi=(aW ((p1.l.drop (s+1)).map gh)).map λg=>(p++[(v+1,P)])++g else C=false∨Wi=none):=by
      have G:=U Xk
      have W:=U Ya
      rw[U Zi,U Zr] at W
      show (if t && Xv then _ else _)
      cases t with
      | false=>exact G
      | true=>
       obtain⟨R,Xx⟩:=G
       rw[W] at Xx
       cases Xv with
       | false=>exact .inr Xx
       | true=>
        refine⟨R,?_⟩
        rw[Xx]
        show ((aW ((p1.l.drop (s+1)).map gh)).map λg=>(v+1,P)::g).map (λg=>p++g)=_
        cases aW ((p1.l.drop (s+1)).map gh)<;>simp
     clear XG W4;cases t <;>
     (go_wp2_with (refine iW eu.ok _ rfl (.tmp 187) (.tmp 192) eu.t rfl rfl (f + 1) M p (v + 1, P) Zh.heap.size rfl (U ZE) (by simp [Act.eval, go_sem]) (λ_ _ => trivial) (λZe V2 r => by
         match Ze, r with
         | 0, r => simp [eu] at r; subst r; simp [go_sem]
         | 1, r => simp [eu] at r; subst r; simp [go_sem]
         | Ze + 2, r => simp [eu] at r) (U ZB) (aQ (U Zx) (U Wf).size) ?_; intro v7 X5 W9 XD YP; have XO := YP _ (U ZI); obtain ⟨a7, c7, rfl, _⟩ := W9.node eu.ok; rw [bj, List.length_singleton] at W9 XO ⊢; have ZF := VV W9; have Zl := VV XD; have ZH := VV XO; have Yk := VV ((U Zs).low XD (Nat.lt_succ_self f)); obtain ⟨h3, fz3⟩ := (U Yk) 5 _ rfl; clear W9 XD YP XO)
      go_roundw
      case rel => exact ⟨s + 1, p ++ [(v + 1, P)], _, _, by omega, by go_num, (by first | rfl | trivial), VV ((U ZF).setlow (Nat.lt_succ_self f) _), VV (((ac (U Z) (U Wf)).trans ((U Zl).mono (Nat.le_succ_of_le (U VW).2))).setCell (p := ⟨f, 5, none⟩) (U VW).2 _), VV ((U Yk).set 5 _), by show _ = _; rw [bj, U Yi]; rfl, VV ((U ZH).nset _), ZD⟩
      case measure => simp [intOf] <;> omega)
    .have u:=U Xg;rw[aL (by rw[<-U Xn];exact WF)] at u
     have F:Hid (VY=none):=by
      refine U Yl ?_
      have G:=U Xk
      have W:=U Ya
      rw[u] at W
      cases t with
      | false=>exact G
      | true=>exact .inr (by rw[G.2,W];rfl)
     have W1:=ac (U Y) (U WM);have Wg:=VV (ac (U WN) (ac (U Z) W1));have c:=Wq.aa W1;obtain⟨V4,Yr⟩:=c 0 _ rfl;obtain⟨V5,Ys⟩:=c 1 _ rfl;obtain⟨V7,Yu⟩:=c 2 _ rfl;obtain⟨V8,Yv⟩:=c 3 _ rfl;obtain⟨V9,Yw⟩:=c 4 _ rfl;obtain⟨Wa,Yx⟩:=c 5 _ rfl;obtain⟨Wb,Yy⟩:=c 6 _ rfl;obtain⟨Wc,Yz⟩:=c 7 _ rfl;obtain⟨Wd,YA⟩:=c 8 _ rfl;obtain⟨We,YB⟩:=c 9 _ rfl;obtain⟨V6,Yt⟩:=c 10 _ rfl;clear c;have b:=(U WQ).aa W1;obtain⟨WX,_⟩:=b 0 _ rfl;obtain⟨YC,_⟩:=b 1 _ rfl;obtain⟨YD,_⟩:=b 2 _ rfl;obtain⟨YE,_⟩:=b 3 _ rfl;obtain⟨YF,_⟩:=b 4 _ rfl;obtain⟨Xw,_⟩:=b 5 _ rfl;obtain⟨YG,_⟩:=b 6 _ rfl;obtain⟨YH,_⟩:=b 7 _ rfl;obtain⟨YI,_⟩:=b 8 _ rfl;obtain⟨YJ,_⟩:=b 9 _ rfl;obtain⟨WY,_⟩:=b 10 _ rfl;clear b;obtain⟨Wj,Wl,rfl,_⟩:=(U Xo).node eu.ok;clear u Wq W1;by_cases YO:v<0;(.clear WF;go_upto_region 30 with fail;go_wp2;refine aM (v:=.tuple #[.agg #[.int .i64 6,.string ⟨#[]⟩,.slice none 0 0,.slice y A D,.slice none 0 0,.slice Wj p.length Wl,.int .i64 0,.int .i64 0,.int .i64 0,.int .i64 0,.slice o k.length cv],.bool false]) (by simp[results,results18,go_sem,V4,V5,V7,V8,V9,Wa,Wb,Wc,Wd,We,V6]) rfl ?_;exact cS.no (aJ (U Wg) (Nat.le_succ _) _ _ _ _ _ _ _ _ _ _ _) (U F) _ _ _ _ _ _ _ _ _ _ _ _ _ _ _ _ _ _ _ _ _);.have Y4:¬V1=2:=λx=>WF ⟨by omega,x⟩;(have hn3:¬(V1:Int)=2:=by omega);(have hn4:((V1:Int) != 2)=true:=by simpa using hn3);clear WF;go_upto_region 30 with fail;go_wp2;refine aM (v:=.tuple #[.agg #[.int .i64 6,.string ⟨#[]⟩,.slice none 0 0,.slice y A D,.slice none 0 0,.slice Wj p.length Wl,.int .i64 0,.int .i64 0,.int .i64 0,.int .i64 0,.slice o k.length cv],.bool false]) (by simp[results,results18,go_sem,V4,V5,V7,V8,V9,Wa,Wb,Wc,Wd,We,V6]) rfl ?_;exact cS.no (aJ (U Wg) (Nat.le_succ _) _ _ _ _ _ _ _ _ _ _ _) (U F) _ _ _ _ _ _ _ _ _ _ _ _ _ _ _ _ _ _ _ _ _
   .have i1:¬(s:Int)<(Ws:Int):=by omega
    have Wg:=VV (ac (U WN) (U Z))
    have c:=Wq;obtain⟨V4,Yr⟩:=c 0 _ rfl;obtain⟨V5,Ys⟩:=c 1 _ rfl;obtain⟨V7,Yu⟩:=c 2 _ rfl;obtain⟨V8,Yv⟩:=c 3 _ rfl;obtain⟨V9,Yw⟩:=c 4 _ rfl;obtain⟨Wa,Yx⟩:=c 5 _ rfl;obtain⟨Wb,Yy⟩:=c 6 _ rfl;obtain⟨Wc,Yz⟩:=c 7 _ rfl;obtain⟨Wd,YA⟩:=c 8 _ rfl;obtain⟨We,YB⟩:=c 9 _ rfl;obtain⟨V6,Yt⟩:=c 10 _ rfl;clear c
    have b:=U WQ;obtain⟨WX,_⟩:=b 0 _ rfl;obtain⟨YC,_⟩:=b 1 _ rfl;obtain⟨YD,_⟩:=b 2 _ rfl;obtain⟨YE,_⟩:=b 3 _ rfl;obtain⟨YF,_⟩:=b 4 _ rfl;obtain⟨Xw,_⟩:=b 5 _ rfl;obtain⟨YG,_⟩:=b 6 _ rfl;obtain⟨YH,_⟩:=b 7 _ rfl;obtain⟨YI,_⟩:=b 8 _ rfl;obtain⟨YJ,_⟩:=b 9 _ rfl;obtain⟨WY,_⟩:=b 10 _ rfl;clear b
    have e10:=aG (U Yg).1 (U Z)
    obtain⟨Wj,Wl,e5,XT⟩:=(U Xo).aggs
    subst e5
    have ZP:=VV XT
    have G:=U Xk
    rw[dG (by rw[<-U Yf];omega)] at G
    have Xp:=VV ((U Yh).mono (T:=SN (f+1) wr) λs q=>⟨q.1,q.2.1⟩)
    cases t with
    | false=>
     have F:Hid (VY=none):=U Yl G
     clear G Wq XT
     go_wp2
     refine aM (v:=.tuple #[.agg #[.int .i64 6,.string ⟨#[]⟩,.slice none 0 0,.slice y A D,.slice none 0 0,.slice Wj p.length Wl,.int .i64 0,.int .i64 0,.int .i64 0,.int .i64 0,.slice o k.length cv],.bool false]) (by simp[results,results18,go_sem,V4,V5,V7,V8,V9,Wa,Wb,Wc,Wd,We,V6]) rfl ?_
     exact cS.no (aJ (U Wg) (Nat.le_succ _) _ _ _ _ _ _ _ _ _ _ _) (U F) _ _ _ _ _ _ _ _ _ _ _ _ _ _ _ _ _ _ _ _ _
    | true=>
     obtain⟨WE,W3⟩:=G
     have W3:Wi=some p:=by rw[W3];show some (p++[])=_;rw[d7]
     subst WE
     obtain⟨g,XY,hyl,hyc,_⟩:=(U Xp).now.2 rfl
     subst hyl
     have ZN:Hid (SK (SN (f+1) wr) wr λa=>bC a y g):=λa m=>by
      obtain⟨ys',R,_,_,WZ⟩:=(U Xp a m).2 rfl
      rw[XY] at R
      injection R with R
      subst R
      exact WZ
     have ZS:Hid (SK (SN (f+1) wr) wr λa=>Pl.all a o k):=λa m=>(U Xp a m).1
     have F:Hid (VY=if p1.k then some (.mk 6 ⟨#[]⟩ [] g [] p 0 0 0 0 k) else none):=by
      show _=_
      rw[U Yc,XY]
      show (dd p1).bind _=_
      cases q:p1.k with
      | false=>rw[gD q];rfl
      | true=>
       rw[fL q]
       show (aW (p1.l.map gh)).bind _=_
       rw[<-U Ym,W3]
       show (aW ([p2].map bZ)).map _=_
       rw[U Z3];rfl
     generalize p1.k=Zf at e10 F
     clear W3 Wq XT XY
     go_wp2
     refine aM (v:=.tuple #[.agg #[.int .i64 6,.string ⟨#[]⟩,.slice none 0 0,.slice y g.length D,.slice none 0 0,.slice Wj p.length Wl,.int .i64 0,.int .i64 0,.int .i64 0,.int .i64 0,.slice o k.length cv],.bool Zf]) (by simp[results,results18,go_sem,V4,V5,V7,V8,V9,Wa,Wb,Wc,Wd,We,V6]) rfl ?_
     cases Zf with
     | false=>exact cS.no (aJ (U Wg) (Nat.le_succ _) _ _ _ _ _ _ _ _ _ _ _) (U F) _ _ _ _ _ _ _ _ _ _ _ _ _ _ _ _ _ _ _ _ _
     | true=>exact cS.some (x:=.mk 6 ⟨#[]⟩ [] g [] p 0 0 0 0 k) (m:=⟨none,0,y,D,none,0,Wj,Wl,o,cv⟩) (aJ (U Wg) (Nat.le_succ _) _ _ _ _ _ _ _ _ _ _ _) (U F) bk.1 ((U ZN).fin11 (U VW).1 (Nat.le_succ _)) bk.2.2.1 ((U ZP).fin11 (U VW).1 (Nat.le_succ _)) hyc ((U ZS).fin11 (U VW).1 (Nat.le_succ _))
end Go.Proofs.YtabmgpillccfaaaGreatDoor
