import Derived.Test.YtklgoolblpmmlaaGreatGrB
set_option linter.all false
set_option maxHeartbeats 4000000
set_option maxRecDepth 100000
namespace Go.Proofs.YtklgoolblpmmlaaGreat
open Go.RowKit Go.Sort Go.Lib Go.Proofs.Tryz
structure Dm(w0:World)(gx mb:Nat)(p:Pl)(m:Pm)(wd:Nat)(O:Nat->Prop)(ys:List (List aH))(W:World):Prop where
 x:sD w0 gx mb p m O (df [] p.cols ys) ys.length W
 ok:∀r∈ys,dH wd r
variable{W X w:World}{i j k m n:Nat}{p:Pl}{g:Pm}{v:Value}{x:List aH}{P Q R:Nat->Prop}{r:List (List aH)}{a:Option Addr}{D:List Value}
theorem Us:qA w (Dm w n m p g k):=
 ⟨λ{a f e b i} h c d=>⟨h.x.ky c d,h.ok⟩,λ{a e b} h=>h.x.lim⟩
theorem yg(b:World)(a:Nat)(c:a<=1048576):dx (b.alloc (.cells (madeCells (Value.cells (.agg #[.int .i64 0,.int .i64 0,.string ⟨#[]⟩])) (a*3)) 43)) b.heap.size (.slice (some ⟨b.heap.size,0,none⟩) 0 a) []:=
 ⟨rfl,.inr ⟨b.heap.size,a,_,rfl,bi,Go.Deep.blk_alloc_new _ _,bt,by unfold maxLen;omega,size_madeCells _ _,by simp⟩⟩
theorem ye{base:Nat}(h:dx w base v x):dx w 0 v x:=by
 refine⟨h.1,?_⟩;rcases h.2 with e|⟨d,a,b,c,_,f⟩;.exact .inl e
 .exact .inr ⟨d,a,b,c,bt,f⟩
theorem kt(a:World){k:Array Oper}{rest:List Oper}{d:Oper}{c:Act}{f:Exit->Act->World->Prop} (o:d.guard=none) (j g:Operand) (s:d.op=Op.makeSlice 40 j g) (b:Nat) (q:c.eval j=.int .i64 0) (n:c.eval g=.int .i64 (b:Int)) (r:b<=1048576) (l:∀e,dx e a.heap.size (.slice (some ⟨a.heap.size,0,none⟩) 0 b) []->Bw a e->wpList prog k f rest (c.put d.dst (.slice (some ⟨a.heap.size,0,none⟩) 0 b)) e):wpList prog k f (d::rest) c a:=by obtain⟨t,p,u,v,w⟩:=info_parts jo;refine wpList_plain o λx m=>?_;have i:=run_make (P:=prog) a 40 43 t _ underlying40 p u .i64 .i64 0 b (by omega) (by omega) (by rw[w];omega) (by omega);simp only[Int.toNat_natCast,v] at i;unfold Oper.wp;simp[execOp,s,q,n,Result.andThen];have y:((0:Int))=((0:Nat):Int):=rfl;simp[i,Result.andThen];exact m _ _ (l _ (yg a b r) (am VS _))
structure Ei(w0:World)(gx mb:Nat)(p:Pl)(m:Pm)(W:World)(O:Nat->Prop)(l2:List (List aH×List (List aH)))(r:List aH)(n:Nat)(i:Nat)(O':Nat->Prop)(wx:World):Prop where
 s:∃l rs,sD w0 gx mb p m O' l n wx/\l[i]?=some (eC r p.cols,rs)/\l2=l.set i (eC r p.cols,rs++[r])/\l.length<=2147483648/\rs.length<=2147483648
 n:Nw O O' W
 k:Ky O W wx
theorem sD.mono{a:List (List aH×List (List aH))}(h:sD w n m p g P a k W)(e:k<=j):sD w n m p g P a j W:=by obtain⟨b,c,d⟩:=h.m;exact⟨h.e,h.s,h.f,h.t,h.c12,⟨b,c.mono e,d⟩,h.o,h.lim⟩
theorem yd(B:Dm w n m p g k P r W)(Wm:Bw w W)(WN:bP w g.aC p.cols)(XK:p.cols.length<=1000000)(WR:∀c∈p.cols,0<=c/\c<(k:Int))(Yi:k<=64)(Yj:r.length+1<=2147483648)(Wb:dH k x)(Wn:bX W a x)(W0:∀WF XZ,a=some ⟨WF,XZ,none⟩->x≠[]->¬P WF)(WM:sE a):Calls prog 265 #[.pointer (some ⟨n,0,none⟩),.slice a x.length j] W (gm (Dm w n m p g k) P (r++[x]) W):=by
 have Xb:=Wb.len;have W3:=gy (l0:=[]) List.nodup_nil p.cols r;have WS:=hy [] p.cols r;simp only[List.length_nil,bI] at WS;have Y:∀b∈df [] p.cols r,b.2.length<=2147483648:=λb A=>by rw[fh (λb h=>by cases h) p.cols r b A];have:=List.length_filter_le (λx=>decide (eC x p.cols=b.1)) r;omega
 have W8:∀b∈df [] p.cols r,∀VY∈b.1,eO VY:=λb A=>by obtain⟨X7,XT,l⟩:=((gq p.cols r b.1).1 (fA A)).resolve_left (by simp);rw[<-l];exact nx (B.ok X7 XT)
 have Wa:=nx (cols:=p.cols) Wb;have V8:(eC x p.cols).length=p.cols.length:=by simp[eC]
 have V9:cJ.ok (bF (eC x p.cols)):=fM (by rw[V8];omega) Wa;have c3:=B.x.e.c3;have WG:∃Wg,W.cell? ⟨n,11,none⟩=some Wg:=by obtain⟨Wg,Yp,Yr,b,_⟩:=B.x.s;exact⟨Wg,b⟩
 have Wv:=H (BR (c:=j) (cC:=g.cC) Wn (by omega) (WN.aa Wm) (by omega) (by rw[Xb];exact WR));have Wj:Hid (∀d f,Bw W d->e8 d f (eC x p.cols)->Calls prog 31 #[.slice (some ⟨f,0,none⟩) p.cols.length p.cols.length] d λl Wh=>l=.returned (.string (bF (eC x p.cols)))/\Bw d Wh):=λd f _ XI=>by have:=fR (c:=p.cols.length) (by rw[V8];omega) Wa XI.row;rw[V8] at this;exact this
 have WD:Hid (∀d,Bw W d->∀Z (c:Nat),(df [] p.cols r)[c]?=some (eC x p.cols,Z)->(Instr.lookup 50 (.map (some m)) (.string (bF (eC x p.cols))) true).run prog d=.ok (.tuple #[.int .i64 (c:Int),.bool true]) d/\Ei w n m p g W P (df [] p.cols (r++[x])) x (r.length+1) c P d):=λd L Z c s=>by have O:Ky (λ_=>False) W d:=Ky.ab L;have Q:=B.x.ky O λ_ _ b=>b;refine⟨Q.m.there V9 (by rw[bL,s];rfl),⟨df [] p.cols r,Z,Q.mono (by omega),s,by rw[fS];exact nA W3 s,by omega,Y _ (VQ s)⟩,Nw.refl _ _,O.mono λ_ b=>b.elim⟩
 have WC:Hid (∀d,Bw W d->¬eC x p.cols∈(df [] p.cols r).map (·.1)->(Instr.lookup 50 (.map (some m)) (.string (bF (eC x p.cols))) true).run prog d=.ok (.tuple #[.int .i64 0,.bool false]) d/\d.cell? ⟨n,12,none⟩=some (.map (some m))/\∃o R F e,e=(df [] p.cols r).length/\d.cell? ⟨n,11,none⟩=some (.slice R e F)/\(Instr.mapUpdate 50 (.map (some m)) (.string (bF (eC x p.cols))) (.int .i64 (e:Int))).run prog d=.ok () o/\o.cell? ⟨n,11,none⟩=some (.slice R e F)/\∀J,Bw o J->J.cell? ⟨o.heap.size,0,none⟩=some (.slice none 0 0)->∀Wu,∃VW C K,(Builtin.append_ #[229,229] Wu #[.slice R e F,.slice (some ⟨o.heap.size,0,none⟩) 1 1]).run prog J=.ok VW C/\(∃a j,VW=.slice a (e+1) j)/\C.cell? ⟨n,11,none⟩=some (.slice R e F)/\C.frozen? ⟨n,11,none⟩=false/\Ei w n m p g W P (df [] p.cols (r++[x])) x (r.length+1) e K (C.setCell ⟨n,11,none⟩ VW)):=λd L W4=>by have O:Ky (λ_=>False) W d:=Ky.ab L;have Q:=B.x.ky O λ_ _ b=>b;(have W5:¬bF (eC x p.cols)∈(df [] p.cols r).map λb=>bF b.1:=λh=>by obtain⟨b,A,l⟩:=b6 h;exact W4 (by rw[<-jL (W8 b A) Wa l];exact fA A));obtain⟨o,Wg,XS,Yh,E,⟨XH,F,rfl⟩,WH,XO⟩:=Q.grow W5 V9 (by omega) (by omega);refine⟨Q.m.not V9 W5,Q.c12,o,XH,F,_,rfl,E,XS,WH,λJ XJ c3 Wu=>?_⟩;obtain⟨VW,C,K,We,Wf,X0,X1,X2,X3,X4,Ym⟩:=XO J XJ c3 Wu;refine⟨VW,C,K,We,Wf,X0,X1,⟨_,[],X2,by simp,by rw[fS];exact sx W4,by simp;omega,by simp⟩,λz b=>?_,(O.mono λ_ b=>b.elim).trans X4 (Nw.refl _ _)⟩;rcases X3 z b with b|b;(.exact .inl b);.have:=O.size;exact .inr (by omega)
 have Xw:Hid (∀VY∈r++[x],dH k VY):=λVY N=>by rcases cM N with N|N;(.exact B.ok VY N);.simp at N;subst N;exact Wb
 have Xo:Hid (eC x p.cols∈(df [] p.cols r).map (·.1)->∃Z,∃c:Nat,(df [] p.cols r)[c]?=some (eC x p.cols,Z)):=λh=>by obtain⟨b,A,l⟩:=b6 h;obtain⟨c,s⟩:=f9 A;exact⟨b.2,c,by rw[s,<-l]⟩
 have XC:Hid (∀t,Ky P W t->bX t a x):=λt XP=>XP.row Wn W0;have Xr:Hid (∀(K:Nat->Prop),Nw P K W->∀z,W.heap.size<=z->w.heap.size<=z):=λK _ z b=>by have:=Wm.size;omega
 have Xk:=H B.x.c12;have M:(x.length:Int)=(k:Int):=by omega
 have Xq:Hid (r.length+1=(r++[x]).length):=by show _=_;simp
 obtain⟨X9,WO⟩:=bj (bF (eC x p.cols));obtain⟨Yl,W2⟩:=bj p.cols.length;rw[WO] at Wj WD WC;rw[W2] at Wv Wj c3;have Xh:=H WM;have XW:x.length+1<=1048576:=by omega
 clear B Wm WN XK WR Wb Wn W0 WM WS Y W8 Wa V8 V9 W3 WO W2 WG M Xb;go_enter func265,ntmps265
 go_upto_region 1 with (first
  | (go_at_call 250;refine(U Wv).mono ?_;rintro _ Ys ⟨Ye,rfl,L,_,WW⟩;have Xi:=H L;have WA:=H WW;clear L WW)
  | (go_at_call 31;refine(U Wj _ _ (U WA) (U Xi)).mono ?_;rintro _ o ⟨rfl,WX⟩;have Wk:=H (ac (U WA) WX);clear WX))
 have Yv:o.cell? ⟨n,12,none⟩=some (.map (some m)):=ae (U Xk) (U Wk);by_cases V:eC x p.cols∈(df [] p.cols r).map (·.1);focus obtain⟨X5,c,s⟩:=U Xo V;obtain⟨X,Y⟩:=U WD o (U Wk) X5 c s;have Wl:=H X;have Xy:=H Y;clear X Y s V;go_upto_region 6 with (at_lookup;refine fc rfl (.tmp 20) (.tmp 21) 50 rfl _ _ rfl rfl (U Wl) ?_);obtain⟨t,I⟩:=bj o;obtain⟨VZ,WP⟩:=bj P;(have v:Hid (Ei w n m p g W P (df [] p.cols (r++[x])) x (r.length+1) c VZ t):=by rw[<-I,<-WP];exact Xy);rw[I];clear I WP
 rotate_left
 focus
  obtain⟨X,Yf,J,R,F,c,s,WG,WZ,WH,Wp⟩:=U WC o (U Wk) V;have Wl:=H X;have Xs:=H WZ;have X8:=H Wp;obtain⟨Yq,C,VZ,W9,⟨XG,XX,XV⟩,Yb,Yc,W7⟩:=Wp (J.alloc (.cells #[.slice none 0 0] 31)) (am VS _) (by simp[go_sem]) 229;subst XV;have XA:=H W9;have Xx:=H W7;clear X WZ Wp W9 W7 s V
  go_upto_region 6 with (first
   | (at_lookup;refine fc rfl (.tmp 20) (.tmp 21) 50 rfl _ _ rfl rfl (U Wl) ?_)
   | (at_mapUpdate;refine cW rfl (.tmp 35) (.tmp 36) (.tmp 37) 50 rfl _ _ _ rfl rfl rfl (U Xs) ?_)
   | (at_builtin;refine ij rfl (.tmp 42) (.tmp 43) #[229,229] rfl _ _ rfl rfl (U XA) ?_))
  obtain⟨t,I⟩:=bj (C.setCell ⟨n,11,none⟩ (.slice XG (c+1) XX));have v:Hid (Ei w n m p g W P (df [] p.cols (r++[x])) x (r.length+1) c VZ t):=by rw[<-I];exact Xx
  rw[I];clear I
 all_goals
  obtain⟨XY,X6,Xf,WU,WT,WY,Xc⟩:=(U v).s;have WE:=H Xf;have Wy:=H WU;have Xl:=H WT;have WB:=H (And.intro WY Xc);have XB:=H (U XC t (U v).k);clear Xf WU WT WY Xc
  go_upto_region 7 with (first
   | (at_make;refine kt _ rfl _ _ rfl (x.length+1) rfl (by rfl) XW ?_;intro Yt W6 WQ;have Xu:=H W6;have Wi:=H WQ;clear W6 WQ)
   | (at_builtin;go_loud (refine hp _ rfl (.tmp 50) (.tmp 51) rfl t.heap.size _ [] x a j (U Xh) rfl (U Xu) rfl ((U XB).aa (U Wi)) (by simp;omega) (U Wi).size ?_;intro XL u G T;have Xv:=H G;have Xj:=H ((U Wi).trans T);clear G T)))
  have T:=U Xj;have Wq:Ky (λ_=>False) t u:=Ky.ab T;have Xg:=(U WE).ky Wq λ_ _=>id;have G:=U Xv;rw[dK] at G;have Wt:dx u 0 XL x:=ye G;obtain⟨V0,V3,XM⟩:=d9 Wt;subst XM;have V7:∀f,(Value.slice V0 x.length V3).ownBlock=some f->t.heap.size<=f:=λf l=>(World.ownsRow.lt G f l).1;have XQ:=(U v).k.size;obtain⟨y,E,Yn,V2,V5,⟨V1,V4,XU⟩,Ws⟩:=Xg.push (U Wy) (U WB).1 (U WB).2 Wt (λf l b=>by have:=(U WE).lim f b;have:=V7 f l;omega) (λf l=>U Xr VZ (U v).n f (by have:=V7 f l;omega));subst XU;obtain⟨e,M⟩:=bj XY.length;obtain⟨Wd,Wr⟩:=bj X6.length;rw[M] at V2;rw[Wr] at V5;simp only[M,Wr] at Ws;have V:c<e:=by rw[<-M];exact(bD (U Wy)).1
  have Yg:(c:Int)<(e:Int):=by omega
  have Xz:=H Ws;have Wx:=H (And.intro V2 V5);have Xn:=H V7;have Wz:=H Wq;have i:Hid (u.drew.cell? ⟨n,11,none⟩=some (.slice (some ⟨y,0,none⟩) e E)/\u.drew.cell? ⟨y,c,none⟩=some (.slice V1 Wd V4)):=⟨ae V2 (VT _ u).drew,ae V5 (VT _ u).drew⟩;clear T Wq Xg G Wt V7 XQ V2 V5 Ws M Wr;refine bH (λW:World=>W.cell? ⟨n,11,none⟩=some (.slice (some ⟨y,0,none⟩) e E)/\W.cell? ⟨y,c,none⟩=some (.slice V1 Wd V4)) 16 ?_;refine ap 0 (.pointer (some ⟨n,0,none⟩)) rfl (U i) ?_;refine ap 1 (.pointer (some ⟨n,0,none⟩)) rfl (U i) ?_;refine ap 2 (.pointer (some ⟨n,11,none⟩)) rfl (U i) ?_;refine ap 3 (.slice (some ⟨y,0,none⟩) e E) rfl (U i) ?_ λWh S=>by obtain⟨We,Wf⟩:=S;go_simp
  refine ap 4 (.int .i64 (c:Int)) rfl (U i) ?_;refine ap 5 (.pointer (some ⟨n,0,none⟩)) rfl (U i) ?_;refine ap 6 (.pointer (some ⟨n,0,none⟩)) rfl (U i) ?_;refine ap 7 (.pointer (some ⟨n,11,none⟩)) rfl (U i) ?_;refine ap 8 (.slice (some ⟨y,0,none⟩) e E) rfl (U i) ?_ λWh S=>by obtain⟨We,Wf⟩:=S;go_simp
  refine ap 9 (.int .i64 (c:Int)) rfl (U i) ?_;refine ap 10 (.pointer (some ⟨y,c,none⟩)) rfl (U i) ?_;refine ap 11 (.slice V1 Wd V4) rfl (U i) ?_ λWh S=>by obtain⟨We,Wf⟩:=S;go_simp
  refine ap 12 (.slice V0 x.length V3) rfl (U i) ?_;refine bh 13 rfl λD q=>?_;go_simp;obtain⟨VX,Wc⟩:=bj ((u.alloc (.cells #[.slice V0 x.length V3] 40)).drew);have V6:Bw u VX:=(by rw[<-Wc];exact(am VS _).drew);have WJ:VX.cell? ⟨u.heap.size,0,none⟩=some (.slice V0 x.length V3):=(by rw[<-Wc];simp[go_sem]);have WL:=(⟨ae (U Wx).1 V6,ae (U Wx).2 V6⟩:VX.cell? ⟨n,11,none⟩=some (.slice (some ⟨y,0,none⟩) e E)/\VX.cell? ⟨y,c,none⟩=some (.slice V1 Wd V4));rw[Wc];have Ww:=H V6;have XE:=H WJ;have Xm:=H WL;clear V6 WJ WL Wc;refine VP q (U Xm) ?_;clear q D;refine bh 14 rfl λD q=>?_;obtain⟨Yo,Yu,XF,Xa,XR,WI,WK,Yd,Xe,W1,WV⟩:=U Xz VX _ (U Ww) (U XE) _;refine et (.tmp 64) (.tmp 66) #[31,31] rfl _ _ rfl rfl Xa ?_;obtain⟨Ya,Yk,XN⟩:=XR;subst XN;have XD:=H Xe;have Xt:=H W1;have Xp:=H WV;clear Xa Xe W1 WV;refine VP q ⟨WI,WK⟩ ?_;clear q D;refine bh 15 rfl λD q=>?_;go_simp;refine VP q ⟨WI,WK⟩ ?_;clear q D;refine bh 16 rfl λD q=>?_;go_simp;refine bE q ?_;clear q D;refine cf ?_;go_end0;have Xd:=U XD;rw[<-U Xl] at Xd;refine⟨rfl,XF,⟨by rw[<-U Xq];exact Xd,U Xw⟩,λz b=>?_,(U v).k.trans (((U Wz).mono λ_ b=>b.elim).trans (U Xp) (Nw.refl _ _)) (U v).n⟩;have Yw:=(U v).k.size;have Yx:=(U Wz).size;have Yy:=(U Ww).size;rcases U Xt z b with b|b|b;.exact(U v).n z b
  .have:=U Xn z b;exact .inr (by omega)
  .exact .inr (by omega)
def g2(a:Int)(c:List (List aH)):List aH:=c.map λb=>b.getD a.toNat .null
theorem wV(a:Int)(c:List (List aH))(b:List aH):g2 a (c++[b])=g2 a c++[b.getD a.toNat .null]:=by simp[g2]
def g0(cols:List Int):List (List aH×List (List aH)):=if cols=[] then [([],[])] else []
def dO(c:List (Int×Int))(b:List aH×List (List aH)):List aH:=b.1++c.map λa=>gV a.1 (g2 a.2 b.2)
def fk(a:Pl)(b:List (List aH)):List (List aH):=(df (g0 a.cols) a.cols b).map (dO a.aggs)
theorem rQ(cols:List Int):((g0 cols).map (·.1)).Nodup:=by unfold g0;split<;>simp
theorem tL(cols:List Int):∀b∈g0 cols,b.2=[]:=λb a=>by
 unfold g0 at a
 split at a
 .simp at a;subst a;rfl
 .cases a
theorem yZ(cols:List Int):(g0 cols).length<=1:=by unfold g0;split<;>simp
def yW(c:List Value)(d:List Nat)(a:Nat):List Value:=(c.zip d).flatMap λb=>[b.1,.slice (some ⟨b.2,0,none⟩) a a]
theorem tH:∀(d:List Value) (b:List Nat) (c a:Nat) (e:Value) (i:Nat),d[a]?=some e->b[a]?=some i->(yW d b c)[a*2]?=some e/\(yW d b c)[a*2+1]?=some (.slice (some ⟨i,0,none⟩) c c)
 | [],b,_,a,_,_,h,_=>by simp at h
 | _::_,[],_,a,_,_,_,h=>by simp at h
 | e::d,l::b,c,0,k,j,f,g=>by simp at f g;subst f g;exact⟨rfl,rfl⟩
 | e::d,l::b,c,a+1,k,j,f,g=>by have:=tH d b c a k j (by simpa using f) (by simpa using g);unfold yW at this ⊢;rw[show (a+1)*2=a*2+1+1 by omega];simpa using this
theorem Bf(b:List Value)(c:List Nat)(a:Nat)(e:Value)(d:Nat)(h:b.length=c.length):yW (b++[e]) (c++[d]) a=yW b c a++[e,.slice (some ⟨d,0,none⟩) a a]:=by unfold yW;rw[List.zip_append h,List.flatMap_append];rfl
structure BI(w:World)(v:Value)(l:List (List aH×List (List aH)))(aggs:List (Int×Int))(cs:List Value)(gb:List Nat)(mp:Nat->Nat->Option Nat):Prop where
 o:w.ownsRow 0 245 2 v l.length (yW cs gb aggs.length)
 lc:cs.length=l.length
 lg:gb.length=l.length
 c:∀(i:Nat) (c:Value) q,cs[i]?=some c->l[i]?=some q->dx w 0 c q.1
 t:∀b∈gb,Tg 270 w b
 g:∀(i:Nat) (b:Nat) q,gb[i]?=some b->l[i]?=some q->∀(a:Nat) f,aggs[a]?=some f->hJ w b (a*8) f.1 (g2 f.2 q.2) (mp i a)
 dc:∀(i j:Nat) (u u':Value) (g:Nat),cs[i]?=some u->cs[j]?=some u'->u.ownBlock=some g->u'.ownBlock=some g->i=j
 dg:∀(i j b:Nat),gb[i]?=some b->gb[j]?=some b->i=j
 dm:∀i a i' a' k,mp i a=some k->mp i' a'=some k->i=i'/\a=a'
theorem BI.ky{G:Nat->Prop}{q:List (List aH×List (List aH))}{l:List (Int×Int)}{g:List Nat}{i:Nat->Nat->Option Nat}(h:BI w v q l D g i)(f:Ky G w W)(u:∀c,v.ownBlock=some c->¬G c)(s:∀y∈D,∀c,y.ownBlock=some c->¬G c)(o:∀a∈g,¬G a)(t:∀b e p,i b e=some p->¬G p):BI W v q l D g i:=
 ⟨bM h.o f u,h.lc,h.lg,λb m j d k=>bM (h.c b m j d k) f (s m (VQ d)),λa n=>(h.t a n).ky f (o a n),λb a j d k e r x=>(h.g b a j d k e r x).ky f (o a (VQ d)) (t b e),h.dc,h.dg,h.dm⟩
theorem BI.tc{j:List (List aH×List (List aH))}{d:List (Int×Int)}{f:List Nat}{k:Nat->Nat->Option Nat}(h:BI w v j d D f k):∀b∈D,∀a,b.ownBlock=some a->Tg 43 w a:=λb g a e=>by
 obtain⟨i,c⟩:=f9 g
 have l:=(bD c).1
 have m:=h.lc
 exact br (h.c i b _ c (VR (by omega))) e
theorem BI.nm{d:List (List aH×List (List aH))}{b:List (Int×Int)}{f:List Nat}{e:Nat->Nat->Option Nat}(h:BI w v d b D f e)(l:n<d.length)(g:m<b.length)(c:e n m=some k)(o:Tg j w i):i≠k:=by
 have r:=h.lg;rcases(h.g n _ _ (VR (by omega)) (VR l) m _ (VR g)).m with ⟨a,_⟩|⟨q,a,_,p⟩
 .rw[c] at a;cases a
 .rw[c] at a;injection a with a;subst a;exact p.tg o
structure nZ(w0:World)(gx mb:Nat)(p:Pl)(m:Pm)(O:Nat->Prop)(l:List (List aH×List (List aH)))(n:Nat)(W:World):Prop where
 e:dL W gx 0 p m
 s:∃v cs gb mp,W.cell? ⟨gx,11,none⟩=some v/\BI W v l p.aggs cs gb mp/\(∀g,v.ownBlock=some g->O g)/\(∀u∈cs,∀g,u.ownBlock=some g->O g)/\(∀b∈gb,O b)/\(∀i a k,mp i a=some k->O k/\i<l.length/\a<p.aggs.length/\k≠mb)
 f:W.frozen? ⟨gx,11,none⟩=false
 t:Tg 224 W gx
 c12:W.cell? ⟨gx,12,none⟩=some (.map (some mb))
 m:nE W mb n (l.map λq=>bF q.1)
 o:O gx/\O mb
 lim:∀k,O k->w0.heap.size<=k/\k<W.heap.size
theorem nZ.ky{G:Nat->Prop}{q:List (List aH×List (List aH))}(h:nZ w n m p g P q k W)(b:Ky G W X)(a:∀c,P c->¬G c):nZ w n m p g P q k X:=by obtain⟨D,u,v,B,t,y,i,j,l,o⟩:=h.s;exact⟨h.e.ky b (a _ h.o.1),⟨D,u,v,B,b.cell t (a _ h.o.1),y.ky b (λe d=>a e (i e d)) (λC z e d=>a e (j C z e d)) (λf x=>a f (l f x)) (λA s c d=>a c (o A s c d).1),i,j,l,o⟩,VN b h.t.lt (a _ h.o.1) h.f,h.t.ky b (a _ h.o.1),b.cell h.c12 (a _ h.o.1),h.m.ky b (a _ h.o.2),h.o,λc r=>⟨(h.lim c r).1,cN (h.lim c r).2 b.size⟩⟩
theorem nZ.mono{a:List (List aH×List (List aH))}(h:nZ w n m p g P a k W)(e:k<=j):nZ w n m p g P a j W:=by obtain⟨b,c,d⟩:=h.m;exact⟨h.e,h.s,h.f,h.t,h.c12,⟨b,c.mono e,d⟩,h.o,h.lim⟩
structure ZG(w:World)(b n:Nat):Prop where
 t:Tg 270 w b
 g:∀a,a<n->jy w b (a*8) 0 0 0 .null none
theorem ZG.ky{F:Nat->Prop}(h:ZG w n m)(a:Ky F w W)(b:¬F n):ZG W n m:=⟨h.t.ky a b,λc d=>(h.g c d).ky a b⟩
def qC:Array Value:=#[.int .i64 0,.int .u64 0,.int .u64 0,.int .i64 0,.int .i64 0,.int .i64 0,.string ⟨#[]⟩,.map none]
theorem A7:(Tryz.prog.info? 270).map (λa=>(a.zero.map Value.cells,a.size,a.bytes))=some (some qC,8,72):=by kernel_rfl
theorem z1(d:World)(c:Nat)(n:c<=1048576):ZG (d.alloc (.cells (madeCells qC (c*8)) 270)) d.heap.size c:=by
 have h:=World.ownsRow_lit (base:=0) (e:=270) (size:=8) d (madeCells qC (c*8)) c bt (by unfold maxLen;omega) (size_madeCells _ _);refine⟨br h rfl,λf m=>?_⟩;have b:∀a,a<8->(d.alloc (.cells (madeCells qC (c*8)) 270)).cell? ⟨d.heap.size,f*8+a,none⟩=qC[a]?:=λa l=>by rw[World.ownsRow.cellAt h (f*8+a) (by omega)];(have j:(f*8+a) % 8=a:=by omega);(have k:f*8+a<c*8:=by omega);have i:qC.size=8:=rfl;(have g:a<qC.size:=by rw[i];exact l);simp[madeCells,k,i,j];rw[getElem!_pos qC a g,Array.getElem?_eq_getElem g]
 exact⟨b 0 (by omega),⟨b 1 (by omega),b 2 (by omega),b 3 (by omega),World.ownsRow.frozenAt h _,World.ownsRow.frozenAt h _,World.ownsRow.frozenAt h _⟩,b 4 (by omega),b 5 (by omega),b 6 (by omega),b 7 (by omega),λa=>World.ownsRow.frozenAt h _⟩
structure Et(W:World)(O:Nat->Prop)(gx:Nat)(p:Pl)(m:Pm)(v:Value)(L:List (List (List aH)))(us:List Value)(vss:List (List Value))(j:Nat)(u:Value)(rs:List (List aH))(xs:List Value)(D:List (List aH))(g:Nat)(i:Nat)(v3:Value)(w:World):Prop where
 s:∃ds,pi W O gx p m v L us vss j u (cj p.keys rs) xs i v3 (D++(fv p rs).take i) ds w/\∀x∈ds,∀q,x.ownBlock=some q->q≠g
 b:e8 w g (gY p (cj p.keys rs))
 g:W.heap.size<=g
theorem UU{c:List (Int×Bool)}(h:dh w a c):∀d f,a=some ⟨d,f,none⟩->c≠[]->d<w.heap.size:=λd f g e=>by
 rcases h with h|⟨k,m,b,h⟩
 .exact absurd h e
 .rw[g] at b
  injection b with b
  injection b with i l
  subst i
  cases c with
  | nil=>exact absurd rfl e
  | cons j c=>exact ck _ _ (h 0 j rfl).1
theorem vB(Wt:Dm w n m p g k R r W)(XK:Bw w W)(W7:dh w g.aK p.keys)(XW:eZ p.keys k)(XN:p.fn=1∨p.fn=2∨p.fn=3∨(0<=p.aj/\p.aj<(k:Int)))(X2:bY p.n)(X3:p.fn=6->0<=p.n)(Xk:k<=64)(Zq:r.length<=2147483648):Calls prog 266 #[.pointer (some ⟨n,0,none⟩)] W λa Ww=>∃Xt Wi,a=.returned Xt/\vd Wi Ww Xt (eE p r)/\Ky R W Ww/\Nw R Wi W/\∀E,Wi E->E<Ww.heap.size:=by
 obtain⟨i,V6⟩:=bj ((df [] p.cols r).map (·.2));have Xl:eE p r=i.flatMap (fv p):=by rw[<-V6,List.flatMap_map];rfl
 have Ya:∀d∈i,∀j∈d,dH k j:=λd u j M=>by rw[<-V6] at u;obtain⟨e,Xe,rfl⟩:=b6 u;rw[fh (λe h=>by cases h) p.cols r e Xe] at M;exact Wt.ok j (List.mem_filter.1 M).1
 have XY:∀c,((i.take c).flatMap (fv p)).length<=2147483648:=λc=>by(have YM:((i.take c).flatMap (fv p)).length<=(i.flatMap (fv p)).length:=by(conv=>rhs;rw[<-List.take_append_drop c i,List.flatMap_append,bG]);omega);rw[<-Xl,la] at YM;omega
 have X6:∀d∈i,d.length<=2147483648:=λd u=>by rw[<-V6] at u;obtain⟨e,Xe,rfl⟩:=b6 u;rw[fh (λe h=>by cases h) p.cols r e Xe];have:=List.length_filter_le (λj=>decide (eC j p.cols=e.1)) r;omega
 obtain⟨Xt,Y8,Y9,YC,Wp⟩:=Wt.x.rin;rw[V6] at Wp;have XZ:=Wt.x.lim;have Zk:=Wt.x.o.1;obtain⟨XD,VX,Y3⟩:=fT Wp.o;subst Y3;have XP:=hy [] p.cols r;have YP:i.length<=2147483648:=by rw[<-V6,bQ];simp at XP;omega
 obtain⟨F,W8⟩:=bj i.length;rw[W8] at Wp YC YP;have Yv:=H Wp;have WA:=H W8;have Yy:=H Xl;have WT:=H Ya;have Yu:=H XY;have WR:=H X6;have WL:=H XK;have V1:=H XZ;have Xz:=H W7;have XA:=H XW;have WN:=H (And.intro XN (And.intro X2 X3));have Yt:=H (UU W7);have Xv:Hid (∀wr,Ky R W wr->Bw w wr):=λwr YU=>(U WL).trans (YU.below (λE e=>(U V1 E e).1) (U WL).size);clear Wt XK W7 XW XN X2 X3 Wp XZ Ya XY X6 Xl W8 V6 XP;go_enter func266,ntmps266;go_upto_region 3 with fail;go_loopw[3,13] (λXs Xo wr=>∃(c:Nat) (L:Option Addr) (q c3:Nat),c<=F/\Xo=.int .i64 (c:Int)/\Xs=.slice L q c3/\q<=2147483648/\Hid (q=((i.take c).flatMap (fv p)).length/\∃K N V5,pi W R n p g (.slice XD F VX) i K N c (.slice none 0 0) [] [] 0 (.slice L q c3) ((i.take c).flatMap (fv p)) V5 wr)) (λ_ Xo _=>F-(intOf Xo).toNat);case atStart=>exact⟨0,none,0,0,bt,rfl,rfl,by omega,by simp,Y8,Y9,[],Yv⟩
 case round=>
  obtain⟨c,L,q,c3,Zm,rfl,rfl,Zo,WD⟩:=hrel;by_cases X0:c<F
  ·(have YO:(c:Int)<(F:Int):=by omega);obtain⟨WJ,K,N,V5,z⟩:=U WD;obtain⟨d,u⟩:∃d,i[c]?=some d:=⟨_,VR (by rw[U WA];exact X0)⟩;have Wn:=z.o;rw[U WA] at Wn;(obtain⟨V,YR⟩:∃V,XD=some ⟨V,0,none⟩:=by(rcases Wn.2 with ⟨_,Zi⟩|⟨o,YF,YG,a,_⟩);(.omega);.injection a with a _ _;exact⟨o,a⟩);subst YR;(have Y2:K.length=F:=by have:=Wn.1;omega);obtain⟨Wc,Wr⟩:∃Wc,K[c]?=some Wc:=⟨_,VR (by omega)⟩;have XE:=World.ownsRow.cellAt Wn c (by omega);rw[Wr] at XE;obtain⟨Wv,WK⟩:∃Wv,N[c]?=some Wv:=⟨_,VR (by rw[z.lv,U WA];exact X0)⟩;have Xi:=z.p c Wc d Wv bi Wr u WK;obtain⟨V3,VW,Y1⟩:=fT Xi.o;have XM:=U Xv wr z.k;have Xj:=z.bv.2.1 Wc (VQ Wr);have Yd:∀C∈Wv,∀o,C.ownBlock=some o->R o:=λC D o a=>z.bx.2 C (List.mem_flatten.2 ⟨Wv,by rw[hC WK];simp,D⟩) o a;have Zg:=z.k.size;have Zd:=(U WL).size;have YD:=z.e.c4;obtain⟨Zr,X4⟩:=bj p.keys.length;(have Wy:Hid (Calls prog 201 #[.slice g.aK p.keys.length g.cK] wr λa S=>∃Wd,a=.returned (.func (.func 220) #[] #[.pointer (some ⟨Wd,0,none⟩)])/\Bw wr S/\Calls prog 26 #[Wc,.func (.func 220) #[] #[.pointer (some ⟨Wd,0,none⟩)]] S λa B=>a=.returned (.tuple #[])/\∃x,pi W R n p g (.slice (some ⟨V,0,none⟩) F VX) i K N (c+1) Wc (cj p.keys d) x 0 (.slice L q c3) ((i.take c).flatMap (fv p)) V5 B):=by refine(DJ (Q:=λE=>E<w.heap.size) ((U Xz).aa XM) (U Yt)).mono ?_;rintro a S ⟨Wd,rfl,YZ,Zj,WI⟩;have Ye:Ky (λ_=>False) wr S:=Ky.ab WI;have Y6:=z.ky Ye;refine⟨Wd,rfl,WI,(xN (P:=R) (Xi.ky Ye (λ_ _=>id) λ_ _ _ _=>id) Xj Yd YZ (U XA) Xk (U WT d (VQ u)) (U WR d (VQ u)) λo a e=>?_).mono ?_⟩;(.have:=U V1 o (Xj o a);rcases e with e|e<;>omega);.rintro a B ⟨rfl,YV,x,Y0,YW⟩;exact⟨rfl,x,Y6.sort Wr u WK YV Y0 YW⟩);subst Y1;obtain⟨Xp,Wl⟩:=bj d.length;(have Xh:(cj p.keys d).length=Xp:=by rw[(cB p.keys d).length_eq,Wl]);(have WP:Hid (∀B x,pi W R n p g (.slice (some ⟨V,0,none⟩) F VX) i K N (c+1) (.slice V3 d.length VW) (cj p.keys d) x 0 (.slice L q c3) ((i.take c).flatMap (fv p)) V5 B->Calls prog 267 #[p.val g,.slice V3 d.length VW] B (vc B (gY p (cj p.keys d)))):=λB x I=>by have X9:∀j∈cj p.keys d,dH k j:=λj M=>U WT d (VQ u) j ((cB _ _).mem_iff.1 M);have Ze:=I.k.size;refine tz (P:=R) ⟨⟨x,by have:=I.l.1;omega,I.l,λb C j Wb Ws=>mq (I.r b C j bt Wb Ws) (I.bx.1 C (VQ Wb))⟩,I.bv.2.2.1⟩ (λE e=>by have:=U V1 E e;omega) (by rw[Xh];have:=U WR d (VQ u);omega) (λj M=>(X9 j M).len) (λj M C D=>((X9 j M).val C D).1) Xk ((U Xz).aa (U Xv B I.k)) (U XA) (U WN).1 (U WN).2.1 (U WN).2.2);have Yx:=H u;have WE:=H Xh;have Yq:Hid (d.length<=2147483648):=U WR d (VQ u);(have WU:Hid ((i.take (c+1)).flatMap (fv p)=(i.take c).flatMap (fv p)++fv p d):=by show _=_;rw[List.take_add_one,u,List.flatMap_append];simp);have WQ:=H WJ;rw[Wl] at WP Wy XE;rw[X4] at Wy YD;have WB:=H Wl;(have Zp:Xp<=2147483648:=by rw[<-Wl];exact U Yq);clear z Wn Y2 Wr WK Xi XM Xj Yd Zg Zd WJ u Xh Wl X4 WD
   go_upto_region 6 with (first
    | (go_at_call 201;refine(U Wy).mono ?_;rintro _ S ⟨Wd,rfl,WI,XO⟩;have Yg:=H XO;clear XO WI)
    | (go_at_call 26;refine(U Yg).mono ?_;rintro _ B ⟨rfl,x,Xf⟩;have WS:=H Xf;have Xw:=H Xf.e.load;clear Xf))
   obtain⟨A,Xd⟩:=bj ((gY p (cj p.keys d)).length);(have YY:A=Xp:=by rw[<-Xd,qH,U WE]);subst YY;have XB:=H Xd;clear Xd
   go_upto_region 7 with (first
    | (refine a1 (by rfl) 28 (.tmp 27) rfl _ (by rfl) _ (U Xw) ?_)
    | (go_at_call 267;refine(U WP B x (U WS)).mono ?_;rintro _ Wx ⟨o,rfl,XR,XS,XT⟩;rw[U XB];have Yn:=H XR;have Xx:=H XS;have Yo:=H XT;clear XR XS XT))
   (have X5:Et W R n p g (.slice (some ⟨V,0,none⟩) F VX) i K N (c+1) (.slice V3 A VW) d x ((i.take c).flatMap (fv p)) o 0 (.slice L q c3) Wx:=by have I:=U WS;have Ze:=I.k.size;refine⟨⟨V5,by simpa using I.ky (Ky.ab (U Yo)),λC D e a W4=>?_⟩,U Yn,by have:=U Xx;omega⟩;obtain⟨b,Xc⟩:=f9 D;have Zl:=(bD Xc).1;have Zv:=I.d.l;have:=(World.ownsRow.lt (I.d.r b C _ Xc (VR (by omega))) e a).2;have:=U Xx;omega);have XC:=H X5;(have YX:q+A<=2147483648:=by have:=U Yu (c+1);rw[U WU,bG,ik,U WB,<-U WQ] at this;exact this);clear X5 WP Xw Wy;rename World=>w1x;go_loopw[3,32] (λXs Xn wr=>∃(b:Nat) (L:Option Addr) (c3:Nat),b<=A/\Xn=.int .i64 (b:Int)/\Xs=.slice L (q+b) c3/\Hid (Et W R n p g (.slice (some ⟨V,0,none⟩) F VX) i K N (c+1) (.slice V3 A VW) d x ((i.take c).flatMap (fv p)) o b (.slice L (q+b) c3) wr)) (λ_ Xn _=>A-(intOf Xn).toNat);(case atStart=>exact⟨0,L,c3,bt,rfl,rfl,XC⟩);case round=>clear XC WS;obtain⟨b,V2,V4,Xc,rfl,rfl,Wh⟩:=hrel;by_cases X1:b<A;(·(have YN:(b:Int)<(A:Int):=by omega);obtain⟨f,Xm⟩:∃f,(gY p (cj p.keys d))[b]?=some f:=⟨_,VR (by rw[U XB];exact X1)⟩;obtain⟨j,M⟩:∃j,(cj p.keys d)[b]?=some j:=⟨_,VR (by rw[U WE];exact X1)⟩;obtain⟨Za,Zb,Zc⟩:=(U Wh).b.at Xm;have YA:=H Xm;have WC:=H M;clear Xm M;go_upto_region 9 with fail;obtain⟨l,V8⟩:=bj (wr.alloc (.cells #[.int .i64 f.k,.int .i64 f.n,.string f.s] 43));obtain⟨t,Wq⟩:=bj wr.heap.size;(have Xa:Bw wr l:=by rw[<-V8];exact am VS _);(have WY:l.cell? ⟨t,0,none⟩=some (.int .i64 f.k):=by rw[<-V8,<-Wq];simp[go_sem]);(have WZ:l.cell? ⟨t,1,none⟩=some (.int .i64 f.n):=by rw[<-V8,<-Wq];simp[go_sem]);(have W0:l.cell? ⟨t,2,none⟩=some (.string f.s):=by rw[<-V8,<-Wq];simp[go_sem]);(have X:Et W R n p g (.slice (some ⟨V,0,none⟩) F VX) i K N (c+1) (.slice V3 A VW) d x ((i.take c).flatMap (fv p)) o b (.slice V2 (q+b) V4) l:=by obtain⟨⟨W3,Wb,Ws⟩,Xq,Xr⟩:=U Wh;exact⟨⟨W3,Wb.ky (Ky.ab Xa),Ws⟩,Xq.aa Xa,Xr⟩);rw[V8,Wq];obtain⟨XF,Y,XJ⟩:=X.s;(obtain⟨O,YQ⟩:∃O,V3=some ⟨O,0,none⟩:=by(rcases Y.l.2 with ⟨a,_⟩|⟨YL,YF,YG,a,_⟩);(.injection a with _ a _;omega);.injection a with a _ _;exact⟨YL,a⟩);subst YQ;have Wk:=Y.l;rw[U WE] at Wk;(have Y5:x.length=A:=by have:=Wk.1;omega);obtain⟨C,D⟩:∃C,x[b]?=some C:=⟨_,VR (by omega)⟩;have Wj:=World.ownsRow.cellAt Wk b (by omega);rw[D] at Wj;have Xg:=Y.r b C j bi D (U WC);obtain⟨G,J,Y4⟩:=d9 Xg;subst Y4;have Yb:dH k j:=U WT d (VQ (U Yx)) j ((cB _ _).mem_iff.1 (VQ (U WC)));obtain⟨v,Wm⟩:=bj j.length;(have W6:((i.take c).flatMap (fv p)++(fv p d).take b).length=q+b:=by rw[bG,<-U WQ,List.length_take,ik,U WB];omega);(have Yk:Hid (∀s,Bw l s->∀Wu,s.cell? ⟨Wu,0,none⟩=some (.int .i64 f.k)->s.cell? ⟨Wu,1,none⟩=some (.int .i64 f.n)->s.cell? ⟨Wu,2,none⟩=some (.string f.s)->∃VZ S,(Builtin.append_ #[40,40] 40 #[.slice G v J,.slice (some ⟨Wu,0,none⟩) 1 1]).run prog s=.ok VZ S/\(∃WW W1,VZ=.slice WW (v+1) W1)/\Ky (λE=>(Value.slice G v J).ownBlock=some E) s S/\(∀o,VZ.ownBlock=some o->(Value.slice G v J).ownBlock=some o∨s.heap.size<=o)/\∀B Yf,Bw S B->B.cell? ⟨Yf,0,none⟩=some VZ->∀Y7,∃Xu Wx,(Builtin.append_ #[31,31] Y7 #[.slice V2 (q+b) V4,.slice (some ⟨Yf,0,none⟩) 1 1]).run prog B=.ok Xu Wx/\(∃WW W1,Xu=.slice WW (q+b+1) W1)/\Ky (λE=>(Value.slice G v J).ownBlock=some E∨(Value.slice V2 (q+b) V4).ownBlock=some E) s Wx/\pi W R n p g (.slice (some ⟨V,0,none⟩) F VX) i K N (c+1) (.slice (some ⟨O,0,none⟩) A VW) (cj p.keys d) x (b+1) Xu ((i.take c).flatMap (fv p)++(fv p d).take b++[j++[f]]) (XF++[VZ]) Wx):=λs Z Wu WF WG WH=>by have:=(Y.ky (Ky.ab Z)).app D (U WC) (by rw[Yb.len];exact Xk) (by rw[W6];omega) WF WG WH 40;rw[W6] at this;rw[Wm] at this;exact this);rw[Wm] at Wj;have Xb:∀e,(Value.slice G v J).ownBlock=some e->R e:=λe a=>Y.bx.1 _ (VQ D) e (by rw[Wm];exact a);have XI:∀e,(Value.slice V2 (q+b) V4).ownBlock=some e->e≠o:=λe a=>(br Y.d.o a).ne (br X.b rfl) (by decide);have XU:¬(Value.slice G v J).ownBlock=some O:=λa=>(br Xg (by rw[Wm];exact a)).ne (br Wk rfl) (by decide) rfl;(have Yc:¬(Value.slice G v J).ownBlock=some t:=λa=>by have:=U V1 t (Xb t a);have:=Y.k.size;have:=(U Wh).s.choose_spec.1.k.size;omega);have Yp:=H XU;have WV:=H Yc;have Xy:=H Xb;have Yh:=H XI;have Yj:=H XJ;have Yi:=H X;have Wz:=H (And.intro Wj (And.intro WY (And.intro WZ W0)));have V0:Hid (l.drew.cell? ⟨O,b,none⟩=some (.slice G v J)/\l.drew.cell? ⟨t,0,none⟩=some (.int .i64 f.k)/\l.drew.cell? ⟨t,1,none⟩=some (.int .i64 f.n)/\l.drew.cell? ⟨t,2,none⟩=some (.string f.s)):=⟨ae Wj (VT _ l).drew,ae WY (VT _ l).drew,ae WZ (VT _ l).drew,ae W0 (VT _ l).drew⟩;clear Xa WY WZ W0 X Y XJ Wk Y5 D Wj Xg Yb Wm W6 Xb XI XU Yc Za Zb Zc V8 Wq Wh;refine bH (λW:World=>W.cell? ⟨O,b,none⟩=some (.slice G v J)/\W.cell? ⟨t,0,none⟩=some (.int .i64 f.k)/\W.cell? ⟨t,1,none⟩=some (.int .i64 f.n)/\W.cell? ⟨t,2,none⟩=some (.string f.s)) 9 ?_;refine ap 0 (.slice V2 (q+b) V4) rfl (U V0) ?_;refine ap 1 (.slice (some ⟨O,0,none⟩) A VW) rfl (U V0) ?_;refine ap 2 (.int .i64 (b:Int)) rfl (U V0) ?_;refine ap 3 (.pointer (some ⟨O,b,none⟩)) rfl (U V0) ?_;(refine ap 4 (.slice G v J) rfl (U V0) ?_ λWw W9=>by obtain⟨Wb,Ws,Xq,Xr⟩:=W9;go_simp);(refine ap 5 (.agg #[.int .i64 f.k,.int .i64 f.n,.string f.s]) rfl (U V0) ?_ λWw W9=>by obtain⟨Wb,Ws,Xq,Xr⟩:=W9;go_simp);refine bh 6 rfl λT y=>?_;go_simp;obtain⟨s,V9⟩:=bj ((l.alloc (.cells #[.int .i64 f.k,.int .i64 f.n,.string f.s] 43)).drew);have Z:Bw l s:=(by rw[<-V9];exact(am VS _).drew);have WF:s.cell? ⟨l.heap.size,0,none⟩=some (.int .i64 f.k):=(by rw[<-V9];simp[go_sem]);have WG:s.cell? ⟨l.heap.size,1,none⟩=some (.int .i64 f.n):=(by rw[<-V9];simp[go_sem]);have WH:s.cell? ⟨l.heap.size,2,none⟩=some (.string f.s):=(by rw[<-V9];simp[go_sem]);have XG:=(⟨ae (U Wz).1 Z,ae (U Wz).2.1 Z,ae (U Wz).2.2.1 Z,ae (U Wz).2.2.2 Z⟩:s.cell? ⟨O,b,none⟩=some (.slice G v J)/\s.cell? ⟨t,0,none⟩=some (.int .i64 f.k)/\s.cell? ⟨t,1,none⟩=some (.int .i64 f.n)/\s.cell? ⟨t,2,none⟩=some (.string f.s));rw[V9];have WM:=H Z;have Wf:=H XG;have WO:=H (And.intro WF (And.intro WG WH));clear Z WF WG WH XG V9;refine VP y (U Wf) ?_;clear y T;refine bh 7 rfl λT y=>?_;obtain⟨Zu,VY,X7,⟨WX,W2,YS⟩,V7,XL,XQ⟩:=U Yk s (U WM) l.heap.size (U WO).1 (U WO).2.1 (U WO).2.2;refine et (.tmp 41) (.tmp 43) #[40,40] rfl _ _ rfl rfl X7 ?_;subst YS;have Zh:=H V7;have XH:=(⟨V7.cell (U Wf).1 (U Yp),V7.cell (U Wf).2.1 (U WV),V7.cell (U Wf).2.2.1 (U WV),V7.cell (U Wf).2.2.2 (U WV)⟩:VY.cell? ⟨O,b,none⟩=some (.slice G v J)/\VY.cell? ⟨t,0,none⟩=some (.int .i64 f.k)/\VY.cell? ⟨t,1,none⟩=some (.int .i64 f.n)/\VY.cell? ⟨t,2,none⟩=some (.string f.s));have Wg:=H XH;have Yz:=H XL;have Yl:=H XQ;clear X7 V7 XL XQ XH;refine VP y (U Wg) ?_;clear y T;refine bh 8 rfl λT y=>?_;go_simp;have We:=H (am (VT _ VY) (.cells #[.slice WX (v+1) W2] 40));obtain⟨Zs,Zt,X8,⟨YB,YE,YT⟩,XX,XV⟩:=U Yl (VY.alloc (.cells #[.slice WX (v+1) W2] 40)) VY.heap.size (U We) (by simp[go_sem]) 31;subst YT;have Yw:=H X8;have Ys:=H XX;have Yr:=H XV;clear X8 XX XV;refine VP y ⟨ae (U Wg).1 (U We),ae (U Wg).2.1 (U We),ae (U Wg).2.2.1 (U We),ae (U Wg).2.2.2 (U We)⟩ ?_;clear y T;refine bh 9 rfl λT y=>?_;refine et (.tmp 37) (.tmp 45) #[31,31] rfl _ _ rfl rfl (U Yw) ?_;refine bE y ?_;clear y T;refine bh 10 rfl λT y=>?_;go_simp;refine bE y ?_;clear y T;refine cf ?_;go_wp2;go_roundw;(case rel=>have X:=U Yi;have Zn:=X.b.lt;have Zw:=(U WM).size;have Zf:=X.g;refine⟨b+1,YB,YE,by omega,by go_num,rfl,⟨XF++[.slice WX (v+1) W2],?_,λVZ Wa e a=>?_⟩,?_,Zf⟩;(.have:=U Yr;rw[cI] at this;rw[n7 (z7 (U WC) (U YA))];exact this);(.rcases cM Wa with Wa | Wa;(.exact U Yj VZ Wa e a);.simp at Wa;subst Wa;rcases U Yz e a with W4|W4;(.rintro rfl;have:=U V1 e (U Xy e W4);omega);.omega);.refine(X.b.aa (U WM)).ky (U Ys) λe=>?_;rcases e with e|e;(.have:=U V1 o (U Xy o e);omega);.exact U Yh o e rfl);case measure=>simp[intOf];omega);·(have YN:¬(b:Int)<(A:Int):=by omega);(have a:b=A:=by omega);subst a;go_wp2;go_roundw;(case rel=>obtain⟨W3,W5,_⟩:=(U Wh).s;have D:=W5.l.1;rw[show (fv p d).take b=fv p d from fz (by rw[ik,U WB];exact bi),<-U WU] at W5;refine⟨c+1,V2,q+b,V4,by omega,by go_num,rfl,YX,?_,K,N,W3,W5.idle (by rw[U WE] at D;omega)⟩;rw[U WU,bG,ik,U WB,<-U WQ]);case measure=>simp[intOf];omega
  ·(have YO:¬(c:Int)<(F:Int):=by omega);obtain⟨WJ,K,N,V5,z⟩:=U WD;clear WJ;have a:i.take c=i:=fz (by rw[U WA];omega);rw[a,<-U Yy] at z;have Ym:=H z.fin;clear z a WD;go_wp2;go_ret;obtain⟨Wi,YH,YI,YJ,YK⟩:=U Ym;exact⟨.slice L q c3,rfl,Wi,YH,YI,YJ,YK⟩
theorem qG(a x:Value):xf (.func (.method "Add") #[.iface 206 a] #[]) x 265 #[a,x]:=λb=>by kernel_rfl
theorem pm(a:Value)(b:World):(invoke (.fn (.method "Rows") #[]) #[.iface 206 a]).run prog b=.ok (.enter 266 #[a]) b:=by kernel_rfl
structure zR(w0:World)(p:Pl)(m:Pm)(wd:Nat):Prop where
 c:bP w0 m.aC p.cols
 cl:p.cols.length<=1000000
 ci:∀i∈p.cols,0<=i/\i<(wd:Int)
 k:dh w0 m.aK p.keys
 k0:eZ p.keys wd
 f:p.fn=1∨p.fn=2∨p.fn=3∨(0<=p.aj/\p.aj<(wd:Int))
 n:bY p.n
 n6:p.fn=6->0<=p.n
theorem z6{w0:World}{gx mb:Nat}{p:Pl}{m:Pm}{wd:Nat}(h:zR w0 p m wd)(hwd:wd<=64) :
  Dg w0 wd (.iface 206 (.pointer (some ⟨gx,0,none⟩))) (eE p) (Dm w0 gx mb p m wd) where
 i:=⟨_,_,rfl⟩
 add O ys W a c r s hB hl hr ha hn hA:=⟨265,_,qG _ _,yd s hB h.c h.cl h.ci hwd hl hr ha hn hA⟩
 rows:=⟨266,_,pm _,λO ys W s hB hl=>vB s hB h.k h.k0 h.f h.n h.n6 hwd hl⟩
 stb:=Us
theorem pJ{p:Pl}{m:Pm}{wd:Nat}(s:Bw w W):Calls prog 186 #[p.val m] W λj x=>∃r J q,j=.returned (.pointer (some ⟨r,0,none⟩))/\Dm w r J p m wd q [] x/\(∀b,q b->W.heap.size<=b)/\Bw W x:=by
 obtain⟨a,f⟩:=bj (W.alloc (p.box m));have u:Bw W a:=by rw[<-f];exact am VS _
 have k:a.heap.size=W.heap.size+1:=by rw[<-f];simp
 have t:dL a W.heap.size 0 p m:=by rw[<-f];refine⟨?_,?_,?_,?_,?_,?_,?_,?_,?_,?_,?_⟩<;>simp[go_sem]
 have o:=H t.load;have z:=H u;have A:=H k;have B:=H f;have y:=H s;have L:=@run_makeMap prog;rw[Pl.ad] at o ⊢;clear t u k f s;go_enter func186,ntmps186;go_upto_region 1 with fail;rw[U B];go_wp2_with (refine a1 (by rfl) 28 (.tmp 1) rfl _ (by rfl) _ (U o) ?_);go_ret;obtain⟨c,g⟩:=bj (a.alloc (.map #[] 0));have E:nE c a.heap.size 0 []:=by rw[<-g];exact nE.made a
 have e:c.heap.size=a.heap.size+1:=by rw[<-g];simp
 have D:Bw a c:=by rw[<-g];exact am VS _
 rw[g];obtain⟨i,d⟩:∃i:Obj,(.cells #[.int .i64 p.op,.string p.au,.slice m.aE p.ex.length m.cE,.slice m.aC p.cols.length m.cC,.slice m.aK p.keys.length m.cK,.slice m.aA p.aggs.length m.cA,.int .i64 p.fn,.int .i64 p.aj,.int .i64 p.n,.int .i64 p.off,.slice m.aP p.args.length m.cP,.slice none 0 0,.map (some a.heap.size)] 231)=i:=⟨_,rfl⟩;have v:=am (VT c.heap.size c) i;have M:(c.alloc i).heap.size=c.heap.size+1:=by simp
 have k:=U A;have N:=(U y).size;rw[d];refine⟨a.heap.size+1,a.heap.size,λb=>b=a.heap.size+1∨b=a.heap.size,rfl,⟨⟨?_,⟨.slice none 0 0,[],[],?_,⟨World.ownsRow_nil _ _ _ _,rfl,rfl,λI n Q S h=>by simp at h,λI O n R C h=>by simp at h,by simp⟩,λC j=>(by cases j),λn l=>(by cases l),λn l=>(by cases l)⟩,?_,?_,?_,E.ky (Ky.ab v (F:=λ_=>False)) id,⟨.inl rfl,.inr rfl⟩,λb K=>by omega⟩,λP G=>(by cases G)⟩,λb K=>by omega,ac (U z) (ac D v)⟩;.rw[<-e,<-d];refine⟨?_,?_,?_,?_,?_,?_,?_,?_,?_,?_,?_⟩<;>simp[go_sem]
 .rw[<-e,<-d];simp[go_sem]
 .rw[<-e,<-d];simp[go_sem]
 .rw[<-e,<-d];exact⟨_,_,Go.Deep.blk_alloc_new _ _⟩
 .rw[<-e,<-d];simp[go_sem,e]
theorem tI(k:p.op=10)(q:Bw w W)(h:zR w p g n)(G:n<=64):Calls prog 138 #[p.val g] W λF u=>∃t m b,F=.returned t/\Dg w n t (eE p) m/\m b [] u/\(∀d,b d->W.heap.size<=d)/\Bw W u:=by
 obtain⟨f,a⟩:=bj (W.alloc (p.box g));have j:Bw W f:=by rw[<-a];exact am VS _
 have l:f.heap.size=W.heap.size+1:=by rw[<-a];simp
 have i:dL f W.heap.size 0 p g:=by rw[<-a];refine⟨?_,?_,?_,?_,?_,?_,?_,?_,?_,?_,?_⟩<;>simp[go_sem]
 have y:=H (pJ (wd:=n) (p:=p) (m:=g) (ac q j));have z:=H i.load;have v:=H j;have C:=H l;have A:=H (λc e=>z6 (w0:=w) (gx:=c) (mb:=e) h G);have E:=H a;have J:=i.c0;have K:(p.op == 6)=false:=by rw[k];decide
 have L:(p.op == 9)=false:=by rw[k];decide
 clear i j l a q k h;rw[Pl.ad];go_enter func138,ntmps138;go_upto_region 1 with fail;rw[U E]
 go_wp2_with (first
  | (refine a1 (by rfl) 28 (.tmp 1) rfl _ (by rfl) _ (U z) ?_)
  | (go_at_call 186;refine(U y).mono ?_;rintro _ M ⟨c,e,b,rfl,s,r,o⟩;have D:=H s;have B:=H r;have x:=H o;clear s r o))
 go_ret;have l:=U C;exact⟨_,_,b,rfl,U A c e,U D,λd I=>by have:=U B d I;omega,ac (U v) (U x)⟩
theorem A8:(Tryz.prog.info? 245).map (λa=>(a.zero,a.size,a.bytes))=some (some (.agg #[.slice none 0 0,.slice none 0 0]),2,48):=by kernel_rfl
theorem nZ.grow{G:List (List aH×List (List aH))}(h:nZ w n m p g Q G k W)(WL:¬bF x∈G.map λd=>bF d.1)(WM:cJ.ok (bF x))(Wq:k<=2147483649)(W6:G.length<=2147483649)(Wn:dx W 0 v x)(Wd:∀c,v.ownBlock=some c->¬Q c/\w.heap.size<=c):∃E l,(Instr.mapUpdate 50 (.map (some m)) (.string (bF x)) (.int .i64 (G.length:Int))).run prog W=.ok () E/\Ky (λb=>b=m) W E/\W.cell? ⟨n,11,none⟩=some l/\(∃e B,l=.slice e G.length B)/\E.cell? ⟨n,11,none⟩=some l/\∀f gk V5,Bw E f->ZG f gk p.aggs.length->E.heap.size<=gk->f.cell? ⟨V5,0,none⟩=some v->f.cell? ⟨V5,1,none⟩=some (.slice (some ⟨gk,0,none⟩) p.aggs.length p.aggs.length)->∀Wj,∃D q V9,(Builtin.append_ #[222,222] Wj #[l,.slice (some ⟨V5,0,none⟩) 1 1]).run prog f=.ok D q/\(∃e B,D=.slice e (G.length+1) B)/\q.cell? ⟨n,11,none⟩=some l/\q.frozen? ⟨n,11,none⟩=false/\nZ w n m p g V9 (G++[(x,[])]) (k+1) (q.setCell ⟨n,11,none⟩ D)/\(∀b,V9 b->Q b∨v.ownBlock=some b∨W.heap.size<=b)/\Ky Q W (q.setCell ⟨n,11,none⟩ D)/\(∀b,Q b->V9 b):=by
 obtain⟨l,j,J,V3,B,s,V7,VZ,Wc,V⟩:=h.s;obtain⟨E,Ws,WN,WI⟩:=h.m.put (by omega) (by simp;omega) WM WL;rw[bQ] at Ws;have F:Ky (λb=>b=m) W E:=Ky.ao WI λb a=>by injection a with a;exact a.symm
 have V1:∀{I c},Tg I W c->¬c=m:=λy=>h.m.tg y;have X:n≠m:=V1 h.t;have WU:∃e B,l=.slice e G.length B:=by(rcases s.o.2 with ⟨rfl,Wm⟩|⟨c,Wz,WC,rfl,_⟩);(.exact⟨none,0,by rw[Wm]⟩);.exact⟨_,_,rfl⟩
 refine⟨E,l,Ws,F,B,WU,F.cell B X,λf gk V5 V0 V8 W5 WA WB Wj=>?_⟩;have WR:BI E l G p.aggs j J V3:=s.ky F (λc a=>V1 (br s.o a)) (λVY N c a=>V1 (s.tc VY N c a)) (λo t=>V1 (s.t o t)) λi e x a=>(V i e x a).2.2.2;have O:Ky (λ_=>False) E f:=Ky.ab V0;have M:=WR.ky O (λ_ _=>id) (λ_ _ _ _=>id) (λ_ _=>id) λ_ _ _ _=>id;obtain⟨WV,WK,W0,W1,W2⟩:=info_parts A8;have We:dx f 0 v x:=bM (bM Wn F λc a=>V1 (br Wn a)) O λ_ _=>id;have WH:v.oneCell'=true:=by obtain⟨e,B,a⟩:=d9 We;rw[a];rfl
 have W4:∀{o:Nat} {I:Nat},Tg I f o->o<f.heap.size:=λy=>y.lt
 obtain⟨D,q,WS,Wh,WW,_,V4⟩:=run_append_own_at (P:=prog) f 0 222 Wj 245 WV (.agg #[.slice none 0 0,.slice none 0 0]) 2 48 underlying222 WK W0 W1 W2 rfl (by decide) l _ _ M.o ⟨V5,0,none⟩ 1 1 [v,.slice (some ⟨gk,0,none⟩) p.aggs.length p.aggs.length] rfl (λb WY K=>by
  match b,K with
  | 0,K=>simp at K;subst K;simpa [Addr.add] using WA
  | 1,K=>simp at K;subst K;simpa [Addr.add] using WB
  | b+2,K=>simp at K) (λWY Wu=>by simp at Wu;rcases Wu with rfl|rfl;exact WH;rfl) (by unfold maxLen;omega) (by omega) bt
 have C:Ky (λb=>l.ownBlock=some b) f q:=Ky.ao WW λc a=>a;have Wf:Ky (λb=>b=m) W f:=F.trans O λ_ d=>d.elim;have VX:Tg 224 f n:=(h.t.ky F X).ky O id;have Wi:∀b,l.ownBlock=some b->Tg 245 f b:=λb a=>br M.o a;have Wr:∀{I b:Nat},Tg I f b->I≠245->¬l.ownBlock=some b:=λy Wq a=>y.ne (Wi _ a) Wq rfl;have Z:¬l.ownBlock=some n:=Wr VX (by decide);have Wk:q.cell? ⟨n,11,none⟩=some l:=C.cell (O.cell (F.cell B X) id) Z;have Wl:q.frozen? ⟨n,11,none⟩=false:=VN C VX.lt Z (VN Wf h.t.lt X h.f);have R:Ky (λb=>b=n) q (q.setCell ⟨n,11,none⟩ D):=cS q n 11 D rfl;have WX:Tg 224 q n:=VX.ky C Z;have Wv:=WN.ky O id;have WP:¬l.ownBlock=some m:=λa=>Wv.tg (Wi m a) rfl;have W8:=C.size;have Xa:=Wf.size;have W7:=F.size;have W9:=R.size;have Wt:∀c,D.ownBlock=some c->l.ownBlock=some c∨f.heap.size<=c:=λc a=>by rcases V4 with V4|V4;(.rw[V4] at a;exact .inl a);.rw[V4] at a;injection a with a;exact .inr (by omega)
 have WT:∃e B,D=.slice e (G.length+1) B:=by(rcases Wh.2 with ⟨_,Wm⟩|⟨c,Wz,WC,rfl,_⟩);(.omega);.exact⟨_,_,rfl⟩
 have VW:∀{I b:Nat},Tg I f b->I≠245->I≠224->(¬l.ownBlock=some b)/\¬b=n:=λy V7 VZ=>⟨Wr y V7,λa=>y.ne VX VZ a⟩;have W3:∀b,Q b->b<f.heap.size:=λb d=>by have:=(h.lim b d).2;omega
 have Wp:∀i e x,V3 i e=some x->(¬l.ownBlock=some x)/\¬x=n:=λi e x a=>⟨λz=>M.nm (V i e x a).2.1 (V i e x a).2.2.1 a (Wi x z) rfl,λz=>M.nm (V i e x a).2.1 (V i e x a).2.2.1 a VX z.symm⟩;refine⟨D,q,λb=>Q b∨v.ownBlock=some b∨b=gk∨(f.heap.size<=b/\b<q.heap.size),WS,WT,Wk,Wl,⟨?_,?_,by rw[bN];exact Wl,WX.set _ _ _,?_,?_,⟨.inl h.o.1,.inl h.o.2⟩,?_⟩,λb d=>by rcases d with d|d|d|d;exact .inl d;exact .inr (.inl d);exact .inr (.inr (by omega));exact .inr (.inr (by omega)),?_,λb d=>.inl d⟩;.have A:dL q n 0 p g:=((h.e.ky F X).ky O id).ky C Z;have j:∀{Wg:Nat} {V6:Value},Wg≠11->q.cell? ⟨n,Wg,none⟩=some V6->(q.setCell ⟨n,11,none⟩ D).cell? ⟨n,Wg,none⟩=some V6:=λWQ V2=>(bo _ _ _ _ _ _ (by simp[WQ])).trans V2;exact⟨j (by omega) A.c0,j (by omega) A.c1,j (by omega) A.c2,j (by omega) A.c3,j (by omega) A.c4,j (by omega) A.c5,j (by omega) A.c6,j (by omega) A.c7,j (by omega) A.c8,j (by omega) A.c9,j (by omega) A.c10⟩
 .have WG:j.length=J.length:=s.lc.trans s.lg.symm;refine⟨D,j++[v],J++[gk],V3,b5 Wk,⟨?_,by simp[s.lc],by simp[s.lg],λi V6 d u r=>?_,λo t=>?_,λi o d u r e WE Y=>?_,λi b VY Ww c u r Y Wa=>?_,λi b o u r=>?_,s.dm⟩,λc a=>?_,λVY N c a=>?_,λo t=>?_,λi e x a=>?_⟩;.rw[bG,Bf _ _ _ _ _ WG];refine bM Wh R λc a=>?_;rintro rfl;rcases Wt c a with a|a;(.exact Z a);.have:=VX.lt;omega
  .have V2:dx f 0 V6 d.1:=by
    rcases de (vs:=j) u with u|⟨T,z⟩
    .have WJ:=(bD u).1
     have WZ:=s.lc
     rw[eK (by omega)] at r
     exact M.c i V6 d u r
    .subst T z
     rw[s.lc,ez bi] at r
     simp at r
     subst r
     exact We
   exact bM (bM V2 C λc a=>(VW (br V2 a) (by decide) (by decide)).1) R λc a=>(VW (br V2 a) (by decide) (by decide)).2
  .have V0:Tg 270 f o:=by
    rcases cM t with t|t
    .exact M.t o t
    .simp at t;subst t;exact V8.t
   exact(V0.ky C (VW V0 (by decide) (by decide)).1).ky R (VW V0 (by decide) (by decide)).2
  .rcases de (vs:=J) u with u|⟨T,z⟩;.have WJ:=(bD u).1;have WZ:=s.lg;rw[eK (by omega)] at r;have y:=VW (M.t o (VQ u)) (by decide) (by decide);exact((M.g i o d u r e WE Y).ky C y.1 λx a=>(Wp i e x a).1).ky R y.2 λx a=>(Wp i e x a).2
   .subst T z;rw[s.lg,ez bi] at r;simp at r;subst r;have WF:=(bD Y).1;have y:=VW V8.t (by decide) (by decide)
    have WO:V3 J.length e=none:=by
     cases a:V3 J.length e with
     | none=>rfl
     | some x=>have:=(V _ _ _ a).2.1;have:=s.lg;omega
    rw[WO];exact⟨((V8.g e WF).ky C y.1).ky R y.2,.inl ⟨rfl,λ_=>rfl⟩⟩
  .rcases de (vs:=j) u with S|⟨T,z⟩;(.rcases de (vs:=j) r with L|⟨T,z⟩;(.exact s.dc i b VY Ww c S L Y Wa);.exact absurd (VZ VY (VQ S) c Y) (Wd c (z ▸ Wa)).1);.rcases de (vs:=j) r with L|⟨WD,A⟩;(.exact absurd (VZ Ww (VQ L) c Wa) (Wd c (z ▸ Y)).1);.omega
  .rcases de (vs:=J) u with S|⟨T,z⟩;(.rcases de (vs:=J) r with L|⟨T,z⟩;(.exact s.dg i b o S L);.have:=(h.lim o (Wc o (VQ S))).2;omega);.rcases de (vs:=J) r with L|⟨WD,A⟩;(.have:=(h.lim o (Wc o (VQ L))).2;omega);.omega
  .rcases Wt c a with Wb | Wb;(.exact .inl (V7 c Wb));.exact .inr (.inr (.inr ⟨Wb,(World.ownsRow.lt Wh c a).2⟩))
  .rcases cM N with N|N;(.exact .inl (VZ VY N c a));.simp at N;subst N;exact .inr (.inl a)
  .rcases cM t with t|t;(.exact .inl (Wc o t));.simp at t;subst t;exact .inr (.inr (.inl rfl))
  .obtain⟨S,L,Wx,Wy⟩:=V i e x a;exact⟨.inl S,by simp;omega,Wx,Wy⟩
 .exact(bo _ _ _ _ _ _ (by simp)).trans (C.cell (O.cell (F.cell h.c12 X) id) Z)
 .rw[ep];exact(Wv.ky C WP).ky R λa=>X a.symm
 .intro b d;rcases d with d|d|d|d;(.have:=h.lim b d;exact⟨this.1,by omega⟩);(.have:=(br We d).lt;exact⟨(Wd b d).2,by omega⟩);(.have:=V8.t.lt;have:=h.lim n h.o.1;exact⟨by omega,by omega⟩);.have:=h.lim n h.o.1;exact⟨by omega,by omega⟩
 .exact((Wf.mono λb a=>a ▸ h.o.2).trans (C.mono λb a=>V7 b a) (Nw.refl _ _)).trans (R.mono λb a=>a ▸ h.o.1) (Nw.refl _ _)
theorem vP{i:Oper}{d:Act}{j:Act->World->Prop}{o:Exit->Act->World->Prop}(n k:Operand)(t:i.op=Op.makeSlice 243 n k)(a:Nat)(r:d.eval n=.int .i64 (a:Int))(q:d.eval k=.int .i64 (a:Int))(s:a<=1048576) (p:∀e,ZG e w.heap.size a->Bw w e->e.heap.size=w.heap.size+1->j (d.put i.dst (.slice (some ⟨w.heap.size,0,none⟩) a a)) e):i.wp prog d w j o:=by
 have b:=A7;rcases f:Tryz.prog.info? 270 with _|m;.rw[f] at b;cases b
 .rw[f] at b;simp only[Option.map_some,Option.some.injEq,Prod.mk.injEq] at b;obtain⟨c,v,x⟩:=b;rcases g:m.zero with _|u;(.rw[g] at c;cases c);.rw[g] at c;simp only[Option.map_some,Option.some.injEq] at c;have l:=run_make (P:=prog) w 243 270 m u underlying243 f g .i64 .i64 a a (by omega) (Int.le_refl _) (by rw[x];omega) (by omega);simp only[Int.toNat_natCast,c,v] at l;unfold Oper.wp;simp[execOp,t,r,q,l,Result.andThen];exact p _ (z1 w a s) (am VS _) (by simp)
structure Eu(w0:World)(gx mb:Nat)(p:Pl)(m:Pm)(O:Nat->Prop)(l:List (List aH×List (List aH)))(n:Nat)(W:World)(k:List aH)(cv:Value)(i:Nat)(l':List (List aH×List (List aH)))(O':Nat->Prop)(w':World):Prop where
 g:nZ w0 gx mb p m O' l' (n+1) w'
 at_:∃rs,l'[i]?=some (k,rs)
 is_:l'=l∨(¬k∈l.map (·.1)/\l'=l++[(k,[])]/\i=l.length)
 nw:∀j,O' j->O j∨cv.ownBlock=some j∨W.heap.size<=j
 sub:∀j,O j->O' j
 ky:Ky O W w'
theorem lf{e:List (List aH×List (List aH))}(h:nZ w n m p g Q e j W){k:List aH}{cv:Value}(X:dx W 0 cv k)(Ws:∀V3,cv.ownBlock=some V3->¬Q V3/\w.heap.size<=V3)(VW:∀x∈k,eO x)(V7:k.length<=1000000)(z:∀a∈e,∀x∈a.1,eO x)(W7:j<=2147483649)(V8:e.length<=2147483649)(Wv:p.aggs.length<=1048576):Calls prog 200 #[.pointer (some ⟨n,0,none⟩),cv] W λv S=>∃l Xb J,v=.returned (.int .i64 ((l:Nat):Int))/\Eu w n m p g Q e j W k cv l Xb J S:=by
 have Z:cJ.ok (bF k):=fM V7 VW;obtain⟨B,C,W4⟩:=d9 X;subst W4;obtain⟨Xs,Xt,WA,WB,_⟩:=mq (P:=λ_=>True) X λ_ _=>trivial;have Wi:Hid (Calls prog 31 #[.slice B k.length C] W λv S=>v=.returned (.string (bF k))/\Bw W S):=by injection WA with W1 Xo W2;subst W1 W2;exact fR V7 VW WB
 have Wl:Hid (∀i,Bw W i->∀N (l:Nat),e[l]?=some (k,N)->(Instr.lookup 50 (.map (some m)) (.string (bF k)) true).run prog i=.ok (.tuple #[.int .i64 (l:Int),.bool true]) i/\Eu w n m p g Q e j W k (.slice B k.length C) l e Q i):=λi V6 N l D=>by have G:Ky (λ_=>False) W i:=Ky.ab V6;have y:=h.ky G λ_ _ a=>a;exact⟨y.m.there Z (by rw[bL,D];rfl),y.mono (by omega),⟨N,D⟩,.inl rfl,λWb a=>.inl a,λWb a=>a,G.mono λ_ a=>a.elim⟩
 have V0:Hid (∀i,Bw W i->¬k∈e.map (·.1)->(Instr.lookup 50 (.map (some m)) (.string (bF k)) true).run prog i=.ok (.tuple #[.int .i64 0,.bool false]) i/\i.cell? ⟨n,12,none⟩=some (.map (some m))/\∃A u s f,f=e.length/\i.cell? ⟨n,11,none⟩=some (.slice u f s)/\(Instr.mapUpdate 50 (.map (some m)) (.string (bF k)) (.int .i64 (f:Int))).run prog i=.ok () A/\A.cell? ⟨n,11,none⟩=some (.slice u f s)/\A.cell? ⟨n,5,none⟩=some (.slice g.aA p.aggs.length g.cA)/\∀d gk O,Bw A d->ZG d gk p.aggs.length->A.heap.size<=gk->d.cell? ⟨O,0,none⟩=some (.slice B k.length C)->d.cell? ⟨O,1,none⟩=some (.slice (some ⟨gk,0,none⟩) p.aggs.length p.aggs.length)->∀Wf,∃R b J,(Builtin.append_ #[222,222] Wf #[.slice u f s,.slice (some ⟨O,0,none⟩) 1 1]).run prog d=.ok R b/\(∃WR WY,R=.slice WR (f+1) WY)/\b.cell? ⟨n,11,none⟩=some (.slice u f s)/\b.frozen? ⟨n,11,none⟩=false/\Eu w n m p g Q e j W k (.slice B k.length C) f (e++[(k,[])]) J (b.setCell ⟨n,11,none⟩ R)):=λi V6 Ww=>by have G:Ky (λ_=>False) W i:=Ky.ab V6;have y:=h.ky G λ_ _ a=>a;(have E:¬bF k∈e.map λa=>bF a.1:=λh=>by obtain⟨a,VX,v⟩:=b6 h;exact Ww (by rw[<-jL (z a VX) VW v];exact fA VX));obtain⟨A,Xu,W8,W6,cv,⟨WX,s,rfl⟩,K,W5⟩:=y.grow E Z W7 V8 (bM X G λ_ _=>id) Ws;refine⟨y.m.not Z E,y.c12,A,WX,s,_,rfl,cv,W8,K,W6.cell y.e.c5 λv=>y.m.tg y.t v,λd gk O WS WT WU WV WW Wf=>?_⟩;obtain⟨R,b,J,Wd,We,Xc,Xd,Xe,Xf,Xg,Xh⟩:=W5 d gk O WS WT WU WV WW Wf;refine⟨R,b,J,Wd,We,Xc,Xd,Xe,⟨[],by simp⟩,.inr ⟨Ww,rfl,rfl⟩,λWb a=>?_,Xh,(G.mono λ_ a=>a.elim).trans Xg (Nw.refl _ _)⟩;rcases Xf Wb a with a|a|a;(.exact .inl a);(.exact .inr (.inl a));.have:=G.size;exact .inr (.inr (by omega))
 have WJ:Hid (k∈e.map (·.1)->∃N,∃l:Nat,e[l]?=some (k,N)):=λh=>by obtain⟨a,VX,v⟩:=b6 h;obtain⟨l,D⟩:=f9 VX;exact⟨a.2,l,by rw[D,<-v]⟩
 have WG:=H h.c12;obtain⟨Xm,V4⟩:=bj (bF k);obtain⟨Wc,E⟩:=bj k.length;obtain⟨o,V9⟩:=bj p.aggs.length;rw[V4,E] at Wi V0;rw[V9] at V0 Wv;rw[V4,E] at Wl;rw[E];have WL:=H V9;clear V9;clear h X Ws VW V7 z Z WA WB V4 E;go_enter func200,ntmps200;go_upto_region 2 with (go_at_call 31;refine(U Wi).mono ?_;rintro _ Wg ⟨rfl,Wt⟩;have VY:=H Wt;clear Wt);have Xw:Wg.cell? ⟨n,12,none⟩=some (.map (some m)):=ae (U WG) (U VY);by_cases Y:k∈e.map (·.1);.obtain⟨Xi,l,D⟩:=U WJ Y;obtain⟨z,Wy⟩:=U Wl Wg (U VY) Xi l D;have VZ:=H z;have WM:=H Wy;clear z Wy D Y;go_wp2_with (at_lookup;refine fc rfl (.tmp 14) (.tmp 15) 50 rfl _ _ rfl rfl (U VZ) ?_);go_ret;exact⟨l,e,Q,rfl,U WM⟩
 .obtain⟨z,Xp,d,u,s,f,Wa,WZ,Wu,K,V1,Wr⟩:=U V0 Wg (U VY) Y;have VZ:=H z;have WK:=H Wu;have WE:=H Wr;have Xk:=H Wa;have Xq:f<=2147483649:=by rw[Wa];exact V8
  have Wh:=H (And.intro K V1);have WH:Hid (Bw d d.drew):=(VS).drew;have r:Hid (d.drew.cell? ⟨n,11,none⟩=some (.slice u f s)/\d.drew.cell? ⟨n,5,none⟩=some (.slice g.aA o g.cA)):=⟨ae K VS.drew,ae V1 VS.drew⟩;have WP:Hid (∀b t:World,ZG b d.heap.size o->Bw b t->ZG t d.heap.size o):=λb t Xa W3=>Xa.ky (Ky.ab (F:=λ_=>False) W3) id;clear z Wu Wr Y Wa V1 V8
  go_upto_region 6 with (first
   | (at_lookup;refine fc rfl (.tmp 14) (.tmp 15) 50 rfl _ _ rfl rfl (U VZ) ?_)
   | (at_mapUpdate;refine cW rfl (.tmp 29) (.tmp 30) (.tmp 31) 50 rfl _ _ _ rfl rfl rfl (U WK) ?_))
  clear K WZ;refine bH (λW:World=>W.cell? ⟨n,11,none⟩=some (.slice u f s)/\W.cell? ⟨n,5,none⟩=some (.slice g.aA o g.cA)) 16 ?_;refine ap 0 (.pointer (some ⟨n,0,none⟩)) rfl (U r) ?_;refine ap 1 (.pointer (some ⟨n,0,none⟩)) rfl (U r) ?_;refine ap 2 (.pointer (some ⟨n,0,none⟩)) rfl (U r) ?_;refine ap 3 (.pointer (some ⟨n,11,none⟩)) rfl (U r) ?_;refine ap 4 (.slice u f s) rfl (U r) ?_ λS V5=>by obtain⟨Wd,We⟩:=V5;go_simp
  refine ap 5 (.slice B Wc C) rfl (U r) ?_;refine ap 6 (.pointer (some ⟨n,0,none⟩)) rfl (U r) ?_;refine ap 7 (.pointer (some ⟨n,0,none⟩)) rfl (U r) ?_;refine ap 8 (.pointer (some ⟨n,0,none⟩)) rfl (U r) ?_;refine ap 9 (.pointer (some ⟨n,5,none⟩)) rfl (U r) ?_;refine ap 10 (.slice g.aA o g.cA) rfl (U r) ?_ λS V5=>by obtain⟨Wd,We⟩:=V5;go_simp
  refine ap 11 (.int .i64 (o:Int)) rfl (U r) ?_;refine bh 12 rfl λq c=>?_;refine vP (.tmp 43) (.tmp 43) rfl o rfl rfl Wv ?_;intro b WD I WC;have I:=ac (U WH) I;have Wp:=(⟨ae (U Wh).1 I,ae (U Wh).2 I⟩:b.cell? ⟨n,11,none⟩=some (.slice u f s)/\b.cell? ⟨n,5,none⟩=some (.slice g.aA o g.cA));have WO:=H WD;have WF:=H I;have T:=H Wp;have Xl:=H WC;clear WD I WC Wp;refine VP c (U T) ?_;clear c q;refine bh 13 rfl λq c=>?_;go_simp;refine VP c (U T) ?_;clear c q;refine bh 14 rfl λq c=>?_;go_simp;obtain⟨t,M⟩:=bj (b.alloc (.cells #[.slice B Wc C,.slice (some ⟨d.heap.size,0,none⟩) o o] 245));have L:Bw b t:=(by rw[<-M];exact am VS _);have Wm:t.cell? ⟨b.heap.size,0,none⟩=some (.slice B Wc C):=(by rw[<-M];simp[go_sem]);have Wn:t.cell? ⟨b.heap.size,1,none⟩=some (.slice (some ⟨d.heap.size,0,none⟩) o o):=(by rw[<-M];simp[go_sem]);have Wq:=(⟨ae (U T).1 L,ae (U T).2 L⟩:t.cell? ⟨n,11,none⟩=some (.slice u f s)/\t.cell? ⟨n,5,none⟩=some (.slice g.aA o g.cA));try rw[M]
  obtain⟨Xv,Xj,WQ,Wz,⟨Xn,Xr,W9⟩,V,V2,Wx⟩:=U WE t d.heap.size b.heap.size (ac (U WF) L) (U WP b t (U WO) L) bi Wm Wn 222;subst W9;have WN:=H Wz;have Wj:=H Wx;have WI:=H Wq;have Wk:=H (And.intro V V2);clear L Wm Wn Wq M Wz Wx V V2;refine VP c (U WI) ?_;clear c q;refine bh 15 rfl λq c=>?_;refine et (.tmp 36) (.tmp 46) #[222,222] rfl _ _ rfl rfl (U WN) ?_;have V:=(U Wk).1;have V2:=(U Wk).2;have W0:Xj.cell? ⟨n,5,none⟩=some (.slice g.aA o g.cA):=(by have a:=(U Wj).g.e.c5;rw[bo _ _ _ _ _ _ (by simp),U WL] at a;simpa using a);refine VP c ⟨V,W0⟩ ?_;clear c q;refine bh 16 rfl λq c=>?_;go_simp;refine bE c ?_;clear c q;refine bh 17 rfl λq c=>?_;go_simp;refine bE c ?_;clear c q;refine bh 18 rfl λq c=>?_;go_simp;refine bE c ?_;clear c q;refine cf ?_;go_wp2;go_ret;exact⟨f,_,WQ,rfl,U Wj⟩
end Go.Proofs.YtklgoolblpmmlaaGreat
