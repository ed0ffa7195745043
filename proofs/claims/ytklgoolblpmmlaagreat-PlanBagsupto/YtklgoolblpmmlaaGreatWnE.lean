import Derived.Test.YtklgoolblpmmlaaGreatWnA
import Derived.Test.YtklgoolblpmmlaaGreatBgX
set_option linter.all false
set_option maxHeartbeats 8000000
set_option maxRecDepth 100000
namespace Go.Proofs.YtklgoolblpmmlaaGreat
open Go.RowKit Go.Sort Go.Lib Go.Proofs.Tryz
theorem U3(b:World)(a:Nat)(c:a<=2147483648):e8 (b.alloc (.cells (madeCells (Value.cells (.agg #[.int .i64 0,.int .i64 0,.string ⟨#[]⟩])) (a*3)) 43)) b.heap.size (List.replicate a aH.null):=by have h:=World.ownsRow_lit (base:=0) (e:=43) (size:=3) b (madeCells (Value.cells (.agg #[.int .i64 0,.int .i64 0,.string ⟨#[]⟩])) (a*3)) a bt (by unfold maxLen;omega) (size_madeCells _ _);rw[oJ] at h;unfold e8 dx;rw[List.length_replicate];exact h
theorem dS(b:World){j:Array Oper}{rest:List Oper}{d:Oper}{c:Act}{i:Exit->Act->World->Prop} (m:d.guard=none) (g f:Operand) (q:d.op=Op.makeSlice 40 g f) (a:Nat) (o:c.eval g=.int .i64 (a:Int)) (l:c.eval f=.int .i64 (a:Int)) (p:a<=2147483648) (k:∀e,e8 e b.heap.size (List.replicate a aH.null)->Bw b e->e.heap.size=b.heap.size+1->wpList prog j i rest (c.put d.dst (.slice (some ⟨b.heap.size,0,none⟩) a a)) e):wpList prog j i (d::rest) c b:=by obtain⟨r,n,s,t,u⟩:=info_parts jo;exact eD b m g f 40 q 43 r _ underlying40 n s 3 t .i64 .i64 a o l (by rw[u];omega) (by omega) (k _ (U3 b a p) (am VS _) (by simp))
def vc(c:World)(b:List aH)(e:Ending)(d:World):Prop:=∃a,e=.returned (.slice (some ⟨a,0,none⟩) b.length b.length)/\e8 d a b/\c.heap.size<=a/\Bw c d
def kJ(b:Nat):List aH:=(List.range b).map λ(a:Nat)=>aH.num ((a:Int)+1)
theorem iw(a:Nat):(kJ a).length=a:=by simp[kJ]
variable{k m n:Nat}{W X w:World}{x:List aH}{c:aH}{P:Nat->Prop}{v:Value}{r:List (List aH)}{a b:Option Addr}{I:Int}{o:Bool}{p:Pl}{g:Pm}
theorem AS(h:m<n):(kJ n)[m]?=some (aH.num ((m:Int)+1)):=by unfold kJ;rw[bL,List.getElem?_range h];rfl
theorem pG{a:Option Addr}{c:Nat}{w:World}(I:n<=2147483648):Calls prog 268 #[.slice a n c] w (vc w (kJ n)):=by
 go_enter func268,ntmps268;go_upto_region 2 with (at_make;refine dS _ rfl (.tmp 6) (.tmp 6) rfl n rfl rfl (by omega) ?_;intro N s r u;have k:=H s;have x:=H r;have D:=H u;clear s r u);obtain⟨d,f⟩:=bn w.heap.size;have p:=H f;rw[<-f] at k ⊢;have m:=H (Fl.start (U k) (ys:=kJ n) (by simp[iw]));clear f;go_wp2_with fail;go_loopw[10] (λi wr=>∃(b:Nat),b<=n/\i=.int .i64 (b:Int)/\Hid (Fl wr d (kJ n) b)/\Hid (Bw w wr)) (λi _=>n-(intOf i).toNat);case atStart=>exact⟨0,bt,rfl,m,x⟩
 case round=>clear m;obtain⟨b,G,rfl,l,e⟩:=hrel;by_cases q:b<n;(·(have B:(b:Int)<(n:Int):=by omega);have A:=H (AS q);have z:=H (db ((b:Int)+1));go_wp2_with (go_at_call 254;refine(U z _).mono ?_;rintro E O ⟨rfl,g⟩;rw[aH.open_];have j:=H g.1;have o:=H ((U l).ky (F:=λ_=>False) (Ky.ab g.1) id);obtain⟨P,J,p1,p2,K,L,M⟩:=(U o).three (by rw[iw];exact q);clear g);go_roundw;(case rel=>refine⟨b+1,by omega,by go_num,(U o).put (U A),?_⟩;exact(ac (U e) (U j)).trans ((dt (F:=λv=>v=d) _ _ _ _ rfl).below (λv C=>by rw[C,U p];exact bi) (ac (U e) (U j)).size));case measure=>simp[intOf];omega);·(have B:¬(b:Int)<(n:Int):=by omega);(have t:e8 wr d (kJ n):=by have:=U l;rw[show b=(kJ n).length by rw[iw];omega] at this;exact this.done);have y:=H t;clear t;go_wp2;go_ret;exact⟨d,by rw[iw];rfl,U y,by rw[U p];exact bi,U e⟩
def eY(c:List (List aH))(d b:Nat):List aH:=(List.range c.length).map λa=>if b<=a then (c.getD (a-b) []).getD d .null else .null
theorem gQ(a:List (List aH))(b c:Nat):(eY a b c).length=a.length:=by simp[eY]
theorem UC{rs:List (List aH)}{col n j:Nat}(h:j<rs.length):(eY rs col n)[j]?=some (if n<=j then (rs.getD (j-n) []).getD col .null else .null):=by unfold eY;rw[bL,List.getElem?_range h];rfl
structure n0(w:World)(g:Nat)(ys:List aH)(j:Nat):Prop where
 b:e8 w g (ys.take j++List.replicate (ys.length-j) aH.null)
 l:j<=ys.length
theorem n0.step(h:n0 w n x m)(a:x[m]?=some .null):n0 w n x (m+1):=by have b:=(bD a).1;refine⟨?_,by omega⟩;have:=h.b;rw[List.take_add_one,a];rw[show x.length-m=(x.length-(m+1))+1 by omega,List.replicate_succ] at this;simpa using this
theorem n0.put(h:n0 w n x m)(a:x[m]?=some c):n0 (Eg w n m c) n x (m+1):=by
 have d:=(bD a).1;refine⟨?_,by omega⟩;have:=h.b.put (k:=m) (by simp;omega) c;rw[List.take_add_one,a];rw[show x.length-m=(x.length-(m+1))+1 by omega,List.replicate_succ] at this;have b:(x.take m++aH.null::List.replicate (x.length-(m+1)) aH.null).set m c=x.take m++c::List.replicate (x.length-(m+1)) aH.null:=by rw[List.set_append_right _ _ (by simp;omega),List.length_take,Nat.min_eq_left (by omega),Nat.sub_self];rfl
 rw[b] at this;simpa using this
theorem n0.start{ys:List aH}(h:e8 w n (List.replicate m aH.null))(a:m=ys.length):n0 w n ys 0:=⟨by simpa [<-a] using h,bt⟩
theorem n0.done(h:n0 w n x x.length):e8 w n x:=by simpa using h.b
theorem n0.three(h:n0 w n x m)(b:m<x.length):∃a:aH,w.cell? ⟨n,m*3,none⟩=some (.int .i64 a.k)/\w.cell? ⟨n,m*3+1,none⟩=some (.int .i64 a.n)/\w.cell? ⟨n,m*3+2,none⟩=some (.string a.s)/\w.frozen? ⟨n,m*3,none⟩=false/\w.frozen? ⟨n,m*3+1,none⟩=false/\w.frozen? ⟨n,m*3+2,none⟩=false:=h.b.three (by simp;omega)
theorem UD{col n:Nat}(p:fQ P w v r)(X:r.length<=2147483648)(Q:∀b∈r,b.length=m)(Wc:m<=65)(V9:col<m)(Wb:n<=9223372036854775807):Calls prog 270 #[v,.int .i64 (col:Int),.int .i64 (n:Int)] w (vc w (eY r col n)):=by
 obtain⟨V0,V3,rfl⟩:=p.form;obtain⟨c,s⟩:=bj r.length;rw[s] at X ⊢;have d:=H s;have V:=H p;have W:=H Q;clear s p Q;go_enter func270,ntmps270;go_upto_region 2 with (at_make;refine dS _ rfl (.tmp 10) (.tmp 10) rfl c rfl rfl (by omega) ?_;intro Wp J I O;have y:=H J;have S:=H I;have VZ:=H O;clear J I O);obtain⟨k,q⟩:=bn w.heap.size;have A:=H q;rw[<-q] at y ⊢;have z:=H (n0.start (U y) (ys:=eY r col n) (by rw[gQ,U d]));clear q;go_wp2_with fail;go_loopw[14] (λu wr=>∃(a:Nat),a<=c/\u=.int .i64 (a:Int)/\Hid (n0 wr k (eY r col n) a)/\Hid (Bw w wr)) (λu _=>c-(intOf u).toNat);case atStart=>exact⟨0,bt,rfl,z,S⟩
 case round=>clear z;obtain⟨a,Wa,rfl,i,f⟩:=hrel;by_cases C:a<c;(·(have Z:(a:Int)<(c:Int):=by omega);have B:=H (UC (rs:=r) (col:=col) (n:=n) (j:=a) (by rw[U d];exact C));by_cases D:n<=a;(·(have VW:(n:Int)<=(a:Int):=by omega);obtain⟨e,L⟩:∃e,a=n+e:=⟨a-n,by omega⟩;(have M:a-n=e:=by omega);(have Wd:(a:Int)-(n:Int)=(e:Int):=by omega);(have We:(e:Int)<(c:Int):=by omega);obtain⟨b,l⟩:∃b,r[e]?=some b:=⟨_,VR (by rw[U d];omega)⟩;have Y:=U W b (VQ l);have E:=(U V).ky (G:=λ_=>False) (Ky.ab (U f)) λ_ _=>id;obtain⟨V8,V2,Wm,Wn,j,V4,_,N,_⟩:=E.get l;obtain⟨x,t⟩:∃x,b[col]?=some x:=⟨_,VR (by omega)⟩;obtain⟨V1,Wh,rfl,V5,V6,V7⟩:=N.lo t;(have g:(eY r col n)[a]?=some x:=by rw[U B,ba D,M];simp[l,t]);have o:=H g;obtain⟨Wq,Wi,p1,p2,Wj,Wk,Wl⟩:=(U i).three (by rw[gQ,U d];exact C);injection j with j _ _;rw[j];(have Wf:(col:Int)<(b.length:Int):=by omega);(have Wg:b.length<=65:=by omega);have VY:=H L;clear L M E N t g l Y j;go_wp2;go_roundw;(case rel=>refine⟨a+1,by omega,by go_num,(U i).put (U o),?_⟩;exact(U f).trans ((dt (F:=λR=>R=k) _ _ _ _ rfl).below (λR VX=>by rw[VX,U A];exact bi) (U f).size));case measure=>simp[intOf];omega);·(have VW:¬(n:Int)<=(a:Int):=by omega);(have g:(eY r col n)[a]?=some .null:=by rw[U B,VU D]);have o:=H g;clear g;go_wp2;go_roundw;(case rel=>exact⟨a+1,by omega,by go_num,(U i).step (U o),U f⟩);case measure=>simp[intOf];omega);·(have Z:¬(a:Int)<(c:Int):=by omega);(have K:e8 wr k (eY r col n):=by have:=U i;rw[show a=(eY r col n).length by rw[gQ,U d];omega] at this;exact this.done);have T:=H K;clear K;go_wp2;go_ret;exact⟨k,by rw[gQ,U d];rfl,U T,by rw[U A];exact bi,U f⟩
theorem n0.ky{F:Nat->Prop}(h:n0 w n x m)(a:Ky F w W)(b:¬F n):n0 W n x m:=⟨h.b.ky a b,h.l⟩
def ot(c:List (Int×Bool))(b:List (List aH)):Nat->Nat×Nat
 | 0=>(0,0)
 | a+1=>if a=0∨d5 c (b.getD (a-1) []) (b.getD a [])≠0 then ((ot c b a).1+1,a) else ot c b a
theorem sP(b:List (Int×Bool))(c:List (List aH)):∀a,(ot b c a).1<=a/\(ot b c a).2<=a
 | 0=>⟨bi,bi⟩
 | a+1=>by have:=sP b c a;unfold ot;split;(.constructor<;>simp only<;>omega);.omega
def fg(c:List (Int×Bool))(a:List (List aH))(d:Bool):List aH:=(List.range a.length).map λb=>aH.num (if d then ((ot c a (b+1)).1:Int) else ((ot c a (b+1)).2:Int)+1)
theorem d8(b:List (Int×Bool))(a:List (List aH))(d:Bool):(fg b a d).length=a.length:=by simp[fg]
theorem hx{a:List (Int×Bool)}{d:Bool}(h:n<r.length):(fg a r d)[n]?=some (aH.num (if d then ((ot a r (n+1)).1:Int) else ((ot a r (n+1)).2:Int)+1)):=by unfold fg;rw[bL,List.getElem?_range h];rfl
theorem sX{cK:Nat}{c:List (Int×Bool)}{d:Bool}(Wb:fQ P w v r)(WS:r.length<=2147483648)(WE:∀L∈r,L.length=n)(WU:n<=64)(Ww:dh w a c)(WB:eZ c n):Calls prog 269 #[v,.slice a c.length cK,.bool d] w (vc w (fg c r d)):=by
 obtain⟨W5,W8,rfl⟩:=Wb.form;obtain⟨K,Wf⟩:=bj r.length;rw[Wf] at WS ⊢;obtain⟨WH,Wa⟩:=bn w.heap.size;have i:=H Wf;have WK:=H Wb;have Ws:=H WE;have Wp:=H (zG a c.length cK w);rw[<-Wa] at Wp;have Wc:=am (VT _ w) (.cells #[.slice a c.length cK] 24);have Wt:(w.alloc (.cells #[.slice a c.length cK] 24)).cell? ⟨WH,0,none⟩=some (.slice a c.length cK):=by rw[Wa];simp[go_sem]
 have Wr:=H (λ(V6:World) (Wx:Below (w.alloc (.cells #[.slice a c.length cK] 24)).heap.size (w.alloc (.cells #[.slice a c.length cK] 24)) V6) (WM WN:Option Addr) (Wu Wv:Nat) (WG Wm:List aH) (WW:WG.length=n) (WX:Wm.length=n) (WP:bX V6 WM WG) (WQ:bX V6 WN Wm)=>Si (ca:=Wu) (cb:=Wv) (ae Wt Wx) ((Ww.aa Wc).aa Wx) WB WU WW WX WP WQ);have VY:=H Wc;clear Wf Wb WE Wa Wc Wt Ww WB;go_enter func269,ntmps269
 go_upto_region 3 with (first
  | (go_at_call 219;refine(U Wp).mono ?_;rintro x Wk ⟨rfl,WF⟩;have WL:=H WF;clear WF)
  | (at_make;refine dS _ rfl (.tmp 16) (.tmp 16) rfl K rfl rfl (by omega) ?_;intro Xi Wz Wy WD;have Wn:=H Wz;have WI:=H Wy;have W4:=H WD;clear Wz Wy WD))
 rw[<-U WL] at Wr VY;obtain⟨z,Wd⟩:=bn Wk.heap.size;have D:=H Wd;rw[<-Wd] at Wn ⊢;have Wq:=H (n0.start (U Wn) (ys:=fg c r d) (by rw[d8,U i]));clear Wd;go_wp2_with fail;go_loopw[9,10,20] (λo B Wi wr=>∃(b:Nat),b<=K/\Wi=.int .i64 (b:Int)/\o=.int .i64 ((ot c r b).1:Int)/\B=.int .i64 ((ot c r b).2:Int)/\Hid (n0 wr z (fg c r d) b)/\Hid (Bw Wk wr)) (λo B Wi _=>K-(intOf Wi).toNat);case atStart=>exact⟨0,bt,rfl,rfl,rfl,Wq,WI⟩
 case round=>
  clear Wq;obtain⟨b,Xd,rfl,rfl,rfl,C,y⟩:=hrel;by_cases p:b<K
  ·(have WZ:(b:Int)<(K:Int):=by omega);have WC:=sP c r b;obtain⟨o,T⟩:=bj ((ot c r b).1);obtain⟨B,Q⟩:=bj ((ot c r b).2);rw[T,Q] at WC ⊢;obtain⟨Xh,Xg⟩:=WC;(have R:ot c r b=(o,B):=by rw[<-T,<-Q]);obtain⟨L,N⟩:∃L,r[b]?=some L:=⟨_,VR (by rw[U i];exact p)⟩;have V5:=U Ws L (VQ N);have O:=(U WK).ky (G:=λ_=>False) ((Ky.ab (U VY)).trans (Ky.ab (U y)) (Nw.refl _ _)) λ_ _=>id;obtain⟨Xb,W6,W0,W2,V7,W9,_,V4,_⟩:=O.get N;injection V7 with V7 V8 V9;subst V7 V9;clear V8;by_cases I:b=0
   ·(have J:ot c r (b+1)=(o+1,b):=by rw[ot,ba (.inl I),R]);obtain⟨A,k⟩:=bn (o+1);rw[<-k] at J;have f:=H J;(have WR:((b:Int) == 0)=true:=by simp[I]);(have WV:IntKind.i64.wrap ((o:Int)+1)=(A:Int):=by rw[hH _ (by omega)];omega);(have WT:A<=2147483649:=by omega);clear k;have m:Hid (Bw wr wr):=VS;clear J R T Q N V5 O V4 I;cases d
    ·(have u:Hid ((fg c r false)[b]?=some (aH.num ((b:Int)+1))):=by show _=_;rw[hx (by rw[U i];exact p),U f];rfl);have t:=H (db ((b:Int)+1))
     go_wp2_with (first
      | fail
      | (go_at_call 254;refine(U t _).mono ?_;rintro x VW ⟨rfl,e⟩;rw[aH.open_];have s:=H e.1;have g:=H ((U C).ky (F:=λ_=>False) (Ky.ab (ac (U m) e.1)) id);obtain⟨VX,V,p1,p2,W,X,Y⟩:=(U g).three (by rw[d8,U i];exact p);clear e))
     go_roundw;(case rel=>have j:=ac (ac (U y) (U m)) (U s);refine⟨b+1,by omega,by go_num,by rw[U f],by rw[U f],(U g).put (U u),?_⟩;exact j.trans ((dt (F:=λl=>l=z) _ _ _ _ rfl).below (λl q=>by rw[q,U D];exact bi) j.size));case measure=>simp[intOf];omega
    ·(have u:Hid ((fg c r true)[b]?=some (aH.num ((A:Int)))):=by show _=_;rw[hx (by rw[U i];exact p),U f];rfl);have t:=H (db ((A:Int)))
     go_wp2_with (first
      | fail
      | (go_at_call 254;refine(U t _).mono ?_;rintro x VW ⟨rfl,e⟩;rw[aH.open_];have s:=H e.1;have g:=H ((U C).ky (F:=λ_=>False) (Ky.ab (ac (U m) e.1)) id);obtain⟨VX,V,p1,p2,W,X,Y⟩:=(U g).three (by rw[d8,U i];exact p);clear e))
     go_roundw;(case rel=>have j:=ac (ac (U y) (U m)) (U s);refine⟨b+1,by omega,by go_num,by rw[U f],by rw[U f],(U g).put (U u),?_⟩;exact j.trans ((dt (F:=λl=>l=z) _ _ _ _ rfl).below (λl q=>by rw[q,U D];exact bi) j.size));case measure=>simp[intOf];omega
   .obtain⟨Wj,We⟩:=bn (b-1);obtain⟨Z,S⟩:∃Z,r[Wj]?=some Z:=⟨_,VR (by rw[U i];omega)⟩;have Wh:=U Ws Z (VQ S);obtain⟨Xc,W7,W1,W3,E,Xa,_,Wg,_⟩:=O.get S;injection E with E V8 V9;injection E with E;injection E with E;subst E V9;clear V8;obtain⟨V0,V1⟩:=bj (d5 c Z L);have V2:=U Wr wr (U y) W1 W0 W3 W2 Z L Wh V5 Wg V4;rw[V1] at V2;have VZ:=H V2;(have V3:ot c r (b+1)=if V0≠0 then (o+1,b) else (o,B):=by rw[ot,R,<-We,cQ,cQ,S,N];simp only[Option.getD_some,V1,I,false_or]);(have WR:((b:Int) == 0)=false:=by simp[I]);(have Xe:(b:Int)-1=(Wj:Int):=by omega);(have Xf:(Wj:Int)<(K:Int):=by omega);by_cases M:V0=0
    ·(have WO:(V0 != 0)=false:=by simpa using M);(have f:Hid (ot c r (b+1)=(o,B)):=by show _=_;rw[V3,VU (λq=>q M)]);clear V3 R T Q N V5 O V4 I S Wh Wg V1 M V2 We;cases d
     ·(have u:Hid ((fg c r false)[b]?=some (aH.num ((B:Int)+1))):=by show _=_;rw[hx (by rw[U i];exact p),U f];rfl);have t:=H (db ((B:Int)+1))
      go_wp2_with (first
       | (go_at_call 227;refine(U VZ).mono ?_;rintro x Wl ⟨rfl,k⟩;have m:=H k.1;clear k)
       | (go_at_call 254;refine(U t _).mono ?_;rintro x VW ⟨rfl,e⟩;rw[aH.open_];have s:=H e.1;have g:=H ((U C).ky (F:=λ_=>False) (Ky.ab (ac (U m) e.1)) id);obtain⟨VX,V,p1,p2,W,X,Y⟩:=(U g).three (by rw[d8,U i];exact p);clear e))
      go_roundw;(case rel=>have j:=ac (ac (U y) (U m)) (U s);refine⟨b+1,by omega,by go_num,by rw[U f],by rw[U f],(U g).put (U u),?_⟩;exact j.trans ((dt (F:=λl=>l=z) _ _ _ _ rfl).below (λl q=>by rw[q,U D];exact bi) j.size));case measure=>simp[intOf];omega
     ·(have u:Hid ((fg c r true)[b]?=some (aH.num ((o:Int)))):=by show _=_;rw[hx (by rw[U i];exact p),U f];rfl);have t:=H (db ((o:Int)))
      go_wp2_with (first
       | (go_at_call 227;refine(U VZ).mono ?_;rintro x Wl ⟨rfl,k⟩;have m:=H k.1;clear k)
       | (go_at_call 254;refine(U t _).mono ?_;rintro x VW ⟨rfl,e⟩;rw[aH.open_];have s:=H e.1;have g:=H ((U C).ky (F:=λ_=>False) (Ky.ab (ac (U m) e.1)) id);obtain⟨VX,V,p1,p2,W,X,Y⟩:=(U g).three (by rw[d8,U i];exact p);clear e))
      go_roundw;(case rel=>have j:=ac (ac (U y) (U m)) (U s);refine⟨b+1,by omega,by go_num,by rw[U f],by rw[U f],(U g).put (U u),?_⟩;exact j.trans ((dt (F:=λl=>l=z) _ _ _ _ rfl).below (λl q=>by rw[q,U D];exact bi) j.size));case measure=>simp[intOf];omega
    ·(have WO:(V0 != 0)=true:=by simpa using M);(have J:ot c r (b+1)=(o+1,b):=by rw[V3,ba M]);obtain⟨A,k⟩:=bn (o+1);rw[<-k] at J;have f:=H J;(have WV:IntKind.i64.wrap ((o:Int)+1)=(A:Int):=by rw[hH _ (by omega)];omega);(have WT:A<=2147483649:=by omega);clear k J V3 R T Q N V5 O V4 I S Wh Wg V1 M V2 We;cases d
     ·(have u:Hid ((fg c r false)[b]?=some (aH.num ((b:Int)+1))):=by show _=_;rw[hx (by rw[U i];exact p),U f];rfl);have t:=H (db ((b:Int)+1))
      go_wp2_with (first
       | (go_at_call 227;refine(U VZ).mono ?_;rintro x Wl ⟨rfl,k⟩;have m:=H k.1;clear k)
       | (go_at_call 254;refine(U t _).mono ?_;rintro x VW ⟨rfl,e⟩;rw[aH.open_];have s:=H e.1;have g:=H ((U C).ky (F:=λ_=>False) (Ky.ab (ac (U m) e.1)) id);obtain⟨VX,V,p1,p2,W,X,Y⟩:=(U g).three (by rw[d8,U i];exact p);clear e))
      go_roundw;(case rel=>have j:=ac (ac (U y) (U m)) (U s);refine⟨b+1,by omega,by go_num,by rw[U f],by rw[U f],(U g).put (U u),?_⟩;exact j.trans ((dt (F:=λl=>l=z) _ _ _ _ rfl).below (λl q=>by rw[q,U D];exact bi) j.size));case measure=>simp[intOf];omega
     ·(have u:Hid ((fg c r true)[b]?=some (aH.num ((A:Int)))):=by show _=_;rw[hx (by rw[U i];exact p),U f];rfl);have t:=H (db ((A:Int)))
      go_wp2_with (first
       | (go_at_call 227;refine(U VZ).mono ?_;rintro x Wl ⟨rfl,k⟩;have m:=H k.1;clear k)
       | (go_at_call 254;refine(U t _).mono ?_;rintro x VW ⟨rfl,e⟩;rw[aH.open_];have s:=H e.1;have g:=H ((U C).ky (F:=λ_=>False) (Ky.ab (ac (U m) e.1)) id);obtain⟨VX,V,p1,p2,W,X,Y⟩:=(U g).three (by rw[d8,U i];exact p);clear e))
      go_roundw;(case rel=>have j:=ac (ac (U y) (U m)) (U s);refine⟨b+1,by omega,by go_num,by rw[U f],by rw[U f],(U g).put (U u),?_⟩;exact j.trans ((dt (F:=λl=>l=z) _ _ _ _ rfl).below (λl q=>by rw[q,U D];exact bi) j.size));case measure=>simp[intOf];omega
  ·(have WZ:¬(b:Int)<(K:Int):=by omega);(have WA:e8 wr z (fg c r d):=by have:=U C;rw[show b=(fg c r d).length by rw[d8,U i];omega] at this;exact this.done);have WJ:=H WA;clear WA;go_wp2;go_ret;have WY:=(U VY).size;exact⟨z,by rw[d8,U i];rfl,U WJ,by rw[U D];exact WY,ac (U VY) (U y)⟩
def fe(f:List (List aH))(e:Nat)(b:Int):Nat->Nat×Int
 | 0=>(0,0)
 | a+1=>
  let c:=fe f e b a
  let d:=(f.getD a []).getD e .null
  if 0<=b/\b<(a:Int) then
   let g:=(f.getD (a-b.toNat-1) []).getD e .null
   (Vl (Vl c.1 d 1) g (-1),hO (hO c.2 d 1) g (-1))
  else (Vl c.1 d 1,hO c.2 d 1)
theorem lP(h:n<340282366920938463463374607431768211456)(b:aH)(a:Int):Vl n b a<340282366920938463463374607431768211456:=by unfold Vl;split<;>omega
theorem l8(d:List (List aH))(b:Nat)(c:Int):∀a:Nat,(fe d b c a).1<340282366920938463463374607431768211456/\-(a:Int)<=(fe d b c a).2/\(fe d b c a).2<=(a:Int)
 | 0=>by simp[fe]
 | a+1=>by have h:=l8 d b c a;simp only[fe];split;(.refine⟨lP (lP h.1 _ _) _ _,?_⟩;unfold hO;constructor<;>(repeat' split)<;>omega);.refine⟨lP h.1 _ _,?_⟩;unfold hO;constructor<;>(repeat' split)<;>omega
def fd(a:List (List aH))(b:Nat)(d:Int)(e:Bool):List aH:=(List.range a.length).map λc=>if e then aH.num (fe a b d (c+1)).2 else kx (fe a b d (c+1)).1 (fe a b d (c+1)).2
theorem d7(a:List (List aH))(b:Nat)(d:Int)(c:Bool):(fd a b d c).length=a.length:=by simp[fd]
theorem hu(h:m<r.length):(fd r n I o)[m]?=some (if o then aH.num (fe r n I (m+1)).2 else kx (fe r n I (m+1)).1 (fe r n I (m+1)).2):=by unfold fd;rw[bL,List.getElem?_range h];rfl
theorem kB{d:Nat}(h:Value.slice a n k=.slice b m d):a=b/\n=m/\k=d:=by injection h with c e f;exact⟨c,e,f⟩
theorem sK{col:Nat}{n:Int}{ct:Bool}(Wt:fQ P w v r)(WV:∀a,P a->a<w.heap.size)(Xq:r.length<=2147483648)(W6:∀I∈r,I.length=m)(W5:∀I∈r,∀x∈I,bY x.n)(XN:m<=65)(XL:col<m)(Xp:bY n):Calls prog 271 #[v,.int .i64 (col:Int),.int .i64 n,.bool ct] w (vc w (fd r col n ct)):=by
 obtain⟨XC,XF,rfl⟩:=Wt.form;obtain⟨V,WD⟩:=bj r.length;rw[WD] at Xq ⊢;have j:=H WD;have Xe:=H Wt;have WT:=H W6;have WS:=H W5;have Xf:=H WV;unfold bY at Xp;clear WD Wt W6 W5 WV;go_enter func271,ntmps271;go_upto_region 2 with (at_make;refine dS _ rfl (.tmp 14) (.tmp 14) rfl V rfl rfl (by omega) ?_;intro Wj WX WW W4;have p:=H WX;have Xb:=H WW;have WQ:=H W4;clear WX WW W4);obtain⟨g,WA⟩:=bn w.heap.size;obtain⟨L,WG⟩:=bn Wj.heap.size;have R:=H WA;rw[<-WA] at p ⊢;go_upto_region 3 with fail;rw[<-WG];obtain⟨WJ,Wh⟩:=bj (Wj.alloc (.cells #[.int .u64 0,.int .u64 0,.int .i64 0] 268));rw[Wh];have Ww:Bw Wj WJ:=by rw[<-Wh];exact am VS _
 have W3:e7 WJ L 0 0 0:=by rw[<-Wh,WG];refine⟨?_,?_,?_,?_,?_,?_⟩<;>simp[go_sem]
 have WB:g≠L:=by have:=U WQ;omega
 have X:Hid (¬L=g):=λf=>WB f.symm;have M:Hid (¬g=L):=WB;have K:Hid (w.heap.size<=L):=by show _<=_;have:=U WQ;omega
 have WM:=H (n0.start ((U p).aa Ww) (ys:=fd r col n ct) (by rw[d7,U j]));have WR:Hid (e7 WJ L 0 (fe r col n 0).1 (fe r col n 0).2):=W3;have WL:=H (ac (U Xb) Ww);clear WA WG Wh Ww W3 WB;go_wp2_with fail;go_loopw[18] (λWI wr=>∃(b:Nat),b<=V/\WI=.int .i64 (b:Int)/\Hid (n0 wr g (fd r col n ct) b)/\Hid (e7 wr L 0 (fe r col n b).1 (fe r col n b).2)/\Hid (Bw w wr)) (λWI _=>V-(intOf WI).toNat);case atStart=>exact⟨0,bt,rfl,WM,WR,WL⟩
 case round=>
  clear WM WR WL p;obtain⟨b,XM,rfl,Q,Wc,q⟩:=hrel;by_cases u:b<V
  ·(have Xs:(b:Int)<(V:Int):=by omega);obtain⟨VZ,Wx,Wy⟩:=l8 r col n b;have E:=fe.eq_2 r col n b;obtain⟨Wn,Wu⟩:=bj ((fe r col n b).1);obtain⟨VX,Wz⟩:=bj ((fe r col n b).2);simp only[Wu,Wz] at E VZ Wx Wy Wc;obtain⟨I,Z⟩:∃I,r[b]?=some I:=⟨_,VR (by rw[U j];exact u)⟩;have W2:=U WT I (VQ Z);have Wg:=(U Xe).ky (G:=λ_=>False) (Ky.ab (U q)) λ_ _=>id;have WN:=H Wg;(have WO:Hid (∀a,P a->¬a=L):=λa d f=>by have:=U Xf a d;have:=U K;omega);obtain⟨XK,XE,XV,XW,Wq,XG,_,WF,_⟩:=Wg.get Z;obtain⟨Xj,_,Xk⟩:=kB Wq;subst Xj Xk;obtain⟨x,V3⟩:∃x,I[col]?=some x:=⟨_,VR (by omega)⟩;obtain⟨XD,XU,rfl,XH,XI,XJ⟩:=WF.lo V3;have WH:=U WS I (VQ Z) x (VQ V3);(have WC:(r.getD b []).getD col .null=x:=by simp[Z,V3]);rw[WC] at E;(have XS:(col:Int)<(I.length:Int):=by omega);(have XT:I.length<=65:=by omega);have We:=l6 (v:=x) (t:=1) VZ (by unfold bY;omega) WH (by unfold bY;omega) (U Wc);rw[x.open_] at We;have O:=H We;(have WZ:-(b:Int)<=hO VX x 1/\hO VX x 1<=(b:Int)+1:=by unfold hO;split<;>omega);have Wv:=lP VZ x 1;by_cases Y:0<=n/\n<(b:Int)
   .rw[ba Y] at E;obtain⟨Wp,W0⟩:=bn (b-n.toNat-1);obtain⟨f,Xo⟩:=bn (b-n.toNat);obtain⟨W,V1⟩:∃W,r[Wp]?=some W:=⟨_,VR (by rw[U j];omega)⟩;have Xr:=U WT W (VQ V1);obtain⟨N,Wi⟩:∃N,W[col]?=some N:=⟨_,VR (by omega)⟩;have W7:=U WS W (VQ V1) N (VQ Wi);(have W1:(r.getD (b-n.toNat-1) []).getD col .null=N:=by rw[<-W0];simp[V1,Wi]);rw[W1] at E;obtain⟨Wd,VY⟩:=bj (Vl (Vl Wn x 1) N (-1));obtain⟨J,V0⟩:=bj (hO (hO VX x 1) N (-1));have Wf:=λXg (Xx:e7 Xg L 0 (Vl Wn x 1) (hO VX x 1))=>l6 (v:=N) (t:=-1) Wv (by unfold bY;omega) W7 (by unfold bY;omega) Xx;rw[VY,V0] at E Wf;rw[N.open_] at Wf;have WK:=H Wf;have s:=H E;have WP:=H V1;have WU:=H Wi;have W8:(0:Int)<=n:=Y.1;have Xt:n<(b:Int):=Y.2;(have W9:(b:Int)-n=(f:Int):=by omega);(have XO:(f:Int)-1=(Wp:Int):=by omega);(have XP:(Wp:Int)<(V:Int):=by omega);(have XQ:(col:Int)<(W.length:Int):=by omega);(have XR:W.length<=65:=by omega);clear W0 Xo V1 Wi W1 Xr W7 VY V0 Wf E Y Wv WZ We WC WH V3 WF Wq Wg W2 Z Wu Wz VZ Wx Wy Wc;cases ct
    .have B:Hid ((fd r col n false)[b]?=some (kx Wd J)):=by show _=_;rw[hu (by rw[U j];exact u),U s];rfl
     go_wp2_with (first
      | (go_at_call 253;refine(U WK _ (U Wm)).mono ?_;rintro f Xy ⟨rfl,V8,T⟩;have k:=H V8;have z:=H ((U Wk).ky T (U M));have p:=H ((U VW).trans (T.below (λa d=>(by rw[d];exact U K)) (U VW).size));clear V8 T)
      | (go_at_call 253;refine(U O).mono ?_;rintro f V9 ⟨rfl,o,e⟩;have Wm:=H o;have Wk:=H ((U Q).ky e (U M));have VW:=H ((U q).trans (e.below (λa d=>(by rw[d];exact U K)) (U q).size));have Wl:=H ((U WN).ky e (U WO));obtain⟨Xm,Xi,Xv,Xw,S,Xl,_,V2,_⟩:=(U Wl).get (U WP);have Xd:=H S;obtain⟨Xh,Xu,WE,Xz,XA,XB⟩:=V2.lo (U WU);obtain⟨C,Wr,Ws⟩:=kB S;injection C with C;injection C with C;subst C;subst WE;clear S V2 Wr Ws o e)
      | (go_at_call 256;refine(VD (U k)).mono ?_;rintro f Wa ⟨rfl,c⟩;rw[aH.open_];have y:=H c.1;have i:=H ((U z).ky (F:=λ_=>False) (Ky.ab c.1) id);have A:=H ((U k).aa c.1);obtain⟨Wb,V4,p1,p2,V5,V6,V7⟩:=(U i).three (by rw[d7,U j];exact u);clear c))
     go_roundw;(case rel=>have D:=U p;have l:=ac D (U y);refine⟨b+1,by omega,by go_num,(U i).put (U B),?_,?_⟩;(.rw[U s];exact(U A).ky (dt (F:=λa=>a=g) _ _ _ _ rfl) (U X));.exact l.trans ((dt (F:=λa=>a=g) _ _ _ _ rfl).below (λa d=>by rw[d,U R];exact bi) l.size));case measure=>simp[intOf];omega
    .have B:Hid ((fd r col n true)[b]?=some (aH.num J)):=by show _=_;rw[hu (by rw[U j];exact u),U s];rfl
     go_wp2_with (first
      | (go_at_call 253;refine(U WK _ (U Wm)).mono ?_;rintro f Xy ⟨rfl,V8,T⟩;have k:=H V8;have z:=H ((U Wk).ky T (U M));have p:=H ((U VW).trans (T.below (λa d=>(by rw[d];exact U K)) (U VW).size));clear V8 T)
      | (go_at_call 253;refine(U O).mono ?_;rintro f V9 ⟨rfl,o,e⟩;have Wm:=H o;have Wk:=H ((U Q).ky e (U M));have VW:=H ((U q).trans (e.below (λa d=>(by rw[d];exact U K)) (U q).size));have Wl:=H ((U WN).ky e (U WO));obtain⟨Xm,Xi,Xv,Xw,S,Xl,_,V2,_⟩:=(U Wl).get (U WP);have Xd:=H S;obtain⟨Xh,Xu,WE,Xz,XA,XB⟩:=V2.lo (U WU);obtain⟨C,Wr,Ws⟩:=kB S;injection C with C;injection C with C;subst C;subst WE;clear S V2 Wr Ws o e)
      | (go_at_call 255;refine(gp (U k)).mono ?_;rintro f Xa ⟨rfl,rfl⟩)
      | (go_at_call 254;refine(db J _).mono ?_;rintro f Wa ⟨rfl,c⟩;rw[aH.open_];have y:=H c.1;have i:=H ((U z).ky (F:=λ_=>False) (Ky.ab c.1) id);have A:=H ((U k).aa c.1);obtain⟨Wb,V4,p1,p2,V5,V6,V7⟩:=(U i).three (by rw[d7,U j];exact u);clear c))
     go_roundw;(case rel=>have D:=U p;have l:=ac D (U y);refine⟨b+1,by omega,by go_num,(U i).put (U B),?_,?_⟩;(.rw[U s];exact(U A).ky (dt (F:=λa=>a=g) _ _ _ _ rfl) (U X));.exact l.trans ((dt (F:=λa=>a=g) _ _ _ _ rfl).below (λa d=>by rw[d,U R];exact bi) l.size));case measure=>simp[intOf];omega
   .rw[VU Y] at E;obtain⟨Wd,VY⟩:=bj (Vl Wn x 1);obtain⟨J,V0⟩:=bj (hO VX x 1);rw[VY,V0] at E O;have s:=H E;(have Xn:n<0∨(0<=n/\¬n<(b:Int)):=by omega);clear VY V0 E Y Wv WZ We WC WH V3 WF Wq Wg W2 Z Wu Wz VZ Wx Wy Wc;rcases Xn with W8|⟨W8,Xt⟩
    ·(have W9:¬(0:Int)<=n:=by omega);cases ct
     .have B:Hid ((fd r col n false)[b]?=some (kx Wd J)):=by show _=_;rw[hu (by rw[U j];exact u),U s];rfl
      go_wp2_with (first
       | (go_at_call 253;refine(U O).mono ?_;rintro f V9 ⟨rfl,o,e⟩;have k:=H o;have z:=H ((U Q).ky e (U M));have p:=H ((U q).trans (e.below (λa d=>(by rw[d];exact U K)) (U q).size));clear o e)
       | (go_at_call 256;refine(VD (U k)).mono ?_;rintro f Wa ⟨rfl,c⟩;rw[aH.open_];have y:=H c.1;have i:=H ((U z).ky (F:=λ_=>False) (Ky.ab c.1) id);have A:=H ((U k).aa c.1);obtain⟨Wb,V4,p1,p2,V5,V6,V7⟩:=(U i).three (by rw[d7,U j];exact u);clear c))
      go_roundw;(case rel=>have D:=U p;have l:=ac D (U y);refine⟨b+1,by omega,by go_num,(U i).put (U B),?_,?_⟩;(.rw[U s];exact(U A).ky (dt (F:=λa=>a=g) _ _ _ _ rfl) (U X));.exact l.trans ((dt (F:=λa=>a=g) _ _ _ _ rfl).below (λa d=>by rw[d,U R];exact bi) l.size));case measure=>simp[intOf];omega
     .have B:Hid ((fd r col n true)[b]?=some (aH.num J)):=by show _=_;rw[hu (by rw[U j];exact u),U s];rfl
      go_wp2_with (first
       | (go_at_call 253;refine(U O).mono ?_;rintro f V9 ⟨rfl,o,e⟩;have k:=H o;have z:=H ((U Q).ky e (U M));have p:=H ((U q).trans (e.below (λa d=>(by rw[d];exact U K)) (U q).size));clear o e)
       | (go_at_call 255;refine(gp (U k)).mono ?_;rintro f Xa ⟨rfl,rfl⟩)
       | (go_at_call 254;refine(db J _).mono ?_;rintro f Wa ⟨rfl,c⟩;rw[aH.open_];have y:=H c.1;have i:=H ((U z).ky (F:=λ_=>False) (Ky.ab c.1) id);have A:=H ((U k).aa c.1);obtain⟨Wb,V4,p1,p2,V5,V6,V7⟩:=(U i).three (by rw[d7,U j];exact u);clear c))
      go_roundw;(case rel=>have D:=U p;have l:=ac D (U y);refine⟨b+1,by omega,by go_num,(U i).put (U B),?_,?_⟩;(.rw[U s];exact(U A).ky (dt (F:=λa=>a=g) _ _ _ _ rfl) (U X));.exact l.trans ((dt (F:=λa=>a=g) _ _ _ _ rfl).below (λa d=>by rw[d,U R];exact bi) l.size));case measure=>simp[intOf];omega
    ·(have W9:(b:Int)<=n:=by omega);cases ct
     .have B:Hid ((fd r col n false)[b]?=some (kx Wd J)):=by show _=_;rw[hu (by rw[U j];exact u),U s];rfl
      go_wp2_with (first
       | (go_at_call 253;refine(U O).mono ?_;rintro f V9 ⟨rfl,o,e⟩;have k:=H o;have z:=H ((U Q).ky e (U M));have p:=H ((U q).trans (e.below (λa d=>(by rw[d];exact U K)) (U q).size));clear o e)
       | (go_at_call 256;refine(VD (U k)).mono ?_;rintro f Wa ⟨rfl,c⟩;rw[aH.open_];have y:=H c.1;have i:=H ((U z).ky (F:=λ_=>False) (Ky.ab c.1) id);have A:=H ((U k).aa c.1);obtain⟨Wb,V4,p1,p2,V5,V6,V7⟩:=(U i).three (by rw[d7,U j];exact u);clear c))
      go_roundw;(case rel=>have D:=U p;have l:=ac D (U y);refine⟨b+1,by omega,by go_num,(U i).put (U B),?_,?_⟩;(.rw[U s];exact(U A).ky (dt (F:=λa=>a=g) _ _ _ _ rfl) (U X));.exact l.trans ((dt (F:=λa=>a=g) _ _ _ _ rfl).below (λa d=>by rw[d,U R];exact bi) l.size));case measure=>simp[intOf];omega
     .have B:Hid ((fd r col n true)[b]?=some (aH.num J)):=by show _=_;rw[hu (by rw[U j];exact u),U s];rfl
      go_wp2_with (first
       | (go_at_call 253;refine(U O).mono ?_;rintro f V9 ⟨rfl,o,e⟩;have k:=H o;have z:=H ((U Q).ky e (U M));have p:=H ((U q).trans (e.below (λa d=>(by rw[d];exact U K)) (U q).size));clear o e)
       | (go_at_call 255;refine(gp (U k)).mono ?_;rintro f Xa ⟨rfl,rfl⟩)
       | (go_at_call 254;refine(db J _).mono ?_;rintro f Wa ⟨rfl,c⟩;rw[aH.open_];have y:=H c.1;have i:=H ((U z).ky (F:=λ_=>False) (Ky.ab c.1) id);have A:=H ((U k).aa c.1);obtain⟨Wb,V4,p1,p2,V5,V6,V7⟩:=(U i).three (by rw[d7,U j];exact u);clear c))
      go_roundw;(case rel=>have D:=U p;have l:=ac D (U y);refine⟨b+1,by omega,by go_num,(U i).put (U B),?_,?_⟩;(.rw[U s];exact(U A).ky (dt (F:=λa=>a=g) _ _ _ _ rfl) (U X));.exact l.trans ((dt (F:=λa=>a=g) _ _ _ _ rfl).below (λa d=>by rw[d,U R];exact bi) l.size));case measure=>simp[intOf];omega
  ·(have Xs:¬(b:Int)<(V:Int):=by omega);(have WY:e8 wr g (fd r col n ct):=by have:=U Q;rw[show b=(fd r col n ct).length by rw[d7,U j];omega] at this;exact this.done);have Xc:=H WY;clear WY;go_wp2;go_ret;exact⟨g,by rw[d7,U j];rfl,U Xc,by rw[U R];exact bi,U q⟩
def gY(a:Pl)(b:List (List aH)):List aH:=if a.fn=1 then kJ b.length else if a.fn=2∨a.fn=3 then fg a.keys b (a.fn == 3) else if a.fn=6 then eY b a.aj.toNat a.n.toNat else fd b a.aj.toNat a.n (a.fn == 5)
theorem vc.aa{a:Ending}(h:vc W x a X)(b:Below w.heap.size w W):vc w x a X:=by obtain⟨c,d,e,f,g⟩:=h;exact⟨c,d,e,cw b.size f,ac b g⟩
theorem tz{P:Nat->Prop}(J:fQ P w v r)(Q:∀I,P I->I<w.heap.size)(X:r.length<=2147483648)(F:∀Y∈r,Y.length=n)(V:∀Y∈r,∀x∈Y,bY x.n)(V5:n<=64)(N:dh w g.aK p.keys)(S:eZ p.keys n)(R:p.fn=1∨p.fn=2∨p.fn=3∨(0<=p.aj/\p.aj<(n:Int)))(K:bY p.n)(T:p.fn=6->0<=p.n):Calls prog 267 #[p.val g,v] w (vc w (gY p r)):=by
 obtain⟨m,E⟩:=bj (w.alloc (.cells #[.int .i64 p.op,.string p.au,.slice g.aE p.ex.length g.cE,.slice g.aC p.cols.length g.cC,.slice g.aK p.keys.length g.cK,.slice g.aA p.aggs.length g.cA,.int .i64 p.fn,.int .i64 p.aj,.int .i64 p.n,.int .i64 p.off,.slice g.aP p.args.length g.cP] 28));have z:Below w.heap.size w m:=by rw[<-E];exact am VS _
 have V6:m.cell? ⟨w.heap.size,4,none⟩=some (.slice g.aK p.keys.length g.cK):=by rw[<-E];simp[go_sem]
 have V7:m.cell? ⟨w.heap.size,6,none⟩=some (.int .i64 p.fn):=by rw[<-E];simp[go_sem]
 have Z:m.cell? ⟨w.heap.size,7,none⟩=some (.int .i64 p.aj):=by rw[<-E];simp[go_sem]
 have V0:m.cell? ⟨w.heap.size,8,none⟩=some (.int .i64 p.n):=by rw[<-E];simp[go_sem]
 have D:=J.ky (G:=λ_=>False) (Ky.ab z) λ_ _=>id;have O:∀I,P I->I<m.heap.size:=λI l=>cN (Q I l) z.size;have B:=H E;have M:=H z;obtain⟨VZ,V1,rfl⟩:=J.form;rw[Pl.ad];clear E;by_cases o:p.fn=1;.have e:gY p r=kJ r.length:=ba o;(have V2:(p.fn == 1)=true:=by simpa using o);have q:=H (pG (a:=VZ) (c:=V1) (w:=m) X);rw[e];clear J Q F V N S R K T D O e o z;go_enter func267,ntmps267;go_upto_region 1 with fail;rw[U B];go_wp2_with (go_at_call 268;refine(U q).mono ?_;rintro e u t;obtain⟨j,rfl,f,k,i⟩:=t;have s:Hid (vc m _ (.returned (.slice (some ⟨j,0,none⟩) _ _)) u):=⟨j,rfl,f,k,i⟩;clear f k i);go_ret;exact(U s).aa (U M)
 ·(have V2:(p.fn == 1)=false:=by simpa using o);by_cases b:p.fn=2∨p.fn=3;(·(have e:gY p r=fg p.keys r (p.fn == 3):=by unfold gY;rw[VU o,ba b]);have q:=H (sX (cK:=g.cK) (d:=(p.fn == 3)) D X F V5 (N.aa z) S);rw[e];clear J Q F V N S R K T D O e o z;rcases b with b|b;(·(have VW:(p.fn == 2)=true:=by simpa using b);clear b;go_enter func267,ntmps267;go_upto_region 1 with fail;rw[U B];go_wp2_with (go_at_call 269;refine(U q).mono ?_;rintro e u t;obtain⟨j,rfl,f,k,i⟩:=t;have s:Hid (vc m _ (.returned (.slice (some ⟨j,0,none⟩) _ _)) u):=⟨j,rfl,f,k,i⟩;clear f k i);go_ret;exact(U s).aa (U M));·(have VW:(p.fn == 2)=false:=by simp[b]);(have VX:(p.fn == 3)=true:=by simpa using b);rw[VX] at q ⊢;clear b;go_enter func267,ntmps267;go_upto_region 1 with fail;rw[U B];go_wp2_with (go_at_call 269;refine(U q).mono ?_;rintro e u t;obtain⟨j,rfl,f,k,i⟩:=t;have s:Hid (vc m _ (.returned (.slice (some ⟨j,0,none⟩) _ _)) u):=⟨j,rfl,f,k,i⟩;clear f k i);go_ret;exact(U s).aa (U M));·(have VW:(p.fn == 2)=false:=by simpa using λl=>b (.inl l));(have VX:(p.fn == 3)=false:=by simpa using λl=>b (.inr l));(have VY:0<=p.aj/\p.aj<(n:Int):=by rcases R with l|l|l|l;(.exact absurd l o);(.exact absurd (.inl l) b);(.exact absurd (.inr l) b);.exact l);obtain⟨y,A⟩:∃y:Nat,p.aj=(y:Int):=⟨p.aj.toNat,by omega⟩;by_cases C:p.fn=6;(.have V4:=T C;obtain⟨L,W⟩:∃L:Nat,p.n=(L:Int):=⟨p.n.toNat,by omega⟩;(have e:gY p r=eY r y L:=by unfold gY;rw[VU o,VU b,ba C,A,W];rfl);(have V3:(p.fn == 6)=true:=by simpa using C);have q:=H (UD (col:=y) (n:=L) D X F (by omega) (by omega) (by unfold bY at K;omega));rw[e];rw[A] at Z ⊢;rw[W] at V0 ⊢;rw[A,W] at B;clear J Q F V N S R K T D O e o z b C VY V4 A W;go_enter func267,ntmps267;go_upto_region 1 with fail;rw[U B];go_wp2_with (go_at_call 270;refine(U q).mono ?_;rintro e u t;obtain⟨j,rfl,f,k,i⟩:=t;have s:Hid (vc m _ (.returned (.slice (some ⟨j,0,none⟩) _ _)) u):=⟨j,rfl,f,k,i⟩;clear f k i);go_ret;exact(U s).aa (U M));·(have e:gY p r=fd r y p.n (p.fn == 5):=by unfold gY;rw[VU o,VU b,VU C,A];rfl);(have V3:(p.fn == 6)=false:=by simpa using C);have q:=H (sK (col:=y) (n:=p.n) (ct:=(p.fn == 5)) D O X F V (by omega) (by omega) K);rw[e];rw[A] at Z ⊢;rw[A] at B;clear J Q F V N S R K T D O e o z b C VY A;go_enter func267,ntmps267;go_upto_region 1 with fail;rw[U B];go_wp2_with (go_at_call 271;refine(U q).mono ?_;rintro e u t;obtain⟨j,rfl,f,k,i⟩:=t;have s:Hid (vc m _ (.returned (.slice (some ⟨j,0,none⟩) _ _)) u):=⟨j,rfl,f,k,i⟩;clear f k i);go_ret;exact(U s).aa (U M)
end Go.Proofs.YtklgoolblpmmlaaGreat
