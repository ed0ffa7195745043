import Derived.Test.YtklgoolblpmmlaaGreatBgC
import Derived.Test.YtklgoolblpmmlaaGreatBgB
import Derived.Test.YtklgoolblpmmlaaGreatLkA
set_option linter.all false
set_option maxHeartbeats 4000000
set_option maxRecDepth 100000
namespace Go.Proofs.YtklgoolblpmmlaaGreat
open Go.RowKit Go.Sort Go.Proofs.Tryz
structure ED(Inv:(Nat->Prop)->List (List aH)->World->Prop)(F:Nat->Prop)(zs rs:List (List aH))(W:World)(cb n k:Nat)(F':Nat->Prop)(wr:World):Prop where
 i:Inv F' (zs++(rs.take k).map cp) wr
 b:∃L,e8 wr cb L/\L.length=n
 nf:¬F' cb
 nw:Nw F F' W
 ky:Ky F W wr
variable{A B r:List (List aH)}{i j k l m n:Nat}{x y z:List aH}{W X w:World}{a:Option Addr}{v:Value}{P:Nat->Prop}{e:Ex}{L:List Ex}
theorem oG(h:r[n]?=some x)(a:List (List aH)):a++(r.take (n+1)).map cp=a++(r.take n).map cp++[cp x]:=by rw[List.take_add_one,h];simp
theorem lH{x:Nv}(X:ge w n m x)(D:ga w x.tm.aR x.t.rows)(Wr:x.k.2.2.length=k)(Xc:k<=64)(S:∀a∈x.t.rows,dH k (cp a)):cU 71 w n m k (x.t.rows.map cp):=by
 intro WN W1 V4 f Y l N V8 K A W6;obtain⟨b,W5,Xd,rfl⟩:=N.fn;have WO:=ae X.k K;rw[Wr] at WO;have s:=X.t.c2;obtain⟨WY,Wb⟩:=bn x.tm.aR;rw[<-Wb] at s D;obtain⟨i,Wn⟩:=bn x.t.rows;rw[<-Wn] at s S A D ⊢;obtain⟨q,R⟩:=bn i.length;rw[<-R] at s;have WS:i.length<=2147483648:=by have:=A.length_le;simp at this;omega
 have r:=H N;have I:=H V8;have u:=H K;have WF:=H A;have WG:=H S;have WJ:=H D;have V0:=H R;have Xb:q<=2147483648:=by omega
 have V3:=H s;clear N V8 X K A S D Wn Wr R WS s Wb;go_enter func71,ntmps71;go_upto_region 1 with (at_make;refine eT _ rfl (.tmp 13) (.tmp 13) rfl k rfl rfl (by omega) ?_;intro WW We Wc Wp;have Z:=H We;have v:=H Wc;have WL:=H Wp;clear We Wc Wp);have WQ:=ae (U V3) (ac (U u) (U v));have Wq:ED V4 f Y i l l.heap.size k 0 f WW:= ⟨by simpa using(U r).stb.keep (U I) (Ky.ab (F:=λ_=>False) (U v)) λ_ _ b=>b,⟨_,U Z,by simp⟩,λb=>by have:=((U r).stb.foot (U I) _ b).2;omega,Nw.refl _ _,Ky.ab (U v)⟩;have V2:=H Wq;clear Wq;go_wp2_with fail;go_loopw[21] (λg wr=>∃(c:Nat) (t:Nat->Prop),c<=q/\g=.int .i64 (c:Int)/\Hid (ED V4 f Y i l l.heap.size k c t wr)) (λg _=>q-(intOf g).toNat);case atStart=>exact⟨0,f,bt,rfl,V2⟩
 case round=>
  clear WQ Z v WL V2 V3;obtain⟨c,t,Xa,rfl,e⟩:=hrel;have V7:Bw w wr:=(U u).trans ((U e).ky.below (λd b=>((U r).stb.foot (U I) d b).1) (U u).size);have E:=H V7;clear V7;by_cases WT:c<q
  ·(have WR:(c:Int)<(q:Int):=by omega);obtain⟨a,C⟩:∃a,i[c]?=some a:=⟨_,VR (by rw[<-U V0];exact WT)⟩;obtain⟨Xj,Xl,Xi,Xk,rfl,Wf,Wm⟩:=(U WJ).get C;have T:=U WG a (VQ C);(have V:a.length=k:=by have:=T.len;simpa [cp] using this);have WP:=ae Wf (U E);obtain⟨WX,V9,Wa⟩:=(U e).b;have G:=H (Fl.start V9 (ys:=cp a) (by rw[Wa];simp[cp,V]));have WK:=H Wm;have J:=H T;have V1:=H C;have WI:=H V;obtain⟨o,Q⟩:=bn l.heap.size;rw[<-Q] at G e ⊢;have VX:=H Q;clear Wf Wm T C V9 Wa Q V;rename World=>w9;go_wp2_with fail;go_loopw[27] (λg Ww=>∃(d:Nat),d<=a.length/\g=.int .i64 (d:Int)/\Hid (Fl Ww o (cp a) d)/\Hid (Ky (λc=>c=o) w9 Ww)) (λg _=>a.length-(intOf g).toNat);case atStart=>exact⟨0,bt,rfl,G,Ky.refl _ _⟩
   case round=>
    clear G WP;obtain⟨d,W8,rfl,F,y⟩:=hrel;have z:Bw w wr:=(U E).trans ((U y).below (λc b=>by rw[b,U VX];exact(U u).size) (U E).size);by_cases V6:d<a.length
    ·(have WU:(d:Int)<(a.length:Int):=by omega);obtain⟨j,W⟩:∃j,a[d]?=some j:=⟨_,VR V6⟩;obtain⟨Xm,Xn,V5,W2,W3,W4⟩:=((U WK).aa z).lo W;(have WM:Hid ((cp a)[d]?=some (bk j)):=by show _=_;unfold cp;rw[bL,W];rfl);have WA:=H (ec j);have Wz:=H (am (VT _ wr) (.cells #[.int .i64 j.k,.int .i64 j.n,.string j.s] 43));(have Wi:d<(cp a).length:=by simpa [cp] using V6);(have W9:(d:Int)<(k:Int):=by have:=U WI;omega);have WE:=H Wi;rw[V5];clear z W V5 Wi
     go_wp2_with (first
      | (go_at_call 47;refine(U WA _).mono ?_;rintro p Xo ⟨rfl,Wd⟩;have O:=ac (U Wz) Wd;rw[aH.open_];have VY:=H ((U F).ky (F:=λ_=>False) (Ky.ab O) id);obtain⟨Xq,Xg,p1,p2,Xh,Wu,Wv⟩:=(U VY).three (U WE);have Wy:=H O;clear Wd O))
     go_roundw;(case rel=>exact⟨d+1,by omega,by go_num,(U VY).put (U WM),((U y).trans (Ky.ab (U Wy)) (Nw.refl _ _)).trans (dt (F:=λc=>c=o) _ _ _ _ rfl) (Nw.refl _ _)⟩);case measure=>simp[intOf];omega
    ·(have WU:¬(d:Int)<(a.length:Int):=by omega);(have p:d=(cp a).length:=by simp[cp];omega);(have P:e8 wr o (cp a):=by have:=U F;rw[p] at this;exact this.done);have Wj:Ky f l wr:=(U e).ky.trans (U y) λc b=>.inr (by rw[b,U VX];exact bi);have Wh:=(U r).stb.keep (U e).i (U y) λc Wu Wv=>(U e).nf (Wv ▸ Wu);(have Wk:Y++(i.take c).map cp++[cp a] <+: WN:=by rw[<-oG (U V1)];exact List.IsPrefix.trans ((List.prefix_append_right_inj _).2 ((List.take_prefix _ _).map _)) (U WF));obtain⟨Xe,WZ,M,L⟩:=(U r).call t _ wr (some ⟨o,0,none⟩) k (cp a) Wh z Wk (U J) P.row (λn Xf b _=>by injection b with b;injection b with b;subst b;exact(U e).nf) (jv _ _);have B:(cp a).length=k:=(U J).len;rw[B] at M;rw[<-oG (U V1)] at L;have WD:=H M;have WB:=H L;have VW:=H P;have VZ:=H Wj;clear M L P Wj Wh Wk B p z F;go_wp2_with (refine cX rfl (.tmp 38) (.tmp 39) _ rfl _ _ (by rfl) (by rfl) (U WD) (U WB) ?_;rintro W0 Xp Wl;have WH:=H Wl;obtain⟨Wg,_⟩:=Wl;refine⟨_,Wg,?_⟩;clear Wg);go_roundw;(case rel=>obtain⟨_,Wx,WV,Wt,Ws⟩:=U WH;refine⟨c+1,Wx,by omega,by go_num,?_⟩;have W7:=(U VW).lt;have B:(cp a).length=k:=(U J).len;exact⟨WV,⟨_,(U VW).ky Ws (U e).nf,B⟩,λb=>by rcases Wt o b with b|b;exact(U e).nf b;omega,(U e).nw.trans Wt (U VZ).size,(U VZ).trans Ws (U e).nw⟩);case measure=>simp[intOf];omega
  ·(have WR:¬(c:Int)<(q:Int):=by omega);(have p:c=i.length:=by rw[<-U V0];omega);have WC:=H p;clear p;go_wp2;go_end0;have:=(U e).i;rw[U WC,dy] at this;exact⟨rfl,t,this,(U e).nw,(U e).ky⟩
theorem vv:∀a:List aH,cd a a=0:=λa=>by have:=fE a a;omega
theorem xy(a:List Int):(xC a).size=a.length:=by rw[xB];simp[ByteArray.size]
def bF(a:List aH):ByteArray:=xC (gJ a)
theorem vw(h:cd x y=0)(a:x.map bk=x)(b:y.map bk=y):x=y:=by have:=jK x y h;rw[a,b] at this;exact this
theorem jL(b:∀x∈y,eO x)(d:∀x∈z,eO x)(h:bF y=bF z):y=z:=by
 have c:=mS y z (λx a=>(b x a).1) (λx a=>(d x a).1);have e:=mS y y (λx a=>(b x a).1) (λx a=>(b x a).1);unfold bF at h;rw[<-h,e,vv] at c;refine vw c.symm ?_ ?_;·(conv=>rhs;rw[<-List.map_id y]);exact List.map_congr_left λx a=>(b x a).2.2
 ·(conv=>rhs;rw[<-List.map_id z]);exact List.map_congr_left λx a=>(d x a).2.2
theorem qI(a:List aH)(b:∀x∈a,x.s.size<=1000):Vw a<=a.length*3000:=by
 induction a with
 | nil=>simp[Vw]
 | cons x a e=>have c:=e λf d=>b f (by simp[d]);have g:=b x (by simp);(have i:po x<=3000:=by unfold po;omega);unfold Vw at c ⊢;simp only[dX,List.sum_cons,dY];omega
theorem fM(e:y.length<=1000000)(a:∀x∈y,eO x):(bF y).size<=140737488355328:=by have c:=qI y λx b=>(a x b).2.1;have d:=rC y;unfold bF;rw[xy];omega
theorem fR{c:Nat}{r:List aH}(i:r.length<=1000000)(e:∀x∈r,eO x)(d:bX w a r):Calls prog 31 #[.slice a r.length c] w λb g=>b=.returned (.string (bF r))/\Bw w g:=
 A5 a c r w (by unfold maxLen;omega) (by have:=qI r λx f=>(e x f).2.1;omega) d
def dd(c:List (List aH))(a:ByteArray):Int:=(c.countP (λb=>decide (bF b=a)):Int)
theorem jZ(d:∀a∈r,∀x∈a,eO x)(b:∀x∈y,eO x):dd r (bF y)=(r.count y:Int):=by
 unfold dd;congr 1;unfold List.count;refine List.countP_congr λa c=>?_;constructor;.intro h;(have h:bF a=bF y:=by simpa using h);simp[jL (d a c) b h]
 .intro h;(have h:a=y:=by simpa using h);simp[h]
theorem iA:dd []=λ_=>0:=by funext a;simp[dd]
theorem iV(d:List (List aH))(a:List aH):(λb=>if b=bF a then dd d (bF a)+1 else dd d b)=dd (d++[a]):=by
 funext b;unfold dd;rw[List.countP_append];by_cases c:b=bF a;.subst c;rw[ba rfl];simp[List.countP_cons]
 .rw[VU c];have:¬bF a=b:=λe=>c e.symm;simp[List.countP_cons,this]
theorem gt(a:List (List aH))(b:ByteArray):0<=dd a b/\dd a b<=a.length:=by unfold dd;have:=List.countP_le_length (l:=a) (p:=λc=>decide (bF c=b));omega
theorem k8.ky{c:Type}{p:TypeId}{a:qx c p}{G:Nat->Prop}{b:c->Int}(h:k8 a w n m b)(k:Ky G w W)(o:¬G n):k8 a W n m b:=by have l:=h.lt;obtain⟨d,⟨f,e,g,i⟩,j⟩:=h;exact⟨d,⟨f,e,by rw[k.block n l o];exact g,i⟩,j⟩
structure Un(w0:World)(b3 b4 mb:Nat)(f:Value)(wd:Nat)(O:Nat->Prop)(ys:List (List aH))(W:World):Prop where
 c3:W.cell? ⟨b3,0,none⟩=some f
 c4:W.cell? ⟨b4,0,none⟩=some (.map (some mb))
 m:k8 cJ W mb ys.length (dd ys)
 ok:∀r∈ys,dH wd r
 o:O b3/\O b4/\O mb
 ne:b3≠mb/\b4≠mb
 lim:∀k,O k->w0.heap.size<=k/\k<W.heap.size
theorem sI:qA w (Un w n m k v j):=
 ⟨λ{e i g f l} h a b=>⟨a.cell h.c3 (b _ h.o.1),a.cell h.c4 (b _ h.o.2.1),h.m.ky a (b _ h.o.2.2),h.ok,h.o,h.ne,λc d=>⟨(h.lim c d).1,cN (h.lim c d).2 a.size⟩⟩,λ{e g f} h=>h.lim⟩
theorem Un.put(h:Un w n m j v i P r W)(b:Ky (λk=>k=j) W X)(c:k8 cJ X j (r.length+1) (dd (r++[x])))(d:dH i x):Un w n m j v i P (r++[x]) X:=
 ⟨b.cell h.c3 h.ne.1,b.cell h.c4 h.ne.2,by rw[bG];exact c,λf e=>by rcases cM e with a|a;exact h.ok f a;simp at a;subst a;exact d,h.o,h.ne,λk a=>⟨(h.lim k a).1,cN (h.lim k a).2 b.size⟩⟩
theorem CS:cr 139:=λargs a=>by kernel_rfl
theorem pq(a:List (List aH))(b:List aH):ih (a++[b])=if b∈a then ih a else ih a++[b]:=by unfold ih;rw[hd];by_cases h:b∈a<;>simp[h]
theorem qO{s:(Nat->Prop)->List (List aH)->World->Prop}(D:Tk w r n v s)(WL:n<=64)(B:List (List aH)){G:Nat->Prop}(WM:A.length<=2147483648) (Wx:i6 s (Un w m k j v n) B ih G A W) (VZ:Bw w W) (V0:(B++ih (A++[x])) <+: r) (q:dH n x) (V1:bX W a x) (V4:∀p K,a=some ⟨p,K,none⟩->x≠[]->¬G p) (Wv:sE a):Calls prog 139 #[.slice a x.length i,.pointer (some ⟨k,0,none⟩),.pointer (some ⟨m,0,none⟩)] W (gm (i6 s (Un w m k j v n) B ih) G (A++[x]) W):=by
 obtain⟨C,L,V6,l,E,u⟩:=Wx;obtain⟨c,t,z,rfl⟩:=D.fn;have Wb:=H (fR (c:=i) (by rw[q.len];omega) q.val V1);have Wg:=jZ (λWE WC=>(l.ok WE WC).val) q.val;have WK:=gt A (bF x);have O:cJ.ok (bF x):=fM (by rw[q.len];omega) q.val;have Wa:Hid (∀o,Bw W o->∃g,(Instr.lookup 50 (.map (some j)) (.string (bF x)) false).run prog o=.ok (.int .i64 (dd A (bF x))) o/\(Instr.mapUpdate 50 (.map (some j)) (.string (bF x)) (.int .i64 (dd A (bF x)+1))).run prog o=.ok () g/\(Instr.lookup 50 (.map (some j)) (.string (bF x)) false).run prog g=.ok (.int .i64 (dd A (bF x)+1)) g/\o.cell? ⟨k,0,none⟩=some (.map (some j))/\g.cell? ⟨k,0,none⟩=some (.map (some j))/\g.cell? ⟨m,0,none⟩=some (.func c t z)/\Un w m k j (.func c t z) n L (A++[x]) g/\Ky (λb=>b=j) W g):=λo y=>by have Wl:Ky (λ_=>False) W o:=Ky.ab y;have P:=sI.keep l Wl λ_ _ c=>c;obtain⟨g,WB,V2,Wz⟩:=P.m.put underlying50 (by omega) O (c:=dd A (bF x)+1) ⟨by omega,by omega⟩;have Wi:=V2.look underlying50 O;rw[ba rfl] at Wi;rw[iV] at V2;have WA:=P.m.look underlying50 O;(have Wm:Ky (λb=>b=j) o g:=Ky.ao Wz λb Z=>by injection Z with Z;exact Z.symm);have f:=P.put Wm V2 q;exact⟨g,WA,WB,Wi,P.c4,f.c4,f.c3,f,(Wl.mono λ_ c=>c.elim).trans Wm (Nw.refl _ _)⟩
 have Wj:(dd A (bF x)=0) ↔ ¬x∈A:=by rw[Wg,<-List.count_eq_zero];omega
 have Wu:Hid (∀d,Ky (λb=>b=j) W d->¬x∈A->∃Wn args,xf (.func c t z) (.slice a x.length i) Wn args/\Calls prog Wn args d (gm s C (B++ih (A++[x])) d)):=λd e F=>by have V3:∀b,C b->¬b=j:=λb V7 V8=>E b V7 (V8 ▸ l.o.2.2);rw[pq,VU F] at V0 ⊢;have Ww:=VZ.trans (e.below (λb c=>by rw[c];exact(l.lim j l.o.2.2).1) VZ.size);have:=D.call C _ d a i x (D.stb.keep V6 e V3) Ww (by simpa [cI] using V0) q (e.row V1 λp K N VX VY=>V4 p K N VX ((u p).2 (.inr (VY ▸ l.o.2.2)))) (λp K N VX VY=>V4 p K N VX ((u p).2 (.inl VY))) Wv;simpa [cI] using this
 have Wr:Hid (∀d,Ky (λb=>b=j) W d->Un w m k j (.func c t z) n L (A++[x]) d->x∈A->gm (i6 s (Un w m k j (.func c t z) n) B ih) G (A++[x]) W (.returned (.tuple #[])) d):=λd e f F=>by have V3:∀b,C b->¬b=j:=λb V7 V8=>E b V7 (V8 ▸ l.o.2.2);refine⟨rfl,G,⟨C,L,?_,f,E,u⟩,Nw.refl _ _,e.mono λb c=>(u b).2 (.inr (c ▸ l.o.2.2))⟩;rw[pq,ba F];exact D.stb.keep V6 e V3
 have Ws:Hid (∀d VW Y,Ky (λb=>b=j) W d->Un w m k j (.func c t z) n L (A++[x]) d->gm s C (B++ih (A++[x])) d VW Y->gm (i6 s (Un w m k j (.func c t z) n) B ih) G (A++[x]) W VW Y):=λd VW Y e f F=> ht (e.mono λb c=>(u b).2 (.inr (c ▸ l.o.2.2))) (Nw.refl _ _) (Vh D.stb sI f E (λb c=>(u b).2 c) F);have Wc:=H Wj;generalize bF x=WD at *;generalize dd A WD=Wd at *;clear l V6 E u D V0 q V1 V4 VZ Wg O Wj;by_cases M:Wd=0
 .have T:=H ((U Wc).1 M);subst M;go_enter func139,ntmps139
  go_wp2_with (first
   | (go_at_call 31;refine(U Wb).mono ?_;rintro _ V9 ⟨rfl,y⟩;obtain⟨g,I,p1,J,WF,WG,WH,f,e⟩:=U Wa V9 y;have R:=H I;have V:=H p1;have S:=H J;have X:=H f;have Q:=H e;obtain⟨WN,WI,Wf,We⟩:=U Wu g e (U T);have Wq:=H Wf;have Wp:=H We;clear y I p1 J f e Wf We)
   | (at_lookup;refine b9 rfl (.tmp 7) (.tmp 8) 50 rfl _ _ rfl rfl (U R) ?_)
   | (at_mapUpdate;refine cW rfl (.tmp 7) (.tmp 8) (.tmp 10) 50 rfl _ _ _ rfl rfl rfl (U V) ?_)
   | (at_lookup;refine b9 rfl (.tmp 11) (.tmp 12) 50 rfl _ _ rfl rfl (U S) ?_)
   | (refine cX rfl (.tmp 15) (.tmp 16) _ rfl _ _ (by rfl) (by rfl) (U Wq) (U Wp) ?_;rintro WJ WO Wk;have Wt:=H Wk;obtain⟨Wh,_⟩:=Wk;refine⟨_,Wh,?_⟩;clear Wh))
  go_end0;have V5:=U Wt;have Wy:=V5.1;rw[Wy] at V5;exact U Ws _ _ _ (U Q) (U X) V5
 .have T:Hid (x∈A):=by
   by_cases c:x∈A
   .exact c
   .exact absurd ((U Wc).2 c) M
  have N:¬Wd+1=1:=by omega
  clear M
  go_enter func139,ntmps139
  go_wp2_with (first
   | (go_at_call 31;refine(U Wb).mono ?_;rintro _ V9 ⟨rfl,y⟩;obtain⟨g,I,p1,J,WF,WG,WH,f,e⟩:=U Wa V9 y;have R:=H I;have V:=H p1;have S:=H J;have X:=H f;have Q:=H e;clear y I p1 J f e)
   | (at_lookup;refine b9 rfl (.tmp 7) (.tmp 8) 50 rfl _ _ rfl rfl (U R) ?_)
   | (at_mapUpdate;refine cW rfl (.tmp 7) (.tmp 8) (.tmp 10) 50 rfl _ _ _ rfl rfl rfl (U V) ?_)
   | (at_lookup;refine b9 rfl (.tmp 11) (.tmp 12) 50 rfl _ _ rfl rfl (U S) ?_))
  go_end0
  exact U Wr _ (U Q) (U X) (U T)
theorem m7{x:Nv}(V0:ge w n m x)(Wg:x.na=some ⟨k,0,none⟩)(Wx:0<x.nl)(Wi:j<=64)(R:cU 40 w k 0 j r)(Wj:r.length<=2147483648):cU 76 w n m j (ih r):=by
 intro Wq Wu u o t a e T P W Ww;obtain⟨b,f,g,rfl⟩:=e.fn;have Q:=am (VT _ a) (.cells #[.func b f g] 117);have q:(a.alloc (.cells #[.func b f g] 117)).heap.size=a.heap.size+1:=by simp
 have M:(a.alloc (.cells #[.func b f g] 117)).cell? ⟨a.heap.size,0,none⟩=some (.func b f g):=by simp[go_sem]
 have v:=V0.a;rw[Wg] at v;have Wv:(0:Int)<(x.nl:Int):=by omega
 have We:=@run_makeMap prog;have J:=H M;have L:=H q;have I:=H Q;have V4:=H v;have V8:=H e;have K:=H T;have V3:=H R;have G:=H P;have V7:=H W;clear v M q Q e T R V0 P W;go_enter func76,ntmps76;go_upto_region 2 with fail;obtain⟨i,VZ⟩:=bn (a.alloc (.cells #[.func b f g] 117));rw[<-VZ] at J L I ⊢;obtain⟨d,s⟩:=bj ((i.alloc (.map #[] 0)).alloc (.cells #[.map (some (a.heap.size+1))] 50));have q:=U L;have Z:=am (VT _ i) (.map #[] 0);have VY:(i.alloc (.map #[] 0)).heap.size=a.heap.size+2:=by simp;omega
 have B:Below (i.alloc (.map #[] 0)).heap.size (i.alloc (.map #[] 0)) d:=by rw[<-s];exact am VS _
 have Wh:d.heap.size=a.heap.size+3:=by rw[<-s];simp;omega
 have N:d.cell? ⟨a.heap.size+2,0,none⟩=some (.map (some (a.heap.size+1))):=by rw[<-s,<-VY];simp[go_sem]
 have VW:k8 cJ d (a.heap.size+1) 0 (dd []):=by rw[iA,<-q];exact(k8.made cJ i).aa B
 have A:Bw i d:=ac Z B;have C:Bw a d:=ac (U I) A;have z:Bw w d:=ac (U G) C;have Wn:=(U G).size;have Ws:=ae (U V4) z;have E:Ky (λ_=>False) a d:=Ky.ab C;have e:=U V8;have V:u o (t++ih []) d:=by simpa [ih,kV] using e.stb.keep (U K) E λ_ _ b=>b
 obtain⟨l,p⟩:∃l:Nat->Prop,l=λc=>a.heap.size<=c/\c<d.heap.size:=⟨_,rfl⟩;have X:Un w a.heap.size (a.heap.size+2) (a.heap.size+1) (.func b f g) j l [] d:= ⟨ae (U J) A,N,VW,λV1 D=>by simp at D,by rw[p];exact⟨⟨by omega,by omega⟩,⟨by omega,by omega⟩,⟨by omega,by omega⟩⟩,by omega,λc b=>by rw[p] at b;exact⟨by omega,b.2⟩⟩;have S:∀c,o c->¬l c:=λc Wl Wm=>by have:=(e.stb.foot (U K) c Wl).2;rw[p] at Wm;omega
 have Y:Tk w r j (.func (.func 139) #[] #[.pointer (some ⟨a.heap.size+2,0,none⟩),.pointer (some ⟨a.heap.size,0,none⟩)]) (i6 u (Un w a.heap.size (a.heap.size+2) (a.heap.size+1) (.func b f g) j) t ih):=by refine⟨⟨_,_,_,rfl⟩,λWp Wz Wr V9 Wa V1 Wk Wd VX D Wc Wf Wb=>⟨139,_,by simpa using fm CS #[] #[.pointer (some ⟨a.heap.size+2,0,none⟩),.pointer (some ⟨a.heap.size,0,none⟩)] (.slice V9 V1.length Wa),?_⟩,kh e.stb sI _ _⟩;refine qO e Wi t ?_ Wk Wd ?_ D Wc Wf Wb;(.have:=VX.length_le;simp at this;omega);.exact List.IsPrefix.trans (List.prefix_append_right_inj _ |>.2 (vi VX)) (U V7)
 have V5:=H (U V3 r _ _ _ [] d Y ⟨o,l,V,X,S,λc=>Iff.rfl⟩ z (List.prefix_refl _) Wj);have V6:Hid (∀y F,gm (i6 u (Un w a.heap.size (a.heap.size+2) (a.heap.size+1) (.func b f g) j) t ih) (λc=>o c∨l c) ([]++r) d y F->gm u o (t++ih r) a y F):=λy F h=>qk (E.mono λ_ b=>b.elim) (λc b=>by rcases b with b|b;(.exact .inl b);.rw[p] at b;exact .inr b.1) h;rw[s];clear Y V X N s S p E q Wh VY Z B VW A C z Wn e VZ We;go_wp2_with (go_at_call 40;refine(U V5).mono ?_;rintro Wt Wy O;have V2:=H O;obtain⟨rfl,_⟩:=O);go_end0;exact U V6 _ _ (U V2)
def dz(d:Nat->Prop)(e:World)(g:Value)(f:Ex):Prop:=∃c a,iM c [] a g f/\ce c [] a e/\∀b,c<=b->b<a.heap.size->d b
theorem dz.ky{G:Nat->Prop}(h:dz P w v e)(g:Ky G w W)(i:∀a,P a->¬G a):dz P W v e:=by obtain⟨j,c,d,f,b⟩:=h;exact⟨j,c,d,g.kept f λa k l=>i a (b a k l),b⟩
theorem dz.mono{Q:Nat->Prop}(h:dz P w v e)(i:∀a,P a->a<w.heap.size->Q a):dz Q w v e:=by obtain⟨j,d,f,b,g⟩:=h;exact⟨j,d,f,b,λa k c=>i a (g a k c) (cN c b.size)⟩
theorem dz.call(h:dz P w v e):∃c f,v=.func (.func c) #[] f/\cr c/\∀(a:World) (d:Option Addr) (g:Nat) (b:List aH),Bw w a->bX a d b->(∀x∈b,gW x)->b.length<=140737488355328->Calls prog c (#[.slice d b.length g]++f) a λt u=>t=.returned (bZ b e).v/\Bw a u:=by obtain⟨A,y,⟨c,f,j,o,n⟩,i,z⟩:=h;exact⟨c,f,j,o,λa d g b l q j p=>n a d g b ⟨cw i.size l.size,λk r m s=>(l.block k (cN m i.size)).trans (i.block k r m s)⟩ q j p⟩
structure Wo(w0:World)(b3 b4 b7 gv cb:Nat)(f:Value)(es:List Ex)(O:Nat->Prop)(ys:List (List aH))(W:World):Prop where
 c3:W.cell? ⟨b3,0,none⟩=some f
 c4:W.cell? ⟨b4,0,none⟩=some (.slice (some ⟨gv,0,none⟩) es.length es.length)
 c7:W.cell? ⟨b7,0,none⟩=some (.slice (some ⟨cb,0,none⟩) es.length es.length)
 vs:∀(i:Nat) e,es[i]?=some e->∃vF,W.cell? ⟨gv,i,none⟩=some vF/\dz (λk=>O k/\k≠cb) W vF e
 bf:∃L,e8 W cb L/\L.length=es.length
 o:O b3/\O b4/\O b7/\O cb/\(es≠[]->O gv)
 n:b3≠cb/\b4≠cb/\b7≠cb/\gv≠cb
 lim:∀k,O k->w0.heap.size<=k/\k<W.heap.size
theorem xk:qA w (Wo w n m k j i v L):=
 ⟨λ{g y x l z} h a b=>by
  obtain⟨f,p,q⟩:=h.bf
  refine⟨a.cell h.c3 (b _ h.o.1),a.cell h.c4 (b _ h.o.2.1),a.cell h.c7 (b _ h.o.2.2.1),λr o e=>?_,⟨f,p.ky a (b _ h.o.2.2.2.1),q⟩,h.o,h.n,λd c=>⟨(h.lim d c).1,cN (h.lim d c).2 a.size⟩⟩
  obtain⟨u,s,t⟩:=h.vs r o e
  exact⟨u,a.cell s (b _ (h.o.2.2.2.2 λc=>by rw[c] at e;simp at e)),t.ky a λd c=>b d c.1⟩,λ{g x l} h=>h.lim⟩
theorem Wo.buf(h:Wo w n m k j i v L P r W)(a:Ky (λb=>b=i) W X)(e:e8 X i x)(g:x.length=L.length):Wo w n m k j i v L P A X:=by refine⟨a.cell h.c3 h.n.1,a.cell h.c4 h.n.2.1,a.cell h.c7 h.n.2.2.1,λl d f=>?_,⟨x,e,g⟩,h.o,h.n,λb c=>⟨(h.lim b c).1,cN (h.lim b c).2 a.size⟩⟩;obtain⟨q,o,p⟩:=h.vs l d f;exact⟨q,a.cell o h.n.2.2.2,p.ky a λb c d=>c.2 d⟩
def ig(a:List Ex)(b:List aH):List aH:=a.map (bZ b)
theorem CV:cr 131:=λargs a=>by kernel_rfl
theorem qF{wd:Nat}{D:(Nat->Prop)->List (List aH)->World->Prop}(S:Tk w r L.length v D)(WO:L.length<=64)(W4:wd<=64)(z:List (List aH)){G:Nat->Prop} (WN:i6 D (Wo w n m k j i v L) z (λA=>A.map (ig L)) G A W) (V6:Bw w W) (Wc:(z++(A++[x]).map (ig L)) <+: r) (VW:dH wd x) (Wm:dH L.length (ig L x)) (Wd:bX W a x) (X:∀o F,a=some ⟨o,F,none⟩->x≠[]->¬G o) (W2:sE a):Calls prog 131 #[.slice a x.length l,.pointer (some ⟨m,0,none⟩),.pointer (some ⟨k,0,none⟩),.pointer (some ⟨n,0,none⟩)] W (gm (i6 D (Wo w n m k j i v L) z (λA=>A.map (ig L))) G (A++[x]) W):=by
 obtain⟨B,WK,y,I,V4,P⟩:=WN;obtain⟨c,V5,Wr,rfl⟩:=S.fn;have WP:x.length<=140737488355328:=by rw[VW.len];omega
 have V3:=I.c4;obtain⟨p,Y⟩:=bn L.length;obtain⟨WW,Wa,Wb⟩:=I.bf;have V0:=H (Fl.start Wa (ys:=ig L x) (by rw[Wb];simp[ig]));have Wj:∀o F,a=some ⟨o,F,none⟩->x≠[]->o≠i:=λo F u Q f=>X o F u Q ((P o).2 (.inr (f ▸ I.o.2.2.2.1)));rw[<-Y] at V3 WO;have C:=H Y;have e:=H I;have WA:=H y;have VZ:=H V4;have V2:=H P;have N:=H S;have VX:=H V6;have WE:=H Wc;have WH:=H VW;have WI:=H Wm;have Wu:=H Wd;have WD:=H Wj;have WV:=H X;clear I y V4 P S V6 Wc VW Wm Wd Wj X Wa Wb Y;go_enter func131,ntmps131;go_wp2_with fail;go_loopw[9] (λy wr=>∃(d:Nat),d<=p/\y=.int .i64 (d:Int)/\Hid (Fl wr i (ig L x) d)/\Hid (Ky (λb=>b=i) W wr)) (λy _=>p-(intOf y).toNat);case atStart=>exact⟨0,bt,rfl,V0,Ky.refl _ _⟩
 case round=>
  clear V0 V3;obtain⟨d,W3,rfl,M,g⟩:=hrel;by_cases u:d<p
  ·(have WT:(d:Int)<(p:Int):=by omega);obtain⟨f,E⟩:∃f,L[d]?=some f:=⟨_,VR (by rw[<-U C];exact u)⟩;obtain⟨Xa,q,s⟩:=(U e).vs d f E;have WY:=(U g).cell q (U e).n.2.2.2;have J:=(U g).cell (U e).c7 (U e).n.2.2.1;rw[<-U C] at J;obtain⟨W7,W5,WR,WM,V9⟩:=(s.ky (U g) λb c f=>c.2 f).call;subst WR;have Wn:bX wr a x:=(U g).row (U Wu) λo Ws u Q WL=>U WD o Ws u Q WL;have VY:=H (λ(t:World) (We:Bw wr t)=>V9 t a l x We (Wn.aa We) (λWU WS=>((U WH).val WU WS).vok) WP);(have WJ:Hid ((ig L x)[d]?=some (bZ x f)):=by show _=_;unfold ig;rw[bL,E];rfl);(have Wi:d<(ig L x).length:=by simp[ig];rw[<-U C];exact u);have WB:=H Wi;generalize bZ x f=Xd at *;unfold cr at WM;rw[aH.open_] at VY;clear q s V9 Wn E Wi;rename World=>w9;go_upto_block 1 with fail;go_cut[] (λWt=>Hid (Fl Wt i (ig L x) (d+1))/\Hid (Ky (λb=>b=i) w9 Wt))
   case first=>
    go_upto_region 3 with fail;have Wx:=H (U VY w9.drew (VT _ w9).drew)
    go_region_with (first
     | (refine(U Wx).mono ?_;rintro f Xb ⟨rfl,Wf⟩;have K:=ac ((VT _ w9).drew) Wf;have W0:=ae J K;have V1:=H ((U M).ky (F:=λ_=>False) (Ky.ab K) id);obtain⟨Xe,W8,p1,p2,W9,q,s⟩:=(U V1).three (U WB);have Wv:=H K;clear Wf K))
    all_goals go_wp2;go_meet;exact⟨(U V1).put (U WJ),(Ky.ab (U Wv)).trans (dt (F:=λb=>b=i) _ _ _ _ rfl) (Nw.refl _ _)⟩
   case rest=>obtain⟨Wz,WC⟩:=hcut;go_wp2;go_roundw;(case rel=>exact⟨d+1,by omega,by go_num,Wz,(U g).trans (U WC) (Nw.refl _ _)⟩);case measure=>simp[intOf];omega
  ·(have WT:¬(d:Int)<(p:Int):=by omega);(have Wp:(ig L x).length=p:=by rw[U C];simp[ig]);(have f:d=(ig L x).length:=by omega);(have T:e8 wr i (ig L x):=by have:=U M;rw[f] at this;exact this.done);have J:=(U g).cell (U e).c7 (U e).n.2.2.1;have WZ:=(U g).cell (U e).c3 (U e).n.1;rw[<-U C] at J;have V:∀b,B b->b≠i:=λb q s=>U VZ b q (s ▸ (U e).o.2.2.2.1);have Wh:=(U N).stb.keep (U WA) (U g) λb q s=>V b q s;have V7:Bw w wr:=(U VX).trans ((U g).below (λb c=>by rw[c];exact((U e).lim _ (U e).o.2.2.2.1).1) (U VX).size);(have Wk:(z++A.map (ig L))++[ig L x] <+: r:=by have:=U WE;rw[ep] at this;simpa [cI] using this);obtain⟨W6,WX,R,V8⟩:=(U N).call B _ wr (some ⟨i,0,none⟩) p (ig L x) Wh V7 Wk (U WI) T.row (λo Ws c _ h=>by injection c with c;injection c with c;subst c;exact V _ h rfl) (jv _ _);rw[Wp] at R;have Wq:Wo w n m k j i (.func c V5 Wr) L WK (A++[x]) wr:=(U e).buf (U g) T (by simp[ig]);(have WF:Hid (∀O t,gm D B (z++A.map (ig L)++[ig L x]) wr O t->gm (i6 D (Wo w n m k j i (.func c V5 Wr) L) z (λA=>A.map (ig L))) G (A++[x]) W O t):=λO t WQ=>by refine ht ((U g).mono λb c=>(U V2 b).2 (.inr (c ▸ (U e).o.2.2.2.1))) (Nw.refl _ _) (Vh (φ:=λA=>A.map (ig L)) (U N).stb xk Wq (U VZ) (λb c=>(U V2 b).2 c) ?_);simpa [cI] using WQ);have Wy:=H R;have Ww:=H V8;clear R V8 Wq Wk V7 Wh V T f Wp M;go_wp2_with (refine cX rfl (.tmp 21) (.tmp 22) _ rfl _ _ (by rfl) (by rfl) (U Wy) (U Ww) ?_;rintro W1 Xc Wl;have WG:=H Wl;obtain⟨Wg,_⟩:=Wl;refine⟨_,Wg,?_⟩;clear Wg);go_end0;have Z:=U WG;have E:=Z.1;rw[E] at Z;exact U WF _ _ Z
theorem tA:(Tryz.prog.info? 78).map (λa=>(a.zero,a.size,a.bytes))=some (some .nilFunc,1,8):=by kernel_rfl
structure xj(w:World)(g n:Nat)(es:List Ex)(P:Nat->Prop)(k:Nat):Prop where
 o:∃vs:List Value,vs.length=n/\w.ownsRow 0 78 1 (.slice (some ⟨g,0,none⟩) n n) n vs/\∀(i:Nat) e,i<k->es[i]?=some e->∃vF,vs[i]?=some vF/\dz P w vF e
theorem xj.ky{G:Nat->Prop}(h:xj w n m L P k)(b:Ky G w W)(i:¬G n)(f:∀k,P k->¬G k):xj W n m L P k:=by obtain⟨r,c,d,e⟩:=h.o;refine⟨r,c,bM d b λs a=>by simp[Value.ownBlock] at a;subst a;exact i,λl a j g=>?_⟩;obtain⟨q,o,p⟩:=e l a j g;exact⟨q,o,p.ky b f⟩
theorem xj.cell(h:xj w n m L P k)(e:j<m):∃b,w.cell? ⟨n,j,none⟩=some b/\w.frozen? ⟨n,j,none⟩=false:=by obtain⟨f,c,a,d⟩:=h.o;exact⟨_,by rw[World.ownsRow.cellAt a j (by omega)];exact VR (by omega),World.ownsRow.frozenAt a j⟩
theorem xj.put{k:Nat}(h:xj w n m L P k)(z:k<m)(q:L[k]?=some e)(r:dz P w v e)(d:∀k,P k->k≠n):xj (w.setCell ⟨n,k,none⟩ v) n m L P (k+1):=by
 obtain⟨x,l,o,p⟩:=h.o;have g:Ky (λb=>b=n) w (w.setCell ⟨n,k,none⟩ v):=cS w n k v rfl;refine⟨x.set k v,by rw[List.length_set];exact l,(World.ownsRow.stored o k v).1,λi j y a=>?_⟩;by_cases f:i=k;.subst f;rw[q] at a;injection a with a;subst a;exact⟨v,by rw[List.getElem?_set,ba rfl,ba (by omega)],r.ky g λb c e=>d b c e⟩
 .obtain⟨u,s,t⟩:=p i j (by omega) a;exact⟨u,by rw[List.getElem?_set,VU (λe=>f e.symm)];exact s,t.ky g λb c e=>d b c e⟩
theorem lC(b:World){l:Array Oper}{rest:List Oper}{d:Oper}{c:Act}{j:Exit->Act->World->Prop} (p:d.guard=none) (g f:Operand) (s:d.op=Op.makeSlice 162 g f) (a:Nat) (r:c.eval g=.int .i64 (a:Int)) (o:c.eval f=.int .i64 (a:Int)) (y:a<=1048576) (n:∀e,(∀k i,xj e b.heap.size a k i 0)->Bw b e->e.heap.size=b.heap.size+1->wpList prog l j rest (c.put d.dst (.slice (some ⟨b.heap.size,0,none⟩) a a)) e):wpList prog l j (d::rest) c b:=by obtain⟨t,q,u,v,w⟩:=info_parts tA;refine eD b p g f 162 s 78 t _ underlying162 q u 1 v .i64 .i64 a r o (by rw[w];omega) (by omega) (n _ (λk i=>⟨?_⟩) (am VS _) (by simp));have h:=World.ownsRow_lit (base:=0) (e:=78) (size:=1) b (madeCells (Value.cells .nilFunc) (a*1)) a bt (by unfold maxLen;omega) (size_madeCells _ _);exact⟨_,by simp[size_madeCells],h,λz m x=>by omega⟩
theorem xl(c:dH n x)(b:Ex.ay L):dH L.length (ig L x):=
 ⟨by simp[ig],λf d=>by
  obtain⟨e,a,rfl⟩:=b6 d
  exact iD c.val (Ex.av b a)⟩
theorem j9{x:Nv}(V3:ge w n m x)(Wp:x.q.ex=L)(Wk:Ex.all w x.m.aE x.q.ex)(WV:Ex.ay L)(XE:L.length<=64)(XH:x.na=some ⟨k,0,none⟩)(Ya:0<x.nl)(XN:j<=64)(WH:cU 40 w k 0 j r)(XP:r.length<=2147483648)(WY:∀V7∈r,dH L.length (ig L V7)):cU 73 w n m L.length (r.map (ig L)):=by
 intro XX X6 V0 V T a p WK Wh WM X8;obtain⟨c,o,s,rfl⟩:=p.fn;have Wi:=am (VT _ a) (.cells #[.func c o s] 117);have WA:=ae V3.e.c2 (ac Wh Wi);obtain⟨XY,Wj⟩:=bn x.m.aE;rw[Wp,<-Wj] at WA Wk;obtain⟨d,V2⟩:=bn L.length;rw[<-V2] at WA XE;have WB:(a.alloc (.cells #[.func c o s] 117)).cell? ⟨a.heap.size,0,none⟩=some (.func c o s):=by simp[go_sem]
 have u:(a.alloc (.cells #[.func c o s] 117)).heap.size=a.heap.size+1:=by simp
 have Wd:=V3.a;rw[XH] at Wd;have X7:(0:Int)<(x.nl:Int):=by omega
 have We:=V3.e.c2;rw[Wp,<-Wj,<-V2] at We;have Xd:=H We;have Xg:=H WB;have Xp:=H u;have W6:=H Wi;have Xc:=H Wd;have Xs:=H p;have Wy:=H WK;have Xb:=H WH;have VY:=H Wh;have W5:=H Wk;have Xh:=H WV;have J:=H V2;have Xo:=H WY;have Xm:=H WM;clear Wd WB u Wi p WK WH V3 Wk Wh WV Wj V2 WY WM Wp We;go_enter func73,ntmps73;go_upto_region 2 with (at_make;refine lC _ rfl (.tmp 13) (.tmp 13) rfl d rfl rfl (by omega) ?_;intro R WW WS u;have Xl:=H WW;have Wr:=H WS;have Xq:=H u;clear WW WS u);obtain⟨S,Y⟩:=bj (R.alloc (.cells #[.slice (some ⟨a.heap.size+1,0,none⟩) d d] 162));have u:=U Xp;have XK:=U Xq;have V1:Bw R S:=by rw[<-Y];exact am VS _
 have O:S.heap.size=R.heap.size+1:=by rw[<-Y];simp
 have l:S.cell? ⟨R.heap.size,0,none⟩=some (.slice (some ⟨a.heap.size+1,0,none⟩) d d):=by rw[<-Y];simp[go_sem]
 have B:Bw a S:=ac (ac (U W6) (U Wr)) V1;have t:=ae (ae (U Xg) (U Wr)) V1;have WI:xj S (a.heap.size+1) d L (λb=>a.heap.size+2<b) 0:=by have:=U Xl L (λb=>a.heap.size+2<b);rw[u] at this;exact this.ky (G:=λ_=>False) (Ky.ab V1) id λ_ _=>id
 have WC:=ae (U Xd) (ac (U VY) B);obtain⟨i,A⟩:=bn R.heap.size;have WT:i=a.heap.size+2:=by omega
 rw[Y,<-A];rw[<-A] at l;have Wt:=H B;have I:=H l;have F:=H t;have Wv:=H WI;have K:Hid (S.heap.size=a.heap.size+3):=by show _=_;omega
 have Ws:=H WT;clear Y V1 O B t WI A u XK WT l;go_wp2_with fail;go_loopw[21] (λq wr=>∃(b:Nat),b<=d/\q=.int .i64 (b:Int)/\Hid (xj wr (a.heap.size+1) d L (λb=>a.heap.size+2<b) b)/\Hid (Bw a wr)/\Hid (wr.cell? ⟨i,0,none⟩=some (.slice (some ⟨a.heap.size+1,0,none⟩) d d)/\wr.cell? ⟨a.heap.size,0,none⟩=some (.func c o s)/\a.heap.size+3<=wr.heap.size)) (λq _=>d-(intOf q).toNat);case atStart=>exact⟨0,bt,rfl,Wv,Wt,U I,U F,by have:=U K;omega⟩
 case round=>
  clear WC Wv Wt I F K;obtain⟨b,X9,rfl,Wx,Wa,Wu⟩:=hrel;by_cases Wg:b<d
  ·(have XQ:(b:Int)<(d:Int):=by omega);obtain⟨g,D⟩:∃g,L[b]?=some g:=⟨_,VR (by rw[<-U J];exact Wg)⟩;have WG:=ac (U VY) (U Wa);obtain⟨Yj,Yk,Xz,WR⟩:=Ex.ag (Ex.af _ (U W5) WG) D;obtain⟨y,z,⟨XZ,X0,WC,X2,X3,X4⟩,WQ⟩:=Ex.ah WR;subst Xz;have Wn:=am (VT _ wr) (g.box y z);obtain⟨l,t,E⟩:=U Wu;have VZ:=H (λ(Wc:World) (Wl:Below (wr.alloc (g.box y z)).heap.size (wr.alloc (g.box y z)) Wc)=>fF g (Ex.av (U Xh) (VQ D)) y z Wc (Ex.af _ (Ex.af _ WQ Wn) Wl));rw[Ex.ad] at VZ;have Wb:=H D;have W:=H Wn;(have Wz:Hid ((wr.alloc (g.box y z)).heap.size=wr.heap.size+1):=by show _=_;simp);have V8:=H (ee.new wr g y z);have I:=H l;have F:=H t;have K:=H E;clear D WR WQ Wn WG l t E;rename World=>w9;go_upto_block 1 with fail;go_cut[] (λVX=>Hid (xj VX (a.heap.size+1) d L (λb=>a.heap.size+2<b) (b+1))/\Hid (Bw a VX)/\Hid (VX.cell? ⟨i,0,none⟩=some (.slice (some ⟨a.heap.size+1,0,none⟩) d d)/\VX.cell? ⟨a.heap.size,0,none⟩=some (.func c o s)/\a.heap.size+3<=VX.heap.size))
   case first=>
    go_upto_region 5 with fail;obtain⟨VW,WZ⟩:=bn (w9.alloc (g.box y z));rw[<-WZ] at VZ W Wz V8 ⊢;have Xa:=H (ac (U Wa) (U W));obtain⟨Yd,Ye,Yf,Yg,Yh,Yi⟩:=U V8;have XU:=ae (U I) (U W);have W3:=ae (U F) (U W);have Xu:=H W3;have Yb:=U Wz;have Xn:=H (U VZ VW.drew (VT _ VW).drew);have Xj:=H ((U Wx).ky (G:=λ_=>False) (Ky.ab (U W)) id λ_ _=>id);clear WZ W3 VZ V8
    go_region_with (first
     | (go_at_call 32;refine(U Xn).mono ?_;rintro _ e ⟨W2,rfl,WP,N⟩;have X:=ac ((VT _ VW).drew) N;have XV:=ae XU X;have Xw:=H XV;have Xv:=H (ae (U Xu) X);have Ww:=H ((U Xj).ky (G:=λ_=>False) (Ky.ab X) id λ_ _=>id);obtain⟨Ym,Yc,p1⟩:=(U Ww).cell Wg;have Xt:=H WP;have W8:=H X;have V9:=H N;obtain⟨W1,P,XM,_,_⟩:=WP;subst XM;clear N X))
    all_goals go_wp2;go_meet;have Yp:=(U V9).size;have T:=U K;have XD:VW.drew.heap.size=VW.heap.size:=rfl;have XO:dz (λb=>a.heap.size+2<b) e (.func (.func W1) #[] P) g:=⟨_,_,U Xt,ce.refl _ _ _,λb V5 V6=>by rw[XD] at V5;omega⟩;(have XI:i≠a.heap.size+1:=by have:=U Ws;omega);have V4:Ky (λb=>b=a.heap.size+1) e (e.setCell ⟨a.heap.size+1,b,none⟩ (.func (.func W1) #[] P)):=cS _ _ _ _ rfl;refine⟨(U Ww).put Wg (U Wb) XO λb c=>by omega,(ac (U Xa) (U W8)).trans (V4.below (λb c=>by omega) (by omega)),V4.cell (U Xw) (λc=>XI c),V4.cell (U Xv) (λc=>by omega),by have:=V4.size;omega⟩
   case rest=>obtain⟨Xi,W7,Xe⟩:=hcut;go_wp2;go_roundw;(case rel=>exact⟨b+1,by omega,by go_num,Xi,W7,Xe⟩);case measure=>simp[intOf];omega
  ·(have XQ:¬(b:Int)<(d:Int):=by omega);obtain⟨l,t,E⟩:=U Wu;(have WE:b=d:=by omega);have Wb:=H WE;have F:=H t;have I:=H l;have K:=H E;clear t E WE;go_upto_region 8 with (at_make;refine eT _ rfl (.tmp 33) (.tmp 33) rfl d rfl rfl (by omega) ?_;intro e WU N O;have W9:=H WU;have V9:=H N;have Xr:=H O;clear WU N O);obtain⟨f,Z⟩:=bj (e.alloc (.cells #[.slice (some ⟨wr.heap.size,0,none⟩) d d] 40));(have A:Bw e f:=by rw[<-Z];exact am VS _);(have XL:f.heap.size=e.heap.size+1:=by rw[<-Z];simp);(have WD:f.cell? ⟨e.heap.size,0,none⟩=some (.slice (some ⟨wr.heap.size,0,none⟩) d d):=by rw[<-Z];simp[go_sem]);have O:=U Xr;have E:=U K;have XC:=U Ws;have C:Bw wr f:=ac (U V9) A;have B:Bw a f:=ac (U Wa) C;have Wm:Bw w f:=ac (U VY) B;have XW:=(U VY).size;have X1:=ae (U Xc) Wm;have P:Ky (λ_=>False) a f:=Ky.ab B;have W0:Ky (λ_=>False) wr f:=Ky.ab C;have p:=U Xs;(have WL:V0 V (T++([]:List (List aH)).map (ig L)) f:=by simpa using p.stb.keep (U Wy) P λ_ _ c=>c);obtain⟨v,M⟩:∃v:Nat->Prop,v=λb=>a.heap.size<=b/\b<f.heap.size:=⟨_,rfl⟩;(have WN:Wo w a.heap.size i e.heap.size (a.heap.size+1) wr.heap.size (.func c o s) L v [] f:=by refine⟨ae (U F) C,?_,?_,λq g D=>?_,⟨_,(U W9).aa A,by simp;exact U J⟩,?_,by omega,?_⟩;(.rw[<-U J];exact ae (U I) C);(.rw[<-U J];exact WD);(·(have XF:q<d:=by rw[U J];exact(bD D).1);obtain⟨Yl,V5,V6,XR⟩:=(U Wx).o;obtain⟨W2,XS,XT⟩:=XR q g (by rw[U Wb];exact XF) D;refine⟨W2,ae (by rw[World.ownsRow.cellAt V6 q (by omega)];exact XS) C,?_⟩;refine(XT.mono (Q:=λb=>v b/\b≠wr.heap.size) λb p1 p2=>?_).ky W0 λ_ _=>id;rw[M];have:=C.size;exact⟨⟨by omega,by omega⟩,by omega⟩);(.rw[M];exact⟨⟨by omega,by omega⟩,⟨by omega,by omega⟩,⟨by omega,by omega⟩,⟨by omega,by omega⟩,λ_=>⟨by omega,by omega⟩⟩);.intro b c;rw[M] at c;exact⟨by omega,c.2⟩);(have WJ:∀b,V b->¬v b:=λb V5 V6=>by have:=(p.stb.foot (U Wy) b V5).2;rw[M] at V6;omega);(have WO:Tk w r j (.func (.func 131) #[] #[.pointer (some ⟨i,0,none⟩),.pointer (some ⟨e.heap.size,0,none⟩),.pointer (some ⟨a.heap.size,0,none⟩)]) (i6 V0 (Wo w a.heap.size i e.heap.size (a.heap.size+1) wr.heap.size (.func c o s) L) T (λr=>r.map (ig L))):=by refine⟨⟨_,_,_,rfl⟩,λG Yo Wc Xx Xy V7 q Wl WX XJ XB XG XA=>⟨131,_,by simpa using fm CV #[] #[.pointer (some ⟨i,0,none⟩),.pointer (some ⟨e.heap.size,0,none⟩),.pointer (some ⟨a.heap.size,0,none⟩)] (.slice Xx V7.length Xy),?_⟩,kh p.stb xk _ _⟩;refine qF (wd:=j) p (by rw[<-U J];omega) XN T q Wl ?_ XJ ?_ XB XG XA;(.exact List.IsPrefix.trans (List.prefix_append_right_inj _ |>.2 (WX.map _)) (U Xm));.exact U Xo V7 (WX.subset (by simp)));have Xf:=H (U Xb r _ _ _ [] f WO ⟨V,v,WL,WN,WJ,λb=>Iff.rfl⟩ Wm (List.prefix_refl _) XP);have Xk:Hid (∀Wf Wq,gm (i6 V0 (Wo w a.heap.size i e.heap.size (a.heap.size+1) wr.heap.size (.func c o s) L) T (λr=>r.map (ig L))) (λb=>V b∨v b) ([]++r) f Wf Wq->gm V0 V (T++r.map (ig L)) a Wf Wq):=λWf Wq h=>qk (φ:=λr=>r.map (ig L)) (P.mono λ_ c=>c.elim) (λb c=>by rcases c with c|c;(.exact .inl c);.rw[M] at c;exact .inr c.1) h;rw[Z];clear WO WL WN WD Z WJ M P W0 l O XL E XC A C B Wm XW p;go_wp2_with (go_at_call 40;refine(U Xf).mono ?_;rintro X5 Yn WF;have W4:=H WF;obtain⟨rfl,_⟩:=WF);go_end0;exact U Xk _ _ (U W4)
structure Gn(w0:World)(b4 mb:Nat)(O:Nat->Prop)(ys:List (List aH))(W:World):Prop where
 c4:W.cell? ⟨b4,0,none⟩=some (.map (some mb))
 m:k8 cJ W mb ys.length (dd ys)
 o:O b4/\O mb
 ne:b4≠mb
 lim:∀k,O k->w0.heap.size<=k/\k<W.heap.size
theorem yV:qA w (Gn w n m):=
 ⟨λ{e i g f j} h a b=>⟨a.cell h.c4 (b _ h.o.1),h.m.ky a (b _ h.o.2),h.o,h.ne,λc d=>⟨(h.lim c d).1,cN (h.lim c d).2 a.size⟩⟩,λ{e g f} h=>h.lim⟩
theorem CR:cr 140:=λargs a=>by kernel_rfl
theorem CQ:cr 141:=λargs a=>by kernel_rfl
theorem v8(M:n<=64)(N:r.length<=2147483648)(q:Gn w m k P r W)(g:dH n x)(t:bX W a x):Calls prog 140 #[.slice a x.length j,.pointer (some ⟨m,0,none⟩)] W (gm (Gn w m k) P (r++[x]) W):=by
 have B:=H (fR (c:=j) (by rw[g.len];omega) g.val (t.aa (VT _ W).drew));have L:=gt r (bF x);have o:cJ.ok (bF x):=fM (by rw[g.len];omega) g.val;have K:=q.c4;have A:Hid (∀c,Bw W c->∃f,(Instr.lookup 50 (.map (some k)) (.string (bF x)) false).run prog c=.ok (.int .i64 (dd r (bF x))) c/\(Instr.mapUpdate 50 (.map (some k)) (.string (bF x)) (.int .i64 (dd r (bF x)+1))).run prog c=.ok () f/\c.cell? ⟨m,0,none⟩=some (.map (some k))/\gm (Gn w m k) P (r++[x]) W (.returned (.tuple #[])) f):=λc i=>by have y:Ky (λ_=>False) W c:=Ky.ab i;have b:=yV.keep q y λ_ _ d=>d;obtain⟨f,G,v,E⟩:=b.m.put underlying50 (by omega) o (c:=dd r (bF x)+1) ⟨by omega,by omega⟩;rw[iV] at v;have F:=b.m.look underlying50 o;(have p:Ky (λe=>e=k) c f:=Ky.ao E λe l=>by injection l with l;exact l.symm);exact⟨f,F,G,b.c4,rfl,P,⟨p.cell b.c4 b.ne,by rw[bG];exact v,b.o,b.ne,λe d=>⟨(b.lim e d).1,cN (b.lim e d).2 p.size⟩⟩,Nw.refl _ _,(y.mono λ_ d=>d.elim).trans (p.mono λe d=>d ▸ b.o.2) (Nw.refl _ _)⟩
 generalize bF x=I at *;generalize dd r I=s at *;have D:Hid (IntKind.i64.wrap (s+1)=s+1):=hH _ (by omega);clear q g t o;go_enter func140,ntmps140;go_upto_region 0 with fail
 go_region_with (first
  | (go_at_call 31;refine(U B).mono ?_;rintro _ J ⟨rfl,i⟩;have u:=ac ((VT _ W).drew) i;obtain⟨f,O,p1,Q,z⟩:=U A J u;have C:=H z;rw[<-U D] at p1;clear i z u))
 all_goals go_wp2;go_end0;exact U C
def VH(b c:List (List aH))(a:ByteArray):Int:=max (dd b a-dd c a) 0
theorem wv(a:List (List aH)):VH a []=dd a:=by funext b;unfold VH;rw[iA];have:=gt a b;simp;omega
theorem oQ(c:List (List aH))(b:List aH)(a:ByteArray):dd (c++[b]) a=if a=bF b then dd c a+1 else dd c a:=by
 rw[<-iV];by_cases d:a=bF b;.subst d;simp
 .simp[d]
theorem tG(h:0<VH r A (bF x)):(λa=>if a=bF x then VH r A (bF x)-1 else VH r A a)=VH r (A++[x]):=by
 funext a;unfold VH at *;rw[oQ];by_cases b:a=bF x;.subst b;rw[ba rfl,ba rfl];omega
 .rw[VU b,VU b]
theorem tF(h:¬0<VH r A (bF x)):VH r A=VH r (A++[x]):=by
 funext b;unfold VH at *;rw[oQ];by_cases a:b=bF x;.subst a;rw[ba rfl];omega
 .rw[VU a]
theorem oN(b c:List (List aH))(a:List aH):dP b (c++[a])=if b.count a<=c.count a then dP b c++[a] else dP b c:=by unfold dP;rw[hd];by_cases h:b.count a<=c.count a<;>simp[h]
structure Lf(w0:World)(gn:List (List aH))(b3 b4 mb:Nat)(f:Value)(wd:Nat)(O:Nat->Prop)(ys:List (List aH))(W:World):Prop where
 c3:W.cell? ⟨b3,0,none⟩=some f
 c4:W.cell? ⟨b4,0,none⟩=some (.map (some mb))
 m:∃n,n<=gn.length+ys.length/\k8 cJ W mb n (VH gn ys)
 ok:∀r∈ys,dH wd r
 o:O b3/\O b4/\O mb
 ne:b3≠mb/\b4≠mb
 lim:∀k,O k->w0.heap.size<=k/\k<W.heap.size
theorem pO:qA w (Lf w r n m k v j):=
 ⟨λ{e p o f q} h a b=>⟨a.cell h.c3 (b _ h.o.1),a.cell h.c4 (b _ h.o.2.1),by obtain⟨l,g,i⟩:=h.m;exact⟨l,g,i.ky a (b _ h.o.2.2)⟩,h.ok,h.o,h.ne,λc d=>⟨(h.lim c d).1,cN (h.lim c d).2 a.size⟩⟩,λ{e o f} h=>h.lim⟩
theorem uw(h:∀x∈r,dH n x)(c:dH n x):∀b∈r++[x],dH n b:=λb d=>by
 rcases cM d with a|a
 .exact h b a
 .simp at a;subst a;exact c
theorem v7{q:(Nat->Prop)->List (List aH)->World->Prop}(y:Tk w r n v q)(WM:n<=64)(u:List (List aH)){G:Nat->Prop}(WN:B.length<=2147483648)(WL:A.length<=2147483648)(WA:∀p∈A,dH n p) (Wu:i6 q (Lf w A m k j v n) u (dP A) G B W) (Wa:Bw w W) (VX:(u++dP A (B++[x])) <+: r) (f:dH n x) (VY:bX W a x) (Wg:∀E V4,a=some ⟨E,V4,none⟩->x≠[]->¬G E) (Wt:sE a):Calls prog 141 #[.slice a x.length i,.pointer (some ⟨k,0,none⟩),.pointer (some ⟨m,0,none⟩)] W (gm (i6 q (Lf w A m k j v n) u (dP A)) G (B++[x]) W):=by
 obtain⟨C,Ws,V3,p,M,I⟩:=Wu;obtain⟨b,N,Q,rfl⟩:=y.fn;have V7:=H (fR (c:=i) (by rw[f.len];omega) f.val VY);have Wx:=jZ (λV5 V1=>(p.ok V5 V1).val) f.val;have Ww:=jZ (λV5 V1=>(WA V5 V1).val) f.val;have VZ:cJ.ok (bF x):=fM (by rw[f.len];omega) f.val;have WK:0<=VH A B (bF x)/\VH A B (bF x)<=2147483648:=by have V8:=gt A (bF x);have V9:=gt B (bF x);unfold VH;omega
 have Wf:∀c,C c->¬c=j:=λc WE S=>M c WE (S ▸ p.o.2.2);have V6:Hid (∀g,Bw W g->(Instr.lookup 50 (.map (some j)) (.string (bF x)) false).run prog g=.ok (.int .i64 (VH A B (bF x))) g/\g.cell? ⟨k,0,none⟩=some (.map (some j))/\g.cell? ⟨m,0,none⟩=some (.func b N Q)/\(0<VH A B (bF x)->∃t,(Instr.mapUpdate 50 (.map (some j)) (.string (bF x)) (.int .i64 (VH A B (bF x)-1))).run prog g=.ok () t/\gm (i6 q (Lf w A m k j (.func b N Q) n) u (dP A)) G (B++[x]) W (.returned (.tuple #[])) t)):=λg l=>by have Wj:Ky (λ_=>False) W g:=Ky.ab l;have e:=pO.keep p Wj λ_ _ b=>b;obtain⟨z,WB,J⟩:=e.m;refine⟨J.look underlying50 VZ,e.c4,e.c3,λWh=>?_⟩;obtain⟨t,WC,We,Wz⟩:=J.put underlying50 (by omega) VZ (c:=VH A B (bF x)-1) ⟨by omega,by omega⟩;rw[tG Wh] at We;(have R:Ky (λc=>c=j) g t:=Ky.ao Wz λc Z=>by injection Z with Z;exact Z.symm);have Wk:Ky (λc=>c=j) W t:=(Wj.mono λ_ b=>b.elim).trans R (Nw.refl _ _);refine⟨t,WC,rfl,G,⟨C,Ws,?_,⟨R.cell e.c3 e.ne.1,R.cell e.c4 e.ne.2,⟨z+1,by simp;omega,We⟩,uw e.ok f,e.o,e.ne,λc b=>⟨(e.lim c b).1,cN (e.lim c b).2 R.size⟩⟩,M,I⟩,Nw.refl _ _,Wk.mono λc b=>(I c).2 (.inr (b ▸ p.o.2.2))⟩;rw[oN,VU (by unfold VH at Wh;omega)];exact y.stb.keep V3 Wk Wf
 have X:Hid (∀d,Bw W d->¬0<VH A B (bF x)->∃z args,xf (.func b N Q) (.slice a x.length i) z args/\Calls prog z args d (gm q C (u++dP A (B++[x])) d)):=λd o V2=>by have P:Ky (λ_=>False) W d:=Ky.ab o;(have Wv:A.count x<=B.count x:=by unfold VH at V2;omega);rw[oN,ba Wv] at VX ⊢;have:=y.call C _ d a i x (y.stb.keep V3 P λ_ _ b=>b) (ac Wa o) (by simpa [cI] using VX) f (VY.aa o) (λE V4 V8 V9 O=>Wg E V4 V8 V9 ((I E).2 (.inl O))) Wt;simpa [cI] using this
 have V:Hid (∀d F D,Bw W d->¬0<VH A B (bF x)->gm q C (u++dP A (B++[x])) d F D->gm (i6 q (Lf w A m k j (.func b N Q) n) u (dP A)) G (B++[x]) W F D):=λd F D o V2 h=>by have P:Ky (λ_=>False) W d:=Ky.ab o;have s:=pO.keep p P λ_ _ b=>b;obtain⟨z,WB,J⟩:=s.m;rw[tF V2] at J;exact ht (P.mono λ_ b=>b.elim) (Nw.refl _ _) (Vh y.stb pO ⟨s.c3,s.c4,⟨z,by simp;omega,J⟩,uw s.ok f,s.o,s.ne,s.lim⟩ M (λc b=>(I c).2 b) h)
 generalize bF x=WD at *;generalize VH A B WD=Y at *;clear p V3 M I y VX f VY Wg Wa Wx Ww VZ Wf;by_cases VW:0<Y
 .have WH:Hid (IntKind.i64.wrap (Y-1)=Y-1):=hH _ (by omega);go_enter func141,ntmps141
  go_wp2_with (first
   | (go_at_call 31;refine(U V7).mono ?_;rintro _ T ⟨rfl,l⟩;obtain⟨K,WF,WG,O⟩:=U V6 T l;obtain⟨t,p1,S⟩:=O VW;have L:=H K;have Wp:=H p1;have Wq:=H S;clear l K p1 S O)
   | (at_lookup;refine b9 rfl (.tmp 7) (.tmp 8) 50 rfl _ _ rfl rfl (U L) ?_)
   | (at_lookup;refine b9 rfl (.tmp 11) (.tmp 12) 50 rfl _ _ rfl rfl (U L) ?_)
   | (at_mapUpdate;refine cW rfl (.tmp 11) (.tmp 12) (.tmp 14) 50 rfl _ _ _ rfl rfl rfl (U Wp) ?_))
  go_end0;exact U Wq
 .replace X:=H (λd o=>U X d o VW);replace V:=H (λd F D o=>U V d F D o VW);go_enter func141,ntmps141
  go_wp2_with (first
   | (go_at_call 31;refine(U V7).mono ?_;rintro _ T ⟨rfl,l⟩;obtain⟨K,WF,WG,_⟩:=U V6 T l;have L:=H K;have Wl:=H l;obtain⟨WO,WI,Wc,Wb⟩:=U X T l;have Wn:=H Wc;have Wm:=H Wb;clear l K Wc Wb)
   | (at_lookup;refine b9 rfl (.tmp 7) (.tmp 8) 50 rfl _ _ rfl rfl (U L) ?_)
   | (refine cX rfl (.tmp 15) (.tmp 16) _ rfl _ _ (by rfl) (by rfl) (U Wn) (U Wm) ?_;rintro WJ WP Wi;have Wr:=H Wi;obtain⟨Wd,_⟩:=Wi;refine⟨_,Wd,?_⟩;clear Wd))
  go_end0;have V0:=U Wr;have Wy:=V0.1;rw[Wy] at V0;exact U V _ _ _ (U Wl) V0
theorem qd{x:Nv}(Wq:ge w n m x)(WQ:x.na=some ⟨k,0,none⟩)(W3:1<x.nl)(Wp:j<=64)(Wa:cU 40 w k 0 j r)(Wb:cU 40 w k 16 j A)(WR:r.length<=2147483648)(Wi:A.length<=2147483648)(Wj:∀WT∈A,dH j WT):cU 77 w n m j (dP A r):=by
 intro WV WZ G q F b e Wd V8 Wf W2;obtain⟨a,g,l,rfl⟩:=e.fn;have V9:=am (VT _ b) (.cells #[.func a g l] 117);have D:(b.alloc (.cells #[.func a g l] 117)).heap.size=b.heap.size+1:=by simp
 have V3:(b.alloc (.cells #[.func a g l] 117)).cell? ⟨b.heap.size,0,none⟩=some (.func a g l):=by simp[go_sem]
 have P:=Wq.a;rw[WQ] at P;have W0:(0:Int)<(x.nl:Int):=by omega
 have W1:(1:Int)<(x.nl:Int):=by omega
 have WP:=@run_makeMap prog;have VZ:=H V3;have V1:=H D;have VX:=H V9;have VY:=H P;have WK:=H e;have M:=H Wd;have Wy:=H Wa;have Wz:=H Wb;have VW:=H V8;have WG:=H Wf;have WE:=H Wj;clear P V3 D V9 e Wd Wa Wb Wq V8 Wf Wj;go_enter func77,ntmps77;go_upto_region 2 with fail;obtain⟨o,Wn⟩:=bn (b.alloc (.cells #[.func a g l] 117));rw[<-Wn] at VZ V1 VX ⊢;obtain⟨d,E⟩:=bj ((o.alloc (.map #[] 0)).alloc (.cells #[.map (some (b.heap.size+1))] 50));have D:=U V1;have Wh:=am (VT _ o) (.map #[] 0);have Wm:(o.alloc (.map #[] 0)).heap.size=b.heap.size+2:=by simp;omega
 have T:Below (o.alloc (.map #[] 0)).heap.size (o.alloc (.map #[] 0)) d:=by rw[<-E];exact am VS _
 have K:d.heap.size=b.heap.size+3:=by rw[<-E];simp;omega
 have V4:d.cell? ⟨b.heap.size+2,0,none⟩=some (.map (some (b.heap.size+1))):=by rw[<-E,<-Wm];simp[go_sem]
 have Wk:k8 cJ d (b.heap.size+1) 0 (dd []):=by rw[iA,<-D];exact(k8.made cJ o).aa T
 have S:Bw o d:=ac Wh T;have V:Bw b d:=ac (U VX) S;have i:Bw w d:=ac (U VW) V;have Wu:=(U VW).size;have WN:=ae (U VY) i;have Ws:Ky (λ_=>False) b d:=Ky.ab V;have v:=ae (U VZ) S;have z:Gn w (b.heap.size+2) (b.heap.size+1) (λc=>c=b.heap.size+1∨c=b.heap.size+2) [] d:= ⟨V4,Wk,⟨.inr rfl,.inl rfl⟩,by omega,λc a=>by rcases a with a|a<;>omega⟩;have B:Tk w A j (.func (.func 140) #[] #[.pointer (some ⟨b.heap.size+2,0,none⟩)]) (Gn w (b.heap.size+2) (b.heap.size+1)):=by refine⟨⟨_,_,_,rfl⟩,λWv WU WM N O L W Wg J C R Wl V7=>⟨140,_,by simpa using fm CR #[] #[.pointer (some ⟨b.heap.size+2,0,none⟩)] (.slice N L.length O),?_⟩,yV⟩;exact v8 Wp (by have:=J.length_le;simp at this;omega) W C R
 have WA:=H (U Wz A _ _ _ [] d B z i (List.prefix_refl _) Wi);have V0:=H Ws;have WC:=H v;have WJ:=H K;have Wx:=H i;have WL:=H Wu;rw[E];clear B z V4 E D K Wm Wh T Wk S V i Wu Wn WP Ws v;go_upto_region 3 with (go_at_call 40;refine(U WA).mono ?_;rintro WX p ⟨rfl,V2,f,Wt,Wr⟩;have WI:=H f;have WH:=H Wt;have WF:=H Wr;clear f Wt Wr);have f:=U WI;have K:=U WJ;have WS:=U WL;have e:=U WK;have I:∀c,V2 c->b.heap.size+1<=c/\c<p.heap.size:=λc a=>by have V5:=(f.lim c a).2;rcases U WH c a with a|a;(.rcases a with a|a<;>omega);.omega
 have t:Ky (λc=>b.heap.size+1<=c/\c<d.heap.size) d p:=(U WF).mono λc a=>by rcases a with a|a<;>omega
 have X:Ky q b p:=((U V0).mono λ_ a=>a.elim).trans t λc a=>.inr (by omega);have v:=t.cell (U WC) (by omega);have i:Bw w p:=(U Wx).trans (t.below (λc a=>by omega) (by omega));have WW:=ae (U VY) i;have We:G q (F++dP A []) p:=by have V5:=e.stb.keep (U M) (U V0) λ_ _ a=>a;(have WO:=e.stb.keep V5 t λc Y u=>by have:=(e.stb.foot (U M) c Y).2;omega);simpa [dP,kV] using WO
 obtain⟨s,y⟩:∃s:Nat->Prop,s=λc=>V2 c∨c=b.heap.size:=⟨_,rfl⟩;have z:Lf w A b.heap.size (b.heap.size+2) (b.heap.size+1) (.func a g l) j s [] p:=by refine⟨v,f.c4,⟨A.length,by simp,?_⟩,λL C=>by simp at C,by rw[y];exact⟨.inr rfl,.inl f.o.1,.inl f.o.2⟩,by omega,λc a=>?_⟩;(.rw[wv];simpa using f.m);.rw[y] at a;have:=X.size;rcases a with a|a;(.have:=I c a;omega);.have:=t.size;omega
 have Wc:∀c,q c->¬s c:=λc Y u=>by have:=(e.stb.foot (U M) c Y).2;rw[y] at u;rcases u with u|u;(.have:=I c u;omega);.omega
 have B:Tk w r j (.func (.func 141) #[] #[.pointer (some ⟨b.heap.size+2,0,none⟩),.pointer (some ⟨b.heap.size,0,none⟩)]) (i6 G (Lf w A b.heap.size (b.heap.size+2) (b.heap.size+1) (.func a g l) j) F (dP A)):=by refine⟨⟨_,_,_,rfl⟩,λWv WU WM N O L W Wg J C R Wl V7=>⟨141,_,by simpa using fm CQ #[] #[.pointer (some ⟨b.heap.size+2,0,none⟩),.pointer (some ⟨b.heap.size,0,none⟩)] (.slice N L.length O),?_⟩,kh e.stb pO _ _⟩;refine v7 e Wp F ?_ Wi (U WE) W Wg ?_ C R Wl V7;(.have:=J.length_le;simp at this;omega);.exact List.IsPrefix.trans (List.prefix_append_right_inj _ |>.2 (rA J)) (U WG)
 have WB:=H (U Wy r _ _ _ [] p B ⟨q,s,We,z,Wc,λc=>Iff.rfl⟩ i (List.prefix_refl _) WR);have WD:Hid (∀Q Z,gm (i6 G (Lf w A b.heap.size (b.heap.size+2) (b.heap.size+1) (.func a g l) j) F (dP A)) (λc=>q c∨s c) ([]++r) p Q Z->gm G q (F++dP A r) b Q Z):=λQ Z h=>qk X (λc a=>by rcases a with a|a;(.exact .inl a);.rw[y] at a;rcases a with a|a;(.have:=I c a;exact .inr (by omega));.exact .inr (by omega)) h;clear B We z Wc y K i WS e f I t X v WN;go_wp2_with (go_at_call 40;refine(U WB).mono ?_;rintro WY W4 V6;have Ww:=H V6;obtain⟨rfl,_⟩:=V6);go_end0;exact U WD _ _ (U Ww)
end Go.Proofs.YtklgoolblpmmlaaGreat
