import Derived.Test.YtklgoolblpmmlaaGreatBgO
import Derived.Test.YtklgoolblpmmlaaGreatShB
import Derived.Laws.Bits64b
set_option linter.all false
set_option maxHeartbeats 4000000
set_option maxRecDepth 100000
namespace Go.Proofs.YtklgoolblpmmlaaGreat
open Go.RowKit Go.Sort Go.Lib Go.Shelf Go.Proofs.Tryz
def Au(a:Int):Int:=if a<0 then 18446744073709551615 else 0
theorem db(a:Int)(b:World):Calls prog 254 #[.int .i64 a] b λc d=>c=.returned (aH.num a).v/\Up b d:=by unfold aH.v aH.num;go_enter func254,ntmps254;go_wp2;exact bs (v:=.agg #[.int .i64 1,.int .i64 a,.string ⟨#[]⟩]) (by simp[results,results254,go_sem]) rfl ⟨rfl,(Up.refl _).alloc _⟩
theorem jh(a:Int)(e:bY a)(d:World):Calls prog 259 #[.int .i64 a] d λb f=>b=.returned (.int .u64 (Au a))/\f=d:=by
 unfold bY at e;by_cases h:a<0;.have c:Au a=18446744073709551615:=ba h;rw[c];go_enter func259,ntmps259;go_wp2;go_ret;(have b:a / 9223372036854775808=-1:=by omega);exact⟨by show Ending.returned (.int .u64 (IntKind.u64.wrap (a / 9223372036854775808)))=_;rw[b];rfl,rfl⟩
 .have c:Au a=0:=VU h;rw[c];go_enter func259,ntmps259;go_wp2;go_ret;(have b:a / 9223372036854775808=0:=by omega);exact⟨by show Ending.returned (.int .u64 (a / 9223372036854775808))=_;rw[b],rfl⟩
def u64(a:Int):Nat:=(a % 18446744073709551616).toNat
theorem kw(a:Int):u64 a<18446744073709551616:=by unfold u64;omega
theorem jD(a:Int):IntKind.u64.wrap a=(u64 a:Int):=by unfold u64;rw[Int.toNat_of_nonneg (by omega)];rfl
theorem UO(c:Int)(a:Nat)(b:a<18446744073709551616):bits BinOp.and IntKind.u64 (Au c) (a:Int)=if c<0 then (a:Int) else 0:=by
 unfold Au;split;.have h:=bits_and_u64_nat 18446744073709551615 a (by decide) b;(have d:18446744073709551615 &&& a=a:=by rw[Nat.and_comm,show (18446744073709551615:Nat)=2 ^ 64-1 by decide,Nat.and_two_pow_sub_one_eq_mod,Nat.mod_eq_of_lt b]);rw[d] at h;exact h
 .have h:=bits_and_u64_nat 0 a (by decide) b;rw[Nat.zero_and] at h;exact h
theorem xw(a:Int)(h:bY a):(u64 a:Int)=if a<0 then a+18446744073709551616 else a:=by unfold u64 bY at *;split<;>omega
def ir(a b:Int):Nat:=((a*b) % 340282366920938463463374607431768211456).toNat
theorem sZ(a b:Int)(j:bY a)(l:bY b):IntKind.u64.wrap (IntKind.u64.wrap ((u64 a:Int)*(u64 b:Int) / 18446744073709551616-bits BinOp.and IntKind.u64 (Au a) (u64 b:Int))-bits BinOp.and IntKind.u64 (Au b) (u64 a:Int))=((ir a b / 18446744073709551616:Nat):Int)/\(u64 a:Int)*(u64 b:Int) % 18446744073709551616=((ir a b % 18446744073709551616:Nat):Int):=by
 rw[UO a _ (kw b),UO b _ (kw a),jD,jD];have m:=xw a j;have n:=xw b l;have s:=kw a;have t:=kw b;obtain⟨c,f⟩:∃c:Int,c=(u64 a:Int)*(u64 b:Int):=⟨_,rfl⟩;have k:a*b=c-(if a<0 then (u64 b:Int) else 0)*18446744073709551616-(if b<0 then (u64 a:Int) else 0)*18446744073709551616+(if a<0/\b<0 then 340282366920938463463374607431768211456 else 0):=by(have d:a=(u64 a:Int)-(if a<0 then 18446744073709551616 else 0):=by split at m<;>simp[*]<;>omega);(have e:b=(u64 b:Int)-(if b<0 then 18446744073709551616 else 0):=by split at n<;>simp[*]<;>omega);rw[f];generalize (u64 a:Int)=o at *;generalize (u64 b:Int)=p at *;by_cases g:a<0<;>by_cases i:b<0<;>simp only[g,i,if_true,if_false,and_self,and_true,and_false,true_and,false_and] at d e ⊢<;>rw[d,e]<;>simp only[Int.sub_mul,Int.mul_sub]<;>omega
 unfold ir;rw[k,<-f];unfold u64;generalize (if a<0 then ((b % 18446744073709551616).toNat:Int) else 0)=q;generalize (if b<0 then ((a % 18446744073709551616).toNat:Int) else 0)=r;split<;>constructor<;>omega
theorem rg(a b:Int)(f:bY a)(g:bY b)(c:World):Calls prog 257 #[.int .i64 a,.int .i64 b] c λd m=>d=.returned (.tuple #[.int .u64 ((ir a b / 18446744073709551616:Nat):Int),.int .u64 ((ir a b % 18446744073709551616:Nat):Int)])/\m=c:=by
 have e:=H (Any.bits_Mul64 Tryz.mulR (u64 a) (u64 b) (kw a) (kw b) c);change Hid (Calls prog 260 _ _ _) at e;have k:=H (jh a f c);have l:=H (jh b g c);have n:=jD a;have o:=jD b;go_enter func257,ntmps257
 go_wp2_with (first
  | (go_at_call 260;refine(U e).mono ?_;rintro d j ⟨rfl,rfl⟩)
  | (go_at_call_of 259 (Value.int IntKind.i64 a);refine(U k).mono ?_;rintro d j ⟨rfl,rfl⟩)
  | (go_at_call_of 259 (Value.int IntKind.i64 b);refine(U l).mono ?_;rintro d j ⟨rfl,rfl⟩))
 have i:=sZ a b f g;refine bs (v:=.tuple #[_,_]) (by simp[results,results257,go_sem];exact⟨rfl,rfl⟩) rfl ⟨?_,rfl⟩;rw[<-i.1,<-i.2]
theorem n4(x:Int):bY (IntKind.i64.wrap x):=by rw[IntKind.wrap_i64];unfold bY;omega
variable{W X w:World}{i j k l m n:Nat}{I J:Int}
theorem Up.set(h:Up w W)(a:w.heap.size<=n)(b:Nat)(c:Value):Up w (W.setCell ⟨n,b,none⟩ c):=⟨h.1.setCell a _,by rw[World.drawn_setCell];exact h.2⟩
structure e7(w:World)(b o:Nat)(S:Nat)(c:Int):Prop where
 h:w.cell? ⟨b,o,none⟩=some (.int .u64 ((S / 18446744073709551616:Nat):Int))
 l:w.cell? ⟨b,o+1,none⟩=some (.int .u64 ((S % 18446744073709551616:Nat):Int))
 c:w.cell? ⟨b,o+2,none⟩=some (.int .i64 c)
 f0:w.frozen? ⟨b,o,none⟩=false
 f1:w.frozen? ⟨b,o+1,none⟩=false
 f2:w.frozen? ⟨b,o+2,none⟩=false
theorem e7.aa(a:e7 w n m k I)(h:Bw w W):e7 W n m k I:=
 ⟨ae a.h h,ae a.l h,ae a.c h,by rw[(cO h).2 n m (ck _ _ a.h)];exact a.f0,by rw[(cO h).2 n _ (ck _ _ a.h)];exact a.f1,by rw[(cO h).2 n _ (ck _ _ a.h)];exact a.f2⟩
theorem e7.ky{F:Nat->Prop}(a:e7 w n m k I)(h:Ky F w W)(b:¬F n):e7 W n m k I:=
 ⟨h.cell a.h b,h.cell a.l b,h.cell a.c b,by rw[h.frozen (ck _ _ a.h) b];exact a.f0,by rw[h.frozen (ck _ _ a.h) b];exact a.f1,by rw[h.frozen (ck _ _ a.h) b];exact a.f2⟩
def Vl(a:Nat)(b:aH)(c:Int):Nat:=if b.k=0 then a else (a+ir b.n c) % 340282366920938463463374607431768211456
def hO(a:Int)(c:aH)(b:Int):Int:=if c.k=0 then a else a+b
theorem ph(x b a:Nat)(d:a<=1)(c:World):(callFunc 258 #[.int .u64 x,.int .u64 b,.int .u64 a]).run prog c=.ok (.value (.tuple #[.int .u64 (((x+b+a) % 18446744073709551616:Nat):Int),.int .u64 (((x+b+a) / 18446744073709551616:Nat):Int)])) c:=Any7.bits_Add64 Tryz.addR x b a d c
theorem xF(a:e7 w n m k I)(e:i=j / 18446744073709551616)(f:l=j % 18446744073709551616):e7 (((w.setCell ⟨n,m+1,none⟩ (.int .u64 (l:Int))).setCell ⟨n,m,none⟩ (.int .u64 (i:Int))).setCell ⟨n,m+2,none⟩ (.int .i64 J)) n m j J:=by
 have b:(⟨n,m,none⟩:Addr)≠⟨n,m+1,none⟩:=by simp
 have c:(⟨n,m,none⟩:Addr)≠⟨n,m+2,none⟩:=by simp
 have d:(⟨n,m+1,none⟩:Addr)≠⟨n,m+2,none⟩:=by simp
 subst e f;refine⟨?_,?_,?_,?_,?_,?_⟩;.rw[bo _ _ _ _ _ _ c];exact b5 ((bo _ _ _ _ _ _ b).trans a.h)
 .rw[bo _ _ _ _ _ _ d,bo _ _ _ _ _ _ b.symm];exact b5 a.l
 .exact b5 ((bo _ _ _ _ _ _ c.symm).trans ((bo _ _ _ _ _ _ d.symm).trans a.c))
 .rw[bN,bN,bN];exact a.f0
 .rw[bN,bN,bN];exact a.f1
 .rw[bN,bN,bN];exact a.f2
structure Kc(w w':World)(b lo hi:Nat):Prop where
 c:∀o,(o<lo∨hi<=o)->w'.cell? ⟨b,o,none⟩=w.cell? ⟨b,o,none⟩
 f:∀o,w'.frozen? ⟨b,o,none⟩=w.frozen? ⟨b,o,none⟩
 t:∀t,Tg t w b->Tg t w' b
theorem Tg.set(h:Tg n w m)(a f:Nat)(g:Value):Tg n (w.setCell ⟨a,f,none⟩ g) m:=by
 obtain⟨d,e,c⟩:=h;by_cases b:m=a;.subst b;exact⟨_,_,by simp[World.setCell,Array.getElem?_modify,c];exact⟨rfl,rfl⟩⟩
 .exact⟨d,e,(Below.heap_setCell _ _ _ _ b).trans c⟩
theorem Kc.below(h:Bw w W)(c:n<w.heap.size)(f d:Nat):Kc w W n f d:=
 ⟨λb _=>World.cell?_of_block (w:=w) (a:=⟨n,b,none⟩) (h.block n c),λb=>World.frozen?_of_block (w:=w) (a:=⟨n,b,none⟩) (h.block n c),λg e=>e.ky (Ky.ab (F:=λ_=>False) h) id⟩
theorem Kc.ky{F:Nat->Prop}(h:Ky F w W)(d:n<w.heap.size)(b:¬F n)(g e:Nat):Kc w W n g e:=
 ⟨λc _=>World.cell?_of_block (w:=w) (a:=⟨n,c,none⟩) (h.block n d b),λc=>World.frozen?_of_block (w:=w) (a:=⟨n,c,none⟩) (h.block n d b),λi f=>f.ky h b⟩
theorem Kc.trans(h:Kc w W n m k)(b:Kc W X n m k):Kc w X n m k:=⟨λa c=>(b.c a c).trans (h.c a c),λa=>(b.f a).trans (h.f a),λd e=>b.t d (h.t d e)⟩
theorem Kc.mono(h:Kc w W n m k)(b:j<=m)(c:k<=i):Kc w W n j i:=⟨λa d=>h.c a (by omega),h.f,h.t⟩
theorem Kc.set(c:World)(b a:Nat)(f:Value)(g:n<=a)(i:a<m):Kc c (c.setCell ⟨b,a,none⟩ f) b n m:=⟨λe j=>bo _ _ _ _ _ _ (by simp<;>omega),λe=>bN _ _ _ _,λk d=>d.set _ _ _⟩
theorem n8{t:Int}{v:aH}(V0:k<340282366920938463463374607431768211456)(T:bY (I+t))(Z:bY v.n)(Y:bY t)(q:e7 w n m k I):Calls prog 253 #[.pointer (some ⟨n,m,none⟩),v.v,.int .i64 t] w λz s=>z=.returned (.tuple #[])/\e7 s n m (Vl k v t) (hO I v t)/\Ky (λc=>c=n) w s/\Kc w s n m (m+3):=by
 have K:n<w.heap.size:=ck _ _ q.h;rw[v.open_];have i:=am (VT _ w) (.cells #[.int .i64 v.k,.int .i64 v.n,.string v.s] 43);have r:=q.aa i;have g:=H i;have y:=H r;have u:=H K;clear K;by_cases b:v.k=0;·(have X:(v.k == 0)=true:=by simpa using b);have e:Vl k v t=k:=ba b;have f:hO I v t=I:=ba b;rw[e,f];clear e f b q r i;go_enter func253,ntmps253;go_wp2;exact bs (v:=.tuple #[]) (by simp[results,results253,go_sem]) rfl ⟨rfl,U y,Ky.ab (U g),Kc.below (U g) (U u) _ _⟩
 .have X:(v.k == 0)=false:=by simpa using b
  have e:Vl k v t=(k+ir v.n t) % 340282366920938463463374607431768211456:=VU b;have f:hO I v t=I+t:=VU b;rw[e,f];obtain⟨j,E⟩:=bn (k / 18446744073709551616);obtain⟨l,J⟩:=bn (k % 18446744073709551616);obtain⟨o,L⟩:=bn (ir v.n t / 18446744073709551616);obtain⟨p,M⟩:=bn (ir v.n t % 18446744073709551616);obtain⟨N,G⟩:=bn ((l+p) % 18446744073709551616);obtain⟨d,C⟩:=bn ((l+p) / 18446744073709551616);obtain⟨A,D⟩:=bn ((j+o+d) % 18446744073709551616);have W:d<=1:=by omega
  obtain⟨c3,B⟩:=bn ((j+o+d) / 18446744073709551616);have V1:∀a,(callFunc 258 #[.int .u64 (l:Int),.int .u64 (p:Int),.int .u64 0]).run prog a=.ok (.value (.tuple #[.int .u64 (N:Int),.int .u64 (d:Int)])) a:=λa=>by have:=ph l p 0 (by omega) a;rw[Nat.add_zero,<-G,<-C] at this;exact this
  have V2:∀a,(callFunc 258 #[.int .u64 (j:Int),.int .u64 (o:Int),.int .u64 (d:Int)]).run prog a=.ok (.value (.tuple #[.int .u64 (A:Int),.int .u64 (c3:Int)])) a:=λa=>by have:=ph j o d W a;rw[<-D,<-B] at this;exact this
  have x:=H (rg v.n t Z Y);simp only[<-L,<-M] at x;obtain⟨P,Q,VW,VX,VY,VZ⟩:=r;rw[<-E] at P;rw[<-J] at Q;have O:Hid (A=(k+ir v.n t) % 340282366920938463463374607431768211456 / 18446744073709551616/\N=(k+ir v.n t) % 340282366920938463463374607431768211456 % 18446744073709551616):=⟨by omega,by omega⟩;have V:IntKind.i64.wrap (I+t)=I+t:=hH _ (by unfold bY at T;omega);clear e f b q i E J L M G C D B;go_enter func253,ntmps253
  go_wp2_with (first
   | (go_at_call 257;refine(U x _).mono ?_;rintro z V3 ⟨rfl,rfl⟩))
  go_end0;obtain⟨R,S⟩:=U O;refine⟨rfl,?_,((Ky.ab (U g)).trans (cS (F:=λc=>c=n) _ _ _ _ rfl) (Nw.refl _ _)).trans ((cS (F:=λc=>c=n) _ _ _ _ rfl).trans (cS (F:=λc=>c=n) _ _ _ _ rfl) (Nw.refl _ _)) (Nw.refl _ _),(((Kc.below (U g) (U u) _ _).trans (Kc.set _ _ _ _ (by omega) (by omega))).trans (Kc.set _ _ _ _ (by omega) (by omega))).trans (Kc.set _ _ _ _ (by omega) (by omega))⟩;rw[V] at *;exact xF (U y) R S
theorem l6{t:Int}{v:aH}(c:k<340282366920938463463374607431768211456)(d:bY (I+t))(f:bY v.n)(e:bY t)(i:e7 w n m k I) :
  Calls prog 253 #[.pointer (some ⟨n,m,none⟩),v.v,.int .i64 t] w λb a=>b=.returned (.tuple #[])/\e7 a n m (Vl k v t) (hO I v t)/\Ky (λg=>g=n) w a:=
 (n8 c d f e i).mono λ_ _ h=>⟨h.1,h.2.1,h.2.2.1⟩
theorem gp(a:e7 w n m k I):Calls prog 255 #[.pointer (some ⟨n,m,none⟩)] w λb c=>b=.returned (.int .i64 I)/\c=w:=by have d:=a.c;clear a;go_enter func255,ntmps255;go_wp2;go_ret;exact⟨rfl,rfl⟩
def kx(a:Nat)(b:Int):aH:=if b=0∨((a / 18446744073709551616:Nat):Int)≠Au (IntKind.i64.wrap ((a % 18446744073709551616:Nat):Int)) then .null else .num (IntKind.i64.wrap ((a % 18446744073709551616:Nat):Int))
theorem VD(Q:e7 w n m k I):Calls prog 256 #[.pointer (some ⟨n,m,none⟩)] w λL j=>L=.returned (kx k I).v/\Up w j:=by
 obtain⟨e,g⟩:=bj (w.alloc (.cells #[.int .i64 0,.int .i64 0,.string ⟨#[]⟩] 43));have O:Bw w e:=by rw[<-g];exact am (VT _ w) _
 have P:Up w e:=by rw[<-g];exact(Up.refl _).alloc _
 obtain⟨J,K,T,_,_,_⟩:=Q.aa O;have x:e.cell? ⟨w.heap.size,0,none⟩=some (.int .i64 0):=by rw[<-g];simp[go_sem]
 have Z:e.cell? ⟨w.heap.size,1,none⟩=some (.int .i64 0):=by rw[<-g];simp[go_sem]
 have VW:e.cell? ⟨w.heap.size,2,none⟩=some (.string ⟨#[]⟩):=by rw[<-g];simp[go_sem]
 have VX:e.frozen? ⟨w.heap.size,0,none⟩=false:=by rw[<-g];simp[go_sem]
 have VY:e.frozen? ⟨w.heap.size,1,none⟩=false:=by rw[<-g];simp[go_sem]
 have VZ:e.frozen? ⟨w.heap.size,2,none⟩=false:=by rw[<-g];simp[go_sem]
 obtain⟨i,C⟩:=bn (k / 18446744073709551616);obtain⟨p,D⟩:=bn (k % 18446744073709551616);unfold kx;rw[<-C,<-D];rw[<-C] at J;rw[<-D] at K;obtain⟨l,N⟩:=bj (IntKind.i64.wrap (p:Int));have W:bY l:=by rw[<-N];exact n4 _
 rw[N];have z:=H (jh l W);obtain⟨y,M⟩:=bj (Au l);rw[M] at z ⊢;have R:=H (db l);have B:=H g;have A:=H P;have a:Hid (e.drew.cell? ⟨n,m,none⟩=some (.int .u64 (i:Int))/\e.drew.cell? ⟨n,m+1,none⟩=some (.int .u64 (p:Int))/\e.drew.cell? ⟨n,m+2,none⟩=some (.int .i64 I)):=⟨ae J VS.drew,ae K VS.drew,ae T VS.drew⟩;clear Q C D M g O P;by_cases o:I=0;·(have V:(I == 0)=true:=by simpa using o);rw[ba (.inl o)];unfold aH.v aH.null;clear o;go_enter func256,ntmps256;go_upto_region 1 with fail;rw[U B];refine bH (λf:World=>f.cell? ⟨n,m,none⟩=some (.int .u64 (i:Int))/\f.cell? ⟨n,m+1,none⟩=some (.int .u64 (p:Int))/\f.cell? ⟨n,m+2,none⟩=some (.int .i64 I)) 17 ?_;refine ap 0 (.pointer (some ⟨n,m,none⟩)) rfl (U a) ?_;refine ap 1 (.pointer (some ⟨n,m,none⟩)) rfl (U a) ?_;refine ap 2 (.pointer (some ⟨n,m+2,none⟩)) rfl (U a) ?_;(refine ap 3 (.int .i64 I) rfl (U a) ?_ λj d=>by obtain⟨s,t,u⟩:=d;go_simp);refine ap 4 (.bool true) rfl (U a) ?_;refine ap 5 (.bool true) rfl (U a) ?_;refine eh 6 rfl (by kernel_rfl) (U a) (by rfl) ?_;(try simp only[p1,p2,p3,p4,p5]);refine eh 7 rfl (by kernel_rfl) (U a) (by rfl) ?_;(try simp only[p1,p2,p3,p4,p5]);refine eh 8 rfl (by kernel_rfl) (U a) (by rfl) ?_;(try simp only[p1,p2,p3,p4,p5]);refine eh 9 rfl (by kernel_rfl) (U a) (by rfl) ?_;(try simp only[p1,p2,p3,p4,p5]);refine eh 10 rfl (by kernel_rfl) (U a) (by rfl) ?_;(try simp only[p1,p2,p3,p4,p5]);refine eh 11 rfl (by kernel_rfl) (U a) (by rfl) ?_;(try simp only[p1,p2,p3,p4,p5]);refine eh 12 rfl (by kernel_rfl) (U a) (by rfl) ?_;(try simp only[p1,p2,p3,p4,p5]);refine eh 13 rfl (by kernel_rfl) (U a) (by rfl) ?_;(try simp only[p1,p2,p3,p4,p5]);refine eh 14 rfl (by kernel_rfl) (U a) (by rfl) ?_;(try simp only[p1,p2,p3,p4,p5]);refine eh 15 rfl (by kernel_rfl) (U a) (by rfl) ?_;(try simp only[p1,p2,p3,p4,p5]);refine eh 16 rfl (by kernel_rfl) (U a) (by rfl) ?_;(try simp only[p1,p2,p3,p4,p5]);refine bh 17 rfl λc b=>?_;go_simp;refine bE b ?_;clear b c;refine cf ?_;go_wp2;refine bs (v:=.agg #[.int .i64 0,.int .i64 0,.string ⟨#[]⟩]) (by simp[results,results256,go_sem, *]) rfl ⟨rfl,?_⟩;exact(((U A).drew.set bi _ _).set bi _ _).set bi _ _
 ·(have V:(I == 0)=false:=by simpa using o);by_cases r:(i:Int)=y;(·(have X:((i:Int) != y)=false:=by simpa using r);rw[VU (λF=>F.elim o λF=>F r)];clear r o;go_enter func256,ntmps256;go_upto_region 1 with fail;rw[U B];refine bH (λf:World=>f.cell? ⟨n,m,none⟩=some (.int .u64 (i:Int))/\f.cell? ⟨n,m+1,none⟩=some (.int .u64 (p:Int))/\f.cell? ⟨n,m+2,none⟩=some (.int .i64 I)) 17 ?_;refine ap 0 (.pointer (some ⟨n,m,none⟩)) rfl (U a) ?_;refine ap 1 (.pointer (some ⟨n,m,none⟩)) rfl (U a) ?_;refine ap 2 (.pointer (some ⟨n,m+2,none⟩)) rfl (U a) ?_;(refine ap 3 (.int .i64 I) rfl (U a) ?_ λj d=>by obtain⟨s,t,u⟩:=d;go_simp);refine ap 4 (.bool false) rfl (U a) ?_;refine ap 5 (.bool false) rfl (U a) ?_;refine ap 6 (.pointer (some ⟨n,m,none⟩)) rfl (U a) ?_;refine ap 7 (.pointer (some ⟨n,m,none⟩)) rfl (U a) ?_;refine ap 8 (.pointer (some ⟨n,m,none⟩)) rfl (U a) ?_;(refine ap 9 (.int .u64 (i:Int)) rfl (U a) ?_ λj d=>by obtain⟨s,t,u⟩:=d;go_simp);refine ap 10 (.pointer (some ⟨n,m,none⟩)) rfl (U a) ?_;refine ap 11 (.pointer (some ⟨n,m,none⟩)) rfl (U a) ?_;refine ap 12 (.pointer (some ⟨n,m+1,none⟩)) rfl (U a) ?_;(refine ap 13 (.int .u64 (p:Int)) rfl (U a) ?_ λj d=>by obtain⟨s,t,u⟩:=d;go_simp);refine ap 14 (.int .i64 l) rfl (U a) ?_;refine bh 15 rfl λc b=>?_;go_simp;refine(U z _).mono ?_;rintro _ Y ⟨rfl,rfl⟩;go_simp;refine VP b (U a) ?_;clear b c;refine bh 16 rfl λc b=>?_;go_simp;refine VP b (U a) ?_;clear b c;refine bh 17 rfl λc b=>?_;go_simp;refine bE b ?_;clear b c;refine cf ?_;go_wp2_with (go_at_call 254;refine(U R _).mono ?_;rintro L G ⟨rfl,E⟩;rw[aH.open_];have q:=H (ac (VT _ e).drew E.1);have V3:=ae x (U q);have V4:=ae Z (U q);have V5:=ae VW (U q);have S:=H E;have V0:G.frozen? ⟨w.heap.size,0,none⟩=false:=(by rw[(cO (U q)).2 _ _ (ck _ _ x)];exact VX);have V1:G.frozen? ⟨w.heap.size,1,none⟩=false:=(by rw[(cO (U q)).2 _ _ (ck _ _ x)];exact VY);have V2:G.frozen? ⟨w.heap.size,2,none⟩=false:=(by rw[(cO (U q)).2 _ _ (ck _ _ x)];exact VZ);clear E);unfold aH.num;refine bs (v:=.agg #[.int .i64 1,.int .i64 l,.string ⟨#[]⟩]) (by simp[results,results256,go_sem, *]) rfl ⟨rfl,?_⟩;exact((((U A).drew.step (U S)).set bi _ _).set bi _ _).set bi _ _);·(have X:((i:Int) != y)=true:=by simpa using r);rw[ba (Or.inr r)];unfold aH.v aH.null;clear r o;go_enter func256,ntmps256;go_upto_region 1 with fail;rw[U B];refine bH (λf:World=>f.cell? ⟨n,m,none⟩=some (.int .u64 (i:Int))/\f.cell? ⟨n,m+1,none⟩=some (.int .u64 (p:Int))/\f.cell? ⟨n,m+2,none⟩=some (.int .i64 I)) 17 ?_;refine ap 0 (.pointer (some ⟨n,m,none⟩)) rfl (U a) ?_;refine ap 1 (.pointer (some ⟨n,m,none⟩)) rfl (U a) ?_;refine ap 2 (.pointer (some ⟨n,m+2,none⟩)) rfl (U a) ?_;(refine ap 3 (.int .i64 I) rfl (U a) ?_ λj d=>by obtain⟨s,t,u⟩:=d;go_simp);refine ap 4 (.bool false) rfl (U a) ?_;refine ap 5 (.bool false) rfl (U a) ?_;refine ap 6 (.pointer (some ⟨n,m,none⟩)) rfl (U a) ?_;refine ap 7 (.pointer (some ⟨n,m,none⟩)) rfl (U a) ?_;refine ap 8 (.pointer (some ⟨n,m,none⟩)) rfl (U a) ?_;(refine ap 9 (.int .u64 (i:Int)) rfl (U a) ?_ λj d=>by obtain⟨s,t,u⟩:=d;go_simp);refine ap 10 (.pointer (some ⟨n,m,none⟩)) rfl (U a) ?_;refine ap 11 (.pointer (some ⟨n,m,none⟩)) rfl (U a) ?_;refine ap 12 (.pointer (some ⟨n,m+1,none⟩)) rfl (U a) ?_;(refine ap 13 (.int .u64 (p:Int)) rfl (U a) ?_ λj d=>by obtain⟨s,t,u⟩:=d;go_simp);refine ap 14 (.int .i64 l) rfl (U a) ?_;refine bh 15 rfl λc b=>?_;go_simp;refine(U z _).mono ?_;rintro _ Y ⟨rfl,rfl⟩;go_simp;refine VP b (U a) ?_;clear b c;refine bh 16 rfl λc b=>?_;go_simp;refine VP b (U a) ?_;clear b c;refine bh 17 rfl λc b=>?_;go_simp;refine bE b ?_;clear b c;refine cf ?_;go_wp2;refine bs (v:=.agg #[.int .i64 0,.int .i64 0,.string ⟨#[]⟩]) (by simp[results,results256,go_sem, *]) rfl ⟨rfl,?_⟩;exact(((U A).drew.set bi _ _).set bi _ _).set bi _ _
end Go.Proofs.YtklgoolblpmmlaaGreat
