import Derived.Test.YtabmgpillccfaaaGreatDoorPlI
set_option linter.all false
set_option maxHeartbeats 4000000
set_option maxRecDepth 100000
namespace Go.Proofs.YtabmgpillccfaaaGreatDoor
open Go.RowKit Go.Sort Go.Proofs.Tryz
def bg(p:Pl):Bool:=
 if p.op == 1 then dT p.tab else if p.op == 2 || p.op == 4 || p.op == 5 then p.ex.length == 1 else if p.op == 3 then decide (1<=p.ex.length) && decide (p.ex.length<=32)
 else if p.op == 6 then decide (1<=p.cols.length+p.aggs.length) && cD p.cols && !p.aggs.any cT else if p.op == 7 || p.op == 8 || p.op == 11 then true
 else if p.op == 9 then cD (p.keys.map Prod.fst) && decide (0<=p.n) && decide (0<=p.off) else if p.op == 10 then cD p.cols && cD (p.keys.map Prod.fst) && gX p.fn p.col p.n
 else if p.op == 12 then hl p.cols else false
variable{w:World}{m n:Nat}{I J:Int}{a:Option Addr}
theorem r3(a:w.cell? ⟨n,m,none⟩=some (.int .i64 I))(b:w.cell? ⟨n,m+1,none⟩=some (.int .i64 J)):(Instr.loadAt 78 (.pointer (some ⟨n,m,none⟩))).run prog w=.ok (.agg #[.int .i64 I,.int .i64 J]) w:=by go_simp
theorem s9{g:List (Int×Int)}(h:dI w a g):sK w a (g.map λb=>.agg #[.int .i64 b.1,.int .i64 b.2]):=by
 rcases h with h|⟨i,k,j,h⟩;.exact .inl (by rw[h];rfl)
 .refine .inr ⟨i,k,j,λf m d l c=>?_⟩;rw[b8] at d;obtain⟨b,e,rfl⟩:=Option.map_eq_some_iff.1 d;exact r3 (aG (h f b e).1 c) (aG (h f b e).2 c)
theorem lc(b:List (Int×Int))(e:Option Addr)(f:Nat)(a:World)(k:b.length<=140737488355328)(j:dI a e b):Calls prog 151 #[.slice e b.length f,.func (.func 152) #[] #[]] a λm n=>m=.returned (.bool (b.any cT))/\Bw a n:=by have h:=pG (b.map λd=>.agg #[.int .i64 d.1,.int .i64 d.2]) (b.map cT) (by simp) e f (.func (.func 152) #[] #[]) a (by simpa using k) (s9 j) ⟨152,#[],rfl,λargs a=>by kernel_rfl,λp q o i g c _=>by rw[b8] at g c;obtain⟨d,l,rfl⟩:=Option.map_eq_some_iff.1 g;rw[l] at c;injection c with c;subst c;exact pi d.1 d.2 i⟩;rw[VP,List.any_map] at h;exact h
theorem kY(p:Pl)(q:p.fin)(a:Pm)(i:World)(l:jW i p a):Calls prog 113 #[p.val a] i λk Wr=>k=.returned (.bool (bg p))/\Bw i Wr:=by
 obtain⟨⟨Wt,Wu,Wv,V2,Ww,Wx,Wy,V3,V4,Wz⟩,_,_⟩:=Pl.af q;obtain⟨g,e⟩:=al (bg p);rw[<-e];unfold bg at e;rw[Pl.ad];by_cases M:p.op=1;.rw[M] at e;have c:Hid (g=dT p.tab):=e;have V8:=VV (jt p.tab (by omega));rw[M];have b:=ae (ar _ i) (.cells #[.int .i64 1,.string p.tab,.slice a.aE p.ex.length a.cE,.slice a.aC p.cols.length a.cC,.slice a.aK p.keys.length a.cK,.slice a.aA p.aggs.length a.cA,.int .i64 p.fn,.int .i64 p.col,.int .i64 p.n,.int .i64 p.off,.slice a.aP p.args.length a.cP] 28);have d:=VV b;clear e b l q;generalize dT p.tab=WA at *;obtain rfl:=U c;go_enter func113,ntmps113;go_wp2_with (go_at_call 136;refine(U V8 _).mono ?_;rintro k s ⟨rfl,f⟩);go_ret;exact⟨rfl,ac (U d) f⟩
 by_cases P:p.op=2;.rw[P] at e;(have c:Hid (g=((p.ex.length:Int) == 1)):=by rw[e];exact(cQ _ 1).symm);rw[P];have b:=ae (ar _ i) (.cells #[.int .i64 2,.string p.tab,.slice a.aE p.ex.length a.cE,.slice a.aC p.cols.length a.cC,.slice a.aK p.keys.length a.cK,.slice a.aA p.aggs.length a.cA,.int .i64 p.fn,.int .i64 p.col,.int .i64 p.n,.int .i64 p.off,.slice a.aP p.args.length a.cP] 28);have d:=VV b;clear e b l q;obtain rfl:=U c;go_enter func113,ntmps113;go_wp2;go_ret;exact⟨rfl,U d⟩
 by_cases R:p.op=4;.rw[R] at e;(have c:Hid (g=((p.ex.length:Int) == 1)):=by rw[e];exact(cQ _ 1).symm);rw[R];have b:=ae (ar _ i) (.cells #[.int .i64 4,.string p.tab,.slice a.aE p.ex.length a.cE,.slice a.aC p.cols.length a.cC,.slice a.aK p.keys.length a.cK,.slice a.aA p.aggs.length a.cA,.int .i64 p.fn,.int .i64 p.col,.int .i64 p.n,.int .i64 p.off,.slice a.aP p.args.length a.cP] 28);have d:=VV b;clear e b l q;obtain rfl:=U c;go_enter func113,ntmps113;go_wp2;go_ret;exact⟨rfl,U d⟩
 by_cases S:p.op=5;.rw[S] at e;(have c:Hid (g=((p.ex.length:Int) == 1)):=by rw[e];exact(cQ _ 1).symm);rw[S];have b:=ae (ar _ i) (.cells #[.int .i64 5,.string p.tab,.slice a.aE p.ex.length a.cE,.slice a.aC p.cols.length a.cC,.slice a.aK p.keys.length a.cK,.slice a.aA p.aggs.length a.cA,.int .i64 p.fn,.int .i64 p.col,.int .i64 p.n,.int .i64 p.off,.slice a.aP p.args.length a.cP] 28);have d:=VV b;clear e b l q;obtain rfl:=U c;go_enter func113,ntmps113;go_wp2;go_ret;exact⟨rfl,U d⟩
 by_cases Q:p.op=3;.rw[Q] at e;have c:Hid (g=(decide (1<=p.ex.length) && decide (p.ex.length<=32))):=e;rw[Q];have b:=ae (ar _ i) (.cells #[.int .i64 3,.string p.tab,.slice a.aE p.ex.length a.cE,.slice a.aC p.cols.length a.cC,.slice a.aK p.keys.length a.cK,.slice a.aA p.aggs.length a.cA,.int .i64 p.fn,.int .i64 p.col,.int .i64 p.n,.int .i64 p.off,.slice a.aP p.args.length a.cP] 28);have d:=VV b;clear e b l q;by_cases t:1<=p.ex.length;(·(have J:(1:Int)<=(p.ex.length:Int):=by omega);(have Y:Hid (g=decide ((p.ex.length:Int)<=32)):=by rw[U c,decide_eq_true t,Bool.true_and];show _=_;rw[Bool.eq_iff_iff];simp;omega);obtain rfl:=U Y;go_enter func113,ntmps113;go_wp2;go_ret;exact⟨rfl,U d⟩);·(have J:¬(1:Int)<=(p.ex.length:Int):=by omega);(have Y:Hid (g=false):=by rw[U c,decide_eq_false t];rfl);obtain rfl:=U Y;go_enter func113,ntmps113;go_wp2;go_ret;exact⟨rfl,U d⟩
 by_cases G:p.op=6
 .rw[G] at e;have c:Hid (g=(decide (1<=p.cols.length+p.aggs.length) && cD p.cols && !p.aggs.any cT)):=e;rw[G];have b:=ae (ar _ i) (.cells #[.int .i64 6,.string p.tab,.slice a.aE p.ex.length a.cE,.slice a.aC p.cols.length a.cC,.slice a.aK p.keys.length a.cK,.slice a.aA p.aggs.length a.cA,.int .i64 p.fn,.int .i64 p.col,.int .i64 p.n,.int .i64 p.off,.slice a.aP p.args.length a.cP] 28);have d:=VV b;have m:=VV (dL.new i p a);have j:=VV (dE p.cols a.aC a.cC _ (by omega) V3 (l.c.aa b));have V7:=VV (λ(D:World) (VX:Bw i D)=>lc p.aggs a.aA a.cA D (by omega) (l.a.aa VX));unfold Pl.box at m;rw[G] at m;clear e b l q;by_cases t:1<=p.cols.length+p.aggs.length
  ·(have J:(1:Int)<=(p.cols.length:Int)+(p.aggs.length:Int):=by omega);rw[decide_eq_true t,Bool.true_and] at c;generalize p.aggs.any cT=V1 at *;cases n:cD p.cols;.rw[n] at c j;obtain rfl:g=false:=U c;clear n m;go_enter func113,ntmps113;go_wp2_with (go_at_call 150;refine(U j).mono ?_;rintro k s ⟨rfl,f⟩);go_ret;exact⟨rfl,ac (U d) f⟩
   .rw[n] at c j;obtain rfl:g=!V1:=U c;clear n;go_enter func113,ntmps113
    go_wp2_with (first
     | (go_at_call 150;refine(U j).mono ?_;rintro k s ⟨rfl,f⟩;have Wa:=((U m).aa f).c5;simp only[aT] at Wa)
     | (go_at_call 151;refine(U V7 _ (ac (U d) f)).mono ?_;rintro k y ⟨rfl,o⟩))
    go_ret;exact⟨rfl,ac (ac (U d) f) o⟩
  ·(have J:¬(1:Int)<=(p.cols.length:Int)+(p.aggs.length:Int):=by omega);(obtain rfl:g=false:=by rw[U c,decide_eq_false t];rfl);go_enter func113,ntmps113;go_wp2;go_ret;exact⟨rfl,U d⟩
 by_cases T:p.op=7;.rw[T] at e;obtain rfl:g=true:=e;rw[T];have b:=ae (ar _ i) (.cells #[.int .i64 7,.string p.tab,.slice a.aE p.ex.length a.cE,.slice a.aC p.cols.length a.cC,.slice a.aK p.keys.length a.cK,.slice a.aA p.aggs.length a.cA,.int .i64 p.fn,.int .i64 p.col,.int .i64 p.n,.int .i64 p.off,.slice a.aP p.args.length a.cP] 28);have d:=VV b;clear b l q;go_enter func113,ntmps113;go_wp2;go_ret;exact⟨rfl,U d⟩
 by_cases V:p.op=8;.rw[V] at e;obtain rfl:g=true:=e;rw[V];have b:=ae (ar _ i) (.cells #[.int .i64 8,.string p.tab,.slice a.aE p.ex.length a.cE,.slice a.aC p.cols.length a.cC,.slice a.aK p.keys.length a.cK,.slice a.aA p.aggs.length a.cA,.int .i64 p.fn,.int .i64 p.col,.int .i64 p.n,.int .i64 p.off,.slice a.aP p.args.length a.cP] 28);have d:=VV b;clear b l q;go_enter func113,ntmps113;go_wp2;go_ret;exact⟨rfl,U d⟩
 by_cases N:p.op=11;.rw[N] at e;obtain rfl:g=true:=e;rw[N];have b:=ae (ar _ i) (.cells #[.int .i64 11,.string p.tab,.slice a.aE p.ex.length a.cE,.slice a.aC p.cols.length a.cC,.slice a.aK p.keys.length a.cK,.slice a.aA p.aggs.length a.cA,.int .i64 p.fn,.int .i64 p.col,.int .i64 p.n,.int .i64 p.off,.slice a.aP p.args.length a.cP] 28);have d:=VV b;clear b l q;go_enter func113,ntmps113;go_wp2;go_ret;exact⟨rfl,U d⟩
 by_cases I:p.op=9
 .rw[I] at e;have c:Hid (g=(cD (p.keys.map Prod.fst) && decide (0<=p.n) && decide (0<=p.off))):=e;rw[I];have b:=ae (ar _ i) (.cells #[.int .i64 9,.string p.tab,.slice a.aE p.ex.length a.cE,.slice a.aC p.cols.length a.cC,.slice a.aK p.keys.length a.cK,.slice a.aA p.aggs.length a.cA,.int .i64 p.fn,.int .i64 p.col,.int .i64 p.n,.int .i64 p.off,.slice a.aP p.args.length a.cP] 28);have d:=VV b;have m:=VV (dL.new i p a);have z:=VV (ha p.keys a.aK a.cK _ V2 (l.k.aa b));have A:Hid (∀K∈p.keys.map Prod.fst,b2 K):=λK VY=>by obtain⟨V0,VZ,rfl⟩:=fB VY;exact V4 V0 VZ
  have B:Hid ((p.keys.map Prod.fst).length<=140737488355328):=by show _<=_;rw[VP];omega
  unfold Pl.box at m;rw[I] at m;clear e b l q;generalize p.keys.map Prod.fst=x at *;cases n:cD x
  .rw[n] at c;obtain rfl:g=false:=U c;go_enter func113,ntmps113
   go_wp2_with (first
    | (go_at_call 153;refine(U z).mono ?_;rintro k s ⟨u,v,rfl,w,f⟩;have j:=VV (dE x u v s (U B) (U A) w.ints);rw[n] at j)
    | (go_at_call 150;refine(U j).mono ?_;rintro k y ⟨rfl,o⟩))
   go_ret;exact⟨rfl,ac (ac (U d) f) o⟩
  .rw[n,Bool.true_and] at c;by_cases t:0<=p.n
   .rw[decide_eq_true t,Bool.true_and] at c;obtain rfl:=U c;go_enter func113,ntmps113
    go_wp2_with (first
     | (go_at_call 153;refine(U z).mono ?_;rintro k s ⟨u,v,rfl,w,f⟩;have j:=VV (dE x u v s (U B) (U A) w.ints);rw[n] at j)
     | (go_at_call 150;refine(U j).mono ?_;rintro k y ⟨rfl,o⟩;have r:=(U m).aa (ac f o);have E:=r.c8;have VW:=r.c9;simp only[aT] at E VW;clear r))
    go_ret;exact⟨rfl,ac (ac (U d) f) o⟩
   .rw[decide_eq_false t] at c;obtain rfl:g=false:=U c;go_enter func113,ntmps113
    go_wp2_with (first
     | (go_at_call 153;refine(U z).mono ?_;rintro k s ⟨u,v,rfl,w,f⟩;have j:=VV (dE x u v s (U B) (U A) w.ints);rw[n] at j)
     | (go_at_call 150;refine(U j).mono ?_;rintro k y ⟨rfl,o⟩;have r:=(U m).aa (ac f o);have E:=r.c8;have VW:=r.c9;simp only[aT] at E VW;clear r))
    go_ret;exact⟨rfl,ac (ac (U d) f) o⟩
 by_cases F:p.op=10
 .rw[F] at e;have c:Hid (g=(cD p.cols && cD (p.keys.map Prod.fst) && gX p.fn p.col p.n)):=e;rw[F];have b:=ae (ar _ i) (.cells #[.int .i64 10,.string p.tab,.slice a.aE p.ex.length a.cE,.slice a.aC p.cols.length a.cC,.slice a.aK p.keys.length a.cK,.slice a.aA p.aggs.length a.cA,.int .i64 p.fn,.int .i64 p.col,.int .i64 p.n,.int .i64 p.off,.slice a.aP p.args.length a.cP] 28);have d:=VV b;have m:=VV (dL.new i p a);have C:=VV (dE p.cols a.aC a.cC _ (by omega) V3 (l.c.aa b));have z:=VV (λ(D:World) (VX:Bw i D)=>ha p.keys a.aK a.cK D V2 (l.k.aa VX));have A:Hid (∀K∈p.keys.map Prod.fst,b2 K):=λK VY=>by obtain⟨V0,VZ,rfl⟩:=fB VY;exact V4 V0 VZ
  have B:Hid ((p.keys.map Prod.fst).length<=140737488355328):=by show _<=_;rw[VP];omega
  have V9:=VV (py p.fn p.col p.n);unfold Pl.box at m;rw[F] at m;clear e b l q;generalize p.keys.map Prod.fst=x at *;generalize gX p.fn p.col p.n=V6 at *;cases n:cD p.cols;.rw[n] at c C;obtain rfl:g=false:=U c;clear n;go_enter func113,ntmps113;go_wp2_with (go_at_call 150;refine(U C).mono ?_;rintro k s ⟨rfl,f⟩);go_ret;exact⟨rfl,ac (U d) f⟩
  .rw[n] at c C;clear n;(have L:Hid (g=(cD x && V6)):=by have:=U c;show _=_;simpa using this);cases X:cD x
   .rw[X] at L;obtain rfl:g=false:=U L;go_enter func113,ntmps113
    go_wp2_with (first
     | (go_at_call 153;refine(U z _ (ac (U d) f)).mono ?_;rintro k y ⟨u,v,rfl,w,o⟩;have j:=VV (dE x u v y (U B) (U A) w.ints);rw[X] at j)
     | (go_at_call 150;refine(U j).mono ?_;rintro k Ws ⟨rfl,W⟩)
     | (go_at_call 150;refine(U C).mono ?_;rintro k s ⟨rfl,f⟩;have Z:=((U m).aa f).c4;simp only[aT] at Z))
    go_ret;exact⟨rfl,ac (ac (ac (U d) f) o) W⟩
   .rw[X] at L;obtain rfl:g=V6:=U L;go_enter func113,ntmps113
    go_wp2_with (first
     | (go_at_call 153;refine(U z _ (ac (U d) f)).mono ?_;rintro k y ⟨u,v,rfl,w,o⟩;have j:=VV (dE x u v y (U B) (U A) w.ints);rw[X] at j)
     | (go_at_call 150;refine(U j).mono ?_;rintro k Ws ⟨rfl,W⟩;have r:=(U m).aa (ac (ac f o) W);have Wb:=r.c6;have Wc:=r.c7;have E:=r.c8;simp only[aT] at Wb Wc E;clear r)
     | (go_at_call 150;refine(U C).mono ?_;rintro k s ⟨rfl,f⟩;have Z:=((U m).aa f).c4;simp only[aT] at Z)
     | (go_at_call 154;refine(U V9 _).mono ?_;rintro k WB ⟨rfl,Wp⟩))
    go_ret;exact⟨rfl,ac (ac (ac (ac (U d) f) o) W) Wp⟩
 by_cases O:p.op=12;.rw[O] at e;have c:Hid (g=(decide (1<=p.cols.length) && decide (p.cols.length<=32) && !p.cols.any hg)):=e;rw[O];have b:=ae (ar _ i) (.cells #[.int .i64 12,.string p.tab,.slice a.aE p.ex.length a.cE,.slice a.aC p.cols.length a.cC,.slice a.aK p.keys.length a.cK,.slice a.aA p.aggs.length a.cA,.int .i64 p.fn,.int .i64 p.col,.int .i64 p.n,.int .i64 p.off,.slice a.aP p.args.length a.cP] 28);have d:=VV b;have j:=VV (hW p.cols hg 156 (λargs i=>by kernel_rfl) lZ a.aC a.cC _ (by omega) (l.c.aa b));clear e b l q;generalize p.cols.any hg=V1 at *;by_cases t:1<=p.cols.length;(·(have J:(1:Int)<=(p.cols.length:Int):=by omega);rw[decide_eq_true t,Bool.true_and] at c;by_cases V5:p.cols.length<=32;(·(have Wq:(p.cols.length:Int)<=32:=by omega);rw[decide_eq_true V5,Bool.true_and] at c;obtain rfl:=U c;go_enter func113,ntmps113;go_wp2_with (go_at_call 155;refine(U j).mono ?_;rintro k s ⟨rfl,f⟩);go_ret;exact⟨rfl,ac (U d) f⟩);·(have Wq:¬(p.cols.length:Int)<=32:=by omega);rw[decide_eq_false V5] at c;obtain rfl:g=false:=U c;go_enter func113,ntmps113;go_wp2;go_ret;exact⟨rfl,U d⟩);·(have J:¬(1:Int)<=(p.cols.length:Int):=by omega);rw[decide_eq_false t] at c;obtain rfl:g=false:=U c;go_enter func113,ntmps113;go_wp2;go_ret;exact⟨rfl,U d⟩
 ·(have Wd:(p.op == 1)=false:=by simpa using M);(have Wh:(p.op == 2)=false:=by simpa using P);(have Wi:(p.op == 3)=false:=by simpa using Q);(have Wj:(p.op == 4)=false:=by simpa using R);(have Wk:(p.op == 5)=false:=by simpa using S);(have Wl:(p.op == 6)=false:=by simpa using G);(have Wm:(p.op == 7)=false:=by simpa using T);(have Wn:(p.op == 8)=false:=by simpa using V);(have Wo:(p.op == 9)=false:=by simpa using I);(have We:(p.op == 10)=false:=by simpa using F);(have Wf:(p.op == 11)=false:=by simpa using N);(have Wg:(p.op == 12)=false:=by simpa using O);(obtain rfl:g=false:=by rw[e,Wd,Wh,Wi,Wj,Wk,Wl,Wm,Wn,Wo,We,Wf,Wg];rfl);have d:=VV (ae (ar _ i) (.cells #[.int .i64 p.op,.string p.tab,.slice a.aE p.ex.length a.cE,.slice a.aC p.cols.length a.cC,.slice a.aK p.keys.length a.cK,.slice a.aA p.aggs.length a.cA,.int .i64 p.fn,.int .i64 p.col,.int .i64 p.n,.int .i64 p.off,.slice a.aP p.args.length a.cP] 28));clear e l q M P Q R S G T V I F N O;go_enter func113,ntmps113;go_wp2;go_ret;exact⟨rfl,U d⟩
def ds(p a:Pl):Bool:=decide (p.tab=a.tab) && decide (p.ex.length=a.ex.length) && decide (p.cols.length=a.cols.length) && decide (p.keys.length=a.keys.length) && decide (p.aggs.length=a.aggs.length) && decide (p.fn=a.fn) && decide (p.col=a.col) && decide (p.n=a.n) && decide (p.off=a.off)
theorem eW(a:ByteArray):a.toList=a.data.toList:=Lib.toList_data a
theorem hU(a b:ByteArray):(a.toList == b.toList)=decide (a=b):=by rw[Bool.eq_iff_iff,beq_iff_eq,eK,eW,eW];exact⟨λh=>ByteArray.ext (Array.toList_inj.1 h),λh=>by rw[h]⟩
theorem lX(p:Pl)(V:Pm)(W:World):Calls prog 114 #[p.val V] W λL V5=>L=.returned (.bool (ds p (hh p)))/\Bw W V5:=by
 have m:=VV (λZ=>pj p V Z);obtain⟨N,X⟩:=al (ds p (hh p));rw[<-X];have Y:=ae (ar _ W) (p.box V);have k:=VV Y;have l:=VV (dL.new W p V);have j:=VV (dL.new W p V).load;unfold Pl.box at k l j;generalize hh p=a at *;generalize pk p V=b at *;unfold ds at X;have M:=VV X;rw[Pl.ad] at m j;rw[Pl.ad];clear X Y;by_cases G:p.tab=a.tab
 case neg=>
  have VW:(p.tab.toList == a.tab.toList)=false:=by rw[hU];exact decide_eq_false G
  obtain rfl:N=false:=by rw[U M];simp[G]
  clear G;go_enter func114,ntmps114
  go_upto_region 2 with (first
   | (refine aH ?_ 28 (.tmp 1) rfl _ (by simp[Act.eval]) _ (U j) ?_;. simp[Region.wanted,yielded])
   | (go_at_call 157;refine(U m _).mono ?_;rintro L g ⟨rfl,f⟩;rw[Pl.ad]))
  have e:=VV (ae (ac (U k) f) (a.box b));have d:=VV (dL.new g a b);have c:=VV (((U l).aa f).aa (ae (ar _ g) (a.box b)));unfold Pl.box at e d c;clear f k l j m;obtain⟨Q,i⟩:=al (g.alloc (.cells #[.int .i64 a.op,.string a.tab,.slice b.aE a.ex.length b.cE,.slice b.aC a.cols.length b.cC,.slice b.aK a.keys.length b.cK,.slice b.aA a.aggs.length b.cA,.int .i64 a.fn,.int .i64 a.col,.int .i64 a.n,.int .i64 a.off,.slice b.aP a.args.length b.cP] 28));rw[<-i] at e d c ⊢;clear i;simp only[List.append_eq,dH,dl];obtain⟨-,n,o,q,r,s,t,u,v,w,-⟩:=U c;obtain⟨-,x,y,z,A,B,C,D,E,F,-⟩:=U d;simp only[aT] at n o q r s t u v w x y z A B C D E F;clear c d;go_wp2;go_ret;exact⟨rfl,U e⟩
 have VW:(p.tab.toList == a.tab.toList)=true:=by rw[hU];exact decide_eq_true G
 by_cases I:p.ex.length=a.ex.length
 case neg=>
  have VX:((p.ex.length:Int) == (a.ex.length:Int))=false:=by rw[cQ];simpa using I
  obtain rfl:N=false:=by rw[U M];simp[I]
  clear I G;go_enter func114,ntmps114
  go_upto_region 2 with (first
   | (refine aH ?_ 28 (.tmp 1) rfl _ (by simp[Act.eval]) _ (U j) ?_;. simp[Region.wanted,yielded])
   | (go_at_call 157;refine(U m _).mono ?_;rintro L g ⟨rfl,f⟩;rw[Pl.ad]))
  have e:=VV (ae (ac (U k) f) (a.box b));have d:=VV (dL.new g a b);have c:=VV (((U l).aa f).aa (ae (ar _ g) (a.box b)));unfold Pl.box at e d c;clear f k l j m;obtain⟨Q,i⟩:=al (g.alloc (.cells #[.int .i64 a.op,.string a.tab,.slice b.aE a.ex.length b.cE,.slice b.aC a.cols.length b.cC,.slice b.aK a.keys.length b.cK,.slice b.aA a.aggs.length b.cA,.int .i64 a.fn,.int .i64 a.col,.int .i64 a.n,.int .i64 a.off,.slice b.aP a.args.length b.cP] 28));rw[<-i] at e d c ⊢;clear i;simp only[List.append_eq,dH,dl];obtain⟨-,n,o,q,r,s,t,u,v,w,-⟩:=U c;obtain⟨-,x,y,z,A,B,C,D,E,F,-⟩:=U d;simp only[aT] at n o q r s t u v w x y z A B C D E F;clear c d;go_wp2;go_ret;exact⟨rfl,U e⟩
 have VX:((p.ex.length:Int) == (a.ex.length:Int))=true:=by rw[cQ];rw[I];simp
 by_cases J:p.cols.length=a.cols.length
 case neg=>
  have VY:((p.cols.length:Int) == (a.cols.length:Int))=false:=by rw[cQ];simpa using J
  obtain rfl:N=false:=by rw[U M];simp[J]
  clear J G I;go_enter func114,ntmps114
  go_upto_region 2 with (first
   | (refine aH ?_ 28 (.tmp 1) rfl _ (by simp[Act.eval]) _ (U j) ?_;. simp[Region.wanted,yielded])
   | (go_at_call 157;refine(U m _).mono ?_;rintro L g ⟨rfl,f⟩;rw[Pl.ad]))
  have e:=VV (ae (ac (U k) f) (a.box b));have d:=VV (dL.new g a b);have c:=VV (((U l).aa f).aa (ae (ar _ g) (a.box b)));unfold Pl.box at e d c;clear f k l j m;obtain⟨Q,i⟩:=al (g.alloc (.cells #[.int .i64 a.op,.string a.tab,.slice b.aE a.ex.length b.cE,.slice b.aC a.cols.length b.cC,.slice b.aK a.keys.length b.cK,.slice b.aA a.aggs.length b.cA,.int .i64 a.fn,.int .i64 a.col,.int .i64 a.n,.int .i64 a.off,.slice b.aP a.args.length b.cP] 28));rw[<-i] at e d c ⊢;clear i;simp only[List.append_eq,dH,dl];obtain⟨-,n,o,q,r,s,t,u,v,w,-⟩:=U c;obtain⟨-,x,y,z,A,B,C,D,E,F,-⟩:=U d;simp only[aT] at n o q r s t u v w x y z A B C D E F;clear c d;go_wp2;go_ret;exact⟨rfl,U e⟩
 have VY:((p.cols.length:Int) == (a.cols.length:Int))=true:=by rw[cQ];rw[J];simp
 by_cases K:p.keys.length=a.keys.length
 case neg=>
  have VZ:((p.keys.length:Int) == (a.keys.length:Int))=false:=by rw[cQ];simpa using K
  obtain rfl:N=false:=by rw[U M];simp[K]
  clear K G I J;go_enter func114,ntmps114
  go_upto_region 2 with (first
   | (refine aH ?_ 28 (.tmp 1) rfl _ (by simp[Act.eval]) _ (U j) ?_;. simp[Region.wanted,yielded])
   | (go_at_call 157;refine(U m _).mono ?_;rintro L g ⟨rfl,f⟩;rw[Pl.ad]))
  have e:=VV (ae (ac (U k) f) (a.box b));have d:=VV (dL.new g a b);have c:=VV (((U l).aa f).aa (ae (ar _ g) (a.box b)));unfold Pl.box at e d c;clear f k l j m;obtain⟨Q,i⟩:=al (g.alloc (.cells #[.int .i64 a.op,.string a.tab,.slice b.aE a.ex.length b.cE,.slice b.aC a.cols.length b.cC,.slice b.aK a.keys.length b.cK,.slice b.aA a.aggs.length b.cA,.int .i64 a.fn,.int .i64 a.col,.int .i64 a.n,.int .i64 a.off,.slice b.aP a.args.length b.cP] 28));rw[<-i] at e d c ⊢;clear i;simp only[List.append_eq,dH,dl];obtain⟨-,n,o,q,r,s,t,u,v,w,-⟩:=U c;obtain⟨-,x,y,z,A,B,C,D,E,F,-⟩:=U d;simp only[aT] at n o q r s t u v w x y z A B C D E F;clear c d;go_wp2;go_ret;exact⟨rfl,U e⟩
 have VZ:((p.keys.length:Int) == (a.keys.length:Int))=true:=by rw[cQ];rw[K];simp
 by_cases O:p.aggs.length=a.aggs.length
 case neg=>
  have V0:((p.aggs.length:Int) == (a.aggs.length:Int))=false:=by rw[cQ];simpa using O
  obtain rfl:N=false:=by rw[U M];simp[O]
  clear O G I J K;go_enter func114,ntmps114
  go_upto_region 2 with (first
   | (refine aH ?_ 28 (.tmp 1) rfl _ (by simp[Act.eval]) _ (U j) ?_;. simp[Region.wanted,yielded])
   | (go_at_call 157;refine(U m _).mono ?_;rintro L g ⟨rfl,f⟩;rw[Pl.ad]))
  have e:=VV (ae (ac (U k) f) (a.box b));have d:=VV (dL.new g a b);have c:=VV (((U l).aa f).aa (ae (ar _ g) (a.box b)));unfold Pl.box at e d c;clear f k l j m;obtain⟨Q,i⟩:=al (g.alloc (.cells #[.int .i64 a.op,.string a.tab,.slice b.aE a.ex.length b.cE,.slice b.aC a.cols.length b.cC,.slice b.aK a.keys.length b.cK,.slice b.aA a.aggs.length b.cA,.int .i64 a.fn,.int .i64 a.col,.int .i64 a.n,.int .i64 a.off,.slice b.aP a.args.length b.cP] 28));rw[<-i] at e d c ⊢;clear i;simp only[List.append_eq,dH,dl];obtain⟨-,n,o,q,r,s,t,u,v,w,-⟩:=U c;obtain⟨-,x,y,z,A,B,C,D,E,F,-⟩:=U d;simp only[aT] at n o q r s t u v w x y z A B C D E F;clear c d;go_wp2;go_ret;exact⟨rfl,U e⟩
 have V0:((p.aggs.length:Int) == (a.aggs.length:Int))=true:=by rw[cQ];rw[O];simp
 by_cases P:p.fn=a.fn
 case neg=>
  have V1:(p.fn == a.fn)=false:=by simpa using P
  obtain rfl:N=false:=by rw[U M];simp[P]
  clear P G I J K O;go_enter func114,ntmps114
  go_upto_region 2 with (first
   | (refine aH ?_ 28 (.tmp 1) rfl _ (by simp[Act.eval]) _ (U j) ?_;. simp[Region.wanted,yielded])
   | (go_at_call 157;refine(U m _).mono ?_;rintro L g ⟨rfl,f⟩;rw[Pl.ad]))
  have e:=VV (ae (ac (U k) f) (a.box b));have d:=VV (dL.new g a b);have c:=VV (((U l).aa f).aa (ae (ar _ g) (a.box b)));unfold Pl.box at e d c;clear f k l j m;obtain⟨Q,i⟩:=al (g.alloc (.cells #[.int .i64 a.op,.string a.tab,.slice b.aE a.ex.length b.cE,.slice b.aC a.cols.length b.cC,.slice b.aK a.keys.length b.cK,.slice b.aA a.aggs.length b.cA,.int .i64 a.fn,.int .i64 a.col,.int .i64 a.n,.int .i64 a.off,.slice b.aP a.args.length b.cP] 28));rw[<-i] at e d c ⊢;clear i;simp only[List.append_eq,dH,dl];obtain⟨-,n,o,q,r,s,t,u,v,w,-⟩:=U c;obtain⟨-,x,y,z,A,B,C,D,E,F,-⟩:=U d;simp only[aT] at n o q r s t u v w x y z A B C D E F;clear c d;go_wp2;go_ret;exact⟨rfl,U e⟩
 have V1:(p.fn == a.fn)=true:=by rw[P];simp
 by_cases R:p.col=a.col
 case neg=>
  have V2:(p.col == a.col)=false:=by simpa using R
  obtain rfl:N=false:=by rw[U M];simp[R]
  clear R G I J K O P;go_enter func114,ntmps114
  go_upto_region 2 with (first
   | (refine aH ?_ 28 (.tmp 1) rfl _ (by simp[Act.eval]) _ (U j) ?_;. simp[Region.wanted,yielded])
   | (go_at_call 157;refine(U m _).mono ?_;rintro L g ⟨rfl,f⟩;rw[Pl.ad]))
  have e:=VV (ae (ac (U k) f) (a.box b));have d:=VV (dL.new g a b);have c:=VV (((U l).aa f).aa (ae (ar _ g) (a.box b)));unfold Pl.box at e d c;clear f k l j m;obtain⟨Q,i⟩:=al (g.alloc (.cells #[.int .i64 a.op,.string a.tab,.slice b.aE a.ex.length b.cE,.slice b.aC a.cols.length b.cC,.slice b.aK a.keys.length b.cK,.slice b.aA a.aggs.length b.cA,.int .i64 a.fn,.int .i64 a.col,.int .i64 a.n,.int .i64 a.off,.slice b.aP a.args.length b.cP] 28));rw[<-i] at e d c ⊢;clear i;simp only[List.append_eq,dH,dl];obtain⟨-,n,o,q,r,s,t,u,v,w,-⟩:=U c;obtain⟨-,x,y,z,A,B,C,D,E,F,-⟩:=U d;simp only[aT] at n o q r s t u v w x y z A B C D E F;clear c d;go_wp2;go_ret;exact⟨rfl,U e⟩
 have V2:(p.col == a.col)=true:=by rw[R];simp
 by_cases S:p.n=a.n
 case neg=>
  have V3:(p.n == a.n)=false:=by simpa using S
  obtain rfl:N=false:=by rw[U M];simp[S]
  clear S G I J K O P R;go_enter func114,ntmps114
  go_upto_region 2 with (first
   | (refine aH ?_ 28 (.tmp 1) rfl _ (by simp[Act.eval]) _ (U j) ?_;. simp[Region.wanted,yielded])
   | (go_at_call 157;refine(U m _).mono ?_;rintro L g ⟨rfl,f⟩;rw[Pl.ad]))
  have e:=VV (ae (ac (U k) f) (a.box b));have d:=VV (dL.new g a b);have c:=VV (((U l).aa f).aa (ae (ar _ g) (a.box b)));unfold Pl.box at e d c;clear f k l j m;obtain⟨Q,i⟩:=al (g.alloc (.cells #[.int .i64 a.op,.string a.tab,.slice b.aE a.ex.length b.cE,.slice b.aC a.cols.length b.cC,.slice b.aK a.keys.length b.cK,.slice b.aA a.aggs.length b.cA,.int .i64 a.fn,.int .i64 a.col,.int .i64 a.n,.int .i64 a.off,.slice b.aP a.args.length b.cP] 28));rw[<-i] at e d c ⊢;clear i;simp only[List.append_eq,dH,dl];obtain⟨-,n,o,q,r,s,t,u,v,w,-⟩:=U c;obtain⟨-,x,y,z,A,B,C,D,E,F,-⟩:=U d;simp only[aT] at n o q r s t u v w x y z A B C D E F;clear c d;go_wp2;go_ret;exact⟨rfl,U e⟩
 have V3:(p.n == a.n)=true:=by rw[S];simp
 by_cases T:p.off=a.off
 case neg=>
  have V4:(p.off == a.off)=false:=by simpa using T
  obtain rfl:N=false:=by rw[U M];simp[T]
  clear T G I J K O P R S;go_enter func114,ntmps114
  go_upto_region 2 with (first
   | (refine aH ?_ 28 (.tmp 1) rfl _ (by simp[Act.eval]) _ (U j) ?_;. simp[Region.wanted,yielded])
   | (go_at_call 157;refine(U m _).mono ?_;rintro L g ⟨rfl,f⟩;rw[Pl.ad]))
  have e:=VV (ae (ac (U k) f) (a.box b));have d:=VV (dL.new g a b);have c:=VV (((U l).aa f).aa (ae (ar _ g) (a.box b)));unfold Pl.box at e d c;clear f k l j m;obtain⟨Q,i⟩:=al (g.alloc (.cells #[.int .i64 a.op,.string a.tab,.slice b.aE a.ex.length b.cE,.slice b.aC a.cols.length b.cC,.slice b.aK a.keys.length b.cK,.slice b.aA a.aggs.length b.cA,.int .i64 a.fn,.int .i64 a.col,.int .i64 a.n,.int .i64 a.off,.slice b.aP a.args.length b.cP] 28));rw[<-i] at e d c ⊢;clear i;simp only[List.append_eq,dH,dl];obtain⟨-,n,o,q,r,s,t,u,v,w,-⟩:=U c;obtain⟨-,x,y,z,A,B,C,D,E,F,-⟩:=U d;simp only[aT] at n o q r s t u v w x y z A B C D E F;clear c d;go_wp2;go_ret;exact⟨rfl,U e⟩
 have V4:(p.off == a.off)=true:=by rw[T];simp
 obtain rfl:N=true:=by rw[U M];simp[G,I,J,K,O,P,R,S,T]
 clear G I J K O P R S T;go_enter func114,ntmps114
 go_upto_region 2 with (first
  | (refine aH ?_ 28 (.tmp 1) rfl _ (by simp[Act.eval]) _ (U j) ?_;. simp[Region.wanted,yielded])
  | (go_at_call 157;refine(U m _).mono ?_;rintro L g ⟨rfl,f⟩;rw[Pl.ad]))
 have e:=VV (ae (ac (U k) f) (a.box b));have d:=VV (dL.new g a b);have c:=VV (((U l).aa f).aa (ae (ar _ g) (a.box b)));unfold Pl.box at e d c;clear f k l j m;obtain⟨Q,i⟩:=al (g.alloc (.cells #[.int .i64 a.op,.string a.tab,.slice b.aE a.ex.length b.cE,.slice b.aC a.cols.length b.cC,.slice b.aK a.keys.length b.cK,.slice b.aA a.aggs.length b.cA,.int .i64 a.fn,.int .i64 a.col,.int .i64 a.n,.int .i64 a.off,.slice b.aP a.args.length b.cP] 28));rw[<-i] at e d c ⊢;clear i;simp only[List.append_eq,dH,dl];obtain⟨-,n,o,q,r,s,t,u,v,w,-⟩:=U c;obtain⟨-,x,y,z,A,B,C,D,E,F,-⟩:=U d;simp only[aT] at n o q r s t u v w x y z A B C D E F;clear c d;go_wp2;go_ret;exact⟨rfl,U e⟩
end Go.Proofs.YtabmgpillccfaaaGreatDoor
