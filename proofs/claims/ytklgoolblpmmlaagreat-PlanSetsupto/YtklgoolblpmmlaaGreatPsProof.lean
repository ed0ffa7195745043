import Derived.Test.YtklgoolblpmmlaaGreatPsA
set_option linter.all false
set_option maxRecDepth 100000
namespace Go.Proofs.YtklgoolblpmmlaaGreat
open Go.ChangeShapes Go.WideShapes Go.ChangeAt Go.RowKit Go.Joins Go.Deep Go.Proofs.Tryz
theorem Ua(r:Type)(enc:TypeId×Value->r)(a:World)(base:Nat)(args:Array Value)(w K:List (DataW r))(VW:List MemPlace) (l:∀(S:Nat) q m,Tryz.f5.params[S]?=some q->args[S]?=some m->Value.okWide prog a .any base q m) (Q:DataW.Whole enc prog Tryz.f5.params.toList Rows.planSetsSpec.vars false a args.toList w K VW) (R:Rows.uptoSmall r (w++K)=true):Calls prog 5 args a λx F=>∃m,x=.returned m/\Rows.planSetsSpec.post enc prog Tryz.f5 false true false false a args m F:=by
 have We:=Q;obtain⟨d,WK,P,Wd,rfl,WH,WI⟩:=Q;have O:DataW.TrodAll enc prog a 0 (λ_=>true) true Tryz.f5.params.toList args.toList w d:=P;rw[Tryz.params5] at O l;obtain⟨B,WQ,n,WB,Wu,WL,WG,rfl,rfl,L,Wx⟩:=trodAll_cons O;obtain⟨C,WR,u,WC,p1,WM,rfl,rfl,rfl,M,Wy⟩:=trodAll_cons Wx;obtain⟨D,WS,I,WD,p2,WN,rfl,rfl,rfl,V2,Wz⟩:=trodAll_cons Wy;obtain⟨E,WT,v,WE,p3,WO,rfl,rfl,rfl,N,WA⟩:=trodAll_cons Wz;obtain⟨rfl,rfl,rfl⟩:=trodAll_nil WA;obtain rfl:args=#[B,C,D,E]:=by cases args;simp_all
 obtain⟨rfl,rfl⟩:=trodVars_none Wd;have T:=L;have Wk:∀e∈Wu,e.block<a.heap.size:=by obtain⟨b,c⟩:=T;exact DataW.trod_lt b _ _ _ c
 have V:=M;have Wl:∀e∈p1,e.block<a.heap.size:=by obtain⟨b,c⟩:=V;exact DataW.trod_lt b _ _ _ c
 have W:=V2;have Wm:∀e∈p2,e.block<a.heap.size:=by obtain⟨b,c⟩:=W;exact DataW.trod_lt b _ _ _ c
 have X:=N;have Wn:∀e∈p3,e.block<a.heap.size:=by obtain⟨b,c⟩:=X;exact DataW.trod_lt b _ _ _ c
 have y:Rows.uptoBulk n<=1048576/\Rows.uptoBulk u<=1048576/\Rows.uptoBulk I<=1048576/\Rows.uptoBulk v<=1048576:=by simp only[VI] at R;have h:Rows.uptoBulkAll [n,u,I,v]<=1048576:=of_decide_eq_true R;simp only[Rows.uptoBulkAll] at h;exact⟨by omega,by omega,by omega,by omega⟩
 have Wq:∃(d:Pl) (b:Pm),B=d.val b/\hI a d b/\d.fin/\d.aQ:=by obtain⟨G,rfl,WJ⟩:=okWide_struct underlying28 (l 0 28 B rfl rfl);obtain⟨o,k⟩:=L;obtain⟨⟨d,b⟩,x,c,Wf⟩:=rm (SizeOf.sizeOf n) n bi y.1 k;refine⟨d,b,?_,c,Wf⟩;rw[Pl.ad];congr 1;have V3:G.toList=lR (d,b):=x;rw[<-Array.toArray_toList (xs:=G),V3];rfl
 obtain⟨Wv,Ww,rfl,V9,V8,Wa⟩:=Wq;have Wr:∃(f:Option Addr) (j:Nat) (i:List (Int×Bool)),C=.slice f i.length j/\dh a f i/\(∀e∈i,bY e.1)/\i.length<=1048576:=by obtain⟨s,len,t,rfl⟩:=okWide_slice underlying24 (l 1 24 C rfl rfl);obtain⟨o,k⟩:=M;(have z:DataW.trod enc prog a 0 (λ_=>true) true o 24 [.slice s len t]=some (u,p1):=by simpa [Value.cells] using k);obtain⟨f,j,i,J,_,VZ,V0,V1⟩:=s5 z;exact⟨f,j,i,J,VZ,V0,cw V1 y.2.1⟩
 obtain⟨Y,VX,Wj,rfl,V4,V5,V6⟩:=Wr;have Ws:∃p:Int,D=.int .i64 p/\bY p:=by have A:=l 2 3 D rfl rfl;obtain⟨p,rfl⟩:=okWide_int underlying3 A;refine⟨p,rfl,?_⟩;simp only[Value.okWide,underlying3,Cell.okWide,Cell.ok] at A;simp[IntKind.has] at A;(have J:IntKind.i64.min=-9223372036854775808:=by decide);(have WF:IntKind.i64.max=9223372036854775807:=by decide);unfold bY;omega
 obtain⟨Wp,rfl,V7⟩:=Ws;have Wt:∃(f:Option Addr) (j:Nat) (g:List Tb),E=.slice f g.length j/\lZ a f g/\(∀q∈g,q.fin)/\g.length<=1048576/\Sk g:=by obtain⟨s,len,t,rfl⟩:=okWide_slice underlying29 (l 3 29 E rfl rfl);obtain⟨o,k⟩:=N;(have z:DataW.trod enc prog a 0 (λ_=>true) true o 29 [.slice s len t]=some (v,p3):=by simpa [Value.cells] using k);exact pC y.2.2.2 z
 obtain⟨Z,VY,g,rfl,Wb,Wg,Wi,Wc⟩:=Wt;clear P;refine(TO g Wg Wc Wi Z VY Wv V8 Wa Ww Wj V6 V5 Y VX Wp V7 a V4 V9 Wb).mono λWP F ⟨Wh,bel⟩=>?_;subst Wh;exact⟨_,rfl,_,_,_,[],_,[],We,trodAll_mk1 (shut_bool underlying4 _),(trodAll_cons_mk (Below.trod yG (by kernel_rfl) (of_decide_eq_true (by kernel_rfl)) T bel Wk) (trodAll_cons_mk (Below.trod yG (by kernel_rfl) (of_decide_eq_true (by kernel_rfl)) V bel Wl) (trodAll_cons_mk (Below.trod yG (by kernel_rfl) (of_decide_eq_true (by kernel_rfl)) W bel Wm) (trodAll_cons_mk (Below.trod yG (by kernel_rfl) (of_decide_eq_true (by kernel_rfl)) X bel Wn) trodAll_mk0)))),rfl,bel.frame _,λh=>by cases h⟩
theorem T1(b:Os)(m:b.Started)(a:Type)(enc:TypeId×Value->a)(c:Stop.Interp):ReturnsInHanded {} Tryz.checked b 5 .any ((Rows.OpenSpec.upto Rows.planSetsSpec).pre6 enc prog Tryz.f5 Rows.planSetsUptoRow.domain false) (((Rows.OpenSpec.upto Rows.planSetsSpec).at c).post enc prog Tryz.f5 false true false false):=by
 refine returnsInHanded_of_cond (C:=Tryz.checked) (s:=Rows.OpenSpec.upto Rows.planSetsSpec) (k:=Rows.uptoSmall) rfl Eo m (by kernel_rfl) func5
  (OpenSpec.witness (enc:=enc) (C:=Tryz.checked) (s:=Rows.OpenSpec.upto Rows.planSetsSpec) (k:=Rows.uptoSmall) rfl false ⟨#[],#[.agg #[.int .i64 0,.string ⟨#[]⟩,.slice none 0 0,.slice none 0 0,.slice none 0 0,.slice none 0 0,.int .i64 0,.int .i64 0,.int .i64 0,.int .i64 0,.slice none 0 0],.slice none 0 0,.int .i64 0,.slice none 0 0],[]⟩ 8 (by kernel_rfl) (by kernel_rfl) (by kernel_rfl)
   (x:=([.agg [.lit (.int .i64 0),.lit (.string []),.nil,.nil,.nil,.nil,.lit (.int .i64 0),.lit (.int .i64 0),.lit (.int .i64 0),.lit (.int .i64 0),.nil],.nil,.lit (.int .i64 0),.nil],[],[])) (by kernel_rfl) rfl (by kernel_rfl)) ?_
 intro d base args f g e l i _ j _;exact Ua a enc d base args f g e l i j
theorem ps_holds:Rows.PlanSetsUptoSaid:=
 OpenClaim.holds_of_cond 5 Tryz.f5 rfl rfl rfl rfl rfl rfl rfl ⟨rfl,rfl,rfl,rfl,rfl⟩ rfl rfl rfl rfl rfl (by kernel_rfl) func5 (by kernel_rfl)
  (of_decide_eq_true (by kernel_rfl)) (by unfold Func.isWrapper;first | (rw[ba (by decide +kernel)];kernel_rfl) | (rw[VU (by decide +kernel)];exact⟨rfl,rfl⟩))
  (λc d b enc _ a=>T1 c d b enc a)
#print axioms ps_holds
end Go.Proofs.YtklgoolblpmmlaaGreat
