import Derived.Test.YtklgoolblpmmlaaGreatAwB
set_option linter.all false
set_option maxRecDepth 100000
namespace Go.Proofs.YtklgoolblpmmlaaGreat
open Go.ChangeShapes Go.WideShapes Go.ChangeAt Go.RowKit Go.Joins Go.Deep Go.Proofs.Tryz
theorem rh(r:Type)(enc:TypeId×Value->r)(a:World)(base:Nat)(args:Array Value)(t D:List (DataW r))(S:List MemPlace) (p:∀(M:Nat) q l,Tryz.f4.params[M]?=some q->args[M]?=some l->Value.okWide prog a .any base q l) (K:DataW.Whole enc prog Tryz.f4.params.toList Rows.planPartsSpec.vars false a args.toList t D S) (L:Rows.uptoSmall r (t++D)=true):Calls prog 4 args a λc C=>∃l,c=.returned l/\Rows.planPartsSpec.post enc prog Tryz.f4 false true false false a args l C:=by
 have V2:=K;obtain⟨e,Wr,J,V1,rfl,Wp,Wq⟩:=K;have I:DataW.TrodAll enc prog a 0 (λ_=>true) true Tryz.f4.params.toList args.toList t e:=J;rw[Tryz.params4] at I p;obtain⟨z,Ww,n,Wk,We,Ws,Wn,rfl,rfl,E,Wh⟩:=trodAll_cons I;obtain⟨A,Wx,o,Wl,p1,Wt,rfl,rfl,rfl,F,Wi⟩:=trodAll_cons Wh;obtain⟨B,Wy,s,Wm,p2,Wu,rfl,rfl,rfl,G,Wj⟩:=trodAll_cons Wi;obtain⟨rfl,rfl,rfl⟩:=trodAll_nil Wj;obtain rfl:args=#[z,A,B]:=by cases args;simp_all
 obtain⟨rfl,rfl⟩:=trodVars_none V1;have N:=E;have V8:∀m∈We,m.block<a.heap.size:=by obtain⟨b,d⟩:=N;exact DataW.trod_lt b _ _ _ d
 have O:=F;have V9:∀m∈p1,m.block<a.heap.size:=by obtain⟨b,d⟩:=O;exact DataW.trod_lt b _ _ _ d
 have P:=G;have Wa:∀m∈p2,m.block<a.heap.size:=by obtain⟨b,d⟩:=P;exact DataW.trod_lt b _ _ _ d
 have x:Rows.uptoBulk n<=1048576/\Rows.uptoBulk o<=1048576/\Rows.uptoBulk s<=1048576:=by simp only[VI] at L;have h:Rows.uptoBulkAll [n,o,s]<=1048576:=of_decide_eq_true L;simp only[Rows.uptoBulkAll] at h;exact⟨by omega,by omega,by omega⟩
 have Wb:∃(c:Ex) (f:Option Addr) (i:Nat),z=c.val f i/\Ex.all a f c.args/\c.fin:=by obtain⟨j,rfl,V6⟩:=okWide_struct underlying45 (p 0 45 z rfl rfl);obtain⟨v,k⟩:=E;obtain⟨⟨c,f,i⟩,u,d,y⟩:=mw (SizeOf.sizeOf n) n bi x.1 k;refine⟨c,f,i,?_,d,y⟩;rw[Ex.ad];congr 1;have w:j.toList=j5 (c,f,i):=u;rw[<-Array.toArray_toList (xs:=j),w];rfl
 obtain⟨X,W,u,rfl,Y,Z⟩:=Wb;have Wc:∃(e:Pl) (b:Pm),A=e.val b/\hI a e b/\e.fin/\e.aQ:=by obtain⟨j,rfl,V6⟩:=okWide_struct underlying28 (p 1 28 A rfl rfl);obtain⟨v,k⟩:=F;obtain⟨⟨e,b⟩,c,d,y⟩:=rm (SizeOf.sizeOf o) o bi x.2.1 k;refine⟨e,b,?_,d,y⟩;rw[Pl.ad];congr 1;have w:j.toList=lR (e,b):=c;rw[<-Array.toArray_toList (xs:=j),w];rfl
 obtain⟨Wf,Wg,rfl,VX,VW,VY⟩:=Wc;have Wd:∃(f:Option Addr) (i:Nat) (g:List Tb),B=.slice f g.length i/\lZ a f g/\(∀q∈g,q.fin)/\g.length<=1048576/\Sk g:=by obtain⟨Q,len,V,rfl⟩:=okWide_slice underlying29 (p 2 29 B rfl rfl);obtain⟨v,k⟩:=G;(have V3:DataW.trod enc prog a 0 (λ_=>true) true v 29 [.slice Q len V]=some (s,p2):=by simpa [Value.cells] using k);exact pC x.2.2 V3
 obtain⟨R,T,g,rfl,VZ,V4,V7,V0⟩:=Wd;clear J;refine(Cu g V4 V0 V7 R T Wf VW VY Wg X Z W u a Y VX VZ).mono λWv C ⟨V5,bel⟩=>?_;subst V5;exact⟨_,rfl,_,_,_,[],_,[],V2,trodAll_mk1 (shut_bool underlying4 _),(trodAll_cons_mk (Below.trod yG (by kernel_rfl) (of_decide_eq_true (by kernel_rfl)) N bel V8) (trodAll_cons_mk (Below.trod yG (by kernel_rfl) (of_decide_eq_true (by kernel_rfl)) O bel V9) (trodAll_cons_mk (Below.trod yG (by kernel_rfl) (of_decide_eq_true (by kernel_rfl)) P bel Wa) trodAll_mk0))),rfl,bel.frame _,λh=>by cases h⟩
theorem vD(b:Os)(m:b.Started)(a:Type)(enc:TypeId×Value->a)(c:Stop.Interp):ReturnsInHanded {} Tryz.checked b 4 .any ((Rows.OpenSpec.upto Rows.planPartsSpec).pre6 enc prog Tryz.f4 Rows.planPartsUptoRow.domain false) (((Rows.OpenSpec.upto Rows.planPartsSpec).at c).post enc prog Tryz.f4 false true false false):=by
 refine returnsInHanded_of_cond (C:=Tryz.checked) (s:=Rows.OpenSpec.upto Rows.planPartsSpec) (k:=Rows.uptoSmall) rfl Eo m (by kernel_rfl) func4
  (OpenSpec.witness (enc:=enc) (C:=Tryz.checked) (s:=Rows.OpenSpec.upto Rows.planPartsSpec) (k:=Rows.uptoSmall) rfl false ⟨#[],#[.agg #[.int .i64 0,.int .i64 0,.int .i64 0,.int .i64 0,.string ⟨#[]⟩,.slice none 0 0],.agg #[.int .i64 0,.string ⟨#[]⟩,.slice none 0 0,.slice none 0 0,.slice none 0 0,.slice none 0 0,.int .i64 0,.int .i64 0,.int .i64 0,.int .i64 0,.slice none 0 0],.slice none 0 0],[]⟩ 8 (by kernel_rfl) (by kernel_rfl) (by kernel_rfl)
   (x:=([.agg [.lit (.int .i64 0),.lit (.int .i64 0),.agg [.lit (.int .i64 0),.lit (.int .i64 0),.lit (.string [])],.nil],.agg [.lit (.int .i64 0),.lit (.string []),.nil,.nil,.nil,.nil,.lit (.int .i64 0),.lit (.int .i64 0),.lit (.int .i64 0),.lit (.int .i64 0),.nil],.nil],[],[])) (by kernel_rfl) rfl (by kernel_rfl)) ?_
 intro d base args f g e l i _ j _;exact rh a enc d base args f g e l i j
theorem pp_holds:Rows.PlanPartsUptoSaid:=
 OpenClaim.holds_of_cond 4 Tryz.f4 rfl rfl rfl rfl rfl rfl rfl ⟨rfl,rfl,rfl,rfl,rfl⟩ rfl rfl rfl rfl rfl (by kernel_rfl) func4 (by kernel_rfl)
  (of_decide_eq_true (by kernel_rfl)) (by unfold Func.isWrapper;first | (rw[ba (by decide +kernel)];kernel_rfl) | (rw[VU (by decide +kernel)];exact⟨rfl,rfl⟩))
  (λc d b enc _ a=>vD c d b enc a)
#print axioms pp_holds
end Go.Proofs.YtklgoolblpmmlaaGreat
