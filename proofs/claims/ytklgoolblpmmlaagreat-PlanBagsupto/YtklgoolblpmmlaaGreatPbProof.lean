import Derived.Test.YtklgoolblpmmlaaGreatPbK
set_option linter.all false
set_option maxRecDepth 100000
namespace Go.Proofs.YtklgoolblpmmlaaGreat
open Go.ChangeShapes Go.WideShapes Go.ChangeAt Go.RowKit Go.Joins Go.Deep Go.Proofs.Tryz
theorem Sp(j:Type)(enc:TypeId×Value->j)(a:World)(base:Nat)(args:Array Value)(l w:List (DataW j))(K:List MemPlace) (o:∀(E:Nat) i f,Tryz.f3.params[E]?=some i->args[E]?=some f->Value.okWide prog a .any base i f) (B:DataW.Whole enc prog Tryz.f3.params.toList Rows.planBagsSpec.vars false a args.toList l w K) (D:Rows.uptoSmall j (l++w)=true):Calls prog 3 args a λm s=>∃f,m=.returned f/\Rows.planBagsSpec.post enc prog Tryz.f3 false true false false a args f s:=by
 have W:=B;obtain⟨c,Wd,A,V,rfl,Wa,Wb⟩:=B;have z:DataW.TrodAll enc prog a 0 (λ_=>true) true Tryz.f3.params.toList args.toList l c:=A;rw[Tryz.params3] at z o;obtain⟨p,Wh,g,V7,V2,We,V9,rfl,rfl,x,V5⟩:=trodAll_cons z;obtain⟨q,Wi,k,V8,p1,Wf,rfl,rfl,rfl,y,V6⟩:=trodAll_cons V5;obtain⟨rfl,rfl,rfl⟩:=trodAll_nil V6;obtain rfl:args=#[p,q]:=by cases args;simp_all
 obtain⟨rfl,rfl⟩:=trodVars_none V;have F:=x;have VY:∀r∈V2,r.block<a.heap.size:=by obtain⟨b,e⟩:=F;exact DataW.trod_lt b _ _ _ e
 have G:=y;have VZ:∀r∈p1,r.block<a.heap.size:=by obtain⟨b,e⟩:=G;exact DataW.trod_lt b _ _ _ e
 have C:Rows.uptoBulk g<=1048576/\Rows.uptoBulk k<=1048576:=by simp only[VI] at D;have h:Rows.uptoBulkAll [g,k]<=1048576:=of_decide_eq_true D;simp only[Rows.uptoBulkAll] at h;exact⟨by omega,by omega⟩
 have V0:∃(c:Pl) (b:Pm),p=c.val b/\hI a c b/\c.fin/\c.aQ:=by obtain⟨u,rfl,Wc⟩:=okWide_struct underlying28 (o 0 28 p rfl rfl);obtain⟨v,n⟩:=x;obtain⟨⟨c,b⟩,m,e,Y⟩:=rm (SizeOf.sizeOf g) g bi C.1 n;refine⟨c,b,?_,e,Y⟩;rw[Pl.ad];congr 1;have O:u.toList=lR (c,b):=m;rw[<-Array.toArray_toList (xs:=u),O];rfl
 obtain⟨V3,V4,rfl,Q,P,R⟩:=V0;have V1:∃(t:Option Addr) (L:Nat) (d:List Tb),q=.slice t d.length L/\lZ a t d/\(∀i∈d,i.fin)/\d.length<=1048576/\Sk d:=by obtain⟨I,len,N,rfl⟩:=okWide_slice underlying29 (o 1 29 q rfl rfl);obtain⟨v,n⟩:=y;(have X:DataW.trod enc prog a 0 (λ_=>true) true v 29 [.slice I len N]=some (k,p1):=by simpa [Value.cells] using n);exact pC C.2 X
 obtain⟨J,M,d,rfl,S,Z,VX,T⟩:=V1;clear A;refine(RE d Z T VX J M V3 P R V4 a Q S).mono λWg s ⟨VW,bel⟩=>?_;subst VW;exact⟨_,rfl,_,_,_,[],_,[],W,trodAll_mk1 (shut_bool underlying4 _),(trodAll_cons_mk (Below.trod yG (by kernel_rfl) (of_decide_eq_true (by kernel_rfl)) F bel VY) (trodAll_cons_mk (Below.trod yG (by kernel_rfl) (of_decide_eq_true (by kernel_rfl)) G bel VZ) trodAll_mk0)),rfl,bel.frame _,λh=>by cases h⟩
theorem RX(b:Os)(m:b.Started)(a:Type)(enc:TypeId×Value->a)(c:Stop.Interp):ReturnsInHanded {} Tryz.checked b 3 .any ((Rows.OpenSpec.upto Rows.planBagsSpec).pre6 enc prog Tryz.f3 Rows.planBagsUptoRow.domain false) (((Rows.OpenSpec.upto Rows.planBagsSpec).at c).post enc prog Tryz.f3 false true false false):=by
 refine returnsInHanded_of_cond (C:=Tryz.checked) (s:=Rows.OpenSpec.upto Rows.planBagsSpec) (k:=Rows.uptoSmall) rfl Eo m (by kernel_rfl) func3
  (OpenSpec.witness (enc:=enc) (C:=Tryz.checked) (s:=Rows.OpenSpec.upto Rows.planBagsSpec) (k:=Rows.uptoSmall) rfl false ⟨#[],#[.agg #[.int .i64 0,.string ⟨#[]⟩,.slice none 0 0,.slice none 0 0,.slice none 0 0,.slice none 0 0,.int .i64 0,.int .i64 0,.int .i64 0,.int .i64 0,.slice none 0 0],.slice none 0 0],[]⟩ 8 (by kernel_rfl) (by kernel_rfl) (by kernel_rfl)
   (x:=([.agg [.lit (.int .i64 0),.lit (.string []),.nil,.nil,.nil,.nil,.lit (.int .i64 0),.lit (.int .i64 0),.lit (.int .i64 0),.lit (.int .i64 0),.nil],.nil],[],[])) (by kernel_rfl) rfl (by kernel_rfl)) ?_
 intro d base args f g e l i _ j _;exact Sp a enc d base args f g e l i j
theorem pb_holds:Rows.PlanBagsUptoSaid:=
 OpenClaim.holds_of_cond 3 Tryz.f3 rfl rfl rfl rfl rfl rfl rfl ⟨rfl,rfl,rfl,rfl,rfl⟩ rfl rfl rfl rfl rfl (by kernel_rfl) func3 (by kernel_rfl)
  (of_decide_eq_true (by kernel_rfl)) (by unfold Func.isWrapper;first | (rw[ba (by decide +kernel)];kernel_rfl) | (rw[VU (by decide +kernel)];exact⟨rfl,rfl⟩))
  (λc d b enc _ a=>RX c d b enc a)
#print axioms pb_holds
end Go.Proofs.YtklgoolblpmmlaaGreat
