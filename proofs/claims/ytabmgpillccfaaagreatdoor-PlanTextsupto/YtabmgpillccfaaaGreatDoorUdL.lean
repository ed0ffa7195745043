import Derived.Test.YtabmgpillccfaaaGreatDoorUdK
import Derived.Test.YtabmgpillccfaaaGreatDoorUdJ
set_option linter.all false
set_option maxHeartbeats 2000000
set_option maxRecDepth 100000
namespace Go.Proofs.YtabmgpillccfaaaGreatDoor
open Go.ChangeShapes Go.WideShapes Go.ChangeAt Go.RowKit Go.Joins Go.Deep Go.Proofs.Tryz
theorem oP(b:Os)(n:b.Started)(c:Type)(a:TypeId×Value->c)(d:Stop.Interp):ReturnsInHanded {} Tryz.checked b 3 .any ((Rows.OpenSpec.upto Rows.planTextsSpec).preRow a prog Tryz.f3 Rows.planTextsUptoRow.domain false Rows.planTextsUptoRow.laid) (((Rows.OpenSpec.upto Rows.planTextsSpec).at d).post a prog Tryz.f3 false true false false):=by refine returnsInHanded_of_row (C:=Tryz.checked) (s:=Rows.OpenSpec.upto Rows.planTextsSpec) sP n (by kernel_rfl) func3 (witness_row_atRef (enc:=a) (C:=Tryz.checked) false (iR b) #[.agg #[.int .i64 0,.string ⟨#[]⟩,.slice none 0 0,.slice none 0 0,.slice none 0 0,.slice none 0 0,.int .i64 0,.int .i64 0,.int .i64 0,.int .i64 0,.slice none 0 0],.string ⟨#[]⟩] rfl (by kernel_rfl) (by kernel_rfl) (by kernel_rfl) (mS b a)) ?_;intro e base args g i f m k _ l _ j _ _;exact lC c a e base args g i f m k (l _ rfl) j
theorem pt_said:Rows.PlanTextsUptoSaid:=
 OpenClaim.holds_of_cond 3 Tryz.f3 rfl rfl rfl rfl rfl rfl rfl ⟨rfl,rfl,rfl,rfl,rfl⟩ rfl rfl rfl rfl rfl (by kernel_rfl) func3 (by kernel_rfl)
  (of_decide_eq_true (by kernel_rfl)) (by unfold Func.isWrapper;first | (rw[aR (by decide +kernel)];kernel_rfl) | (rw[aL (by decide +kernel)];exact⟨rfl,rfl⟩))
  (λd e b c _ a=>by rw[OpenClaim.pre_eq_preRow];exact oP d e b c a)
theorem qk(b:FuncId)(c:Func)(f:Tryz.pinned.checked.prog.funcNamed "tallyhouse/tallylaw.PlanTexts" = some b) (g:Tryz.pinned.checked.prog.funcs[b]?=some c):true=Tryz.pinned.checked.prog.looks []/\∀(e:Nat) a,c.params[e]?=some a->Tryz.pinned.checked.prog.wantsStandIn a=false:=by
 obtain rfl:b=3:=Option.some.inj ((show Tryz.prog.funcNamed "tallyhouse/tallylaw.PlanTexts" = some 3 by kernel_rfl).symm.trans f) |>.symm;obtain rfl:c=Tryz.f3:=(Option.some.inj (func3.symm.trans g)).symm;refine⟨by kernel_rfl,λe a d=>?_⟩;rw[Tryz.params3] at d;have i:a=28∨a=9:=by simpa using Array.mem_of_getElem? d
 rcases i with rfl|rfl;.exact(show Tryz.prog.wantsStandIn 28=false by kernel_rfl)
 .exact(show Tryz.prog.wantsStandIn 9=false by kernel_rfl)
theorem pt_card:Rows.PlanTextsUptoCardSaid:=
 Claim7.holds_tied_plain_at .later [] _ _ _ _ pt_said (λ_ h=>by cases h) (by kernel_rfl) (λ_ h=>by cases h) planTextsUpto_row_tie rfl ⟨rfl,rfl⟩ (by kernel_rfl) rfl qk (by kernel_rfl)
#print axioms pt_card
end Go.Proofs.YtabmgpillccfaaaGreatDoor
