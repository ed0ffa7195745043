/-
  NARROWER THAN 'FOR EVERY INPUT', by the rows' own cells (each row's printed sentence says how): PlanBags: loops · PlanParts: loops · PlanSets: loops · PlanJoins: loops.
  DERIVED. THE GIVEN ROWS OF THIS SEAT. 4 by the template 'for every input the law returns true; each argument reads behind the call as it read before'; 0 by the template 'total and deterministic' (their statements: YtklgoolblpmmlaaGreatTotals.lean).
  GIVEN WITH THE SEED: the statements are not yours to turn. If you find one false, say at which input.
  Laid BY PROGRAM, IN A SANDBOX (cutbox-rows.mjs): the forced cells as the released guide's own fill.sh prints them over the translation 6e5b003e0b7412d5… (all of the seat's roots in one cut). By AI agents, Wed Nov 11 2026. No macro, syntax, notation, axiom, sorry.
-/
import Derived.Test.YtklgoolblpmmlaaGreatChecked
import GoSem.Claim
import GoSem.ClaimJoined
import GoSem.ClaimMapViews
import Derived.JoinedTies
import Derived.KernelRfl
namespace Go.Proofs.YtklgoolblpmmlaaGreat
/- THE CELL 'sum', in the pinned program and in every row, IS THE sha256 OF THE DUMP (.gsa) THAT YtklgoolblpmmlaaGreatProg.lean LOADS. Nothing in Lean hashes anything: it is a label: what it is worth is what the hold of that sum in a sandbox is worth. -/
noncomputable def Tryz.pinned : Pinned := { name := "ytklgoolblpmmlaagreat", sum := "6e5b003e0b7412d5ec6a2b65fdf70f981b90d260e8748d628ac4ee60d2d91403", checked := Tryz.checked }
namespace Rows
def none {H : Type} : Left H := { results := [], args := [] }

/-- 'tallykeep.PlanBags': WHATEVER THE INPUT: true; the input reads as it did. -/
def planBagsSpec : ChangeSpec := { name := "planBags", fn := fun _ => fun
  | [d1, d2] => { results := [.lit (.bool true)], args := [d1, d2] }
  | _ => none }
def planBagsRow : OpenClaim := { program := "ytklgoolblpmmlaagreat", sum := "6e5b003e0b7412d5ec6a2b65fdf70f981b90d260e8748d628ac4ee60d2d91403", func := "tallyhouse/tallykeep.PlanBags", spec := "planBags", inPlace := ["internal/bytealg.abigen_runtime_cmpstring"], unfollowed := true, recurses := true, loops := true, apart := false }
def PlanBagsSaid : Prop := planBagsRow.holds Tryz.pinned (OpenSpec.ofChange planBagsSpec)

/-- ITS FALSE NEIGHBOUR: 'it returns false'. Refute it at one input. -/
def planBagsWrong : ChangeSpec := { name := "planBags", fn := fun _ => fun
  | [d1, d2] => { results := [.lit (.bool false)], args := [d1, d2] }
  | _ => none }
def PlanBagsWrongFalsely : Prop := planBagsRow.holds Tryz.pinned (OpenSpec.ofChange planBagsWrong)

/-- 'tallykeep.PlanParts': WHATEVER THE INPUT: true; the input reads as it did. -/
def planPartsSpec : ChangeSpec := { name := "planParts", fn := fun _ => fun
  | [d1, d2, d3] => { results := [.lit (.bool true)], args := [d1, d2, d3] }
  | _ => none }
def planPartsRow : OpenClaim := { program := "ytklgoolblpmmlaagreat", sum := "6e5b003e0b7412d5ec6a2b65fdf70f981b90d260e8748d628ac4ee60d2d91403", func := "tallyhouse/tallykeep.PlanParts", spec := "planParts", inPlace := ["internal/bytealg.abigen_runtime_cmpstring"], unfollowed := true, recurses := true, loops := true, apart := false }
def PlanPartsSaid : Prop := planPartsRow.holds Tryz.pinned (OpenSpec.ofChange planPartsSpec)

/-- ITS FALSE NEIGHBOUR: 'it returns false'. Refute it at one input. -/
def planPartsWrong : ChangeSpec := { name := "planParts", fn := fun _ => fun
  | [d1, d2, d3] => { results := [.lit (.bool false)], args := [d1, d2, d3] }
  | _ => none }
def PlanPartsWrongFalsely : Prop := planPartsRow.holds Tryz.pinned (OpenSpec.ofChange planPartsWrong)

/-- 'tallykeep.PlanSets': WHATEVER THE INPUT: true; the input reads as it did. -/
def planSetsSpec : ChangeSpec := { name := "planSets", fn := fun _ => fun
  | [d1, d2, d3, d4] => { results := [.lit (.bool true)], args := [d1, d2, d3, d4] }
  | _ => none }
def planSetsRow : OpenClaim := { program := "ytklgoolblpmmlaagreat", sum := "6e5b003e0b7412d5ec6a2b65fdf70f981b90d260e8748d628ac4ee60d2d91403", func := "tallyhouse/tallykeep.PlanSets", spec := "planSets", inPlace := ["internal/bytealg.abigen_runtime_cmpstring"], unfollowed := true, recurses := true, loops := true, apart := false }
def PlanSetsSaid : Prop := planSetsRow.holds Tryz.pinned (OpenSpec.ofChange planSetsSpec)

/-- ITS FALSE NEIGHBOUR: 'it returns false'. Refute it at one input. -/
def planSetsWrong : ChangeSpec := { name := "planSets", fn := fun _ => fun
  | [d1, d2, d3, d4] => { results := [.lit (.bool false)], args := [d1, d2, d3, d4] }
  | _ => none }
def PlanSetsWrongFalsely : Prop := planSetsRow.holds Tryz.pinned (OpenSpec.ofChange planSetsWrong)

/-- 'tallykeep.PlanJoins': WHATEVER THE INPUT: true; the input reads as it did. -/
def planJoinsSpec : ChangeSpec := { name := "planJoins", fn := fun _ => fun
  | [d1, d2, d3, d4] => { results := [.lit (.bool true)], args := [d1, d2, d3, d4] }
  | _ => none }
def planJoinsRow : OpenClaim := { program := "ytklgoolblpmmlaagreat", sum := "6e5b003e0b7412d5ec6a2b65fdf70f981b90d260e8748d628ac4ee60d2d91403", func := "tallyhouse/tallykeep.PlanJoins", spec := "planJoins", inPlace := ["internal/bytealg.abigen_runtime_cmpstring"], unfollowed := true, recurses := true, loops := true, apart := false }
def PlanJoinsSaid : Prop := planJoinsRow.holds Tryz.pinned (OpenSpec.ofChange planJoinsSpec)

/-- ITS FALSE NEIGHBOUR: 'it returns false'. Refute it at one input. -/
def planJoinsWrong : ChangeSpec := { name := "planJoins", fn := fun _ => fun
  | [d1, d2, d3, d4] => { results := [.lit (.bool false)], args := [d1, d2, d3, d4] }
  | _ => none }
def PlanJoinsWrongFalsely : Prop := planJoinsRow.holds Tryz.pinned (OpenSpec.ofChange planJoinsWrong)

/- THE SECOND FORM. 'bulk': how many values and letters a reading holds, each counted each time it is reached (what is shared counts as often as it is met; a slice's spare places count too). A statement '..UptoSaid' is the law's where the arguments, and the package variables that the reading takes, are together of bulk at most 1048576: NARROWER than '..Said'. Prove '..Said' where nothing that the law and all that it calls make is longer than what came in: it says more and counts as full. Else prove '..UptoSaid'. A law counts once. -/
mutual
def uptoBulk {H : Type} : DataW H → Nat
  | .lit (.string bytes) => bytes.length + 1
  | .lit _ => 1
  | .nil => 1
  | .ptr d => uptoBulk d + 1
  | .slice elems spare => uptoBulkAll elems + uptoBulkAll spare + 1
  | .agg parts => uptoBulkAll parts + 1
  | .iface _ d => uptoBulk d + 1
  | .map entries => uptoBulkEntries entries + 1
  | .held _ => 1
def uptoBulkAll {H : Type} : List (DataW H) → Nat
  | [] => 0
  | d :: r => uptoBulk d + uptoBulkAll r
def uptoBulkEntries {H : Type} : List (Lit × DataW H) → Nat
  | [] => 0
  | x :: r => uptoBulkEntry x + uptoBulkEntries r
def uptoBulkEntry {H : Type} : Lit × DataW H → Nat
  | (.string bytes, d) => bytes.length + uptoBulk d + 1
  | (_, d) => uptoBulk d + 1
 end
def uptoSmall : (H : Type) → List (DataW H) → Bool := fun _ ds => decide (uptoBulkAll ds ≤ 1048576)
def OpenSpec.upto (s : _root_.Go.ChangeSpec) : _root_.Go.OpenSpec := { _root_.Go.OpenSpec.ofChange s with cond := some uptoSmall }

/-- 'tallykeep.PlanBags', WHERE WHAT IT READS IS OF BULK AT MOST 1048576: true; the input reads as it did. -/
def planBagsUptoRow : OpenClaim := { program := "ytklgoolblpmmlaagreat", sum := "6e5b003e0b7412d5ec6a2b65fdf70f981b90d260e8748d628ac4ee60d2d91403", func := "tallyhouse/tallykeep.PlanBags", spec := "planBags", inPlace := ["internal/bytealg.abigen_runtime_cmpstring"], unfollowed := true, recurses := true, loops := true, apart := false, narrowed := true }
def PlanBagsUptoSaid : Prop := planBagsUptoRow.holds Tryz.pinned (OpenSpec.upto planBagsSpec)

/-- 'tallykeep.PlanParts', WHERE WHAT IT READS IS OF BULK AT MOST 1048576: true; the input reads as it did. -/
def planPartsUptoRow : OpenClaim := { program := "ytklgoolblpmmlaagreat", sum := "6e5b003e0b7412d5ec6a2b65fdf70f981b90d260e8748d628ac4ee60d2d91403", func := "tallyhouse/tallykeep.PlanParts", spec := "planParts", inPlace := ["internal/bytealg.abigen_runtime_cmpstring"], unfollowed := true, recurses := true, loops := true, apart := false, narrowed := true }
def PlanPartsUptoSaid : Prop := planPartsUptoRow.holds Tryz.pinned (OpenSpec.upto planPartsSpec)

/-- 'tallykeep.PlanSets', WHERE WHAT IT READS IS OF BULK AT MOST 1048576: true; the input reads as it did. -/
def planSetsUptoRow : OpenClaim := { program := "ytklgoolblpmmlaagreat", sum := "6e5b003e0b7412d5ec6a2b65fdf70f981b90d260e8748d628ac4ee60d2d91403", func := "tallyhouse/tallykeep.PlanSets", spec := "planSets", inPlace := ["internal/bytealg.abigen_runtime_cmpstring"], unfollowed := true, recurses := true, loops := true, apart := false, narrowed := true }
def PlanSetsUptoSaid : Prop := planSetsUptoRow.holds Tryz.pinned (OpenSpec.upto planSetsSpec)

/-- 'tallykeep.PlanJoins', WHERE WHAT IT READS IS OF BULK AT MOST 1048576: true; the input reads as it did. -/
def planJoinsUptoRow : OpenClaim := { program := "ytklgoolblpmmlaagreat", sum := "6e5b003e0b7412d5ec6a2b65fdf70f981b90d260e8748d628ac4ee60d2d91403", func := "tallyhouse/tallykeep.PlanJoins", spec := "planJoins", inPlace := ["internal/bytealg.abigen_runtime_cmpstring"], unfollowed := true, recurses := true, loops := true, apart := false, narrowed := true }
def PlanJoinsUptoSaid : Prop := planJoinsUptoRow.holds Tryz.pinned (OpenSpec.upto planJoinsSpec)

end Rows
end Go.Proofs.YtklgoolblpmmlaaGreat
