/-
  NARROWER THAN 'FOR EVERY INPUT', by the rows' own cells (each row's printed sentence says how): ExprStrict: loops · ExprParts: loops · SegMay: loops.
  DERIVED. THE GIVEN ROWS OF THIS SEAT. 3 by the template 'for every input the law returns true; each argument reads behind the call as it read before'; 0 by the template 'total and deterministic' (their statements: YtfnacpkodfhfoadTotals.lean).
  GIVEN WITH THE SEED: the statements are not yours to turn. If you find one false, say at which input.
  Laid BY PROGRAM, IN A SANDBOX (cutbox-rows.mjs): the forced cells as the released guide's own fill.sh prints them over the translation a9042d212d581fd7… (all of the seat's roots in one cut). By AI agents, Wed Nov 11 2026. No macro, syntax, notation, axiom, sorry.
-/
import Derived.Test.YtfnacpkodfhfoadChecked
import GoSem.Claim
import GoSem.ClaimJoined
import GoSem.ClaimMapViews
import Derived.JoinedTies
import Derived.KernelRfl
namespace Go.Proofs.Ytfnacpkodfhfoad
/- THE CELL 'sum', in the pinned program and in every row, IS THE sha256 OF THE DUMP (.gsa) THAT YtfnacpkodfhfoadProg.lean LOADS. Nothing in Lean hashes anything: it is a label: what it is worth is what the hold of that sum in a sandbox is worth. -/
noncomputable def Try.pinned : Pinned := { name := "ytfnacpkodfhfoad", sum := "a9042d212d581fd7e0dbff8f6311de02616e5abf429983fb3a1854f9da6dabea", checked := Try.checked }
namespace Rows
def none {H : Type} : Left H := { results := [], args := [] }

/-- 'tallykeep.ExprStrict': WHATEVER THE INPUT: true; the input reads as it did. -/
def exprStrictSpec : ChangeSpec := { name := "exprStrict", fn := fun _ => fun
  | [d1, d2, d3] => { results := [.lit (.bool true)], args := [d1, d2, d3] }
  | _ => none }
def exprStrictRow : OpenClaim := { program := "ytfnacpkodfhfoad", sum := "a9042d212d581fd7e0dbff8f6311de02616e5abf429983fb3a1854f9da6dabea", func := "tallyhouse/tallykeep.ExprStrict", spec := "exprStrict", inPlace := ["internal/bytealg.abigen_runtime_cmpstring"], unfollowed := true, recurses := true, loops := true, apart := false }
def ExprStrictSaid : Prop := exprStrictRow.holds Try.pinned (OpenSpec.ofChange exprStrictSpec)

/-- ITS FALSE NEIGHBOUR: 'it returns false'. Refute it at one input. -/
def exprStrictWrong : ChangeSpec := { name := "exprStrict", fn := fun _ => fun
  | [d1, d2, d3] => { results := [.lit (.bool false)], args := [d1, d2, d3] }
  | _ => none }
def ExprStrictWrongFalsely : Prop := exprStrictRow.holds Try.pinned (OpenSpec.ofChange exprStrictWrong)

/-- 'tallykeep.ExprParts': WHATEVER THE INPUT: true; the input reads as it did. -/
def exprPartsSpec : ChangeSpec := { name := "exprParts", fn := fun _ => fun
  | [d1, d2] => { results := [.lit (.bool true)], args := [d1, d2] }
  | _ => none }
def exprPartsRow : OpenClaim := { program := "ytfnacpkodfhfoad", sum := "a9042d212d581fd7e0dbff8f6311de02616e5abf429983fb3a1854f9da6dabea", func := "tallyhouse/tallykeep.ExprParts", spec := "exprParts", inPlace := ["internal/bytealg.abigen_runtime_cmpstring"], unfollowed := true, recurses := true, loops := true, apart := false }
def ExprPartsSaid : Prop := exprPartsRow.holds Try.pinned (OpenSpec.ofChange exprPartsSpec)

/-- ITS FALSE NEIGHBOUR: 'it returns false'. Refute it at one input. -/
def exprPartsWrong : ChangeSpec := { name := "exprParts", fn := fun _ => fun
  | [d1, d2] => { results := [.lit (.bool false)], args := [d1, d2] }
  | _ => none }
def ExprPartsWrongFalsely : Prop := exprPartsRow.holds Try.pinned (OpenSpec.ofChange exprPartsWrong)

/-- 'tallylaw.SegMay': WHATEVER THE INPUT: true; the input reads as it did. -/
def segMaySpec : ChangeSpec := { name := "segMay", fn := fun _ => fun
  | [d1, d2, d3] => { results := [.lit (.bool true)], args := [d1, d2, d3] }
  | _ => none }
def segMayRow : OpenClaim := { program := "ytfnacpkodfhfoad", sum := "a9042d212d581fd7e0dbff8f6311de02616e5abf429983fb3a1854f9da6dabea", func := "tallyhouse/tallylaw.SegMay", spec := "segMay", inPlace := ["internal/bytealg.abigen_runtime_cmpstring"], unfollowed := true, recurses := true, loops := true, apart := false }
def SegMaySaid : Prop := segMayRow.holds Try.pinned (OpenSpec.ofChange segMaySpec)

/-- ITS FALSE NEIGHBOUR: 'it returns false'. Refute it at one input. -/
def segMayWrong : ChangeSpec := { name := "segMay", fn := fun _ => fun
  | [d1, d2, d3] => { results := [.lit (.bool false)], args := [d1, d2, d3] }
  | _ => none }
def SegMayWrongFalsely : Prop := segMayRow.holds Try.pinned (OpenSpec.ofChange segMayWrong)

/- THE SECOND FORM. 'bulk': how many values and letters a reading holds, each counted each time it is reached (what is shared counts as often as it is met; a slice's spare places count too). A statement '..UptoSaid' is the law's where the arguments, and the package variables that the reading takes, are together of bulk at most 1048576: NARROWER than '..Said'. Prove '..Said' where nothing that the law and all that it calls make is longer than what came in: it says more and counts as full. Else prove '..UptoSaid'. A law counts once. -/
mutual
def uptoBulk {H : Type} : DataW H → Nat
  | .lit (.string bytes) => bytes.length + 1
  | .lit _ => 1
  | .nil => 1
  | .ptr d => uptoBulk d + 1
  | .slice elems spare => uptoBulkAll elems + uptoBulkAll spare + 1
  | .agg parts => uptoBulkAll parts + 1
  | .iface _ d => uptoBulk d + 1
  | .map entries => uptoBulkEntries entries + 1
  | .held _ => 1
def uptoBulkAll {H : Type} : List (DataW H) → Nat
  | [] => 0
  | d :: r => uptoBulk d + uptoBulkAll r
def uptoBulkEntries {H : Type} : List (Lit × DataW H) → Nat
  | [] => 0
  | x :: r => uptoBulkEntry x + uptoBulkEntries r
def uptoBulkEntry {H : Type} : Lit × DataW H → Nat
  | (.string bytes, d) => bytes.length + uptoBulk d + 1
  | (_, d) => uptoBulk d + 1
 end
def uptoSmall : (H : Type) → List (DataW H) → Bool := fun _ ds => decide (uptoBulkAll ds ≤ 1048576)
def OpenSpec.upto (s : _root_.Go.ChangeSpec) : _root_.Go.OpenSpec := { _root_.Go.OpenSpec.ofChange s with cond := some uptoSmall }

/-- 'tallykeep.ExprStrict', WHERE WHAT IT READS IS OF BULK AT MOST 1048576: true; the input reads as it did. -/
def exprStrictUptoRow : OpenClaim := { program := "ytfnacpkodfhfoad", sum := "a9042d212d581fd7e0dbff8f6311de02616e5abf429983fb3a1854f9da6dabea", func := "tallyhouse/tallykeep.ExprStrict", spec := "exprStrict", inPlace := ["internal/bytealg.abigen_runtime_cmpstring"], unfollowed := true, recurses := true, loops := true, apart := false, narrowed := true }
def ExprStrictUptoSaid : Prop := exprStrictUptoRow.holds Try.pinned (OpenSpec.upto exprStrictSpec)

/-- 'tallykeep.ExprParts', WHERE WHAT IT READS IS OF BULK AT MOST 1048576: true; the input reads as it did. -/
def exprPartsUptoRow : OpenClaim := { program := "ytfnacpkodfhfoad", sum := "a9042d212d581fd7e0dbff8f6311de02616e5abf429983fb3a1854f9da6dabea", func := "tallyhouse/tallykeep.ExprParts", spec := "exprParts", inPlace := ["internal/bytealg.abigen_runtime_cmpstring"], unfollowed := true, recurses := true, loops := true, apart := false, narrowed := true }
def ExprPartsUptoSaid : Prop := exprPartsUptoRow.holds Try.pinned (OpenSpec.upto exprPartsSpec)

/-- 'tallylaw.SegMay', WHERE WHAT IT READS IS OF BULK AT MOST 1048576: true; the input reads as it did. -/
def segMayUptoRow : OpenClaim := { program := "ytfnacpkodfhfoad", sum := "a9042d212d581fd7e0dbff8f6311de02616e5abf429983fb3a1854f9da6dabea", func := "tallyhouse/tallylaw.SegMay", spec := "segMay", inPlace := ["internal/bytealg.abigen_runtime_cmpstring"], unfollowed := true, recurses := true, loops := true, apart := false, narrowed := true }
def SegMayUptoSaid : Prop := segMayUptoRow.holds Try.pinned (OpenSpec.upto segMaySpec)

end Rows
end Go.Proofs.Ytfnacpkodfhfoad
