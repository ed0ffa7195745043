/-
  NARROWER THAN 'FOR EVERY INPUT', by the rows' own cells (each row's printed sentence says how): ExprSays: loops · ExprOver: loops.
  DERIVED. THE GIVEN ROWS OF THIS SEAT. 3 by the template 'for every input the law returns true; each argument reads behind the call as it read before'; 0 by the template 'total and deterministic' (their statements: YtmjeiepljlepbacGreatTotals.lean).
  GIVEN WITH THE SEED: the statements are not yours to turn. If you find one false, say at which input.
  Laid BY PROGRAM, IN A SANDBOX (cutbox-rows.mjs): the forced cells as the released guide's own fill.sh prints them over the translation ebd9315812f0f5e1… (all of the seat's roots in one cut). By AI agents, Wed Nov 11 2026. No macro, syntax, notation, axiom, sorry.
-/
import Derived.Test.YtmjeiepljlepbacGreatChecked
import GoSem.Claim
import GoSem.ClaimJoined
import GoSem.ClaimMapViews
import Derived.JoinedTies
import Derived.KernelRfl
namespace Go.Proofs.YtmjeiepljlepbacGreat
/- THE CELL 'sum', in the pinned program and in every row, IS THE sha256 OF THE DUMP (.gsa) THAT YtmjeiepljlepbacGreatProg.lean LOADS. Nothing in Lean hashes anything: it is a label: what it is worth is what the hold of that sum in a sandbox is worth. -/
noncomputable def Tryz.pinned : Pinned := { name := "ytmjeiepljlepbacgreat", sum := "ebd9315812f0f5e198a318a8f0bd5ac6c92de882456f73bdfe9ec81e4adb89a2", checked := Tryz.checked }
namespace Rows
def none {H : Type} : Left H := { results := [], args := [] }

/-- 'tallykeep.VecMemory': WHATEVER THE INPUT: true; the input reads as it did. -/
def vecMemorySpec : ChangeSpec := { name := "vecMemory", fn := fun _ => fun
  | [d1, d2, d3] => { results := [.lit (.bool true)], args := [d1, d2, d3] }
  | _ => none }
def vecMemoryRow : OpenClaim := { program := "ytmjeiepljlepbacgreat", sum := "ebd9315812f0f5e198a318a8f0bd5ac6c92de882456f73bdfe9ec81e4adb89a2", func := "tallyhouse/tallykeep.VecMemory", spec := "vecMemory", inPlace := ["internal/bytealg.abigen_runtime_cmpstring"], unfollowed := true, recurses := true, apart := false }
def VecMemorySaid : Prop := vecMemoryRow.holds Tryz.pinned (OpenSpec.ofChange vecMemorySpec)

/-- ITS FALSE NEIGHBOUR: 'it returns false'. Refute it at one input. -/
def vecMemoryWrong : ChangeSpec := { name := "vecMemory", fn := fun _ => fun
  | [d1, d2, d3] => { results := [.lit (.bool false)], args := [d1, d2, d3] }
  | _ => none }
def VecMemoryWrongFalsely : Prop := vecMemoryRow.holds Tryz.pinned (OpenSpec.ofChange vecMemoryWrong)

/-- 'tallylaw.ExprSays': WHATEVER THE INPUT: true; the input reads as it did. -/
def exprSaysSpec : ChangeSpec := { name := "exprSays", fn := fun _ => fun
  | [d1, d2, d3, d4] => { results := [.lit (.bool true)], args := [d1, d2, d3, d4] }
  | _ => none }
def exprSaysRow : OpenClaim := { program := "ytmjeiepljlepbacgreat", sum := "ebd9315812f0f5e198a318a8f0bd5ac6c92de882456f73bdfe9ec81e4adb89a2", func := "tallyhouse/tallylaw.ExprSays", spec := "exprSays", inPlace := ["internal/bytealg.abigen_runtime_cmpstring"], unfollowed := true, recurses := true, loops := true, apart := false }
def ExprSaysSaid : Prop := exprSaysRow.holds Tryz.pinned (OpenSpec.ofChange exprSaysSpec)

/-- ITS FALSE NEIGHBOUR: 'it returns false'. Refute it at one input. -/
def exprSaysWrong : ChangeSpec := { name := "exprSays", fn := fun _ => fun
  | [d1, d2, d3, d4] => { results := [.lit (.bool false)], args := [d1, d2, d3, d4] }
  | _ => none }
def ExprSaysWrongFalsely : Prop := exprSaysRow.holds Tryz.pinned (OpenSpec.ofChange exprSaysWrong)

/-- 'tallylaw.ExprOver': WHATEVER THE INPUT: true; the input reads as it did. -/
def exprOverSpec : ChangeSpec := { name := "exprOver", fn := fun _ => fun
  | [d1, d2, d3] => { results := [.lit (.bool true)], args := [d1, d2, d3] }
  | _ => none }
def exprOverRow : OpenClaim := { program := "ytmjeiepljlepbacgreat", sum := "ebd9315812f0f5e198a318a8f0bd5ac6c92de882456f73bdfe9ec81e4adb89a2", func := "tallyhouse/tallylaw.ExprOver", spec := "exprOver", inPlace := ["internal/bytealg.abigen_runtime_cmpstring"], unfollowed := true, recurses := true, loops := true, apart := false }
def ExprOverSaid : Prop := exprOverRow.holds Tryz.pinned (OpenSpec.ofChange exprOverSpec)

/-- ITS FALSE NEIGHBOUR: 'it returns false'. Refute it at one input. -/
def exprOverWrong : ChangeSpec := { name := "exprOver", fn := fun _ => fun
  | [d1, d2, d3] => { results := [.lit (.bool false)], args := [d1, d2, d3] }
  | _ => none }
def ExprOverWrongFalsely : Prop := exprOverRow.holds Tryz.pinned (OpenSpec.ofChange exprOverWrong)

/- THE SECOND FORM. 'bulk': how many values and letters a reading holds, each counted each time it is reached (what is shared counts as often as it is met; a slice's spare places count too). A statement '..UptoSaid' is the law's where the arguments, and the package variables that the reading takes, are together of bulk at most 1048576: NARROWER than '..Said'. Prove '..Said' where nothing that the law and all that it calls make is longer than what came in: it says more and counts as full. Else prove '..UptoSaid'. A law counts once. -/
mutual
def uptoBulk {H : Type} : DataW H → Nat
  | .lit (.string bytes) => bytes.length + 1
  | .lit _ => 1
  | .nil => 1
  | .ptr d => uptoBulk d + 1
  | .slice elems spare => uptoBulkAll elems + uptoBulkAll spare + 1
  | .agg parts => uptoBulkAll parts + 1
  | .iface _ d => uptoBulk d + 1
  | .map entries => uptoBulkEntries entries + 1
  | .held _ => 1
def uptoBulkAll {H : Type} : List (DataW H) → Nat
  | [] => 0
  | d :: r => uptoBulk d + uptoBulkAll r
def uptoBulkEntries {H : Type} : List (Lit × DataW H) → Nat
  | [] => 0
  | x :: r => uptoBulkEntry x + uptoBulkEntries r
def uptoBulkEntry {H : Type} : Lit × DataW H → Nat
  | (.string bytes, d) => bytes.length + uptoBulk d + 1
  | (_, d) => uptoBulk d + 1
 end
def uptoSmall : (H : Type) → List (DataW H) → Bool := fun _ ds => decide (uptoBulkAll ds ≤ 1048576)
def OpenSpec.upto (s : _root_.Go.ChangeSpec) : _root_.Go.OpenSpec := { _root_.Go.OpenSpec.ofChange s with cond := some uptoSmall }

/-- 'tallykeep.VecMemory', WHERE WHAT IT READS IS OF BULK AT MOST 1048576: true; the input reads as it did. -/
def vecMemoryUptoRow : OpenClaim := { program := "ytmjeiepljlepbacgreat", sum := "ebd9315812f0f5e198a318a8f0bd5ac6c92de882456f73bdfe9ec81e4adb89a2", func := "tallyhouse/tallykeep.VecMemory", spec := "vecMemory", inPlace := ["internal/bytealg.abigen_runtime_cmpstring"], unfollowed := true, recurses := true, apart := false, narrowed := true }
def VecMemoryUptoSaid : Prop := vecMemoryUptoRow.holds Tryz.pinned (OpenSpec.upto vecMemorySpec)

/-- 'tallylaw.ExprSays', WHERE WHAT IT READS IS OF BULK AT MOST 1048576: true; the input reads as it did. -/
def exprSaysUptoRow : OpenClaim := { program := "ytmjeiepljlepbacgreat", sum := "ebd9315812f0f5e198a318a8f0bd5ac6c92de882456f73bdfe9ec81e4adb89a2", func := "tallyhouse/tallylaw.ExprSays", spec := "exprSays", inPlace := ["internal/bytealg.abigen_runtime_cmpstring"], unfollowed := true, recurses := true, loops := true, apart := false, narrowed := true }
def ExprSaysUptoSaid : Prop := exprSaysUptoRow.holds Tryz.pinned (OpenSpec.upto exprSaysSpec)

/-- 'tallylaw.ExprOver', WHERE WHAT IT READS IS OF BULK AT MOST 1048576: true; the input reads as it did. -/
def exprOverUptoRow : OpenClaim := { program := "ytmjeiepljlepbacgreat", sum := "ebd9315812f0f5e198a318a8f0bd5ac6c92de882456f73bdfe9ec81e4adb89a2", func := "tallyhouse/tallylaw.ExprOver", spec := "exprOver", inPlace := ["internal/bytealg.abigen_runtime_cmpstring"], unfollowed := true, recurses := true, loops := true, apart := false, narrowed := true }
def ExprOverUptoSaid : Prop := exprOverUptoRow.holds Tryz.pinned (OpenSpec.upto exprOverSpec)

end Rows
end Go.Proofs.YtmjeiepljlepbacGreat
