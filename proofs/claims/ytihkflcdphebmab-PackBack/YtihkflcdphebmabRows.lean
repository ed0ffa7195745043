/-
  No cell of these rows narrows 'for every input' (looked for: loops, veiled, ifaces, maps, wideKeys, modest, calm, conditions, laid).
  DERIVED. THE GIVEN ROWS OF THIS SEAT. 4 by the template 'for every input the law returns true; each argument reads behind the call as it read before'; 0 by the template 'total and deterministic' (their statements: YtihkflcdphebmabTotals.lean).
  GIVEN WITH THE SEED: the statements are not yours to turn. If you find one false, say at which input.
  Laid BY PROGRAM, IN A SANDBOX (cutbox-rows.mjs): the forced cells as the released guide's own fill.sh prints them over the translation 69fffc3e34718ff0… (all of the seat's roots in one cut). By AI agents, Wed Nov 11 2026. No macro, syntax, notation, axiom, sorry.
-/
import Derived.Test.YtihkflcdphebmabChecked
import GoSem.Claim
import GoSem.ClaimJoined
import GoSem.ClaimMapViews
import Derived.JoinedTies
import Derived.KernelRfl
namespace Go.Proofs.Ytihkflcdphebmab
/- THE CELL 'sum', in the pinned program and in every row, IS THE sha256 OF THE DUMP (.gsa) THAT YtihkflcdphebmabProg.lean LOADS. Nothing in Lean hashes anything: it is a label: what it is worth is what the hold of that sum in a sandbox is worth. -/
noncomputable def Try.pinned : Pinned := { name := "ytihkflcdphebmab", sum := "69fffc3e34718ff09f48f122775f816ab9de5cc4b4cf4ff090b0dc028e31ebd3", checked := Try.checked }
namespace Rows
def none {H : Type} : Left H := { results := [], args := [] }

/-- 'tallylaw.VecMakes': WHATEVER THE INPUT: true; the input reads as it did. -/
def vecMakesSpec : ChangeSpec := { name := "vecMakes", fn := fun _ => fun
  | [d1, d2] => { results := [.lit (.bool true)], args := [d1, d2] }
  | _ => none }
def vecMakesRow : OpenClaim := { program := "ytihkflcdphebmab", sum := "69fffc3e34718ff09f48f122775f816ab9de5cc4b4cf4ff090b0dc028e31ebd3", func := "tallyhouse/tallylaw.VecMakes", spec := "vecMakes", apart := false }
def VecMakesSaid : Prop := vecMakesRow.holds Try.pinned (OpenSpec.ofChange vecMakesSpec)

/-- ITS FALSE NEIGHBOUR: 'it returns false'. Refute it at one input. -/
def vecMakesWrong : ChangeSpec := { name := "vecMakes", fn := fun _ => fun
  | [d1, d2] => { results := [.lit (.bool false)], args := [d1, d2] }
  | _ => none }
def VecMakesWrongFalsely : Prop := vecMakesRow.holds Try.pinned (OpenSpec.ofChange vecMakesWrong)

/-- 'tallylaw.VecSays': WHATEVER THE INPUT: true; the input reads as it did. -/
def vecSaysSpec : ChangeSpec := { name := "vecSays", fn := fun _ => fun
  | [d1, d2, d3, d4] => { results := [.lit (.bool true)], args := [d1, d2, d3, d4] }
  | _ => none }
def vecSaysRow : OpenClaim := { program := "ytihkflcdphebmab", sum := "69fffc3e34718ff09f48f122775f816ab9de5cc4b4cf4ff090b0dc028e31ebd3", func := "tallyhouse/tallylaw.VecSays", spec := "vecSays", unfollowed := true, recurses := true, apart := false }
def VecSaysSaid : Prop := vecSaysRow.holds Try.pinned (OpenSpec.ofChange vecSaysSpec)

/-- ITS FALSE NEIGHBOUR: 'it returns false'. Refute it at one input. -/
def vecSaysWrong : ChangeSpec := { name := "vecSays", fn := fun _ => fun
  | [d1, d2, d3, d4] => { results := [.lit (.bool false)], args := [d1, d2, d3, d4] }
  | _ => none }
def VecSaysWrongFalsely : Prop := vecSaysRow.holds Try.pinned (OpenSpec.ofChange vecSaysWrong)

/-- 'tallylaw.VecTables': WHATEVER THE INPUT: true; the input reads as it did. -/
def vecTablesSpec : ChangeSpec := { name := "vecTables", fn := fun _ => fun
  | [d] => { results := [.lit (.bool true)], args := [d] }
  | _ => none }
def vecTablesRow : OpenClaim := { program := "ytihkflcdphebmab", sum := "69fffc3e34718ff09f48f122775f816ab9de5cc4b4cf4ff090b0dc028e31ebd3", func := "tallyhouse/tallylaw.VecTables", spec := "vecTables", unfollowed := true, recurses := true, apart := false }
def VecTablesSaid : Prop := vecTablesRow.holds Try.pinned (OpenSpec.ofChange vecTablesSpec)

/-- ITS FALSE NEIGHBOUR: 'it returns false'. Refute it at one input. -/
def vecTablesWrong : ChangeSpec := { name := "vecTables", fn := fun _ => fun
  | [d] => { results := [.lit (.bool false)], args := [d] }
  | _ => none }
def VecTablesWrongFalsely : Prop := vecTablesRow.holds Try.pinned (OpenSpec.ofChange vecTablesWrong)

/-- 'tallykeep.PackBack': WHATEVER THE INPUT: true; the input reads as it did. -/
def packBackSpec : ChangeSpec := { name := "packBack", fn := fun _ => fun
  | [d1, d2, d3, d4, d5] => { results := [.lit (.bool true)], args := [d1, d2, d3, d4, d5] }
  | _ => none }
def packBackRow : OpenClaim := { program := "ytihkflcdphebmab", sum := "69fffc3e34718ff09f48f122775f816ab9de5cc4b4cf4ff090b0dc028e31ebd3", func := "tallyhouse/tallykeep.PackBack", spec := "packBack", inPlace := ["internal/bytealg.abigen_runtime_cmpstring"], unfollowed := true, recurses := true, apart := false }
def PackBackSaid : Prop := packBackRow.holds Try.pinned (OpenSpec.ofChange packBackSpec)

/-- ITS FALSE NEIGHBOUR: 'it returns false'. Refute it at one input. -/
def packBackWrong : ChangeSpec := { name := "packBack", fn := fun _ => fun
  | [d1, d2, d3, d4, d5] => { results := [.lit (.bool false)], args := [d1, d2, d3, d4, d5] }
  | _ => none }
def PackBackWrongFalsely : Prop := packBackRow.holds Try.pinned (OpenSpec.ofChange packBackWrong)

/- THE SECOND FORM. 'bulk': how many values and letters a reading holds, each counted each time it is reached (what is shared counts as often as it is met; a slice's spare places count too). A statement '..UptoSaid' is the law's where the arguments, and the package variables that the reading takes, are together of bulk at most 1048576: NARROWER than '..Said'. Prove '..Said' where nothing that the law and all that it calls make is longer than what came in: it says more and counts as full. Else prove '..UptoSaid'. A law counts once. -/
mutual
def uptoBulk {H : Type} : DataW H → Nat
  | .lit (.string bytes) => bytes.length + 1
  | .lit _ => 1
  | .nil => 1
  | .ptr d => uptoBulk d + 1
  | .slice elems spare => uptoBulkAll elems + uptoBulkAll spare + 1
  | .agg parts => uptoBulkAll parts + 1
  | .iface _ d => uptoBulk d + 1
  | .map entries => uptoBulkEntries entries + 1
  | .held _ => 1
def uptoBulkAll {H : Type} : List (DataW H) → Nat
  | [] => 0
  | d :: r => uptoBulk d + uptoBulkAll r
def uptoBulkEntries {H : Type} : List (Lit × DataW H) → Nat
  | [] => 0
  | x :: r => uptoBulkEntry x + uptoBulkEntries r
def uptoBulkEntry {H : Type} : Lit × DataW H → Nat
  | (.string bytes, d) => bytes.length + uptoBulk d + 1
  | (_, d) => uptoBulk d + 1
 end
def uptoSmall : (H : Type) → List (DataW H) → Bool := fun _ ds => decide (uptoBulkAll ds ≤ 1048576)
def OpenSpec.upto (s : _root_.Go.ChangeSpec) : _root_.Go.OpenSpec := { _root_.Go.OpenSpec.ofChange s with cond := some uptoSmall }

/-- 'tallylaw.VecMakes', WHERE WHAT IT READS IS OF BULK AT MOST 1048576: true; the input reads as it did. -/
def vecMakesUptoRow : OpenClaim := { program := "ytihkflcdphebmab", sum := "69fffc3e34718ff09f48f122775f816ab9de5cc4b4cf4ff090b0dc028e31ebd3", func := "tallyhouse/tallylaw.VecMakes", spec := "vecMakes", apart := false, narrowed := true }
def VecMakesUptoSaid : Prop := vecMakesUptoRow.holds Try.pinned (OpenSpec.upto vecMakesSpec)

/-- 'tallylaw.VecSays', WHERE WHAT IT READS IS OF BULK AT MOST 1048576: true; the input reads as it did. -/
def vecSaysUptoRow : OpenClaim := { program := "ytihkflcdphebmab", sum := "69fffc3e34718ff09f48f122775f816ab9de5cc4b4cf4ff090b0dc028e31ebd3", func := "tallyhouse/tallylaw.VecSays", spec := "vecSays", unfollowed := true, recurses := true, apart := false, narrowed := true }
def VecSaysUptoSaid : Prop := vecSaysUptoRow.holds Try.pinned (OpenSpec.upto vecSaysSpec)

/-- 'tallylaw.VecTables', WHERE WHAT IT READS IS OF BULK AT MOST 1048576: true; the input reads as it did. -/
def vecTablesUptoRow : OpenClaim := { program := "ytihkflcdphebmab", sum := "69fffc3e34718ff09f48f122775f816ab9de5cc4b4cf4ff090b0dc028e31ebd3", func := "tallyhouse/tallylaw.VecTables", spec := "vecTables", unfollowed := true, recurses := true, apart := false, narrowed := true }
def VecTablesUptoSaid : Prop := vecTablesUptoRow.holds Try.pinned (OpenSpec.upto vecTablesSpec)

/-- 'tallykeep.PackBack', WHERE WHAT IT READS IS OF BULK AT MOST 1048576: true; the input reads as it did. -/
def packBackUptoRow : OpenClaim := { program := "ytihkflcdphebmab", sum := "69fffc3e34718ff09f48f122775f816ab9de5cc4b4cf4ff090b0dc028e31ebd3", func := "tallyhouse/tallykeep.PackBack", spec := "packBack", inPlace := ["internal/bytealg.abigen_runtime_cmpstring"], unfollowed := true, recurses := true, apart := false, narrowed := true }
def PackBackUptoSaid : Prop := packBackUptoRow.holds Try.pinned (OpenSpec.upto packBackSpec)

end Rows
end Go.Proofs.Ytihkflcdphebmab
