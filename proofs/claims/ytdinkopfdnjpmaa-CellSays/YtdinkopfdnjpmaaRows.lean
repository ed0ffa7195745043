/-
  No cell of these rows narrows 'for every input' (looked for: loops, veiled, ifaces, maps, wideKeys, modest, calm, conditions, laid).
  DERIVED. THE GIVEN ROWS OF THIS SEAT. 6 by the template 'for every input the law returns true; each argument reads behind the call as it read before'; 0 by the template 'total and deterministic' (their statements: YtdinkopfdnjpmaaTotals.lean).
  GIVEN WITH THE SEED: the statements are not yours to turn. If you find one false, say at which input.
  Laid BY PROGRAM, IN A SANDBOX (cutbox-rows.mjs): the forced cells as the released guide's own fill.sh prints them over the translation c287ad3ef724f5d1… (all of the seat's roots in one cut). By AI agents, Wed Nov 11 2026. No macro, syntax, notation, axiom, sorry.
-/
import Derived.Test.YtdinkopfdnjpmaaChecked
import GoSem.Claim
import GoSem.ClaimJoined
import GoSem.ClaimMapViews
import Derived.JoinedTies
import Derived.KernelRfl
namespace Go.Proofs.Ytdinkopfdnjpmaa
/- THE CELL 'sum', in the pinned program and in every row, IS THE sha256 OF THE DUMP (.gsa) THAT YtdinkopfdnjpmaaProg.lean LOADS. Nothing in Lean hashes anything: it is a label: what it is worth is what the hold of that sum in a sandbox is worth. -/
noncomputable def Try.pinned : Pinned := { name := "ytdinkopfdnjpmaa", sum := "c287ad3ef724f5d182f4d6f044edad7d2ee40d45c689940b598c175310e32ed1", checked := Try.checked }
namespace Rows
def none {H : Type} : Left H := { results := [], args := [] }

/-- 'tallylaw.CellSays': WHATEVER THE INPUT: true; the input reads as it did. -/
def cellSaysSpec : ChangeSpec := { name := "cellSays", fn := fun _ => fun
  | [d1, d2, d3] => { results := [.lit (.bool true)], args := [d1, d2, d3] }
  | _ => none }
def cellSaysRow : OpenClaim := { program := "ytdinkopfdnjpmaa", sum := "c287ad3ef724f5d182f4d6f044edad7d2ee40d45c689940b598c175310e32ed1", func := "tallyhouse/tallylaw.CellSays", spec := "cellSays", inPlace := ["internal/bytealg.abigen_runtime_cmpstring"], unfollowed := true, recurses := true, apart := false }
def CellSaysSaid : Prop := cellSaysRow.holds Try.pinned (OpenSpec.ofChange cellSaysSpec)

/-- ITS FALSE NEIGHBOUR: 'it returns false'. Refute it at one input. -/
def cellSaysWrong : ChangeSpec := { name := "cellSays", fn := fun _ => fun
  | [d1, d2, d3] => { results := [.lit (.bool false)], args := [d1, d2, d3] }
  | _ => none }
def CellSaysWrongFalsely : Prop := cellSaysRow.holds Try.pinned (OpenSpec.ofChange cellSaysWrong)

/-- 'tallylaw.CellRows': WHATEVER THE INPUT: true; the input reads as it did. -/
def cellRowsSpec : ChangeSpec := { name := "cellRows", fn := fun _ => fun
  | [d1, d2] => { results := [.lit (.bool true)], args := [d1, d2] }
  | _ => none }
def cellRowsRow : OpenClaim := { program := "ytdinkopfdnjpmaa", sum := "c287ad3ef724f5d182f4d6f044edad7d2ee40d45c689940b598c175310e32ed1", func := "tallyhouse/tallylaw.CellRows", spec := "cellRows", inPlace := ["internal/bytealg.abigen_runtime_cmpstring"], unfollowed := true, recurses := true, apart := false }
def CellRowsSaid : Prop := cellRowsRow.holds Try.pinned (OpenSpec.ofChange cellRowsSpec)

/-- ITS FALSE NEIGHBOUR: 'it returns false'. Refute it at one input. -/
def cellRowsWrong : ChangeSpec := { name := "cellRows", fn := fun _ => fun
  | [d1, d2] => { results := [.lit (.bool false)], args := [d1, d2] }
  | _ => none }
def CellRowsWrongFalsely : Prop := cellRowsRow.holds Try.pinned (OpenSpec.ofChange cellRowsWrong)

/-- 'tallylaw.CellReads': WHATEVER THE INPUT: true; the input reads as it did. -/
def cellReadsSpec : ChangeSpec := { name := "cellReads", fn := fun _ => fun
  | [d] => { results := [.lit (.bool true)], args := [d] }
  | _ => none }
def cellReadsRow : OpenClaim := { program := "ytdinkopfdnjpmaa", sum := "c287ad3ef724f5d182f4d6f044edad7d2ee40d45c689940b598c175310e32ed1", func := "tallyhouse/tallylaw.CellReads", spec := "cellReads", apart := false }
def CellReadsSaid : Prop := cellReadsRow.holds Try.pinned (OpenSpec.ofChange cellReadsSpec)

/-- ITS FALSE NEIGHBOUR: 'it returns false'. Refute it at one input. -/
def cellReadsWrong : ChangeSpec := { name := "cellReads", fn := fun _ => fun
  | [d] => { results := [.lit (.bool false)], args := [d] }
  | _ => none }
def CellReadsWrongFalsely : Prop := cellReadsRow.holds Try.pinned (OpenSpec.ofChange cellReadsWrong)

/-- 'tallykeep.CellKeys': WHATEVER THE INPUT: true; the input reads as it did. -/
def cellKeysSpec : ChangeSpec := { name := "cellKeys", fn := fun _ => fun
  | [d1, d2] => { results := [.lit (.bool true)], args := [d1, d2] }
  | _ => none }
def cellKeysRow : OpenClaim := { program := "ytdinkopfdnjpmaa", sum := "c287ad3ef724f5d182f4d6f044edad7d2ee40d45c689940b598c175310e32ed1", func := "tallyhouse/tallykeep.CellKeys", spec := "cellKeys", inPlace := ["internal/bytealg.abigen_runtime_cmpstring"], unfollowed := true, recurses := true, apart := false }
def CellKeysSaid : Prop := cellKeysRow.holds Try.pinned (OpenSpec.ofChange cellKeysSpec)

/-- ITS FALSE NEIGHBOUR: 'it returns false'. Refute it at one input. -/
def cellKeysWrong : ChangeSpec := { name := "cellKeys", fn := fun _ => fun
  | [d1, d2] => { results := [.lit (.bool false)], args := [d1, d2] }
  | _ => none }
def CellKeysWrongFalsely : Prop := cellKeysRow.holds Try.pinned (OpenSpec.ofChange cellKeysWrong)

/-- 'tallykeep.CellReckons': WHATEVER THE INPUT: true; the input reads as it did. -/
def cellReckonsSpec : ChangeSpec := { name := "cellReckons", fn := fun _ => fun
  | [d1, d2] => { results := [.lit (.bool true)], args := [d1, d2] }
  | _ => none }
def cellReckonsRow : OpenClaim := { program := "ytdinkopfdnjpmaa", sum := "c287ad3ef724f5d182f4d6f044edad7d2ee40d45c689940b598c175310e32ed1", func := "tallyhouse/tallykeep.CellReckons", spec := "cellReckons", unfollowed := true, recurses := true, apart := false }
def CellReckonsSaid : Prop := cellReckonsRow.holds Try.pinned (OpenSpec.ofChange cellReckonsSpec)

/-- ITS FALSE NEIGHBOUR: 'it returns false'. Refute it at one input. -/
def cellReckonsWrong : ChangeSpec := { name := "cellReckons", fn := fun _ => fun
  | [d1, d2] => { results := [.lit (.bool false)], args := [d1, d2] }
  | _ => none }
def CellReckonsWrongFalsely : Prop := cellReckonsRow.holds Try.pinned (OpenSpec.ofChange cellReckonsWrong)

/-- 'tallykeep.CellBoth': WHATEVER THE INPUT: true; the input reads as it did. -/
def cellBothSpec : ChangeSpec := { name := "cellBoth", fn := fun _ => fun
  | [d1, d2] => { results := [.lit (.bool true)], args := [d1, d2] }
  | _ => none }
def cellBothRow : OpenClaim := { program := "ytdinkopfdnjpmaa", sum := "c287ad3ef724f5d182f4d6f044edad7d2ee40d45c689940b598c175310e32ed1", func := "tallyhouse/tallykeep.CellBoth", spec := "cellBoth", apart := false }
def CellBothSaid : Prop := cellBothRow.holds Try.pinned (OpenSpec.ofChange cellBothSpec)

/-- ITS FALSE NEIGHBOUR: 'it returns false'. Refute it at one input. -/
def cellBothWrong : ChangeSpec := { name := "cellBoth", fn := fun _ => fun
  | [d1, d2] => { results := [.lit (.bool false)], args := [d1, d2] }
  | _ => none }
def CellBothWrongFalsely : Prop := cellBothRow.holds Try.pinned (OpenSpec.ofChange cellBothWrong)

/- THE SECOND FORM. 'bulk': how many values and letters a reading holds, each counted each time it is reached (what is shared counts as often as it is met; a slice's spare places count too). A statement '..UptoSaid' is the law's where the arguments, and the package variables that the reading takes, are together of bulk at most 1048576: NARROWER than '..Said'. Prove '..Said' where nothing that the law and all that it calls make is longer than what came in: it says more and counts as full. Else prove '..UptoSaid'. A law counts once. -/
mutual
def uptoBulk {H : Type} : DataW H → Nat
  | .lit (.string bytes) => bytes.length + 1
  | .lit _ => 1
  | .nil => 1
  | .ptr d => uptoBulk d + 1
  | .slice elems spare => uptoBulkAll elems + uptoBulkAll spare + 1
  | .agg parts => uptoBulkAll parts + 1
  | .iface _ d => uptoBulk d + 1
  | .map entries => uptoBulkEntries entries + 1
  | .held _ => 1
def uptoBulkAll {H : Type} : List (DataW H) → Nat
  | [] => 0
  | d :: r => uptoBulk d + uptoBulkAll r
def uptoBulkEntries {H : Type} : List (Lit × DataW H) → Nat
  | [] => 0
  | x :: r => uptoBulkEntry x + uptoBulkEntries r
def uptoBulkEntry {H : Type} : Lit × DataW H → Nat
  | (.string bytes, d) => bytes.length + uptoBulk d + 1
  | (_, d) => uptoBulk d + 1
 end
def uptoSmall : (H : Type) → List (DataW H) → Bool := fun _ ds => decide (uptoBulkAll ds ≤ 1048576)
def OpenSpec.upto (s : _root_.Go.ChangeSpec) : _root_.Go.OpenSpec := { _root_.Go.OpenSpec.ofChange s with cond := some uptoSmall }

/-- 'tallylaw.CellSays', WHERE WHAT IT READS IS OF BULK AT MOST 1048576: true; the input reads as it did. -/
def cellSaysUptoRow : OpenClaim := { program := "ytdinkopfdnjpmaa", sum := "c287ad3ef724f5d182f4d6f044edad7d2ee40d45c689940b598c175310e32ed1", func := "tallyhouse/tallylaw.CellSays", spec := "cellSays", inPlace := ["internal/bytealg.abigen_runtime_cmpstring"], unfollowed := true, recurses := true, apart := false, narrowed := true }
def CellSaysUptoSaid : Prop := cellSaysUptoRow.holds Try.pinned (OpenSpec.upto cellSaysSpec)

/-- 'tallylaw.CellRows', WHERE WHAT IT READS IS OF BULK AT MOST 1048576: true; the input reads as it did. -/
def cellRowsUptoRow : OpenClaim := { program := "ytdinkopfdnjpmaa", sum := "c287ad3ef724f5d182f4d6f044edad7d2ee40d45c689940b598c175310e32ed1", func := "tallyhouse/tallylaw.CellRows", spec := "cellRows", inPlace := ["internal/bytealg.abigen_runtime_cmpstring"], unfollowed := true, recurses := true, apart := false, narrowed := true }
def CellRowsUptoSaid : Prop := cellRowsUptoRow.holds Try.pinned (OpenSpec.upto cellRowsSpec)

/-- 'tallylaw.CellReads', WHERE WHAT IT READS IS OF BULK AT MOST 1048576: true; the input reads as it did. -/
def cellReadsUptoRow : OpenClaim := { program := "ytdinkopfdnjpmaa", sum := "c287ad3ef724f5d182f4d6f044edad7d2ee40d45c689940b598c175310e32ed1", func := "tallyhouse/tallylaw.CellReads", spec := "cellReads", apart := false, narrowed := true }
def CellReadsUptoSaid : Prop := cellReadsUptoRow.holds Try.pinned (OpenSpec.upto cellReadsSpec)

/-- 'tallykeep.CellKeys', WHERE WHAT IT READS IS OF BULK AT MOST 1048576: true; the input reads as it did. -/
def cellKeysUptoRow : OpenClaim := { program := "ytdinkopfdnjpmaa", sum := "c287ad3ef724f5d182f4d6f044edad7d2ee40d45c689940b598c175310e32ed1", func := "tallyhouse/tallykeep.CellKeys", spec := "cellKeys", inPlace := ["internal/bytealg.abigen_runtime_cmpstring"], unfollowed := true, recurses := true, apart := false, narrowed := true }
def CellKeysUptoSaid : Prop := cellKeysUptoRow.holds Try.pinned (OpenSpec.upto cellKeysSpec)

/-- 'tallykeep.CellReckons', WHERE WHAT IT READS IS OF BULK AT MOST 1048576: true; the input reads as it did. -/
def cellReckonsUptoRow : OpenClaim := { program := "ytdinkopfdnjpmaa", sum := "c287ad3ef724f5d182f4d6f044edad7d2ee40d45c689940b598c175310e32ed1", func := "tallyhouse/tallykeep.CellReckons", spec := "cellReckons", unfollowed := true, recurses := true, apart := false, narrowed := true }
def CellReckonsUptoSaid : Prop := cellReckonsUptoRow.holds Try.pinned (OpenSpec.upto cellReckonsSpec)

/-- 'tallykeep.CellBoth', WHERE WHAT IT READS IS OF BULK AT MOST 1048576: true; the input reads as it did. -/
def cellBothUptoRow : OpenClaim := { program := "ytdinkopfdnjpmaa", sum := "c287ad3ef724f5d182f4d6f044edad7d2ee40d45c689940b598c175310e32ed1", func := "tallyhouse/tallykeep.CellBoth", spec := "cellBoth", apart := false, narrowed := true }
def CellBothUptoSaid : Prop := cellBothUptoRow.holds Try.pinned (OpenSpec.upto cellBothSpec)

end Rows
end Go.Proofs.Ytdinkopfdnjpmaa
