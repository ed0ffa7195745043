import Derived.Test.YtcbenpodohjbiaaGreatTbH
import Derived.Test.YtcbenpodohjbiaaGreatPlA
import Derived.Test.YtcbenpodohjbiaaGreatExN
import Derived.Test.YtcbenpodohjbiaaGreatPaB
import Derived.Test.YtcbenpodohjbiaaGreatExA
import Derived.Test.YtcbenpodohjbiaaGreatPuB
import Derived.Laws.EntriesVeiled
import Derived.Deep.CutBlock
import Derived.Lib.QuietBelow
set_option linter.unusedSimpArgs false
set_option linter.unusedVariables false
namespace Go.Proofs.YtcbenpodohjbiaaGreat
open Go.RowKit Go.Sort

set_option maxRecDepth 100000 in
/-- num (7). -/
theorem num_any (n : Int) (w : World) : Calls Tryz.prog 26 #[.int .i64 n] w fun e w' => e = .returned (.int .i64 n) ∧ Below w.heap.size w w' := by
  go_enter Tryz.func26, Tryz.ntmps26
  go_wp2
  go_ret
  exact ⟨rfl, Below.refl _ _⟩
end Go.Proofs.YtcbenpodohjbiaaGreat
