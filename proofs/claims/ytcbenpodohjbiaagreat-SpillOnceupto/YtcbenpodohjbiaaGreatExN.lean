import Derived.Test.YtcbenpodohjbiaaGreatAnyG
import Derived.Test.YtcbenpodohjbiaaGreatPlA
import Derived.Test.YtcbenpodohjbiaaGreatExA
import Derived.ProofKit
import Derived.OpenShut
import Derived.Lib.SmallJoins
import Derived.ChangeOld
import Derived.Deep.Slices
import Derived.Deep.Strs
import Derived.JoinedCond
import Derived.SizedLaws
set_option linter.unusedSimpArgs false
set_option linter.unusedVariables false
namespace Go.Proofs.YtcbenpodohjbiaaGreat
open Go.RowKit Go.Sort

theorem BoxAt.kept {lo : Nat} {N : List Nat} {w w' : World} {B : Nat} {v : Val} (h : BoxAt w B v) (hk : Kept lo N w w') (h1 : lo ≤ B) (h3 : B ∉ N) : BoxAt w' B v := ⟨Kept.cell h.1 hk h1 h3, Kept.cell h.2.1 hk h1 h3, Kept.cell h.2.2 hk h1 h3⟩
end Go.Proofs.YtcbenpodohjbiaaGreat
