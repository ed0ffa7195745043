import Derived.Test.YtcbenpodohjbiaaGreatExA
import Derived.Test.YtcbenpodohjbiaaGreatPlA
import Derived.Test.YtcbenpodohjbiaaGreatOwnA
import Derived.ProofKit
import Derived.OpenShut
import Derived.Lib.SmallJoins
import Derived.ChangeOld
import Derived.Deep.Slices
import Derived.Deep.Strs
import Derived.JoinedCond
import Derived.SizedLaws
import Derived.Maps.AppendAt
import Derived.Laws.AppendOwnNone
import Derived.Lib.SliceRun
set_option linter.unusedSimpArgs false
set_option linter.unusedVariables false
namespace Go.Proofs.YtcbenpodohjbiaaGreat
open Go.RowKit Go.Sort

end Go.Proofs.YtcbenpodohjbiaaGreat
