import Derived.Test.YtcpndojkfngioaaGreatExR
set_option linter.unusedSimpArgs false
set_option linter.unusedVariables false
namespace Go.Proofs.YtcpndojkfngioaaGreat
open Go.RowKit Go.Sort

end Go.Proofs.YtcpndojkfngioaaGreat
