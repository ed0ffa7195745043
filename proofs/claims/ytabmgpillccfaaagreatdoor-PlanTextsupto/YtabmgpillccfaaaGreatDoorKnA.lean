import Derived.Test.YtabmgpillccfaaaGreatDoorExG
import Derived.OwnWalk
set_option linter.all false
set_option maxRecDepth 100000
namespace Go.Proofs.YtabmgpillccfaaaGreatDoor
open Go.RowKit Go.Sort Go.Proofs.Tryz
theorem ss:(Tryz.prog.info? 3).map (λa=>(a.zero,a.size,a.bytes))=some (some (.int .i64 0),1,8):=by kernel_rfl
end Go.Proofs.YtabmgpillccfaaaGreatDoor
