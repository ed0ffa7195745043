import Derived.Test.YtcbenpodohjbiaaGreatExA
import Derived.Test.YtcbenpodohjbiaaGreatPuB
import Derived.OwnWalk
set_option linter.unusedSimpArgs false
set_option linter.unusedVariables false
set_option maxRecDepth 100000
namespace Go.Proofs.YtcbenpodohjbiaaGreat
open Go.RowKit Go.Sort

theorem OwnI.at {w : World} {base g N cap k : Nat} {L : List Int} {x : Int} (h : OwnI w base (.slice (some ⟨g, 0, none⟩) N cap) L) (hN : N = L.length) (hx : L[k]? = some x) : w.cell? ⟨g, k, none⟩ = some (.int .i64 x) ∧ w.frozen? ⟨g, k, none⟩ = false := by
  subst hN
  have hk := (List.getElem?_eq_some_iff.1 hx).1
  refine ⟨?_, World.ownsRow.frozenAt h k⟩
  rw [World.ownsRow.cellAt h k (by omega), List.getElem?_map, hx]
  rfl
end Go.Proofs.YtcbenpodohjbiaaGreat
