import Derived.Test.YtcbenpodohjbiaaGreatPuB
import Derived.Test.YtcbenpodohjbiaaGreatShelf
import Derived.Lib.SlicesCompact
import Derived.Sort.OwnSortedInts
import Derived.Lib.OwnBridge
set_option linter.unusedSimpArgs false
set_option linter.unusedVariables false
set_option maxRecDepth 100000
namespace Go.Proofs.YtcbenpodohjbiaaGreat
open Go.RowKit Go.Sort Go.Shelf

/-- slices.Sort (75) of numbers of the call's own. -/
theorem isort_any (base : Nat) (xs : List Int) (v : Value) (w : World) (hl : xs.length ≤ 1048576) (hown : OwnI w base v xs) (hb : base ≤ w.heap.size) :
    Calls Tryz.prog 36 #[v] w fun e w' => e = .returned (.tuple #[]) ∧ OwnI w' base v (xs.mergeSort fun x y => decide (x ≤ y)) ∧ Below base w w' := by
  have hml : (xs.mergeSort fun x y => decide (x ≤ y)).length = xs.length := List.length_mergeSort xs
  rcases hown.2 with ⟨rfl, h0⟩ | ⟨g, cap, cur, rfl, hge, hh, hnc, hcm, hcs, htake⟩
  · have hx : xs = [] := List.eq_nil_of_length_eq_zero h0
    subst hx
    have hcon := Any.slices_Sort_int_none Tryz.sortI none 0 w
    change Calls Tryz.prog 36 _ _ _ at hcon
    refine hcon.mono ?_
    rintro e w' ⟨rfl, rfl⟩
    exact ⟨rfl, by rw [List.mergeSort_nil]; exact hown, Below.refl _ _⟩
  · obtain ⟨g', cap', e', _, hgl, _, _, _, hH⟩ := Lib.holds_of_ownsRow hown (by simp)
    injection e' with e1 _ e3
    injection e1 with e1
    injection e1 with e1
    subst e1 e3
    have hcon := Any.slices_Sort_int Tryz.sortI g 0 cap xs w hH hgl (by omega)
    change Calls Tryz.prog 36 _ _ _ at hcon
    refine hcon.mono ?_
    rintro e w' ⟨rfl, n, os, rfl⟩
    refine ⟨rfl, ?_, (Below.refl base w).grown (grownBy_sortedI _) hb fun j hj => by cases hj; exact hge⟩
    unfold OwnI
    rw [hml]
    exact ownsRow_sortedI hml hge hh hnc hcm hcs
end Go.Proofs.YtcbenpodohjbiaaGreat
