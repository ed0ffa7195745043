import Derived.Test.YtihkflcdphebmabPackE
set_option linter.unusedSimpArgs false
set_option linter.unusedVariables false
namespace Go.Proofs.Ytihkflcdphebmab
open Go.RowKit Go.Sort

/-- Those that are not null. -/
def standL (xs : List Val) : List Val := xs.filter fun x => x.k != 0
theorem stand_yes {xs : List Val} {k : Nat} {x : Val} (h : xs[k]? = some x) (hx : (x.k != 0) = true) : standL (xs.take (k + 1)) = standL (xs.take k) ++ [x] := by
  obtain ⟨h1, rfl⟩ := List.getElem?_eq_some_iff.1 h
  unfold standL
  rw [List.take_succ_eq_append_getElem h1, List.filter_append, List.filter_cons, hx]
  rfl
theorem stand_no {xs : List Val} {k : Nat} {x : Val} (h : xs[k]? = some x) (hx : (x.k != 0) = false) : standL (xs.take (k + 1)) = standL (xs.take k) := by
  obtain ⟨h1, rfl⟩ := List.getElem?_eq_some_iff.1 h
  unfold standL
  rw [List.take_succ_eq_append_getElem h1, List.filter_append, List.filter_cons, hx]
  simp
theorem stand_len (xs : List Val) : (standL xs).length ≤ xs.length := List.length_filter_le _ _

end Go.Proofs.Ytihkflcdphebmab
