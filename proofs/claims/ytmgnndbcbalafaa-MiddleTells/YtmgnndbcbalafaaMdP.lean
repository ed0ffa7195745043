import Derived.Test.YtmgnndbcbalafaaMdO
set_option linter.unusedSimpArgs false
set_option linter.unusedVariables false
namespace Go.Proofs.Ytmgnndbcbalafaa
open Go.RowKit Go.Sort

/-- What mod answers. -/
def modN (n : Int) (m : Nat) : Nat := ((n.tmod (m : Int) + (m : Int)).tmod (m : Int)).toNat
theorem modN_lt (n : Int) {m : Nat} (hm : 0 < m) : modN n m < m := by
  have h1 : 0 ≤ (n.tmod (m : Int) + (m : Int)).tmod (m : Int) := by
    refine Int.tmod_nonneg _ ?_
    have := Int.lt_tmod_of_pos n (show (0 : Int) < (m : Int) by omega)
    omega
  have h2 := Int.tmod_lt_of_pos (n.tmod (m : Int) + (m : Int)) (show (0 : Int) < (m : Int) by omega)
  unfold modN
  omega
set_option maxRecDepth 100000 in
theorem mod_any (n : Int) (m : Nat) (hm : 0 < m) (hm2 : m ≤ 2305843009213693952) (w : World) : Calls Try.prog 6 #[.int .i64 n, .int .i64 m] w fun e w' => e = .returned (.int .i64 (modN n m : Int)) ∧ w' = w := by
  have h0 : ¬ (m : Int) = 0 := by omega
  have h0' : ((m : Int) == 0) = false := by simp; omega
  obtain ⟨t, ht⟩ : ∃ t, n.tmod (m : Int) = t := ⟨_, rfl⟩
  have h1 : t < (m : Int) := by rw [← ht]; exact Int.tmod_lt_of_pos _ (by omega)
  have h2 : -(m : Int) < t := by
    rw [← ht]
    have := Int.lt_tmod_of_pos n (show (0 : Int) < (m : Int) by omega)
    exact this
  obtain ⟨r, hr⟩ : ∃ r : Nat, (t + (m : Int)).tmod (m : Int) = (r : Int) := ⟨((t + (m : Int)).tmod (m : Int)).toNat, by
    have : 0 ≤ (t + (m : Int)).tmod (m : Int) := Int.tmod_nonneg _ (by omega)
    omega⟩
  have h3 : (r : Int) < (m : Int) := by rw [← hr]; exact Int.tmod_lt_of_pos _ (by omega)
  have hw : IntKind.i64.wrap (t + (m : Int)) = t + (m : Int) := by rw [IntKind.wrap_i64]; omega
  have hmr : modN n m = r := by unfold modN; rw [ht]; omega
  rw [hmr]
  clear hmr
  go_enter Try.func6, Try.ntmps6
  go_wp2
  go_ret
  exact ⟨rfl, rfl⟩
end Go.Proofs.Ytmgnndbcbalafaa
