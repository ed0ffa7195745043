import Derived.Test.YtbdkpkpncmagoaaGreatPackB
import Derived.Lib.AppendStr
set_option linter.unusedSimpArgs false
set_option linter.unusedVariables false
namespace Go.Proofs.YtbdkpkpncmagoaaGreat
open Go.RowKit Go.Sort

theorem pnull_any (x : Val) (w : World) : Calls Tryz.prog 72 #[x.v] w fun e w' => e = .returned (.bool (x.k == 0)) ∧ Below w.heap.size w w' := by
  rw [x.open_]
  go_enter Tryz.func72, Tryz.ntmps72
  go_wp2
  go_ret
  exact ⟨rfl, (Below.refl _ _).alloc (Nat.le_refl _) _⟩
/-- So many bytes for k numbers of d bits. -/
def bytesN (k d : Nat) : Nat := (k * d + 7) / 8
theorem bytesfor_any (k d : Nat) (w : World) (hk : k ≤ 1000000) (hd : d ≤ 64) : Calls Tryz.prog 110 #[.int .i64 k, .int .i64 d] w fun e w' => e = .returned (.int .i64 (bytesN k d)) ∧ w' = w := by
  have hm : (k : Int) * (d : Int) ≤ 64000000 := by
    have := Nat.mul_le_mul hk hd
    have e : ((k * d : Nat) : Int) = (k : Int) * (d : Int) := by simp
    omega
  have hm0 : (0 : Int) ≤ (k : Int) * (d : Int) := Int.mul_nonneg (by omega) (by omega)
  have e1 : ((k : Int) * (d : Int) + 7).tdiv 8 = (bytesN k d : Int) := by
    rw [Int.tdiv_eq_ediv_of_nonneg (by omega)]
    unfold bytesN
    simp
  obtain ⟨M, hM⟩ : ∃ M, M = (k : Int) * (d : Int) := ⟨_, rfl⟩
  rw [← hM] at hm hm0 e1
  go_enter Tryz.func110, Tryz.ntmps110
  go_wp2
  try rw [← hM]
  go_ret
  refine ⟨?_, rfl⟩
  first | rw [e1] | rw [e2] | (rw [Int.tdiv_eq_ediv_of_nonneg (by omega)] at e1; rw [e1]; rfl)
end Go.Proofs.YtbdkpkpncmagoaaGreat
