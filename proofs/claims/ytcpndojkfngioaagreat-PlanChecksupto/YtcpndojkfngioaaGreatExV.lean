import Derived.Test.YtcpndojkfngioaaGreatExS
import Derived.Test.YtcpndojkfngioaaGreatExU
set_option linter.unusedSimpArgs false
set_option linter.unusedVariables false
namespace Go.Proofs.YtcpndojkfngioaaGreat
open Go.RowKit Go.Sort

theorem ar_le (op : Int) : arI op = 0 ∨ arI op = 1 ∨ arI op = 2 ∨ arI op = 3 ∨ arI op < 0 := by
  unfold arI
  repeat' split
  all_goals omega
/-- What Eval answers. -/
def evalB (row : List Val) (e : Ex) : Val := if builtE e then evalE row e else .null
/-- A function that answers as Eval does, by the blocks that it needs. -/
def WorkB (lo : Nat) (N : List Nat) (W : World) (F : Value) (e : Ex) : Prop := ∃ n k, F = .func (.func n) #[] k ∧ Enters n ∧ ∀ W' a c row, Kept lo N W W' → RowAt W' a row → (∀ x ∈ row, VOk x) → row.length ≤ 140737488355328 → Calls Tryz.prog n (#[.slice a row.length c] ++ k) W' fun r w' => r = .returned (evalB row e).v ∧ Below W'.heap.size W' w'
theorem WorkB.more {lo lo' : Nat} {W : World} {F : Value} {x : Ex} (h : WorkB lo [] W F x) (hl : lo' ≤ lo) : WorkB lo' [] W F x := by
  obtain ⟨n, k, rfl, e, H⟩ := h
  exact ⟨n, k, rfl, e, fun W'' a c row h1 h2 h3 h4 => H W'' a c row (h1.more hl (by simp)) h2 h3 h4⟩
end Go.Proofs.YtcpndojkfngioaaGreat
