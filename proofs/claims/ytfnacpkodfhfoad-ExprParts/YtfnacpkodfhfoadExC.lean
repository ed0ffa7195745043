import Derived.Test.YtfnacpkodfhfoadExB
set_option linter.unusedSimpArgs false
set_option linter.unusedVariables false
namespace Go.Proofs.Ytfnacpkodfhfoad
open Go.RowKit Go.Sort

mutual
/-- How large an expression is, by a budget. -/
def measE (p : Ex → Bool) : Ex → Int → Int → Int × Int × Bool
  | .mk op n v l, N, H => if decide (N < 1) || decide (H < 1) || !p (.mk op n v l) then (0, 0, false) else match measL p l N H 1 0 with
    | some (c, h) => (c, h + 1, true)
    | none => (0, 0, false)
def measL (p : Ex → Bool) : List Ex → Int → Int → Int → Int → Option (Int × Int)
  | [], _, _, c, h => some (c, h)
  | e :: l, N, H, c, h => if (measE p e (N - c) (H - 1)).2.2 then measL p l N H (c + (measE p e (N - c) (H - 1)).1) (max h (measE p e (N - c) (H - 1)).2.1) else none
end
mutual
theorem meas_le (p : Ex → Bool) : ∀ (e : Ex) (N H : Int) {c h : Int}, measE p e N H = (c, h, true) → 1 ≤ c ∧ c ≤ N ∧ 1 ≤ h ∧ h ≤ H
  | .mk op n v l, N, H, c, h, he => by
    rw [measE] at he
    split at he
    · injection he with _ he; injection he with _ he; cases he
    · rename_i hc
      simp only [Bool.or_eq_true, decide_eq_true_eq, not_or] at hc
      cases hm : measL p l N H 1 0 with
      | none => rw [hm] at he; simp only at he; injection he with _ he; injection he with _ he; cases he
      | some q =>
        rw [hm] at he
        simp only at he
        injection he with e1 e2
        injection e2 with e2 _
        have := measL_le p l N H 1 0 (c' := q.1) (h' := q.2) (by omega) (by omega) (by omega) (by omega) hm
        omega
theorem measL_le (p : Ex → Bool) : ∀ (l : List Ex) (N H c h : Int) {c' h' : Int}, 1 ≤ c → c ≤ N → 0 ≤ h → h ≤ H - 1 → measL p l N H c h = some (c', h') → c ≤ c' ∧ c' ≤ N ∧ h ≤ h' ∧ h' ≤ H - 1
  | [], N, H, c, h, c', h', h1, h2, h3, h4, he => by
    rw [measL] at he
    injection he with he; injection he with e1 e2
    omega
  | e :: l, N, H, c, h, c', h', h1, h2, h3, h4, he => by
    rw [measL] at he
    split at he
    · rename_i hok
      obtain ⟨c2, h2', ok, hm⟩ : ∃ c2 h2 ok, measE p e (N - c) (H - 1) = (c2, h2, ok) := ⟨_, _, _, rfl⟩
      rw [hm] at he hok
      simp only at he hok
      subst hok
      have g := meas_le p e (N - c) (H - 1) hm
      have := measL_le p l N H (c + c2) (max h h2') (by omega) (by omega) (by omega) (by omega) he
      omega
    · cases he
end
theorem measE_eq (p : Ex → Bool) (e : Ex) (N H : Int) : measE p e N H = if decide (N < 1) || decide (H < 1) || !p e then (0, 0, false) else match measL p e.args N H 1 0 with
    | some (c, h) => (c, h + 1, true)
    | none => (0, 0, false) := by cases e; rw [measE]; rfl
/-- An expression that is built. -/
def builtE (e : Ex) : Bool := (measE soundE e 400 40).2.2
end Go.Proofs.Ytfnacpkodfhfoad
