import Derived.Test.YtfnacpkodfhfoadExV
set_option linter.unusedSimpArgs false
set_option linter.unusedVariables false
namespace Go.Proofs.Ytfnacpkodfhfoad
open Go.RowKit Go.Sort

/-- The expression of the law's end: column 0 is greater than 0. -/
def gtE : Ex := .mk 16 0 .null [.mk 1 0 .null [], .mk 2 0 (.num 0) []]
theorem gt_yes : strictE [0] gtE = true := by decide
theorem gt_no : strictE [1] gtE = false := by decide
/-- The row with these columns nulled. -/
def nullAt (row : List Val) : List Int → List Val
  | [] => row
  | c :: l => nullAt (if 0 ≤ c ∧ c < row.length then row.set c.toNat .null else row) l
theorem nullAt_len : ∀ (cols : List Int) (row : List Val), (nullAt row cols).length = row.length
  | [], row => rfl
  | c :: l, row => by rw [nullAt, nullAt_len l]; split <;> simp
theorem nullAt_ok : ∀ (cols : List Int) (row : List Val), (∀ x ∈ row, VOk x) → ∀ x ∈ nullAt row cols, VOk x
  | [], row, h, x, hx => h x hx
  | c :: l, row, h, x, hx => by
    rw [nullAt] at hx
    refine nullAt_ok l _ ?_ x hx
    intro y hy
    split at hy
    · rcases List.mem_or_eq_of_mem_set hy with h' | h'
      · exact h y h'
      · rw [h']; exact vok_null
    · exact h y hy
theorem nullAt_null : ∀ (cols : List Int) (row : List Val) (k : Nat) (x : Val), row[k]? = some .null → (nullAt row cols)[k]? = some x → x = .null
  | [], row, k, x, h, hx => by rw [nullAt, h] at hx; injection hx with hx; exact hx.symm
  | c :: l, row, k, x, h, hx => by
    rw [nullAt] at hx
    refine nullAt_null l _ k x ?_ hx
    split
    · rw [List.getElem?_set]
      split
      · have : k < row.length := by omega
        simp [*]
      · exact h
    · exact h
theorem nullAt_nulled : ∀ (cols : List Int) (row : List Val), Nulled (nullAt row cols) cols
  | [], row, k, x, hk, _ => by cases hk
  | c :: l, row, k, x, hk, hx => by
    rw [nullAt] at hx
    rcases List.mem_cons.1 hk with h | h
    · have hlt : k < row.length := by
        have h1 := (List.getElem?_eq_some_iff.1 hx).1
        rw [nullAt_len] at h1
        split at h1 <;> simpa using h1
      refine nullAt_null l _ k x ?_ hx
      rw [if_pos (by omega)]
      have : c.toNat = k := by omega
      rw [this]
      simp [hlt]
    · exact nullAt_nulled l _ k x h hx
/-- What the law comes to: Strict, and true where the columns are null, never both. -/
theorem strict_law (cols : List Int) (row : List Val) (e : Ex) (h : strictE cols e = true) : trueB (evalB (nullAt row cols) e) = false := by
  unfold strictE at h
  rw [Bool.and_eq_true] at h
  unfold evalB
  rw [if_pos h.1]
  exact nt_false (nullAt_nulled cols row) e.size e (Nat.le_refl _) (built_good h.1) h.2
end Go.Proofs.Ytfnacpkodfhfoad
