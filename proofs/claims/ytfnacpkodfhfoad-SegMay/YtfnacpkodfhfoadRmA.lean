import Derived.Test.YtfnacpkodfhfoadFoA
set_option linter.unusedSimpArgs false
set_option linter.unusedVariables false
namespace Go.Proofs.Ytfnacpkodfhfoad
open Go.RowKit Go.Sort

theorem wpOp_no {P : Program} {ops : Array Oper} {Q : Exit → Act → World → Prop} {i : Nat} {o : Oper} {r : List Oper} {a : Act} {w : World} {K : Act → World → Prop} (hi : ops.toList.drop i = o :: r) (hw : Region.wanted o (yielded ops a.tmps) = false)
    (h : K (a.put o.dst undef) w) : wpOp P ops Q i K a w := by
  unfold wpOp
  rw [drop_at hi]
  simp only [hw, Bool.false_eq_true, if_false]
  exact h
mutual
/-- The document's way to measure: nodes and height are counted on, from the top. -/
def rmE : Ex → Int → Int → Int × Int × Bool
  | .mk op n v l, N, H => if decide (400 < N) || decide (40 < H) then (N + 1, H, false) else
    if (rmL l (N + 1) H H).2.2 then ((rmL l (N + 1) H H).1, (rmL l (N + 1) H H).2.1, soundE (.mk op n v l)) else ((rmL l (N + 1) H H).1, (rmL l (N + 1) H H).2.1, false)
def rmL : List Ex → Int → Int → Int → Int × Int × Bool
  | [], N, _, T => (N, T, true)
  | a :: l, N, H, T => if (rmE a N (H + 1)).2.2 then rmL l (rmE a N (H + 1)).1 H (max T (rmE a N (H + 1)).2.1) else ((rmE a N (H + 1)).1, max T (rmE a N (H + 1)).2.1, false)
end
theorem rmE_eq (e : Ex) (N H : Int) : rmE e N H = if decide (400 < N) || decide (40 < H) then (N + 1, H, false) else
    if (rmL e.args (N + 1) H H).2.2 then ((rmL e.args (N + 1) H H).1, (rmL e.args (N + 1) H H).2.1, soundE e) else ((rmL e.args (N + 1) H H).1, (rmL e.args (N + 1) H H).2.1, false) := by
  cases e; rw [rmE]; rfl
mutual
theorem rm_yes : ∀ (e : Ex) (N H : Int), (rmE e N H).2.2 = true → goodE e ∧ (rmE e N H).1 = N + e.size ∧ (rmE e N H).2.1 = H + e.high - 1 ∧ (rmE e N H).1 ≤ 401 ∧ N ≤ 400
  | .mk op n v l, N, H, h => by
    rw [rmE] at h ⊢
    by_cases h1 : (decide (400 < N) || decide (40 < H)) = true
    · rw [if_pos h1] at h; cases h
    · rw [if_neg h1] at h ⊢
      simp only [Bool.or_eq_true, decide_eq_true_eq, not_or] at h1
      by_cases h2 : (rmL l (N + 1) H H).2.2 = true
      · rw [if_pos h2] at h ⊢
        simp only at h ⊢
        obtain ⟨g1, g2, g3, g4⟩ := rmL_yes l (N + 1) H H (Int.le_refl _) h2
        rw [goodE, Ex.size, Ex.high]
        exact ⟨⟨h, g1⟩, by omega, by omega, g4 (by omega), by omega⟩
      · rw [if_neg h2] at h; cases h
theorem rmL_yes : ∀ (l : List Ex) (N H T : Int), H ≤ T → (rmL l N H T).2.2 = true → goodL l ∧ (rmL l N H T).1 = N + Ex.sizes l ∧ (rmL l N H T).2.1 = max T (H + Ex.highs l) ∧ (N ≤ 401 → (rmL l N H T).1 ≤ 401)
  | [], N, H, T, hT, h => by
    rw [rmL, goodL, Ex.sizes, Ex.highs]
    exact ⟨trivial, by omega, by simp only; omega, fun h => h⟩
  | a :: l, N, H, T, hT, h => by
    rw [rmL] at h ⊢
    by_cases h1 : (rmE a N (H + 1)).2.2 = true
    · rw [if_pos h1] at h ⊢
      obtain ⟨g1, g2, g3, g4, g5⟩ := rm_yes a N (H + 1) h1
      obtain ⟨k1, k2, k3, k4⟩ := rmL_yes l _ H _ (by omega) h
      rw [goodL, Ex.sizes, Ex.highs]
      exact ⟨⟨g1, k1⟩, by omega, by omega, fun _ => k4 g4⟩
    · rw [if_neg h1] at h; cases h
end
mutual
theorem rm_good : ∀ (e : Ex) (N H : Int), goodE e → N + e.size ≤ 401 → H + e.high ≤ 41 → rmE e N H = (N + e.size, H + e.high - 1, true)
  | .mk op n v l, N, H, hg, h1, h2 => by
    rw [Ex.size] at h1
    rw [Ex.high] at h2
    obtain ⟨hs, hl⟩ := good_open hg
    have hs : soundE (.mk op n v l) = true := hs
    have hr := rmL_good l (N + 1) H H hl (by omega) (by omega) (Int.le_refl _)
    rw [rmE, if_neg (by simp only [Bool.or_eq_true, decide_eq_true_eq, not_or]; omega), hr]
    simp only [if_true]
    rw [hs, Ex.size, Ex.high]
    simp only [Prod.mk.injEq, and_true]
    constructor <;> omega
theorem rmL_good : ∀ (l : List Ex) (N H T : Int), goodL l → N + Ex.sizes l ≤ 401 → H + Ex.highs l ≤ 40 → H ≤ T → rmL l N H T = (N + Ex.sizes l, max T (H + Ex.highs l), true)
  | [], N, H, T, _, _, _, hT => by
    rw [rmL, Ex.sizes, Ex.highs]
    simp only [Prod.mk.injEq, and_true]
    constructor <;> omega
  | a :: l, N, H, T, hg, h1, h2, hT => by
    rw [goodL] at hg
    rw [Ex.sizes] at h1
    rw [Ex.highs] at h2
    rw [rmL, rm_good a N (H + 1) hg.1 (by omega) (by omega)]
    simp only [if_true]
    rw [rmL_good l _ H _ hg.2 (by omega) (by omega) (by omega), Ex.sizes, Ex.highs]
    simp only [Prod.mk.injEq, and_true]
    constructor <;> omega
end
mutual
theorem rm_range : ∀ (e : Ex) (N H : Int), 0 ≤ N → N ≤ 401 → 1 ≤ H → H ≤ 41 → 0 ≤ (rmE e N H).1 ∧ (rmE e N H).1 ≤ 402 ∧ 1 ≤ (rmE e N H).2.1 ∧ (rmE e N H).2.1 ≤ 41
  | .mk op n v l, N, H, h1, h2, h3, h4 => by
    rw [rmE]
    by_cases hc : (decide (400 < N) || decide (40 < H)) = true
    · rw [if_pos hc]; simp only; omega
    · rw [if_neg hc]
      simp only [Bool.or_eq_true, decide_eq_true_eq, not_or] at hc
      have := rmL_range l (N + 1) H H (by omega) (by omega) h3 (by omega) (by omega) (by omega)
      split <;> simp only <;> omega
theorem rmL_range : ∀ (l : List Ex) (N H T : Int), 0 ≤ N → N ≤ 401 → 1 ≤ H → H ≤ 40 → 1 ≤ T → T ≤ 41 → 0 ≤ (rmL l N H T).1 ∧ (rmL l N H T).1 ≤ 402 ∧ 1 ≤ (rmL l N H T).2.1 ∧ (rmL l N H T).2.1 ≤ 41
  | [], N, H, T, h1, h2, h3, h4, h5, h6 => by rw [rmL]; simp only; omega
  | a :: l, N, H, T, h1, h2, h3, h4, h5, h6 => by
    have hr := rm_range a N (H + 1) h1 h2 (by omega) (by omega)
    rw [rmL]
    split
    · rename_i hy
      have hy2 := (rm_yes a N (H + 1) hy).2.2.2.1
      exact rmL_range l _ H _ (by omega) (by omega) h3 h4 (by omega) (by omega)
    · simp only; omega
end
/-- What the document's Size answers is what the program's does. -/
theorem rm_size (e : Ex) : (if !(rmE e 0 1).2.2 || decide (400 < (rmE e 0 1).1) || decide (40 < (rmE e 0 1).2.1) then ((401 : Int), (41 : Int)) else ((rmE e 0 1).1, (rmE e 0 1).2.1)) = sizeB e := by
  cases hb : builtE e with
  | true =>
    have hg := built_good hb
    have h1 := built_bounds hb
    rw [rm_good e 0 1 hg (by omega) (by omega)]
    unfold sizeB
    rw [if_pos hb, if_neg (by simp; omega)]
    simp only [Prod.mk.injEq]
    constructor <;> omega
  | false =>
    unfold sizeB
    rw [hb]
    by_cases hc : (!(rmE e 0 1).2.2 || decide (400 < (rmE e 0 1).1) || decide (40 < (rmE e 0 1).2.1)) = true
    · rw [if_pos hc]; rfl
    · exfalso
      simp only [Bool.or_eq_true, decide_eq_true_eq, not_or, Bool.not_eq_true', Bool.not_eq_false] at hc
      obtain ⟨⟨c1, c2⟩, c3⟩ := hc
      obtain ⟨g1, g2, g3, _⟩ := rm_yes e 0 1 c1
      rw [built_of g1 (by omega) (by omega)] at hb
      cases hb
theorem size_built (e : Ex) : decide ((sizeB e).1 ≤ 400) = builtE e := by
  unfold sizeB
  cases hb : builtE e with
  | true =>
    have := (built_bounds hb).1
    simp only [if_true]
    simpa using (by omega : (e.size : Int) ≤ 400)
  | false => rfl
end Go.Proofs.Ytfnacpkodfhfoad
