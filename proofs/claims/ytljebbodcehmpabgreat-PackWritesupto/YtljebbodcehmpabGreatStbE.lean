import Derived.Test.YtljebbodcehmpabGreatStbD
set_option linter.unusedSimpArgs false
set_option linter.unusedVariables false
namespace Go.Proofs.YtljebbodcehmpabGreat
open Go.RowKit Go.Sort

/-- The value of a has come to k, those between have come down by one. -/
def upF (f : Nat → Val) (a k : Nat) (q : Nat) : Val := if a ≤ q ∧ q < k then f (q + 1) else if q = k then f a else f q
theorem upF_start (f : Nat → Val) (a : Nat) : upF f a a = f := by
  funext q
  unfold upF
  rw [if_neg (by omega)]
  split
  · rename_i h; rw [h]
  · rfl
theorem upF_next {L : List Val} {f : Nat → Val} {a k : Nat} (hak : a ≤ k) (hk : k + 1 < L.length) (h : ∀ q, atL L q = upF f a k q) : ∀ q, atL (swapL L k (k + 1)) q = upF f a (k + 1) q := by
  intro q
  rw [swapL_at (by omega) hk]
  unfold upF at *
  by_cases h1 : q = k + 1
  · rw [if_pos h1, h, if_neg (by omega), if_pos rfl, if_neg (by omega), if_pos h1]
  · rw [if_neg h1]
    by_cases h2 : q = k
    · rw [if_pos h2, h, if_neg (by omega), if_neg (by omega), if_pos (by omega), h2]
    · rw [if_neg h2, h]
      by_cases h3 : a ≤ q ∧ q < k
      · rw [if_pos h3, if_pos (by omega)]
      · rw [if_neg h3, if_neg h2, if_neg (by omega), if_neg h1]
theorem up_sorted {L L' : List Val} {a b i : Nat} (hi : a + 1 ≤ i) (hib : i ≤ b) (hS : SAB (a + 1) b L) (hlo : i = a + 1 ∨ ordV (atL L (i - 1)) (atL L a) < 0) (hhi : i = b ∨ ¬ ordV (atL L i) (atL L a) < 0) (h : ∀ q, atL L' q = upF (atL L) a (i - 1) q) : SAB a b L' := by
  have lo : ∀ q, a + 1 ≤ q → q < i → ordV (atL L q) (atL L a) ≤ 0 := fun q h1 h2 => by
    rcases hlo with e | e
    · omega
    · exact ord_le (hS.le h1 (by omega : q ≤ i - 1) (by omega)) (by omega)
  have hi' : ∀ q, i ≤ q → q < b → ordV (atL L a) (atL L q) ≤ 0 := fun q h1 h2 => by
    rcases hhi with e | e
    · omega
    · have := ord_anti (atL L i) (atL L a)
      exact ord_le (by omega) (hS.le hi h1 h2)
  intro p q h1 h2 h3
  rw [h p, h q]
  unfold upF
  by_cases p1 : a ≤ p ∧ p < i - 1
  · rw [if_pos p1]
    by_cases q1 : a ≤ q ∧ q < i - 1
    · rw [if_pos q1]; exact hS (p + 1) (q + 1) (by omega) (by omega) (by omega)
    · rw [if_neg q1]
      by_cases q2 : q = i - 1
      · rw [if_pos q2]; exact lo (p + 1) (by omega) (by omega)
      · rw [if_neg q2]; exact hS (p + 1) q (by omega) (by omega) h3
  · rw [if_neg p1]
    by_cases p2 : p = i - 1
    · rw [if_pos p2, if_neg (by omega), if_neg (by omega)]
      exact hi' q (by omega) h3
    · rw [if_neg p2, if_neg (by omega), if_neg (by omega)]
      exact hS p q (by omega) h2 h3
/-- The value of m has come down to k, those between have gone up by one. -/
def dnF (f : Nat → Val) (m k : Nat) (q : Nat) : Val := if k < q ∧ q ≤ m then f (q - 1) else if q = k then f m else f q
theorem dnF_start (f : Nat → Val) (m : Nat) : dnF f m m = f := by
  funext q
  unfold dnF
  rw [if_neg (by omega)]
  split
  · rename_i h; rw [h]
  · rfl
theorem dnF_next {L : List Val} {f : Nat → Val} {m k : Nat} (hk : 0 < k) (hkm : k ≤ m) (hm : m < L.length) (h : ∀ q, atL L q = dnF f m k q) : ∀ q, atL (swapL L k (k - 1)) q = dnF f m (k - 1) q := by
  intro q
  rw [swapL_at (by omega) (by omega)]
  unfold dnF at *
  by_cases h1 : q = k - 1
  · rw [if_pos h1, h, if_neg (by omega), if_pos rfl, if_neg (by omega), if_pos h1]
  · rw [if_neg h1]
    by_cases h2 : q = k
    · rw [if_pos h2, h, if_neg (by omega), if_neg (by omega), if_pos (by omega), h2]
    · rw [if_neg h2, h]
      by_cases h3 : k < q ∧ q ≤ m
      · rw [if_pos h3, if_pos (by omega)]
      · rw [if_neg h3, if_neg h2, if_neg (by omega), if_neg h1]
theorem dn_sorted {L L' : List Val} {a m i : Nat} (hi : a ≤ i) (him : i ≤ m) (hS : SAB a m L) (hlo : i = a ∨ ordV (atL L (i - 1)) (atL L m) ≤ 0) (hhi : i = m ∨ ordV (atL L m) (atL L i) < 0) (h : ∀ q, atL L' q = dnF (atL L) m i q) : SAB a (m + 1) L' := by
  have lo : ∀ q, a ≤ q → q < i → ordV (atL L q) (atL L m) ≤ 0 := fun q h1 h2 => by
    rcases hlo with e | e
    · omega
    · exact ord_le (hS.le h1 (by omega : q ≤ i - 1) (by omega)) (by omega)
  have hi' : ∀ q, i ≤ q → q < m → ordV (atL L m) (atL L q) ≤ 0 := fun q h1 h2 => by
    rcases hhi with e | e
    · omega
    · exact ord_le (by omega) (hS.le hi h1 h2)
  intro p q h1 h2 h3
  rw [h p, h q]
  unfold dnF
  by_cases q1 : i < q ∧ q ≤ m
  · rw [if_pos q1]
    by_cases p1 : i < p ∧ p ≤ m
    · rw [if_pos p1]; exact hS (p - 1) (q - 1) (by omega) (by omega) (by omega)
    · rw [if_neg p1]
      by_cases p2 : p = i
      · rw [if_pos p2]; exact hi' (q - 1) (by omega) (by omega)
      · rw [if_neg p2]; exact hS p (q - 1) h1 (by omega) (by omega)
  · rw [if_neg q1, if_neg (by omega : ¬ (i < p ∧ p ≤ m)), if_neg (by omega : ¬ p = i)]
    by_cases q2 : q = i
    · rw [if_pos q2]; exact lo p h1 (by omega)
    · rw [if_neg q2]; exact hS p q h1 h2 (by omega)
/-- The halves behind the turn. -/
theorem sym_cross {L L' : List Val} {a m b mid s e s0 r0 : Nat} (hm : mid = (a + b) / 2) (ham : a < m) (hmb : m < b) (he : e + s = mid + m) (hs0 : s0 ≤ s) (hsr : s ≤ r0)
    (hcase : (mid < m ∧ s0 + b = mid + m ∧ r0 = mid) ∨ (m ≤ mid ∧ s0 = a ∧ r0 = m)) (hS1 : SAB a m L) (hS2 : SAB m b L)
    (hlo : s = s0 ∨ ordV (atL L (s - 1)) (atL L e) ≤ 0) (hhi : s = r0 ∨ ordV (atL L (e - 1)) (atL L s) < 0) (hL : ∀ q, atL L' q = rotF (atL L) s m e q) :
    (SAB a s L' ∧ SAB s mid L') ∧ (SAB mid e L' ∧ SAB e b L') ∧ ∀ i j, a ≤ i → i < mid → mid ≤ j → j < b → ordV (atL L' i) (atL L' j) ≤ 0 := by
  have l1 : ∀ q, q < s → atL L' q = atL L q := fun q h1 => by rw [hL, rotF, if_pos (.inl h1)]
  have l2 : ∀ q, s ≤ q → q < mid → atL L' q = atL L (q - s + m) := fun q h1 h2 => by rw [hL, rotF, if_neg (by omega), if_pos (by omega)]
  have l3 : ∀ q, mid ≤ q → q < e → atL L' q = atL L (q - (e - m)) := fun q h1 h2 => by rw [hL, rotF, if_neg (by omega), if_neg (by omega)]
  have l4 : ∀ q, e ≤ q → atL L' q = atL L q := fun q h1 => by rw [hL, rotF, if_pos (.inr h1)]
  refine ⟨⟨fun i j h1 h2 h3 => ?_, fun i j h1 h2 h3 => ?_⟩, ⟨fun i j h1 h2 h3 => ?_, fun i j h1 h2 h3 => ?_⟩, fun i j h1 h2 h3 h4 => ?_⟩
  · rw [l1 i (by omega), l1 j h3]; exact hS1 i j h1 h2 (by omega)
  · rw [l2 i h1 (by omega), l2 j (by omega) h3]; exact hS2 _ _ (by omega) (by omega) (by omega)
  · rw [l3 i h1 (by omega), l3 j (by omega) h3]; exact hS1 _ _ (by omega) (by omega) (by omega)
  · rw [l4 i h1, l4 j (by omega)]; exact hS2 i j (by omega) h2 h3
  · by_cases hi : i < s
    · rw [l1 i hi]
      by_cases hj : j < e
      · rw [l3 j h3 hj]; exact hS1 i _ h1 (by omega) (by omega)
      · rw [l4 j (by omega)]
        rcases hlo with e1 | e1
        · omega
        · exact ord_le (hS1.le h1 (by omega : i ≤ s - 1) (by omega)) (ord_le e1 (hS2.le (by omega) (by omega : e ≤ j) h4))
    · rw [l2 i (by omega) h2]
      by_cases hj : j < e
      · rw [l3 j h3 hj]
        rcases hhi with e1 | e1
        · omega
        · exact ord_le (hS2.le (by omega) (by omega : i - s + m ≤ e - 1) (by omega)) (ord_le (by omega) (hS1.le (by omega) (by omega : s ≤ j - (e - m)) (by omega)))
      · rw [l4 j (by omega)]; exact hS2 _ j (by omega) (by omega) h4
theorem rot_none {f : Nat → Val} {s m e : Nat} (h : s ≤ m) (h2 : m ≤ e) (hn : ¬ (s < m ∧ m < e)) : ∀ q, f q = rotF f s m e q := by
  intro q
  unfold rotF
  by_cases h1 : q < s ∨ e ≤ q
  · rw [if_pos h1]
  · rw [if_neg h1]
    by_cases h3 : q < s + (e - m)
    · rw [if_pos h3]; congr 1; omega
    · rw [if_neg h3]; congr 1; omega
end Go.Proofs.YtljebbodcehmpabGreat
