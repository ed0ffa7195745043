import Derived.Test.YtcpndojkfngioaaGreatRmK
import Derived.Lib.SlicesCompact
set_option linter.unusedSimpArgs false
set_option linter.unusedVariables false
set_option maxRecDepth 100000
namespace Go.Proofs.YtcpndojkfngioaaGreat
open Go.RowKit Go.Sort

/-- What Compact leaves of numbers that rise rises, and is the same numbers. -/
theorem comp_upto (d : Array Int) (h : ∀ i j, i ≤ j → j < d.size → d[i]! ≤ d[j]!) : ∀ m, m ≤ d.size → (Lib.compactUpTo d m).Pairwise (· < ·) ∧ ∀ x, x ∈ Lib.compactUpTo d m ↔ ∃ i, i < m ∧ d[i]! = x
  | 0, _ => ⟨by show List.Pairwise _ []; exact .nil, fun x => ⟨fun hx => (by cases hx), fun ⟨i, hi, _⟩ => absurd hi (by omega)⟩⟩
  | m + 1, hm => by
    obtain ⟨h1, h2⟩ := comp_upto d h m (by omega)
    rw [Lib.compactUpTo_succ]
    cases hk : Lib.keeps d m with
    | true =>
      rw [if_pos rfl]
      have hne : m = 0 ∨ d[m]! ≠ d[m - 1]! := by simpa [Lib.keeps] using hk
      refine ⟨List.pairwise_append.2 ⟨h1, List.pairwise_singleton _ _, fun x hx y hy => ?_⟩, fun x => ⟨fun hx => ?_, fun ⟨i, hi, e⟩ => ?_⟩⟩
      · rw [List.mem_singleton] at hy
        subst hy
        obtain ⟨i, hi, rfl⟩ := (h2 x).1 hx
        have a1 := h i (m - 1) (by omega) (by omega)
        have a2 := h (m - 1) m (by omega) (by omega)
        have : d[m]! ≠ d[m - 1]! := hne.resolve_left (by omega)
        omega
      · rcases List.mem_append.1 hx with hx | hx
        · obtain ⟨i, hi, e⟩ := (h2 x).1 hx
          exact ⟨i, by omega, e⟩
        · rw [List.mem_singleton] at hx
          exact ⟨m, by omega, hx.symm⟩
      · by_cases hm' : i = m
        · subst hm'
          exact List.mem_append.2 (.inr (by rw [e]; exact List.mem_singleton.2 rfl))
        · exact List.mem_append.2 (.inl ((h2 x).2 ⟨i, by omega, e⟩))
    | false =>
      rw [if_neg (by decide), List.append_nil]
      have hne : m ≠ 0 ∧ d[m]! = d[m - 1]! := by
        have : ¬ (m = 0 ∨ d[m]! ≠ d[m - 1]!) := by simpa [Lib.keeps] using hk
        refine ⟨fun h => this (.inl h), ?_⟩
        by_cases e : d[m]! = d[m - 1]!
        · exact e
        · exact absurd (.inr e) this
      refine ⟨h1, fun x => ⟨fun hx => ?_, fun ⟨i, hi, e⟩ => ?_⟩⟩
      · obtain ⟨i, hi, e⟩ := (h2 x).1 hx
        exact ⟨i, by omega, e⟩
      · by_cases hm' : i = m
        · subst hm'
          exact (h2 x).2 ⟨i - 1, by omega, by rw [← e, hne.2]⟩
        · exact (h2 x).2 ⟨i, by omega, e⟩
theorem comp_len (d : Array Int) : ∀ m, (Lib.compactUpTo d m).length ≤ m
  | 0 => Nat.le_refl _
  | m + 1 => by
    have := comp_len d m
    rw [Lib.compactUpTo_succ, List.length_append]
    cases Lib.keeps d m <;> simp <;> omega
/-- The numbers of a list, each once, as they rise. -/
def uniqI (l : List Int) : List Int := Lib.compact (l.mergeSort fun x y => decide (x ≤ y))
theorem uniq_sd (l : List Int) : Sd (uniqI l) l := by
  have hp := List.mergeSort_perm l fun x y => decide (x ≤ y)
  have hs : (l.mergeSort fun x y => decide (x ≤ y)).Pairwise (fun x y => decide (x ≤ y) = true) := List.pairwise_mergeSort (fun a b c h1 h2 => by simp at *; omega) (fun a b => by simp; omega) l
  unfold uniqI
  obtain ⟨s, hse⟩ : ∃ s, s = l.mergeSort fun x y => decide (x ≤ y) := ⟨_, rfl⟩
  rw [← hse] at hp hs ⊢
  have hle : ∀ i j, i ≤ j → j < s.toArray.size → s.toArray[i]! ≤ s.toArray[j]! := by
    intro i j hij hj
    have hj' : j < s.length := by simpa using hj
    have hi' : i < s.length := by omega
    simp only [List.getElem!_toArray]
    rw [getElem!_pos s i hi', getElem!_pos s j hj']
    by_cases e : i = j
    · subst e; exact Int.le_refl _
    · have := List.pairwise_iff_getElem.1 hs i j hi' hj' (by omega)
      simpa using this
  obtain ⟨h1, h2⟩ := comp_upto s.toArray hle s.length (by simp)
  refine ⟨h1, fun x => ?_, ?_⟩
  · rw [← hp.mem_iff]
    refine (h2 x).trans ⟨fun ⟨i, hi, e⟩ => ?_, fun hx => ?_⟩
    · simp only [List.getElem!_toArray] at e
      rw [getElem!_pos s i hi] at e
      rw [← e]; exact List.getElem_mem _
    · obtain ⟨i, hi, e⟩ := List.getElem_of_mem hx
      refine ⟨i, hi, ?_⟩
      simp only [List.getElem!_toArray]
      rw [getElem!_pos s i hi, e]
  · have := comp_len s.toArray s.length
    rw [← hp.length_eq]
    exact this
theorem rises_one : ∀ (l m : List Int), l.Pairwise (· < ·) → m.Pairwise (· < ·) → (∀ x, x ∈ l ↔ x ∈ m) → l = m
  | [], [], _, _, _ => rfl
  | [], y :: m, _, _, h => absurd ((h y).2 (by simp)) (by simp)
  | x :: l, [], _, _, h => absurd ((h x).1 (by simp)) (by simp)
  | x :: l, y :: m, h1, h2, h => by
    rw [List.pairwise_cons] at h1 h2
    have hxy : x = y := by
      rcases List.mem_cons.1 ((h x).1 (by simp)) with e | hx
      · exact e
      · rcases List.mem_cons.1 ((h y).2 (by simp)) with e | hy
        · exact e.symm
        · have a1 := h2.1 x hx
          have a2 := h1.1 y hy
          omega
    subst hxy
    rw [rises_one l m h1.2 h2.2 fun z => ⟨fun hz => ?_, fun hz => ?_⟩]
    · rcases List.mem_cons.1 ((h z).1 (by simp [hz])) with e | hz'
      · subst e; exact absurd (h1.1 z hz) (by omega)
      · exact hz'
    · rcases List.mem_cons.1 ((h z).2 (by simp [hz])) with e | hz'
      · subst e; exact absurd (h2.1 z hz) (by omega)
      · exact hz'
theorem sd_uniq {L S : List Int} (h : Sd L S) : L = uniqI S :=
  rises_one L (uniqI S) h.1 (uniq_sd S).1 fun x => (h.2.1 x).trans ((uniq_sd S).2.1 x).symm
end Go.Proofs.YtcpndojkfngioaaGreat
