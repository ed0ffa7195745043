import Derived.Test.YtljebbodcehmpabGreatStbA
set_option linter.unusedSimpArgs false
set_option linter.unusedVariables false
namespace Go.Proofs.YtljebbodcehmpabGreat
open Go.RowKit Go.Sort

/-- The one at j is on its way down: all others from a to i rise, and it is not above those behind it. -/
def Down (a i j : Nat) (L : List Val) : Prop := (∀ p q, a ≤ p → p < q → q ≤ i → p ≠ j → q ≠ j → ordV (atL L p) (atL L q) ≤ 0) ∧ ∀ q, j < q → q ≤ i → ordV (atL L j) (atL L q) ≤ 0
theorem Down.start {a i : Nat} {L : List Val} (h : SAB a i L) : Down a i i L := ⟨fun p q h1 h2 h3 h4 h5 => h p q h1 h2 (by omega), fun q h1 h2 => by omega⟩
theorem Down.step {a i j : Nat} {L : List Val} (h : Down a i j L) (hj : a < j) (hji : j ≤ i) (hi : i < L.length) (hlt : ordV (atL L j) (atL L (j - 1)) < 0) : Down a i (j - 1) (swapL L j (j - 1)) := by
  have hs := swapL_at (L := L) (i := j) (j := j - 1) (by omega) (by omega)
  refine ⟨fun p q h1 h2 h3 h4 h5 => ?_, fun q h1 h2 => ?_⟩
  · rw [hs, hs, if_neg h4, if_neg h5]
    by_cases e1 : p = j
    · rw [if_pos e1]
      by_cases e2 : q = j
      · omega
      · rw [if_neg e2]
        exact h.1 (j - 1) q (by omega) (by omega) h3 (by omega) e2
    · rw [if_neg e1]
      by_cases e2 : q = j
      · rw [if_pos e2]
        exact h.1 p (j - 1) h1 (by omega) (by omega) e1 (by omega)
      · rw [if_neg e2]
        exact h.1 p q h1 h2 h3 e1 e2
  · rw [hs, hs, if_pos rfl, if_neg (by omega)]
    by_cases e2 : q = j
    · rw [if_pos e2]
      omega
    · rw [if_neg e2]
      exact h.2 q (by omega) h2
theorem Down.stop {a i j : Nat} {L : List Val} (h : Down a i j L) (haj : a ≤ j) (hji : j ≤ i) (hs : j = a ∨ ¬ ordV (atL L j) (atL L (j - 1)) < 0) : SAB a (i + 1) L := fun p q h1 h2 h3 => by
  by_cases e1 : p = j
  · subst e1; exact h.2 q h2 (by omega)
  · by_cases e2 : q = j
    · subst e2
      rcases hs with e | e
      · omega
      · have h4 := ord_anti (atL L q) (atL L (q - 1))
        have h5 : ordV (atL L (q - 1)) (atL L q) ≤ 0 := by omega
        by_cases e3 : p = q - 1
        · rw [e3]; exact h5
        · exact ord_le (h.1 p (q - 1) h1 (by omega) (by omega) e1 (by omega)) h5
    · exact h.1 p q h1 h2 (by omega) e1 e2
theorem ltV_t {x y : Val} (h : ltV x y = true) : ordV x y < 0 := by simpa [ltV] using h
theorem ltV_f {x y : Val} (h : ltV x y = false) : ¬ ordV x y < 0 := by simpa [ltV] using h

set_option maxHeartbeats 4000000 in
set_option maxRecDepth 100000 in
theorem insertion_any (T : Sorting) (W : World) (L : List Val) (a b : Nat) (hT : T.OK W) (hO : OwnV W T.base T.v L) (hab : a ≤ b) (hb : b ≤ T.N) :
    Calls Tryz.prog 120 #[.agg #[T.less, T.swap], .int .i64 a, .int .i64 b] W fun e w' => e = .returned (.tuple #[]) ∧ ∃ L', OwnV w' T.base T.v L' ∧ Grew W w' T.v T.v ∧ PAB a b L L' ∧ SAB a b L' := by
  have H0 := hide (Sorting.start hT hO)
  have hsm := hT.small
  clear hT hO
  go_enter Tryz.func120, Tryz.ntmps120
  go_wp2_with fail
  go_loopw [6] (fun s wr => ∃ (i : Nat) (L' : List Val), s = .int .i64 (i : Int) ∧ a < i ∧ i ≤ b + 1 ∧ Hid (T.At W.heap.size (W.alloc (.cells #[T.less, T.swap] 137)) wr L') ∧ Hid (PAB a b L L') ∧ Hid (SAB a (min i b) L')) (fun s _ => b + 1 - (intOf s).toNat)
  case atStart => exact ⟨a + 1, L, by go_num, by omega, by omega, H0, PAB.refl _ _ _, SAB.one (by omega) _⟩
  case round =>
    obtain ⟨i, L', rfl, hai, hib, HA, HP, HS⟩ := hrel
    by_cases h1 : i < b
    · have i1 : (i : Int) < (b : Int) := by omega
      have HS1 : Hid (Down a i i L') := by
        have h2 := unhide HS
        rw [Nat.min_eq_left (by omega)] at h2
        exact Down.start h2
      go_wp2_with fail
      go_loopw [7] (fun s wv => ∃ (j : Nat) (M : List Val), s = .int .i64 (j : Int) ∧ a ≤ j ∧ j ≤ i ∧ Hid (T.At W.heap.size (W.alloc (.cells #[T.less, T.swap] 137)) wv M) ∧ Hid (PAB a b L M) ∧ Hid (Down a i j M)) (fun s _ => (intOf s).toNat)
      case atStart => exact ⟨i, L', rfl, by omega, Nat.le_refl _, HA, HP, HS1⟩
      case round =>
        obtain ⟨j, M, rfl, haj, hji, HAM, HPM, HD⟩ := hrel
        have c0 := (unhide HAM).c0
        have c1 := (unhide HAM).c1
        have hlen := Sorting.lenL (unhide HAM).own
        unfold Sorting.less at c0
        unfold Sorting.swap at c1
        by_cases h2 : a < j
        · have i2 : (a : Int) < (j : Int) := by omega
          have hj1 : ((j - 1 : Nat) : Int) = (j : Int) - 1 := by omega
          have HL := hide (less_any T wr M j (j - 1) (unhide HAM).ok (unhide HAM).own (by omega) (by omega))
          rw [hj1] at HL
          cases hlt : ltV (atL M j) (atL M (j - 1))
          · rw [hlt] at HL
            have HE := hide (Down.stop (unhide HD) haj hji (.inr (ltV_f hlt)))
            clear hlt hj1
            go_wp2_with (go_at_call 66; refine (unhide HL).mono ?_; rintro e w2 ⟨rfl, hb2⟩; replace hb2 := hide hb2)
            go_roundw
            case rel => exact ⟨i + 1, M, by go_num, by omega, by omega, (unhide HAM).below (unhide hb2), HPM, by rw [Nat.min_eq_left (by omega)]; exact HE⟩
            case measure => first | (simp [intOf]; omega) | (simp only [intOf]; omega)
          · rw [hlt] at HL
            have HD2 := hide (Down.step (unhide HD) h2 hji (by omega) (ltV_t hlt))
            have HP2 := hide ((unhide HPM).trans (PAB.swap (a := a) (b := b) (i := j) (j := j - 1) (by omega) (by omega) (by omega) (by omega) (by omega) (by omega)))
            have SW : Hid (∀ w2, Below wr.heap.size wr w2 → w2.cell? ⟨W.heap.size, 1, none⟩ = some (.func (.func T.SF) #[] T.sb) ∧ ∃ W', (callFunc T.SF (#[.int .i64 (j : Int), .int .i64 ((j : Int) - 1)] ++ T.sb)).run Tryz.prog w2 = .ok (.value (.tuple #[])) W' ∧ Hid (T.At W.heap.size (W.alloc (.cells #[T.less, T.swap] 137)) W' (swapL M j (j - 1)))) := fun w2 hb2 => by
              have h3 := (unhide HAM).below hb2
              obtain ⟨W', q1, q2⟩ := h3.swp (i := j) (j := j - 1) (by omega) (by omega)
              rw [hj1] at q1
              exact ⟨h3.c1, W', q1, q2⟩
            clear hlt hj1
            go_wp2_with (go_at_call 66; refine (unhide HL).mono ?_; rintro e w2 ⟨rfl, hb2⟩; obtain ⟨c2, W', hsw, HA2⟩ := unhide SW _ hb2; replace hsw := hide hsw; clear hb2)
            rw [unhide hsw, Oper.upon_value]
            go_wp2
            go_roundw
            case rel => exact ⟨j - 1, _, by go_num, by omega, by omega, HA2, HP2, HD2⟩
            case measure => first | (simp [intOf]; omega) | (simp only [intOf]; omega)
        · have i2 : ¬ (a : Int) < (j : Int) := by omega
          have HE := hide (Down.stop (unhide HD) haj hji (.inl (by omega)))
          clear hlen
          go_wp2
          go_roundw
          case rel => exact ⟨i + 1, M, by go_num, by omega, by omega, HAM, HPM, by rw [Nat.min_eq_left (by omega)]; exact HE⟩
          case measure => first | (simp [intOf]; omega) | (simp only [intOf]; omega)
    · have i1 : ¬ (i : Int) < (b : Int) := by omega
      have HS1 : Hid (SAB a b L') := by
        have h2 := unhide HS
        rw [Nat.min_eq_right (by omega)] at h2
        exact h2
      go_wp2
      go_end0
      exact ⟨rfl, L', (unhide HA).own, (unhide HA).back, unhide HP, unhide HS1⟩
end Go.Proofs.YtljebbodcehmpabGreat
