import Derived.Test.YtcbenpodohjbiaaGreatStB
set_option linter.unusedSimpArgs false
set_option linter.unusedVariables false
set_option maxRecDepth 100000
namespace Go.Proofs.YtcbenpodohjbiaaGreat
open Go.RowKit Go.Sort

set_option maxHeartbeats 4000000 in
set_option maxRecDepth 100000 in
theorem insertion_any (T : Sorting) (W : World) (L : List El) (a b : Nat) (hT : T.OK W) (hO : T.Own W L) (hab : a ≤ b) (hb : b ≤ T.N) (hI : ∀ i j, a ≤ i → i < j → j < b → (atL L i).t < (atL L j).t) :
    Calls Tryz.prog 110 #[.agg #[T.less, T.swap], .int .i64 a, .int .i64 b] W fun e w' => e = .returned (.tuple #[]) ∧ ∃ L', T.Own w' L' ∧ Grew W w' T.v T.v ∧ PAB a b L L' ∧ SAB T.o a b L' := by
  have H0 := hide (Sorting.start hT hO)
  have hsm := hT.small
  have ent := hT.ent
  have HI := hide hI
  clear hI
  clear hT hO
  go_enter Tryz.func110, Tryz.ntmps110
  go_wp2_with fail
  go_loopw [6] (fun s wr => ∃ (i : Nat) (L' : List El), s = .int .i64 (i : Int) ∧ a < i ∧ i ≤ b + 1 ∧ Hid (T.At W.heap.size (W.alloc (.cells #[T.less, T.swap] 133)) wr L') ∧ Hid (PAB a b L L') ∧ Hid (SAB T.o a (min i b) L') ∧ Hid (InsG a b i L L')) (fun s _ => b + 1 - (intOf s).toNat)
  case atStart => exact ⟨a + 1, L, by go_num, by omega, by omega, H0, PAB.refl _ _ _, SAB.one (by omega) _, InsG.start (unhide HI)⟩
  case round =>
    obtain ⟨i, L', rfl, hai, hib, HA, HP, HS, HG⟩ := hrel
    by_cases h1 : i < b
    · have i1 : (i : Int) < (b : Int) := by omega
      have HS1 : Hid (Down T.o a i i L') := by
        have h2 := unhide HS
        rw [Nat.min_eq_left (by omega)] at h2
        exact Down.start h2
      go_wp2_with fail
      go_loopw [7] (fun s wv => ∃ (j : Nat) (M : List El), s = .int .i64 (j : Int) ∧ a ≤ j ∧ j ≤ i ∧ Hid (T.At W.heap.size (W.alloc (.cells #[T.less, T.swap] 133)) wv M) ∧ Hid (PAB a b L M) ∧ Hid (Down T.o a i j M) ∧ Hid (PAB a (i + 1) L' M ∧ atL M j = atL L' i ∧ ∀ p, p < j → atL M p = atL L' p)) (fun s _ => (intOf s).toNat)
      case atStart => exact ⟨i, L', rfl, by omega, Nat.le_refl _, HA, HP, HS1, PAB.refl _ _ _, rfl, fun _ _ => rfl⟩
      case round =>
        obtain ⟨j, M, rfl, haj, hji, HAM, HPM, HD, HQ⟩ := hrel
        have c0 := (unhide HAM).c0
        have c1 := (unhide HAM).c1
        have hlen := Sorting.lenL (unhide HAM).own
        unfold Sorting.less at c0
        unfold Sorting.swap at c1
        by_cases h2 : a < j
        · have i2 : (a : Int) < (j : Int) := by omega
          have hj1 : ((j - 1 : Nat) : Int) = (j : Int) - 1 := by omega
          have HL := hide (less_any T wr M j (j - 1) (unhide HAM).ok (unhide HAM).own (by omega) (by omega) (by rw [(unhide HQ).2.1, (unhide HQ).2.2 _ (by omega)]; exact (unhide HG).1 _ _ (by omega) (by omega) (Nat.le_refl _) h1))
          rw [hj1] at HL
          cases hlt : T.lt (atL M j) (atL M (j - 1))
          · rw [hlt] at HL
            have HE := hide (Down.stop (unhide HD) haj hji (.inr (ltV_f hlt)))
            clear hlt hj1
            go_wp2_with (refine (unhide HL).mono ?_; rintro e w2 ⟨rfl, hb2⟩; replace hb2 := hide hb2)
            go_roundw
            case rel => exact ⟨i + 1, M, by go_num, by omega, by omega, (unhide HAM).below (unhide hb2), HPM, by rw [Nat.min_eq_left (by omega)]; exact HE, InsG.next (unhide HI) (by omega) (unhide HG) (unhide HQ).1⟩
            case measure => first | (simp [intOf]; omega) | (simp only [intOf]; omega)
          · rw [hlt] at HL
            have HD2 := hide (Down.step (unhide HD) h2 hji (by omega) (ltV_t hlt))
            have HP2 := hide ((unhide HPM).trans (PAB.swap (a := a) (b := b) (i := j) (j := j - 1) (by omega) (by omega) (by omega) (by omega) (by omega) (by omega)))
            have HQ2 : Hid (PAB a (i + 1) L' (swapL M j (j - 1)) ∧ atL (swapL M j (j - 1)) (j - 1) = atL L' i ∧ ∀ p, p < j - 1 → atL (swapL M j (j - 1)) p = atL L' p) := ⟨(unhide HQ).1.trans (PAB.swap (a := a) (b := i + 1) (i := j) (j := j - 1) (by omega) (by omega) (by omega) (by omega) (by omega) (by omega)), by rw [swapL_at (by omega) (by omega), if_pos rfl]; exact (unhide HQ).2.1, fun p hp => by rw [swapL_at (by omega) (by omega), if_neg (by omega), if_neg (by omega)]; exact (unhide HQ).2.2 p (by omega)⟩
            have SW : Hid (∀ w2, Below wr.heap.size wr w2 → w2.cell? ⟨W.heap.size, 1, none⟩ = some (.func (.func T.SF) #[] T.sb) ∧ ∃ W', (callFunc T.SF (#[.int .i64 (j : Int), .int .i64 ((j : Int) - 1)] ++ T.sb)).run Tryz.prog w2 = .ok (.value (.tuple #[])) W' ∧ Hid (T.At W.heap.size (W.alloc (.cells #[T.less, T.swap] 133)) W' (swapL M j (j - 1)))) := fun w2 hb2 => by
              have h3 := (unhide HAM).below hb2
              obtain ⟨W', q1, q2⟩ := h3.swp (i := j) (j := j - 1) (by omega) (by omega)
              rw [hj1] at q1
              exact ⟨h3.c1, W', q1, q2⟩
            clear hlt hj1
            go_wp2_with (refine (unhide HL).mono ?_; rintro e w2 ⟨rfl, hb2⟩; obtain ⟨c2, W', hsw, HA2⟩ := unhide SW _ hb2; replace hsw := hide hsw; clear hb2)
            rw [unhide hsw, Oper.upon_value]
            go_wp2
            go_roundw
            case rel => exact ⟨j - 1, _, by go_num, by omega, by omega, HA2, HP2, HD2, HQ2⟩
            case measure => first | (simp [intOf]; omega) | (simp only [intOf]; omega)
        · have i2 : ¬ (a : Int) < (j : Int) := by omega
          have HE := hide (Down.stop (unhide HD) haj hji (.inl (by omega)))
          clear hlen
          go_wp2
          go_roundw
          case rel => exact ⟨i + 1, M, by go_num, by omega, by omega, HAM, HPM, by rw [Nat.min_eq_left (by omega)]; exact HE, InsG.next (unhide HI) (by omega) (unhide HG) (unhide HQ).1⟩
          case measure => first | (simp [intOf]; omega) | (simp only [intOf]; omega)
    · have i1 : ¬ (i : Int) < (b : Int) := by omega
      have HS1 : Hid (SAB T.o a b L') := by
        have h2 := unhide HS
        rw [Nat.min_eq_right (by omega)] at h2
        exact h2
      go_wp2
      go_end0
      exact ⟨rfl, L', (unhide HA).own, (unhide HA).back, unhide HP, unhide HS1⟩

end Go.Proofs.YtcbenpodohjbiaaGreat
