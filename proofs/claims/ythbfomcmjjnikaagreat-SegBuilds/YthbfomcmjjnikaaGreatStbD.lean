import Derived.Test.YthbfomcmjjnikaaGreatRyW
set_option linter.unusedSimpArgs false
set_option linter.unusedVariables false
namespace Go.Proofs.YthbfomcmjjnikaaGreat
open Go.RowKit Go.Sort

/-- The one at j is on its way down: all others from a to i rise, and it is not above those behind it. -/
def Down (a i j : Nat) (L : List Val) : Prop := (∀ p q, a ≤ p → p < q → q ≤ i → p ≠ j → q ≠ j → ordV (atL L p) (atL L q) ≤ 0) ∧ ∀ q, j < q → q ≤ i → ordV (atL L j) (atL L q) ≤ 0
theorem Down.start {a i : Nat} {L : List Val} (h : SAB a i L) : Down a i i L := ⟨fun p q h1 h2 h3 h4 h5 => h p q h1 h2 (by omega), fun q h1 h2 => by omega⟩
theorem Down.step {a i j : Nat} {L : List Val} (h : Down a i j L) (hj : a < j) (hji : j ≤ i) (hi : i < L.length) (hlt : ordV (atL L j) (atL L (j - 1)) < 0) : Down a i (j - 1) (swapL L j (j - 1)) := by
  have hs := swapL_at (L := L) (i := j) (j := j - 1) (by omega) (by omega)
  refine ⟨fun p q h1 h2 h3 h4 h5 => ?_, fun q h1 h2 => ?_⟩
  · rw [hs, hs, if_neg h4, if_neg h5]
    by_cases e1 : p = j
    · rw [if_pos e1]
      by_cases e2 : q = j
      · omega
      · rw [if_neg e2]
        exact h.1 (j - 1) q (by omega) (by omega) h3 (by omega) e2
    · rw [if_neg e1]
      by_cases e2 : q = j
      · rw [if_pos e2]
        exact h.1 p (j - 1) h1 (by omega) (by omega) e1 (by omega)
      · rw [if_neg e2]
        exact h.1 p q h1 h2 h3 e1 e2
  · rw [hs, hs, if_pos rfl, if_neg (by omega)]
    by_cases e2 : q = j
    · rw [if_pos e2]
      omega
    · rw [if_neg e2]
      exact h.2 q (by omega) h2
theorem Down.stop {a i j : Nat} {L : List Val} (h : Down a i j L) (haj : a ≤ j) (hji : j ≤ i) (hs : j = a ∨ ¬ ordV (atL L j) (atL L (j - 1)) < 0) : SAB a (i + 1) L := fun p q h1 h2 h3 => by
  by_cases e1 : p = j
  · subst e1; exact h.2 q h2 (by omega)
  · by_cases e2 : q = j
    · subst e2
      rcases hs with e | e
      · omega
      · have h4 := ord_anti (atL L q) (atL L (q - 1))
        have h5 : ordV (atL L (q - 1)) (atL L q) ≤ 0 := by omega
        by_cases e3 : p = q - 1
        · rw [e3]; exact h5
        · exact ord_le (h.1 p (q - 1) h1 (by omega) (by omega) e1 (by omega)) h5
    · exact h.1 p q h1 h2 (by omega) e1 e2
theorem ltV_t {x y : Val} (h : ltV x y = true) : ordV x y < 0 := by simpa [ltV] using h
theorem ltV_f {x y : Val} (h : ltV x y = false) : ¬ ordV x y < 0 := by simpa [ltV] using h

set_option maxHeartbeats 4000000 in
set_option maxRecDepth 100000 in
theorem insertion_any (T : Sorting) (W : World) (L : List Val) (a b : Nat) (hT : T.OK W) (hO : OwnV W T.base T.v L) (hab : a ≤ b) (hb : b ≤ T.N) :
    Calls Tryz.prog 137 #[.agg #[T.less, T.swap], .int .i64 a, .int .i64 b] W fun e w' => e = .returned (.tuple #[]) ∧ ∃ L', OwnV w' T.base T.v L' ∧ Grew W w' T.v T.v ∧ PAB a b L L' ∧ SAB a b L' := by
  have H0 := hide (Sorting.start hT hO)
  have hsm := hT.small
  clear hT hO
  go_enter Tryz.func137, Tryz.ntmps137
  go_wp2_with fail
  go_loopw [6] (fun s wr => ∃ (i : Nat) (L' : List Val), s = .int .i64 (i : Int) ∧ a < i ∧ i ≤ b + 1 ∧ Hid (T.At W.heap.size (W.alloc (.cells #[T.less, T.swap] 162)) wr L') ∧ Hid (PAB a b L L') ∧ Hid (SAB a (min i b) L')) (fun s _ => b + 1 - (intOf s).toNat)
  case atStart => exact ⟨a + 1, L, by go_num, by omega, by omega, H0, PAB.refl _ _ _, SAB.one (by omega) _⟩
  case round =>
    obtain ⟨i, L', rfl, hai, hib, HA, HP, HS⟩ := hrel
    by_cases h1 : i < b
    · have i1 : (i : Int) < (b : Int) := by omega
      have HS1 : Hid (Down a i i L') := by
        have h2 := unhide HS
        rw [Nat.min_eq_left (by omega)] at h2
        exact Down.start h2
      go_wp2_with fail
      go_loopw [7] (fun s wv => ∃ (j : Nat) (M : List Val), s = .int .i64 (j : Int) ∧ a ≤ j ∧ j ≤ i ∧ Hid (T.At W.heap.size (W.alloc (.cells #[T.less, T.swap] 162)) wv M) ∧ Hid (PAB a b L M) ∧ Hid (Down a i j M)) (fun s _ => (intOf s).toNat)
      case atStart => exact ⟨i, L', rfl, by omega, Nat.le_refl _, HA, HP, HS1⟩
      case round =>
        obtain ⟨j, M, rfl, haj, hji, HAM, HPM, HD⟩ := hrel
        have c0 := (unhide HAM).c0
        have c1 := (unhide HAM).c1
        have hlen := Sorting.lenL (unhide HAM).own
        unfold Sorting.less at c0
        unfold Sorting.swap at c1
        by_cases h2 : a < j
        · have i2 : (a : Int) < (j : Int) := by omega
          have hj1 : ((j - 1 : Nat) : Int) = (j : Int) - 1 := by omega
          have HL := hide (less_any T wr M j (j - 1) (unhide HAM).ok (unhide HAM).own (by omega) (by omega))
          rw [hj1] at HL
          cases hlt : ltV (atL M j) (atL M (j - 1))
          · rw [hlt] at HL
            have HE := hide (Down.stop (unhide HD) haj hji (.inr (ltV_f hlt)))
            clear hlt hj1
            go_wp2_with (go_at_call 89; refine (unhide HL).mono ?_; rintro e w2 ⟨rfl, hb2⟩; replace hb2 := hide hb2)
            go_roundw
            case rel => exact ⟨i + 1, M, by go_num, by omega, by omega, (unhide HAM).below (unhide hb2), HPM, by rw [Nat.min_eq_left (by omega)]; exact HE⟩
            case measure => first | (simp [intOf]; omega) | (simp only [intOf]; omega)
          · rw [hlt] at HL
            have HD2 := hide (Down.step (unhide HD) h2 hji (by omega) (ltV_t hlt))
            have HP2 := hide ((unhide HPM).trans (PAB.swap (a := a) (b := b) (i := j) (j := j - 1) (by omega) (by omega) (by omega) (by omega) (by omega) (by omega)))
            have SW : Hid (∀ w2, Below wr.heap.size wr w2 → w2.cell? ⟨W.heap.size, 1, none⟩ = some (.func (.func T.SF) #[] T.sb) ∧ ∃ W', (callFunc T.SF (#[.int .i64 (j : Int), .int .i64 ((j : Int) - 1)] ++ T.sb)).run Tryz.prog w2 = .ok (.value (.tuple #[])) W' ∧ Hid (T.At W.heap.size (W.alloc (.cells #[T.less, T.swap] 162)) W' (swapL M j (j - 1)))) := fun w2 hb2 => by
              have h3 := (unhide HAM).below hb2
              obtain ⟨W', q1, q2⟩ := h3.swp (i := j) (j := j - 1) (by omega) (by omega)
              rw [hj1] at q1
              exact ⟨h3.c1, W', q1, q2⟩
            clear hlt hj1
            go_wp2_with (go_at_call 89; refine (unhide HL).mono ?_; rintro e w2 ⟨rfl, hb2⟩; obtain ⟨c2, W', hsw, HA2⟩ := unhide SW _ hb2; replace hsw := hide hsw; clear hb2)
            rw [unhide hsw, Oper.upon_value]
            go_wp2
            go_roundw
            case rel => exact ⟨j - 1, _, by go_num, by omega, by omega, HA2, HP2, HD2⟩
            case measure => first | (simp [intOf]; omega) | (simp only [intOf]; omega)
        · have i2 : ¬ (a : Int) < (j : Int) := by omega
          have HE := hide (Down.stop (unhide HD) haj hji (.inl (by omega)))
          clear hlen
          go_wp2
          go_roundw
          case rel => exact ⟨i + 1, M, by go_num, by omega, by omega, HAM, HPM, by rw [Nat.min_eq_left (by omega)]; exact HE⟩
          case measure => first | (simp [intOf]; omega) | (simp only [intOf]; omega)
    · have i1 : ¬ (i : Int) < (b : Int) := by omega
      have HS1 : Hid (SAB a b L') := by
        have h2 := unhide HS
        rw [Nat.min_eq_right (by omega)] at h2
        exact h2
      go_wp2
      go_end0
      exact ⟨rfl, L', (unhide HA).own, (unhide HA).back, unhide HP, unhide HS1⟩
end Go.Proofs.YthbfomcmjjnikaaGreat
set_option linter.unusedSimpArgs false
set_option linter.unusedVariables false
namespace Go.Proofs.YthbfomcmjjnikaaGreat
open Go.RowKit Go.Sort

/-- The value of a has come to k, those between have come down by one. -/
def upF (f : Nat → Val) (a k : Nat) (q : Nat) : Val := if a ≤ q ∧ q < k then f (q + 1) else if q = k then f a else f q
theorem upF_start (f : Nat → Val) (a : Nat) : upF f a a = f := by
  funext q
  unfold upF
  rw [if_neg (by omega)]
  split
  · rename_i h; rw [h]
  · rfl
theorem upF_next {L : List Val} {f : Nat → Val} {a k : Nat} (hak : a ≤ k) (hk : k + 1 < L.length) (h : ∀ q, atL L q = upF f a k q) : ∀ q, atL (swapL L k (k + 1)) q = upF f a (k + 1) q := by
  intro q
  rw [swapL_at (by omega) hk]
  unfold upF at *
  by_cases h1 : q = k + 1
  · rw [if_pos h1, h, if_neg (by omega), if_pos rfl, if_neg (by omega), if_pos h1]
  · rw [if_neg h1]
    by_cases h2 : q = k
    · rw [if_pos h2, h, if_neg (by omega), if_neg (by omega), if_pos (by omega), h2]
    · rw [if_neg h2, h]
      by_cases h3 : a ≤ q ∧ q < k
      · rw [if_pos h3, if_pos (by omega)]
      · rw [if_neg h3, if_neg h2, if_neg (by omega), if_neg h1]
theorem up_sorted {L L' : List Val} {a b i : Nat} (hi : a + 1 ≤ i) (hib : i ≤ b) (hS : SAB (a + 1) b L) (hlo : i = a + 1 ∨ ordV (atL L (i - 1)) (atL L a) < 0) (hhi : i = b ∨ ¬ ordV (atL L i) (atL L a) < 0) (h : ∀ q, atL L' q = upF (atL L) a (i - 1) q) : SAB a b L' := by
  have lo : ∀ q, a + 1 ≤ q → q < i → ordV (atL L q) (atL L a) ≤ 0 := fun q h1 h2 => by
    rcases hlo with e | e
    · omega
    · exact ord_le (hS.le h1 (by omega : q ≤ i - 1) (by omega)) (by omega)
  have hi' : ∀ q, i ≤ q → q < b → ordV (atL L a) (atL L q) ≤ 0 := fun q h1 h2 => by
    rcases hhi with e | e
    · omega
    · have := ord_anti (atL L i) (atL L a)
      exact ord_le (by omega) (hS.le hi h1 h2)
  intro p q h1 h2 h3
  rw [h p, h q]
  unfold upF
  by_cases p1 : a ≤ p ∧ p < i - 1
  · rw [if_pos p1]
    by_cases q1 : a ≤ q ∧ q < i - 1
    · rw [if_pos q1]; exact hS (p + 1) (q + 1) (by omega) (by omega) (by omega)
    · rw [if_neg q1]
      by_cases q2 : q = i - 1
      · rw [if_pos q2]; exact lo (p + 1) (by omega) (by omega)
      · rw [if_neg q2]; exact hS (p + 1) q (by omega) (by omega) h3
  · rw [if_neg p1]
    by_cases p2 : p = i - 1
    · rw [if_pos p2, if_neg (by omega), if_neg (by omega)]
      exact hi' q (by omega) h3
    · rw [if_neg p2, if_neg (by omega), if_neg (by omega)]
      exact hS p q (by omega) h2 h3
/-- The value of m has come down to k, those between have gone up by one. -/
def dnF (f : Nat → Val) (m k : Nat) (q : Nat) : Val := if k < q ∧ q ≤ m then f (q - 1) else if q = k then f m else f q
theorem dnF_start (f : Nat → Val) (m : Nat) : dnF f m m = f := by
  funext q
  unfold dnF
  rw [if_neg (by omega)]
  split
  · rename_i h; rw [h]
  · rfl
theorem dnF_next {L : List Val} {f : Nat → Val} {m k : Nat} (hk : 0 < k) (hkm : k ≤ m) (hm : m < L.length) (h : ∀ q, atL L q = dnF f m k q) : ∀ q, atL (swapL L k (k - 1)) q = dnF f m (k - 1) q := by
  intro q
  rw [swapL_at (by omega) (by omega)]
  unfold dnF at *
  by_cases h1 : q = k - 1
  · rw [if_pos h1, h, if_neg (by omega), if_pos rfl, if_neg (by omega), if_pos h1]
  · rw [if_neg h1]
    by_cases h2 : q = k
    · rw [if_pos h2, h, if_neg (by omega), if_neg (by omega), if_pos (by omega), h2]
    · rw [if_neg h2, h]
      by_cases h3 : k < q ∧ q ≤ m
      · rw [if_pos h3, if_pos (by omega)]
      · rw [if_neg h3, if_neg h2, if_neg (by omega), if_neg h1]
theorem dn_sorted {L L' : List Val} {a m i : Nat} (hi : a ≤ i) (him : i ≤ m) (hS : SAB a m L) (hlo : i = a ∨ ordV (atL L (i - 1)) (atL L m) ≤ 0) (hhi : i = m ∨ ordV (atL L m) (atL L i) < 0) (h : ∀ q, atL L' q = dnF (atL L) m i q) : SAB a (m + 1) L' := by
  have lo : ∀ q, a ≤ q → q < i → ordV (atL L q) (atL L m) ≤ 0 := fun q h1 h2 => by
    rcases hlo with e | e
    · omega
    · exact ord_le (hS.le h1 (by omega : q ≤ i - 1) (by omega)) (by omega)
  have hi' : ∀ q, i ≤ q → q < m → ordV (atL L m) (atL L q) ≤ 0 := fun q h1 h2 => by
    rcases hhi with e | e
    · omega
    · exact ord_le (by omega) (hS.le hi h1 h2)
  intro p q h1 h2 h3
  rw [h p, h q]
  unfold dnF
  by_cases q1 : i < q ∧ q ≤ m
  · rw [if_pos q1]
    by_cases p1 : i < p ∧ p ≤ m
    · rw [if_pos p1]; exact hS (p - 1) (q - 1) (by omega) (by omega) (by omega)
    · rw [if_neg p1]
      by_cases p2 : p = i
      · rw [if_pos p2]; exact hi' (q - 1) (by omega) (by omega)
      · rw [if_neg p2]; exact hS p (q - 1) h1 (by omega) (by omega)
  · rw [if_neg q1, if_neg (by omega : ¬ (i < p ∧ p ≤ m)), if_neg (by omega : ¬ p = i)]
    by_cases q2 : q = i
    · rw [if_pos q2]; exact lo p h1 (by omega)
    · rw [if_neg q2]; exact hS p q h1 h2 (by omega)
/-- The halves behind the turn. -/
theorem sym_cross {L L' : List Val} {a m b mid s e s0 r0 : Nat} (hm : mid = (a + b) / 2) (ham : a < m) (hmb : m < b) (he : e + s = mid + m) (hs0 : s0 ≤ s) (hsr : s ≤ r0)
    (hcase : (mid < m ∧ s0 + b = mid + m ∧ r0 = mid) ∨ (m ≤ mid ∧ s0 = a ∧ r0 = m)) (hS1 : SAB a m L) (hS2 : SAB m b L)
    (hlo : s = s0 ∨ ordV (atL L (s - 1)) (atL L e) ≤ 0) (hhi : s = r0 ∨ ordV (atL L (e - 1)) (atL L s) < 0) (hL : ∀ q, atL L' q = rotF (atL L) s m e q) :
    (SAB a s L' ∧ SAB s mid L') ∧ (SAB mid e L' ∧ SAB e b L') ∧ ∀ i j, a ≤ i → i < mid → mid ≤ j → j < b → ordV (atL L' i) (atL L' j) ≤ 0 := by
  have l1 : ∀ q, q < s → atL L' q = atL L q := fun q h1 => by rw [hL, rotF, if_pos (.inl h1)]
  have l2 : ∀ q, s ≤ q → q < mid → atL L' q = atL L (q - s + m) := fun q h1 h2 => by rw [hL, rotF, if_neg (by omega), if_pos (by omega)]
  have l3 : ∀ q, mid ≤ q → q < e → atL L' q = atL L (q - (e - m)) := fun q h1 h2 => by rw [hL, rotF, if_neg (by omega), if_neg (by omega)]
  have l4 : ∀ q, e ≤ q → atL L' q = atL L q := fun q h1 => by rw [hL, rotF, if_pos (.inr h1)]
  refine ⟨⟨fun i j h1 h2 h3 => ?_, fun i j h1 h2 h3 => ?_⟩, ⟨fun i j h1 h2 h3 => ?_, fun i j h1 h2 h3 => ?_⟩, fun i j h1 h2 h3 h4 => ?_⟩
  · rw [l1 i (by omega), l1 j h3]; exact hS1 i j h1 h2 (by omega)
  · rw [l2 i h1 (by omega), l2 j (by omega) h3]; exact hS2 _ _ (by omega) (by omega) (by omega)
  · rw [l3 i h1 (by omega), l3 j (by omega) h3]; exact hS1 _ _ (by omega) (by omega) (by omega)
  · rw [l4 i h1, l4 j (by omega)]; exact hS2 i j (by omega) h2 h3
  · by_cases hi : i < s
    · rw [l1 i hi]
      by_cases hj : j < e
      · rw [l3 j h3 hj]; exact hS1 i _ h1 (by omega) (by omega)
      · rw [l4 j (by omega)]
        rcases hlo with e1 | e1
        · omega
        · exact ord_le (hS1.le h1 (by omega : i ≤ s - 1) (by omega)) (ord_le e1 (hS2.le (by omega) (by omega : e ≤ j) h4))
    · rw [l2 i (by omega) h2]
      by_cases hj : j < e
      · rw [l3 j h3 hj]
        rcases hhi with e1 | e1
        · omega
        · exact ord_le (hS2.le (by omega) (by omega : i - s + m ≤ e - 1) (by omega)) (ord_le (by omega) (hS1.le (by omega) (by omega : s ≤ j - (e - m)) (by omega)))
      · rw [l4 j (by omega)]; exact hS2 _ j (by omega) (by omega) h4
theorem rot_none {f : Nat → Val} {s m e : Nat} (h : s ≤ m) (h2 : m ≤ e) (hn : ¬ (s < m ∧ m < e)) : ∀ q, f q = rotF f s m e q := by
  intro q
  unfold rotF
  by_cases h1 : q < s ∨ e ≤ q
  · rw [if_pos h1]
  · rw [if_neg h1]
    by_cases h3 : q < s + (e - m)
    · rw [if_pos h3]; congr 1; omega
    · rw [if_neg h3]; congr 1; omega
end Go.Proofs.YthbfomcmjjnikaaGreat
set_option linter.unusedSimpArgs false
set_option linter.unusedVariables false
namespace Go.Proofs.YthbfomcmjjnikaaGreat
open Go.RowKit Go.Sort

set_option maxHeartbeats 8000000 in
set_option maxRecDepth 100000 in
theorem symA_any (T : Sorting) (W : World) (L : List Val) (a m b : Nat) (hT : T.OK W) (hO : OwnV W T.base T.v L) (hm : m = a + 1) (hmb : m < b) (hb : b ≤ T.N) (hS : SAB m b L) :
    Calls Tryz.prog 138 #[.agg #[T.less, T.swap], .int .i64 a, .int .i64 m, .int .i64 b] W fun e w' => e = .returned (.tuple #[]) ∧ ∃ L', OwnV w' T.base T.v L' ∧ Grew W w' T.v T.v ∧ PAB a b L L' ∧ SAB a b L' := by
  have H0 := hide (Sorting.start hT hO)
  have hsm := hT.small
  have e1 : ((m : Int) - (a : Int) == 1) = true := by simp; omega
  have HS := hide hS
  have HM := hide hm
  have ham : a < m := by omega
  clear hT hO hS hm
  go_enter Tryz.func138, Tryz.ntmps138
  go_wp2_with fail
  go_loopw [8, 9] (fun s8 s9 wr => ∃ (i j : Nat), s8 = .int .i64 (i : Int) ∧ s9 = .int .i64 (j : Int) ∧ m ≤ i ∧ i ≤ j ∧ j ≤ b ∧ Hid (T.At W.heap.size (W.alloc (.cells #[T.less, T.swap] 162)) wr L) ∧ Hid (i = m ∨ ordV (atL L (i - 1)) (atL L a) < 0) ∧ Hid (j = b ∨ 0 ≤ ordV (atL L j) (atL L a))) (fun s8 s9 _ => (intOf s9 - intOf s8).toNat)
  case atStart => exact ⟨m, b, rfl, rfl, Nat.le_refl _, by omega, Nat.le_refl _, H0, .inl rfl, .inl rfl⟩
  case round =>
    obtain ⟨i, j, rfl, rfl, hmi, hij, hjb, HA, HLO, HHI⟩ := hrel
    have c0 := (unhide HA).c0
    unfold Sorting.less at c0
    by_cases h1 : i < j
    · have i1 : (i : Int) < (j : Int) := by omega
      obtain ⟨h, hh⟩ : ∃ h, h = (i + j) / 2 := ⟨_, rfl⟩
      have eh : ((i : Int) + (j : Int)) / 2 = (h : Int) := by omega
      have i3 : (i : Int) + (j : Int) ≤ 2097152 := by omega
      have hhj : i ≤ h ∧ h < j := by omega
      have HHJ := hide hhj
      have HL := hide (less_any T wr L h a (unhide HA).ok (unhide HA).own (by omega) (by omega))
      clear hh hhj
      cases hlt : ltV (atL L h) (atL L a)
      · rw [hlt] at HL
        have HX := hide (Int.not_lt.1 (ltV_f hlt))
        clear hlt
        go_wp2_with (go_at_call 89; refine (unhide HL).mono ?_; rintro e w2 ⟨rfl, hb2⟩; replace hb2 := hide hb2)
        go_roundw
        case rel => exact ⟨i, h, rfl, by go_num, hmi, (unhide HHJ).1, by have := unhide HHJ; omega, (unhide HA).below (unhide hb2), HLO, .inr (unhide HX)⟩
        case measure => have := unhide HHJ; first | (simp [intOf]; omega) | (simp only [intOf]; omega)
      · rw [hlt] at HL
        have HX := hide (ltV_t hlt)
        clear hlt
        go_wp2_with (go_at_call 89; refine (unhide HL).mono ?_; rintro e w2 ⟨rfl, hb2⟩; replace hb2 := hide hb2)
        go_roundw
        case rel => exact ⟨h + 1, j, by go_num, rfl, by have := unhide HHJ; omega, by have := unhide HHJ; omega, hjb, (unhide HA).below (unhide hb2), .inr (unhide HX), HHI⟩
        case measure => have := unhide HHJ; first | (simp [intOf]; omega) | (simp only [intOf]; omega)
    · have i1 : ¬ (i : Int) < (j : Int) := by omega
      have hij' : i = j := by omega
      have HHI2 : Hid (i = b ∨ 0 ≤ ordV (atL L i) (atL L a)) := by rw [hij']; exact HHI
      have hib : i ≤ b := by omega
      clear hij' HHI hij hjb
      go_wp2_with fail
      go_loopw [11] (fun s wv => ∃ (k : Nat) (M : List Val), s = .int .i64 (k : Int) ∧ a ≤ k ∧ k ≤ i - 1 ∧ Hid (T.At W.heap.size (W.alloc (.cells #[T.less, T.swap] 162)) wv M) ∧ Hid (PAB a b L M) ∧ Hid (∀ q, atL M q = upF (atL L) a k q)) (fun s _ => i - (intOf s).toNat)
      case atStart => exact ⟨a, L, rfl, Nat.le_refl _, by omega, HA, PAB.refl _ _ _, fun q => by rw [upF_start]⟩
      case round =>
        obtain ⟨k, M, rfl, hak, hki, HAM, HP, HF⟩ := hrel
        have c1 := (unhide HAM).c1
        unfold Sorting.swap at c1
        have hlen := Sorting.lenL (unhide HAM).own
        by_cases h2 : k < i - 1
        · have i2 : (k : Int) < (i : Int) - 1 := by omega
          obtain ⟨W', hsw, hA'⟩ := (unhide HAM).swp (i := k) (j := k + 1) (by omega) (by omega)
          rw [Int.natCast_add] at hsw
          have HSW := hide hsw
          have HA' := hide hA'
          have HP' := hide ((unhide HP).trans (PAB.swap (a := a) (b := b) (i := k) (j := k + 1) (by omega) (by omega) (by omega) (by omega) (by omega) (by omega)))
          have HF' := hide (upF_next hak (by omega) (unhide HF))
          clear hsw hA' hlen
          go_wp2
          rw [show ((1 : Nat) : Int) = 1 from rfl] at HSW
          rw [unhide HSW, Oper.upon_value]
          go_wp2
          go_roundw
          case rel => exact ⟨k + 1, _, by go_num, by omega, by omega, HA', HP', HF'⟩
          case measure => first | (simp [intOf]; omega) | (simp only [intOf]; omega)
        · have i2 : ¬ (k : Int) < (i : Int) - 1 := by omega
          have hk' : k = i - 1 := by omega
          rw [hk'] at HF
          have HE : Hid (SAB a b M) := by
            have hm := unhide HM
            have hlo := unhide HLO
            have hs := unhide HS
            rw [hm] at hlo hs
            exact up_sorted (by omega) hib hs hlo ((unhide HHI2).imp id fun h => Int.not_lt.2 h) (unhide HF)
          clear hk' hlen
          go_wp2
          (try simp only [Exit.inBlock, Exit.then]); refine bodyPost_ret (results_none rfl _ _ _) rfl ?_
          exact ⟨rfl, M, (unhide HAM).own, (unhide HAM).back, unhide HP, unhide HE⟩

set_option maxHeartbeats 8000000 in
set_option maxRecDepth 100000 in
theorem symB_any (T : Sorting) (W : World) (L : List Val) (a m b : Nat) (hT : T.OK W) (hO : OwnV W T.base T.v L) (hm : a + 1 < m) (hmb : b = m + 1) (hb : b ≤ T.N) (hS : SAB a m L) :
    Calls Tryz.prog 138 #[.agg #[T.less, T.swap], .int .i64 a, .int .i64 m, .int .i64 b] W fun e w' => e = .returned (.tuple #[]) ∧ ∃ L', OwnV w' T.base T.v L' ∧ Grew W w' T.v T.v ∧ PAB a b L L' ∧ SAB a b L' := by
  have H0 := hide (Sorting.start hT hO)
  have hsm := hT.small
  have e1 : ((m : Int) - (a : Int) == 1) = false := by simp; omega
  have e2 : ((b : Int) - (m : Int) == 1) = true := by simp; omega
  have HS := hide hS
  have HM := hide hmb
  have hmN : m < T.N := by omega
  clear hT hO hS hmb
  go_enter Tryz.func138, Tryz.ntmps138
  go_wp2_with fail
  go_loopw [12, 13] (fun s8 s9 wr => ∃ (i j : Nat), s8 = .int .i64 (i : Int) ∧ s9 = .int .i64 (j : Int) ∧ a ≤ i ∧ i ≤ j ∧ j ≤ m ∧ Hid (T.At W.heap.size (W.alloc (.cells #[T.less, T.swap] 162)) wr L) ∧ Hid (i = a ∨ ordV (atL L (i - 1)) (atL L m) ≤ 0) ∧ Hid (j = m ∨ ordV (atL L m) (atL L j) < 0)) (fun s8 s9 _ => (intOf s9 - intOf s8).toNat)
  case atStart => exact ⟨a, m, rfl, rfl, Nat.le_refl _, by omega, Nat.le_refl _, H0, .inl rfl, .inl rfl⟩
  case round =>
    obtain ⟨i, j, rfl, rfl, hmi, hij, hjb, HA, HLO, HHI⟩ := hrel
    have c0 := (unhide HA).c0
    unfold Sorting.less at c0
    by_cases h1 : i < j
    · have i1 : (i : Int) < (j : Int) := by omega
      obtain ⟨h, hh⟩ : ∃ h, h = (i + j) / 2 := ⟨_, rfl⟩
      have eh : ((i : Int) + (j : Int)) / 2 = (h : Int) := by omega
      have i3 : (i : Int) + (j : Int) ≤ 2097152 := by omega
      have hhj : i ≤ h ∧ h < j := by omega
      have HHJ := hide hhj
      have HL := hide (less_any T wr L m h (unhide HA).ok (unhide HA).own hmN (by omega))
      clear hh hhj
      cases hlt : ltV (atL L m) (atL L h)
      · rw [hlt] at HL
        have HX : Hid (ordV (atL L h) (atL L m) ≤ 0) := by
          have h3 := ltV_f hlt
          have h4 := ord_anti (atL L m) (atL L h)
          show _ ≤ _
          omega
        clear hlt
        go_wp2_with (go_at_call 89; refine (unhide HL).mono ?_; rintro e w2 ⟨rfl, hb2⟩; replace hb2 := hide hb2)
        go_roundw
        case rel => exact ⟨h + 1, j, by go_num, rfl, by have := unhide HHJ; omega, by have := unhide HHJ; omega, hjb, (unhide HA).below (unhide hb2), .inr (unhide HX), HHI⟩
        case measure => have := unhide HHJ; first | (simp [intOf]; omega) | (simp only [intOf]; omega)
      · rw [hlt] at HL
        have HX := hide (ltV_t hlt)
        clear hlt
        go_wp2_with (go_at_call 89; refine (unhide HL).mono ?_; rintro e w2 ⟨rfl, hb2⟩; replace hb2 := hide hb2)
        go_roundw
        case rel => exact ⟨i, h, rfl, by go_num, hmi, (unhide HHJ).1, by have := unhide HHJ; omega, (unhide HA).below (unhide hb2), HLO, .inr (unhide HX)⟩
        case measure => have := unhide HHJ; first | (simp [intOf]; omega) | (simp only [intOf]; omega)
    · have i1 : ¬ (i : Int) < (j : Int) := by omega
      have hij' : i = j := by omega
      have HHI2 : Hid (i = m ∨ ordV (atL L m) (atL L i) < 0) := by rw [hij']; exact HHI
      have hib : i ≤ m := by omega
      clear hij' HHI hij hjb
      go_wp2_with fail
      go_loopw [15] (fun s wv => ∃ (k : Nat) (M : List Val), s = .int .i64 (k : Int) ∧ i ≤ k ∧ k ≤ m ∧ Hid (T.At W.heap.size (W.alloc (.cells #[T.less, T.swap] 162)) wv M) ∧ Hid (PAB a b L M) ∧ Hid (∀ q, atL M q = dnF (atL L) m k q)) (fun s _ => (intOf s).toNat)
      case atStart => exact ⟨m, L, rfl, hib, Nat.le_refl _, HA, PAB.refl _ _ _, fun q => by rw [dnF_start]⟩
      case round =>
        obtain ⟨k, M, rfl, hak, hki, HAM, HP, HF⟩ := hrel
        have c1 := (unhide HAM).c1
        unfold Sorting.swap at c1
        have hlen := Sorting.lenL (unhide HAM).own
        by_cases h2 : i < k
        · have i2 : (i : Int) < (k : Int) := by omega
          have hbm := unhide HM
          obtain ⟨W', hsw, hA'⟩ := (unhide HAM).swp (i := k) (j := k - 1) (by omega) (by omega)
          rw [show ((k - 1 : Nat) : Int) = (k : Int) - 1 by omega] at hsw
          have HSW := hide hsw
          have HA' := hide hA'
          have HP' := hide ((unhide HP).trans (PAB.swap (a := a) (b := b) (i := k) (j := k - 1) (by omega) (by omega) (by omega) (by omega) (by omega) (by omega)))
          have HF' := hide (dnF_next (by omega) hki (by omega) (unhide HF))
          clear hsw hA' hlen hbm
          go_wp2
          rw [unhide HSW, Oper.upon_value]
          go_wp2
          go_roundw
          case rel => exact ⟨k - 1, _, by go_num, by omega, by omega, HA', HP', HF'⟩
          case measure => first | (simp [intOf]; omega) | (simp only [intOf]; omega)
        · have i2 : ¬ (i : Int) < (k : Int) := by omega
          have hk' : k = i := by omega
          rw [hk'] at HF
          have HE : Hid (SAB a b M) := by
            rw [unhide HM]
            exact dn_sorted hmi hib (unhide HS) (unhide HLO) (unhide HHI2) (unhide HF)
          clear hk' hlen
          go_wp2
          (try simp only [Exit.inBlock, Exit.then]); refine bodyPost_ret (results_none rfl _ _ _) rfl ?_
          exact ⟨rfl, M, (unhide HAM).own, (unhide HAM).back, unhide HP, unhide HE⟩
end Go.Proofs.YthbfomcmjjnikaaGreat
