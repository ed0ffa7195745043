import Derived.Test.YtljebbodcehmpabGreatStbE
set_option linter.unusedSimpArgs false
set_option linter.unusedVariables false
namespace Go.Proofs.YtljebbodcehmpabGreat
open Go.RowKit Go.Sort

set_option maxHeartbeats 8000000 in
set_option maxRecDepth 100000 in
theorem symA_any (T : Sorting) (W : World) (L : List Val) (a m b : Nat) (hT : T.OK W) (hO : OwnV W T.base T.v L) (hm : m = a + 1) (hmb : m < b) (hb : b ≤ T.N) (hS : SAB m b L) :
    Calls Tryz.prog 121 #[.agg #[T.less, T.swap], .int .i64 a, .int .i64 m, .int .i64 b] W fun e w' => e = .returned (.tuple #[]) ∧ ∃ L', OwnV w' T.base T.v L' ∧ Grew W w' T.v T.v ∧ PAB a b L L' ∧ SAB a b L' := by
  have H0 := hide (Sorting.start hT hO)
  have hsm := hT.small
  have e1 : ((m : Int) - (a : Int) == 1) = true := by simp; omega
  have HS := hide hS
  have HM := hide hm
  have ham : a < m := by omega
  clear hT hO hS hm
  go_enter Tryz.func121, Tryz.ntmps121
  go_wp2_with fail
  go_loopw [8, 9] (fun s8 s9 wr => ∃ (i j : Nat), s8 = .int .i64 (i : Int) ∧ s9 = .int .i64 (j : Int) ∧ m ≤ i ∧ i ≤ j ∧ j ≤ b ∧ Hid (T.At W.heap.size (W.alloc (.cells #[T.less, T.swap] 137)) wr L) ∧ Hid (i = m ∨ ordV (atL L (i - 1)) (atL L a) < 0) ∧ Hid (j = b ∨ 0 ≤ ordV (atL L j) (atL L a))) (fun s8 s9 _ => (intOf s9 - intOf s8).toNat)
  case atStart => exact ⟨m, b, rfl, rfl, Nat.le_refl _, by omega, Nat.le_refl _, H0, .inl rfl, .inl rfl⟩
  case round =>
    obtain ⟨i, j, rfl, rfl, hmi, hij, hjb, HA, HLO, HHI⟩ := hrel
    have c0 := (unhide HA).c0
    unfold Sorting.less at c0
    by_cases h1 : i < j
    · have i1 : (i : Int) < (j : Int) := by omega
      obtain ⟨h, hh⟩ : ∃ h, h = (i + j) / 2 := ⟨_, rfl⟩
      have eh : ((i : Int) + (j : Int)) / 2 = (h : Int) := by omega
      have i3 : (i : Int) + (j : Int) ≤ 2097152 := by omega
      have hhj : i ≤ h ∧ h < j := by omega
      have HHJ := hide hhj
      have HL := hide (less_any T wr L h a (unhide HA).ok (unhide HA).own (by omega) (by omega))
      clear hh hhj
      cases hlt : ltV (atL L h) (atL L a)
      · rw [hlt] at HL
        have HX := hide (Int.not_lt.1 (ltV_f hlt))
        clear hlt
        go_wp2_with (go_at_call 66; refine (unhide HL).mono ?_; rintro e w2 ⟨rfl, hb2⟩; replace hb2 := hide hb2)
        go_roundw
        case rel => exact ⟨i, h, rfl, by go_num, hmi, (unhide HHJ).1, by have := unhide HHJ; omega, (unhide HA).below (unhide hb2), HLO, .inr (unhide HX)⟩
        case measure => have := unhide HHJ; first | (simp [intOf]; omega) | (simp only [intOf]; omega)
      · rw [hlt] at HL
        have HX := hide (ltV_t hlt)
        clear hlt
        go_wp2_with (go_at_call 66; refine (unhide HL).mono ?_; rintro e w2 ⟨rfl, hb2⟩; replace hb2 := hide hb2)
        go_roundw
        case rel => exact ⟨h + 1, j, by go_num, rfl, by have := unhide HHJ; omega, by have := unhide HHJ; omega, hjb, (unhide HA).below (unhide hb2), .inr (unhide HX), HHI⟩
        case measure => have := unhide HHJ; first | (simp [intOf]; omega) | (simp only [intOf]; omega)
    · have i1 : ¬ (i : Int) < (j : Int) := by omega
      have hij' : i = j := by omega
      have HHI2 : Hid (i = b ∨ 0 ≤ ordV (atL L i) (atL L a)) := by rw [hij']; exact HHI
      have hib : i ≤ b := by omega
      clear hij' HHI hij hjb
      go_wp2_with fail
      go_loopw [11] (fun s wv => ∃ (k : Nat) (M : List Val), s = .int .i64 (k : Int) ∧ a ≤ k ∧ k ≤ i - 1 ∧ Hid (T.At W.heap.size (W.alloc (.cells #[T.less, T.swap] 137)) wv M) ∧ Hid (PAB a b L M) ∧ Hid (∀ q, atL M q = upF (atL L) a k q)) (fun s _ => i - (intOf s).toNat)
      case atStart => exact ⟨a, L, rfl, Nat.le_refl _, by omega, HA, PAB.refl _ _ _, fun q => by rw [upF_start]⟩
      case round =>
        obtain ⟨k, M, rfl, hak, hki, HAM, HP, HF⟩ := hrel
        have c1 := (unhide HAM).c1
        unfold Sorting.swap at c1
        have hlen := Sorting.lenL (unhide HAM).own
        by_cases h2 : k < i - 1
        · have i2 : (k : Int) < (i : Int) - 1 := by omega
          obtain ⟨W', hsw, hA'⟩ := (unhide HAM).swp (i := k) (j := k + 1) (by omega) (by omega)
          rw [Int.natCast_add] at hsw
          have HSW := hide hsw
          have HA' := hide hA'
          have HP' := hide ((unhide HP).trans (PAB.swap (a := a) (b := b) (i := k) (j := k + 1) (by omega) (by omega) (by omega) (by omega) (by omega) (by omega)))
          have HF' := hide (upF_next hak (by omega) (unhide HF))
          clear hsw hA' hlen
          go_wp2
          rw [show ((1 : Nat) : Int) = 1 from rfl] at HSW
          rw [unhide HSW, Oper.upon_value]
          go_wp2
          go_roundw
          case rel => exact ⟨k + 1, _, by go_num, by omega, by omega, HA', HP', HF'⟩
          case measure => first | (simp [intOf]; omega) | (simp only [intOf]; omega)
        · have i2 : ¬ (k : Int) < (i : Int) - 1 := by omega
          have hk' : k = i - 1 := by omega
          rw [hk'] at HF
          have HE : Hid (SAB a b M) := by
            have hm := unhide HM
            have hlo := unhide HLO
            have hs := unhide HS
            rw [hm] at hlo hs
            exact up_sorted (by omega) hib hs hlo ((unhide HHI2).imp id fun h => Int.not_lt.2 h) (unhide HF)
          clear hk' hlen
          go_wp2
          (try simp only [Exit.inBlock, Exit.then]); refine bodyPost_ret (results_none rfl _ _ _) rfl ?_
          exact ⟨rfl, M, (unhide HAM).own, (unhide HAM).back, unhide HP, unhide HE⟩

set_option maxHeartbeats 8000000 in
set_option maxRecDepth 100000 in
theorem symB_any (T : Sorting) (W : World) (L : List Val) (a m b : Nat) (hT : T.OK W) (hO : OwnV W T.base T.v L) (hm : a + 1 < m) (hmb : b = m + 1) (hb : b ≤ T.N) (hS : SAB a m L) :
    Calls Tryz.prog 121 #[.agg #[T.less, T.swap], .int .i64 a, .int .i64 m, .int .i64 b] W fun e w' => e = .returned (.tuple #[]) ∧ ∃ L', OwnV w' T.base T.v L' ∧ Grew W w' T.v T.v ∧ PAB a b L L' ∧ SAB a b L' := by
  have H0 := hide (Sorting.start hT hO)
  have hsm := hT.small
  have e1 : ((m : Int) - (a : Int) == 1) = false := by simp; omega
  have e2 : ((b : Int) - (m : Int) == 1) = true := by simp; omega
  have HS := hide hS
  have HM := hide hmb
  have hmN : m < T.N := by omega
  clear hT hO hS hmb
  go_enter Tryz.func121, Tryz.ntmps121
  go_wp2_with fail
  go_loopw [12, 13] (fun s8 s9 wr => ∃ (i j : Nat), s8 = .int .i64 (i : Int) ∧ s9 = .int .i64 (j : Int) ∧ a ≤ i ∧ i ≤ j ∧ j ≤ m ∧ Hid (T.At W.heap.size (W.alloc (.cells #[T.less, T.swap] 137)) wr L) ∧ Hid (i = a ∨ ordV (atL L (i - 1)) (atL L m) ≤ 0) ∧ Hid (j = m ∨ ordV (atL L m) (atL L j) < 0)) (fun s8 s9 _ => (intOf s9 - intOf s8).toNat)
  case atStart => exact ⟨a, m, rfl, rfl, Nat.le_refl _, by omega, Nat.le_refl _, H0, .inl rfl, .inl rfl⟩
  case round =>
    obtain ⟨i, j, rfl, rfl, hmi, hij, hjb, HA, HLO, HHI⟩ := hrel
    have c0 := (unhide HA).c0
    unfold Sorting.less at c0
    by_cases h1 : i < j
    · have i1 : (i : Int) < (j : Int) := by omega
      obtain ⟨h, hh⟩ : ∃ h, h = (i + j) / 2 := ⟨_, rfl⟩
      have eh : ((i : Int) + (j : Int)) / 2 = (h : Int) := by omega
      have i3 : (i : Int) + (j : Int) ≤ 2097152 := by omega
      have hhj : i ≤ h ∧ h < j := by omega
      have HHJ := hide hhj
      have HL := hide (less_any T wr L m h (unhide HA).ok (unhide HA).own hmN (by omega))
      clear hh hhj
      cases hlt : ltV (atL L m) (atL L h)
      · rw [hlt] at HL
        have HX : Hid (ordV (atL L h) (atL L m) ≤ 0) := by
          have h3 := ltV_f hlt
          have h4 := ord_anti (atL L m) (atL L h)
          show _ ≤ _
          omega
        clear hlt
        go_wp2_with (go_at_call 66; refine (unhide HL).mono ?_; rintro e w2 ⟨rfl, hb2⟩; replace hb2 := hide hb2)
        go_roundw
        case rel => exact ⟨h + 1, j, by go_num, rfl, by have := unhide HHJ; omega, by have := unhide HHJ; omega, hjb, (unhide HA).below (unhide hb2), .inr (unhide HX), HHI⟩
        case measure => have := unhide HHJ; first | (simp [intOf]; omega) | (simp only [intOf]; omega)
      · rw [hlt] at HL
        have HX := hide (ltV_t hlt)
        clear hlt
        go_wp2_with (go_at_call 66; refine (unhide HL).mono ?_; rintro e w2 ⟨rfl, hb2⟩; replace hb2 := hide hb2)
        go_roundw
        case rel => exact ⟨i, h, rfl, by go_num, hmi, (unhide HHJ).1, by have := unhide HHJ; omega, (unhide HA).below (unhide hb2), HLO, .inr (unhide HX)⟩
        case measure => have := unhide HHJ; first | (simp [intOf]; omega) | (simp only [intOf]; omega)
    · have i1 : ¬ (i : Int) < (j : Int) := by omega
      have hij' : i = j := by omega
      have HHI2 : Hid (i = m ∨ ordV (atL L m) (atL L i) < 0) := by rw [hij']; exact HHI
      have hib : i ≤ m := by omega
      clear hij' HHI hij hjb
      go_wp2_with fail
      go_loopw [15] (fun s wv => ∃ (k : Nat) (M : List Val), s = .int .i64 (k : Int) ∧ i ≤ k ∧ k ≤ m ∧ Hid (T.At W.heap.size (W.alloc (.cells #[T.less, T.swap] 137)) wv M) ∧ Hid (PAB a b L M) ∧ Hid (∀ q, atL M q = dnF (atL L) m k q)) (fun s _ => (intOf s).toNat)
      case atStart => exact ⟨m, L, rfl, hib, Nat.le_refl _, HA, PAB.refl _ _ _, fun q => by rw [dnF_start]⟩
      case round =>
        obtain ⟨k, M, rfl, hak, hki, HAM, HP, HF⟩ := hrel
        have c1 := (unhide HAM).c1
        unfold Sorting.swap at c1
        have hlen := Sorting.lenL (unhide HAM).own
        by_cases h2 : i < k
        · have i2 : (i : Int) < (k : Int) := by omega
          have hbm := unhide HM
          obtain ⟨W', hsw, hA'⟩ := (unhide HAM).swp (i := k) (j := k - 1) (by omega) (by omega)
          rw [show ((k - 1 : Nat) : Int) = (k : Int) - 1 by omega] at hsw
          have HSW := hide hsw
          have HA' := hide hA'
          have HP' := hide ((unhide HP).trans (PAB.swap (a := a) (b := b) (i := k) (j := k - 1) (by omega) (by omega) (by omega) (by omega) (by omega) (by omega)))
          have HF' := hide (dnF_next (by omega) hki (by omega) (unhide HF))
          clear hsw hA' hlen hbm
          go_wp2
          rw [unhide HSW, Oper.upon_value]
          go_wp2
          go_roundw
          case rel => exact ⟨k - 1, _, by go_num, by omega, by omega, HA', HP', HF'⟩
          case measure => first | (simp [intOf]; omega) | (simp only [intOf]; omega)
        · have i2 : ¬ (i : Int) < (k : Int) := by omega
          have hk' : k = i := by omega
          rw [hk'] at HF
          have HE : Hid (SAB a b M) := by
            rw [unhide HM]
            exact dn_sorted hmi hib (unhide HS) (unhide HLO) (unhide HHI2) (unhide HF)
          clear hk' hlen
          go_wp2
          (try simp only [Exit.inBlock, Exit.then]); refine bodyPost_ret (results_none rfl _ _ _) rfl ?_
          exact ⟨rfl, M, (unhide HAM).own, (unhide HAM).back, unhide HP, unhide HE⟩
end Go.Proofs.YtljebbodcehmpabGreat
