import Derived.Test.YtcbenpodohjbiaaGreatStD
import Derived.Test.YtcbenpodohjbiaaGreatStG
set_option linter.unusedSimpArgs false
set_option linter.unusedVariables false
set_option maxRecDepth 100000
namespace Go.Proofs.YtcbenpodohjbiaaGreat
open Go.RowKit Go.Sort

theorem sym_any (T : Sorting) : ∀ (d : Nat) (W : World) (L : List El) (a m b : Nat), b - a ≤ d → T.OK W → T.Own W L → a < m → m < b → b ≤ T.N → SAB T.o a m L → SAB T.o m b L → TG a m b L →
    Calls Tryz.prog 111 #[.agg #[T.less, T.swap], .int .i64 a, .int .i64 m, .int .i64 b] W fun e w' => e = .returned (.tuple #[]) ∧ ∃ L', T.Own w' L' ∧ Grew W w' T.v T.v ∧ PAB a b L L' ∧ SAB T.o a b L'
  | 0, W, L, a, m, b, hd, _, _, h1, h2, _, _, _, _ => by omega
  | d + 1, W, L, a, m, b, hd, hT, hO, h1, h2, hb, s1, s2, s3 => by
    by_cases hm : m = a + 1
    · exact symA_any T W L a m b hT hO hm h2 hb s2 s3
    · by_cases hq : b = m + 1
      · exact symB_any T W L a m b hT hO (by omega) hq hb s1 s3
      · exact symC_any T W L a m b hT hO (by omega) (by omega) hb s1 s2 s3 fun W' L' a' m' b' hlt hT' hO' q1 q2 q3 q4 q5 q6 => sym_any T d W' L' a' m' b' (by omega) hT' hO' q1 q2 q3 q4 q5 q6
set_option maxHeartbeats 8000000 in
set_option maxRecDepth 100000 in
theorem stable_any (T : Sorting) (W : World) (L : List El) (hT : T.OK W) (hO : T.Own W L) (hI : ∀ k, k < T.N → (atL L k).t = k) :
    Calls Tryz.prog 74 #[.agg #[T.less, T.swap], .int .i64 T.N] W fun e w' => e = .returned (.tuple #[]) ∧ ∃ L', T.Own w' L' ∧ Grew W w' T.v T.v ∧ L'.Perm L ∧ SAB T.o 0 T.N L' := by
  have H0 := hide (Sorting.start hT hO)
  have hsm := hT.small
  obtain ⟨n, hn⟩ : ∃ n, Hid (n = T.N) := ⟨_, rfl⟩
  rw [← unhide hn] at hsm hI ⊢
  have HI0 := hide hI
  clear hI
  have HI : Hid (∀ wr L' a b, T.At W.heap.size (W.alloc (.cells #[T.less, T.swap] 133)) wr L' → a ≤ b → b ≤ n → (∀ k, a ≤ k → k < b → (atL L' k).t = k) → Calls Tryz.prog 110 #[.agg #[T.less, T.swap], .int .i64 (a : Nat), .int .i64 (b : Nat)] wr fun e w' => e = .returned (.tuple #[]) ∧ ∃ L2, Hid (T.At W.heap.size (W.alloc (.cells #[T.less, T.swap] 133)) w' L2) ∧ Hid (PAB a b L' L2 ∧ BS T.o a b L2)) := fun wr L' a b hA h1 h2 hk =>
    (insertion_any T wr L' a b hA.ok hA.own h1 (by rw [← unhide hn]; exact h2) (fun i j q1 q2 q3 => by rw [hk i q1 (by omega), hk j (by omega) q3]; exact q2)).mono fun e w' ⟨he, L2, o1, o2, o3, o4⟩ => ⟨he, L2, hA.grow o1 o2, o3, o4, TR.first hk o3⟩
  have HM : Hid (∀ wr L' a m b, T.At W.heap.size (W.alloc (.cells #[T.less, T.swap] 133)) wr L' → a < m → m < b → b ≤ n → BS T.o a m L' → BS T.o m b L' → Calls Tryz.prog 111 #[.agg #[T.less, T.swap], .int .i64 (a : Nat), .int .i64 (m : Nat), .int .i64 (b : Nat)] wr fun e w' => e = .returned (.tuple #[]) ∧ ∃ L2, Hid (T.At W.heap.size (W.alloc (.cells #[T.less, T.swap] 133)) w' L2) ∧ Hid (PAB a b L' L2 ∧ BS T.o a b L2)) := fun wr L' a m b hA h1 h2 h3 s1 s2 =>
    (sym_any T _ wr L' a m b (Nat.le_refl _) hA.ok hA.own h1 h2 (by rw [← unhide hn]; exact h3) s1.1 s2.1 (TR.tg s1.2 s2.2)).mono fun e w' ⟨he, L2, o1, o2, o3, o4⟩ => ⟨he, L2, hA.grow o1 o2, o3, o4, TR.both s1.2 s2.2 (by omega) (by omega) o3⟩
  clear hT hO
  go_enter Tryz.func74, Tryz.ntmps74
  go_wp2_with fail
  go_loopw [5, 6] (fun s5 s6 wr => ∃ (a : Nat) (L' : List El), s5 = .int .i64 (a : Int) ∧ s6 = .int .i64 ((a + 20 : Nat) : Int) ∧ a ≤ n ∧ Hid (20 ∣ a) ∧ Hid (T.At W.heap.size (W.alloc (.cells #[T.less, T.swap] 133)) wr L') ∧ Hid (PAB 0 n L L') ∧ Hid (Two T.o 20 1 0 a L') ∧ Hid (∀ k, a ≤ k → k < n → (atL L' k).t = k)) (fun s5 _ _ => n - (intOf s5).toNat)
  case atStart => exact ⟨0, L, rfl, rfl, Nat.zero_le _, ⟨0, rfl⟩, H0, PAB.refl _ _ _, ⟨fun c _ h => (by omega), fun c _ _ h => (by omega)⟩, fun k _ h => unhide HI0 k h⟩
  case round =>
    obtain ⟨a, L', rfl, rfl, han, HDV, HA, HP, HT2, HK⟩ := hrel
    have c0 := (unhide HA).c0
    have c1 := (unhide HA).c1
    by_cases h1 : a + 20 ≤ n
    · have i1 : ((a + 20 : Nat) : Int) ≤ (n : Int) := by omega
      have HC := hide (unhide HI wr L' a (a + 20) (unhide HA) (by omega) h1 (fun k q1 q2 => unhide HK k q1 (by omega)))
      go_wp2_with (go_at_call 110; refine (unhide HC).mono ?_; rintro e w2 ⟨rfl, L2, HA2, HL2⟩)
      go_roundw
      case rel => exact ⟨a + 20, L2, by go_num, by go_num, by omega, by obtain ⟨k, hk⟩ := unhide HDV; exact ⟨k + 1, by omega⟩, HA2, (unhide HP).trans ((unhide HL2).1.widen (by omega) h1), Two.step (unhide HT2) (by omega) (unhide HDV) (unhide HL2).1 (unhide HL2).2, fun k q1 q2 => by rw [(unhide HL2).1.out k (.inr q1)]; exact unhide HK k (by omega) q2⟩
      case measure => first | (simp [intOf]; omega) | (simp only [intOf]; omega)
    · have i1 : ¬ ((a + 20 : Nat) : Int) ≤ (n : Int) := by omega
      have HC := hide (unhide HI wr L' a n (unhide HA) han (Nat.le_refl _) (unhide HK))
      go_wp2_with (first | (go_at_call 110; refine (unhide HC).mono ?_; rintro e w2 ⟨rfl, L2, HA2, HL2⟩) | fail)
      have HB0 : Hid (Blk T.o 20 n L2) := Two.done (n := n) (Two.out (unhide HT2) (unhide HDV) (unhide HL2).1) (unhide HDV) han (by omega) (unhide HL2).2
      have HP2 := hide ((unhide HP).trans ((unhide HL2).1.widen (Nat.zero_le _) (Nat.le_refl _)))
      clear HP HT2 HK HDV HL2 HA HC c0 c1 H0
      go_loopw [4, 5, 6, 7] (fun s4 s5 s6 s7 wr => ∃ (z : Nat) (M : List El), s4 = .int .i64 (z : Int) ∧ 20 ≤ z ∧ z ≤ 2097152 ∧ Hid (T.At W.heap.size (W.alloc (.cells #[T.less, T.swap] 133)) wr M) ∧ Hid (PAB 0 n L M) ∧ Hid (Blk T.o z n M)) (fun s4 _ _ _ _ => n - (intOf s4).toNat)
      case atStart => exact ⟨20, L2, rfl, by omega, by omega, HA2, HP2, HB0⟩
      case round =>
        obtain ⟨z, M, rfl, hz, hz2, HA, HP, HB⟩ := hrel
        have c0 := (unhide HA).c0
        have c1 := (unhide HA).c1
        by_cases h2 : z < n
        · have i2 : (z : Int) < (n : Int) := by omega
          have hzi : (z : Int) ≤ 2097152 := by omega
          obtain ⟨z2, hz2e⟩ : ∃ z2, z2 = 2 * z := ⟨_, rfl⟩
          have ez2 : (2 : Int) * (z : Int) = (z2 : Int) := by omega
          have ez3 : (z : Int) * 2 = (z2 : Int) := by omega
          have HZE := hide hz2e
          have hz2i : (z2 : Int) ≤ 4194304 := by omega
          have hzz : z < z2 := by omega
          clear hz2e
          go_wp2_with fail
          go_loopw [5, 6] (fun s5 s6 wv => ∃ (a bb : Nat) (K : List El), s5 = .int .i64 (a : Int) ∧ s6 = .int .i64 (bb : Int) ∧ a ≤ n ∧ Hid (bb = a + z2) ∧ Hid (z2 ∣ a) ∧ Hid (T.At W.heap.size (W.alloc (.cells #[T.less, T.swap] 133)) wv K) ∧ Hid (PAB 0 n L K) ∧ Hid (Two T.o z2 z n a K)) (fun s5 _ _ => n - (intOf s5).toNat)
          case atStart => exact ⟨0, z2, M, rfl, by first | rfl | go_num | (simp; done), Nat.zero_le _, (Nat.zero_add _).symm, ⟨0, rfl⟩, HA, HP, Two.start (unhide HB)⟩
          case round =>
            obtain ⟨a, bb, K, rfl, rfl, han2, HBB, HDV, HAK, HPK, HTK⟩ := hrel
            have c0 := (unhide HAK).c0
            have c1 := (unhide HAK).c1
            have hze := unhide HZE
            have hbb := unhide HBB
            have hzd : z ∣ a := Nat.dvd_trans ⟨2, by omega⟩ (unhide HDV)
            have hzd2 : z ∣ a + z := (Nat.dvd_add_right hzd).2 (Nat.dvd_refl z)
            have HZ := hide hzd
            have HZ2 := hide hzd2
            obtain ⟨az, haz⟩ : ∃ az, az = a + z := ⟨_, rfl⟩
            have e4 : (a : Int) + (z : Int) = (az : Int) := by omega
            have e6 : (bb : Int) + (z2 : Int) ≤ 16777216 := by omega
            have hazi : (az : Int) ≤ 4194304 := by omega
            by_cases h4 : bb ≤ n
            · have i4 : (bb : Int) ≤ (n : Int) := by omega
              have HC := hide (unhide HM wr K a az bb (unhide HAK) (by omega) (by omega) h4 (by
                have := (unhide HTK).2 a (unhide HZ) (Nat.le_refl _) (by omega)
                rw [Nat.min_eq_left (by omega), ← haz] at this
                exact this) (by
                have := (unhide HTK).2 (a + z) (unhide HZ2) (by omega) (by omega)
                rw [Nat.min_eq_left (by omega), show a + z + z = bb by omega, ← haz] at this
                exact this))
              have HG : Hid (a < bb ∧ bb = a + z2) := ⟨by omega, hbb⟩
              clear hze hbb hzd hzd2 haz
              go_wp2_with (go_at_call 111; refine (unhide HC).mono ?_; rintro e w2 ⟨rfl, K2, HA2, HL2⟩)
              go_roundw
              case rel =>
                refine ⟨bb, bb + z2, K2, rfl, by go_num, h4, rfl, ?_, HA2, (unhide HPK).trans ((unhide HL2).1.widen (Nat.zero_le _) h4), ?_⟩
                · show _ ∣ _
                  rw [(unhide HG).2]
                  exact (Nat.dvd_add_right (unhide HDV)).2 (Nat.dvd_refl _)
                · have h7 := unhide HL2
                  rw [(unhide HG).2] at h7 ⊢
                  exact Two.step (unhide HTK) (by omega) (unhide HDV) h7.1 h7.2
              case measure => have := (unhide HG).1; first | (simp [intOf]; omega) | (simp only [intOf]; omega)
            · have i4 : ¬ (bb : Int) ≤ (n : Int) := by omega
              by_cases h5 : az < n
              · have i5 : (az : Int) < (n : Int) := by omega
                have HC := hide (unhide HM wr K a az n (unhide HAK) (by omega) h5 (Nat.le_refl _) (by
                  have := (unhide HTK).2 a (unhide HZ) (Nat.le_refl _) (by omega)
                  rw [Nat.min_eq_left (by omega), ← haz] at this
                  exact this) (by
                  have := (unhide HTK).2 (a + z) (unhide HZ2) (by omega) (by omega)
                  rw [Nat.min_eq_right (by omega), ← haz] at this
                  exact this))
                have HG : Hid (n < a + z2 ∧ z2 = 2 * z) := ⟨by omega, hze⟩
                clear hze hbb hzd hzd2 haz
                go_wp2_with (go_at_call 111; refine (unhide HC).mono ?_; rintro e w2 ⟨rfl, K2, HA2, HL2⟩)
                go_roundw
                case rel =>
                  refine ⟨z2, K2, by go_num, by omega, by have := unhide HG; omega, HA2, (unhide HPK).trans ((unhide HL2).1.widen (Nat.zero_le _) (Nat.le_refl _)), ?_⟩
                  exact Two.done (n := n) (Two.out (unhide HTK) (unhide HDV) (unhide HL2).1) (unhide HDV) han2 (unhide HG).1 (unhide HL2).2
                case measure => first | (simp [intOf]; omega) | (simp only [intOf]; omega)
              · have i5 : ¬ (az : Int) < (n : Int) := by omega
                have HE : Hid (BS T.o a n K) := by
                  by_cases h6 : a < n
                  · have := (unhide HTK).2 a (unhide HZ) (Nat.le_refl _) h6
                    rw [Nat.min_eq_right (by omega)] at this
                    exact this
                  · exact BS.nil (by omega) _
                have HG : Hid (n < a + z2 ∧ z2 = 2 * z) := ⟨by omega, hze⟩
                clear hze hbb hzd hzd2 haz
                go_wp2
                go_roundw
                case rel => exact ⟨z2, K, by go_num, by omega, by have := unhide HG; omega, HAK, HPK, Two.done (unhide HTK).1 (unhide HDV) han2 (unhide HG).1 (unhide HE)⟩
                case measure => first | (simp [intOf]; omega) | (simp only [intOf]; omega)
        · have i2 : ¬ (z : Int) < (n : Int) := by omega
          have HE : Hid (BS T.o 0 n M) := by
            by_cases h6 : 0 < n
            · have := unhide HB 0 ⟨0, rfl⟩ h6
              rw [Nat.min_eq_right (by omega)] at this
              exact this
            · exact BS.nil (by omega) _
          go_wp2
          go_end0
          exact ⟨rfl, M, (unhide HA).own, (unhide HA).back, (unhide HP).perm, (unhide HE).1⟩

end Go.Proofs.YtcbenpodohjbiaaGreat
