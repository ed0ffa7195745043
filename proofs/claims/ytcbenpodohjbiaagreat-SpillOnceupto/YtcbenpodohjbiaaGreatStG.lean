import Derived.Test.YtcbenpodohjbiaaGreatStF
set_option linter.unusedSimpArgs false
set_option linter.unusedVariables false
set_option maxRecDepth 100000
namespace Go.Proofs.YtcbenpodohjbiaaGreat
open Go.RowKit Go.Sort

set_option maxHeartbeats 4000000 in
set_option maxRecDepth 100000 in
theorem insertion_any (T : Sorting) (W : World) (L : List El) (a b : Nat) (hT : T.OK W) (hO : T.Own W L) (hab : a ≤ b) (hb : b ≤ T.N) (hI : ∀ i j, a ≤ i → i < j → j < b → (atL L i).t < (atL L j).t) :
    Calls Tryz.prog 110 #[.agg #[T.less, T.swap], .int .i64 a, .int .i64 b] W fun e w' => e = .returned (.tuple #[]) ∧ ∃ L', T.Own w' L' ∧ Grew W w' T.v T.v ∧ PAB a b L L' ∧ SAB T.o a b L' := by
  have H0 := hide (Sorting.start hT hO)
  have hsm := hT.small
  have ent := hT.ent
  have HI := hide hI
  clear hI
  clear hT hO
  go_enter Tryz.func110, Tryz.ntmps110
  go_wp2_with fail
  go_loopw [6] (fun s wr => ∃ (i : Nat) (L' : List El), s = .int .i64 (i : Int) ∧ a < i ∧ i ≤ b + 1 ∧ Hid (T.At W.heap.size (W.alloc (.cells #[T.less, T.swap] 133)) wr L') ∧ Hid (PAB a b L L') ∧ Hid (SAB T.o a (min i b) L') ∧ Hid (InsG a b i L L')) (fun s _ => b + 1 - (intOf s).toNat)
  case atStart => exact ⟨a + 1, L, by go_num, by omega, by omega, H0, PAB.refl _ _ _, SAB.one (by omega) _, InsG.start (unhide HI)⟩
  case round =>
    obtain ⟨i, L', rfl, hai, hib, HA, HP, HS, HG⟩ := hrel
    by_cases h1 : i < b
    · have i1 : (i : Int) < (b : Int) := by omega
      have HS1 : Hid (Down T.o a i i L') := by
        have h2 := unhide HS
        rw [Nat.min_eq_left (by omega)] at h2
        exact Down.start h2
      go_wp2_with fail
      go_loopw [7] (fun s wv => ∃ (j : Nat) (M : List El), s = .int .i64 (j : Int) ∧ a ≤ j ∧ j ≤ i ∧ Hid (T.At W.heap.size (W.alloc (.cells #[T.less, T.swap] 133)) wv M) ∧ Hid (PAB a b L M) ∧ Hid (Down T.o a i j M) ∧ Hid (PAB a (i + 1) L' M ∧ atL M j = atL L' i ∧ ∀ p, p < j → atL M p = atL L' p)) (fun s _ => (intOf s).toNat)
      case atStart => exact ⟨i, L', rfl, by omega, Nat.le_refl _, HA, HP, HS1, PAB.refl _ _ _, rfl, fun _ _ => rfl⟩
      case round =>
        obtain ⟨j, M, rfl, haj, hji, HAM, HPM, HD, HQ⟩ := hrel
        have c0 := (unhide HAM).c0
        have c1 := (unhide HAM).c1
        have hlen := Sorting.lenL (unhide HAM).own
        unfold Sorting.less at c0
        unfold Sorting.swap at c1
        by_cases h2 : a < j
        · have i2 : (a : Int) < (j : Int) := by omega
          have hj1 : ((j - 1 : Nat) : Int) = (j : Int) - 1 := by omega
          have HL := hide (less_any T wr M j (j - 1) (unhide HAM).ok (unhide HAM).own (by omega) (by omega) (by rw [(unhide HQ).2.1, (unhide HQ).2.2 _ (by omega)]; exact (unhide HG).1 _ _ (by omega) (by omega) (Nat.le_refl _) h1))
          rw [hj1] at HL
          cases hlt : T.lt (atL M j) (atL M (j - 1))
          · rw [hlt] at HL
            have HE := hide (Down.stop (unhide HD) haj hji (.inr (ltV_f hlt)))
            clear hlt hj1
            go_wp2_with (refine (unhide HL).mono ?_; rintro e w2 ⟨rfl, hb2⟩; replace hb2 := hide hb2)
            go_roundw
            case rel => exact ⟨i + 1, M, by go_num, by omega, by omega, (unhide HAM).below (unhide hb2), HPM, by rw [Nat.min_eq_left (by omega)]; exact HE, InsG.next (unhide HI) (by omega) (unhide HG) (unhide HQ).1⟩
            case measure => first | (simp [intOf]; omega) | (simp only [intOf]; omega)
          · rw [hlt] at HL
            have HD2 := hide (Down.step (unhide HD) h2 hji (by omega) (ltV_t hlt))
            have HP2 := hide ((unhide HPM).trans (PAB.swap (a := a) (b := b) (i := j) (j := j - 1) (by omega) (by omega) (by omega) (by omega) (by omega) (by omega)))
            have HQ2 : Hid (PAB a (i + 1) L' (swapL M j (j - 1)) ∧ atL (swapL M j (j - 1)) (j - 1) = atL L' i ∧ ∀ p, p < j - 1 → atL (swapL M j (j - 1)) p = atL L' p) := ⟨(unhide HQ).1.trans (PAB.swap (a := a) (b := i + 1) (i := j) (j := j - 1) (by omega) (by omega) (by omega) (by omega) (by omega) (by omega)), by rw [swapL_at (by omega) (by omega), if_pos rfl]; exact (unhide HQ).2.1, fun p hp => by rw [swapL_at (by omega) (by omega), if_neg (by omega), if_neg (by omega)]; exact (unhide HQ).2.2 p (by omega)⟩
            have SW : Hid (∀ w2, Below wr.heap.size wr w2 → w2.cell? ⟨W.heap.size, 1, none⟩ = some (.func (.func T.SF) #[] T.sb) ∧ ∃ W', (callFunc T.SF (#[.int .i64 (j : Int), .int .i64 ((j : Int) - 1)] ++ T.sb)).run Tryz.prog w2 = .ok (.value (.tuple #[])) W' ∧ Hid (T.At W.heap.size (W.alloc (.cells #[T.less, T.swap] 133)) W' (swapL M j (j - 1)))) := fun w2 hb2 => by
              have h3 := (unhide HAM).below hb2
              obtain ⟨W', q1, q2⟩ := h3.swp (i := j) (j := j - 1) (by omega) (by omega)
              rw [hj1] at q1
              exact ⟨h3.c1, W', q1, q2⟩
            clear hlt hj1
            go_wp2_with (refine (unhide HL).mono ?_; rintro e w2 ⟨rfl, hb2⟩; obtain ⟨c2, W', hsw, HA2⟩ := unhide SW _ hb2; replace hsw := hide hsw; clear hb2)
            rw [unhide hsw, Oper.upon_value]
            go_wp2
            go_roundw
            case rel => exact ⟨j - 1, _, by go_num, by omega, by omega, HA2, HP2, HD2, HQ2⟩
            case measure => first | (simp [intOf]; omega) | (simp only [intOf]; omega)
        · have i2 : ¬ (a : Int) < (j : Int) := by omega
          have HE := hide (Down.stop (unhide HD) haj hji (.inl (by omega)))
          clear hlen
          go_wp2
          go_roundw
          case rel => exact ⟨i + 1, M, by go_num, by omega, by omega, HAM, HPM, by rw [Nat.min_eq_left (by omega)]; exact HE, InsG.next (unhide HI) (by omega) (unhide HG) (unhide HQ).1⟩
          case measure => first | (simp [intOf]; omega) | (simp only [intOf]; omega)
    · have i1 : ¬ (i : Int) < (b : Int) := by omega
      have HS1 : Hid (SAB T.o a b L') := by
        have h2 := unhide HS
        rw [Nat.min_eq_right (by omega)] at h2
        exact h2
      go_wp2
      go_end0
      exact ⟨rfl, L', (unhide HA).own, (unhide HA).back, unhide HP, unhide HS1⟩

end Go.Proofs.YtcbenpodohjbiaaGreat
set_option linter.unusedSimpArgs false
set_option linter.unusedVariables false
set_option maxRecDepth 100000
namespace Go.Proofs.YtcbenpodohjbiaaGreat
open Go.RowKit Go.Sort

set_option maxHeartbeats 16000000 in
set_option maxRecDepth 100000 in
theorem symC_any (T : Sorting) (W : World) (L : List El) (a m b : Nat) (hT : T.OK W) (hO : T.Own W L) (ham : a + 1 < m) (hmb : m + 1 < b) (hb : b ≤ T.N) (hS1 : SAB T.o a m L) (hS2 : SAB T.o m b L) (hG : TG a m b L)
    (ih : ∀ (W : World) (L : List El) (a' m' b' : Nat), b' - a' < b - a → T.OK W → T.Own W L → a' < m' → m' < b' → b' ≤ T.N → SAB T.o a' m' L → SAB T.o m' b' L → TG a' m' b' L → Calls Tryz.prog 111 #[.agg #[T.less, T.swap], .int .i64 a', .int .i64 m', .int .i64 b'] W fun e w' => e = .returned (.tuple #[]) ∧ ∃ L', T.Own w' L' ∧ Grew W w' T.v T.v ∧ PAB a' b' L L' ∧ SAB T.o a' b' L') :
    Calls Tryz.prog 111 #[.agg #[T.less, T.swap], .int .i64 a, .int .i64 m, .int .i64 b] W fun e w' => e = .returned (.tuple #[]) ∧ ∃ L', T.Own w' L' ∧ Grew W w' T.v T.v ∧ PAB a b L L' ∧ SAB T.o a b L' := by
  have H0 := hide (Sorting.start hT hO)
  have hsm := hT.small
  have ent := hT.ent
  have HGG := hide hG
  clear hG
  have e1 : ((m : Int) - (a : Int) == 1) = false := by simp; omega
  have e2 : ((b : Int) - (m : Int) == 1) = false := by simp; omega
  obtain ⟨mid, hmid⟩ : ∃ mid, mid = (a + b) / 2 := ⟨_, rfl⟩
  have em : ((a : Int) + (b : Int)) / 2 = (mid : Int) := by omega
  have hab2 : (a : Int) + (b : Int) ≤ 2097152 := by omega
  have hmi : a < mid ∧ mid < b := by omega
  have HS1 := hide hS1
  have HS2 := hide hS2
  have IH := hide ih
  have HMID := hide hmid
  have hmN : (mid : Int) ≤ 1048576 := by omega
  -- what follows the loop
  have TAIL : Hid (∀ (wr : World) (s0 r0 s e : Nat), s0 ≤ s → s ≤ r0 → e + s = mid + m → ((mid < m ∧ s0 + b = mid + m ∧ r0 = mid) ∨ (m ≤ mid ∧ s0 = a ∧ r0 = m)) → (s = s0 ∨ T.o.f (atL L (s - 1)) (atL L e) ≤ 0) → (s = r0 ∨ T.o.f (atL L (e - 1)) (atL L s) < 0) → T.At W.heap.size (W.alloc (.cells #[T.less, T.swap] 133)) wr L →
      (a ≤ s ∧ s ≤ m ∧ s ≤ mid ∧ m ≤ e ∧ mid ≤ e ∧ e ≤ b) ∧
      (s < m → m < e → Hid (Calls Tryz.prog 120 #[.agg #[T.less, T.swap], .int .i64 s, .int .i64 m, .int .i64 e] wr fun e_1 w' => e_1 = .returned (.tuple #[]) ∧ ∃ L1, Hid (T.At W.heap.size (W.alloc (.cells #[T.less, T.swap] 133)) w' L1) ∧ Hid (PAB a b L L1 ∧ ∀ q, atL L1 q = rotF (atL L) s m e q))) ∧
      (¬ (s < m ∧ m < e) → Hid (PAB a b L L ∧ ∀ q, atL L q = rotF (atL L) s m e q)) ∧
      Hid (∀ w2 L1, Hid (T.At W.heap.size (W.alloc (.cells #[T.less, T.swap] 133)) w2 L1) → Hid (PAB a b L L1 ∧ ∀ q, atL L1 q = rotF (atL L) s m e q) → a < s → s < mid → Calls Tryz.prog 111 #[.agg #[T.less, T.swap], .int .i64 a, .int .i64 s, .int .i64 mid] w2 fun e_1 w' => e_1 = .returned (.tuple #[]) ∧ ∃ L2, Hid (T.At W.heap.size (W.alloc (.cells #[T.less, T.swap] 133)) w' L2) ∧ Hid (PAB a mid L1 L2 ∧ SAB T.o a mid L2)) ∧
      Hid (∀ L1, Hid (PAB a b L L1 ∧ ∀ q, atL L1 q = rotF (atL L) s m e q) → ¬ (a < s ∧ s < mid) → Hid (PAB a mid L1 L1 ∧ SAB T.o a mid L1)) ∧
      Hid (∀ w2 L1 L2, Hid (T.At W.heap.size (W.alloc (.cells #[T.less, T.swap] 133)) w2 L2) → Hid (PAB a b L L1 ∧ ∀ q, atL L1 q = rotF (atL L) s m e q) → Hid (PAB a mid L1 L2 ∧ SAB T.o a mid L2) → mid < e → e < b → Calls Tryz.prog 111 #[.agg #[T.less, T.swap], .int .i64 mid, .int .i64 e, .int .i64 b] w2 fun e_1 w' => e_1 = .returned (.tuple #[]) ∧ ∃ L3, Hid (T.At W.heap.size (W.alloc (.cells #[T.less, T.swap] 133)) w' L3) ∧ Hid (PAB mid b L2 L3 ∧ SAB T.o mid b L3)) ∧
      Hid (∀ L1 L2, Hid (PAB a b L L1 ∧ ∀ q, atL L1 q = rotF (atL L) s m e q) → Hid (PAB a mid L1 L2 ∧ SAB T.o a mid L2) → ¬ (mid < e ∧ e < b) → Hid (PAB mid b L2 L2 ∧ SAB T.o mid b L2)) ∧
      Hid (∀ L1 L2 L3, Hid (PAB a b L L1 ∧ ∀ q, atL L1 q = rotF (atL L) s m e q) → Hid (PAB a mid L1 L2 ∧ SAB T.o a mid L2) → Hid (PAB mid b L2 L3 ∧ SAB T.o mid b L3) → PAB a b L L3 ∧ SAB T.o a b L3)) := by
    intro wr s0 r0 s e h1 h2 he hc hlo hhi hA
    have hbd : a ≤ s ∧ s ≤ m ∧ s ≤ mid ∧ m ≤ e ∧ mid ≤ e ∧ e ≤ b := by omega
    have CR := fun L1 (hL : ∀ q, atL L1 q = rotF (atL L) s m e q) => sym_cross (L' := L1) hmid (by omega : a < m) (by omega : m < b) he h1 h2 hc hS1 hS2 hlo hhi hL
    have TC := fun L1 (hL : ∀ q, atL L1 q = rotF (atL L) s m e q) => tg_cross (L' := L1) (unhide HGG) hbd.1 hbd.2.1 hbd.2.2.1 hbd.2.2.2.1 hbd.2.2.2.2.1 hbd.2.2.2.2.2 he hL
    refine ⟨hbd, fun q1 q2 => ?_, fun hn => ⟨PAB.refl _ _ _, rot_none hbd.2.1 hbd.2.2.2.1 hn⟩, fun w2 L1 hA1 hL1 q1 q2 => ?_, fun L1 hL1 hn => ⟨PAB.refl _ _ _, ((CR L1 hL1.2).1.1).left (CR L1 hL1.2).1.2 hbd.1 hbd.2.2.1 hn⟩, fun w2 L1 L2 hA2 hL1 hL2 q1 q2 => ?_, fun L1 L2 hL1 hL2 hn => ⟨PAB.refl _ _ _, ?_⟩, fun L1 L2 L3 hL1 hL2 hL3 => ?_⟩
    · exact (rotate_any T wr L s m e hA.ok hA.own q1 q2 (by omega)).mono fun e_1 w' ⟨he1, L1, o1, o2, o3, o4⟩ => ⟨he1, L1, hA.grow o1 o2, o3.widen (by omega) (by omega), o4⟩
    · exact (ih w2 L1 a s mid (by omega) (unhide hA1).ok (unhide hA1).own q1 q2 (by omega) (CR L1 hL1.2).1.1 (CR L1 hL1.2).1.2 (TC L1 hL1.2).1).mono fun e_1 w' ⟨he1, L2, o1, o2, o3, o4⟩ => ⟨he1, L2, (unhide hA1).grow o1 o2, o3, o4⟩
    · exact (ih w2 L2 mid e b (by omega) (unhide hA2).ok (unhide hA2).own q1 q2 hb ((CR L1 hL1.2).2.1.1.out hL2.1 (.inr (Nat.le_refl _))) ((CR L1 hL1.2).2.1.2.out hL2.1 (.inr (by omega))) ((TC L1 hL1.2).2.out hL2.1 (.inr (Nat.le_refl _)))).mono fun e_1 w' ⟨he1, L3, o1, o2, o3, o4⟩ => ⟨he1, L3, (unhide hA2).grow o1 o2, o3, o4⟩
    · exact ((CR L1 hL1.2).2.1.1.out hL2.1 (.inr (Nat.le_refl _))).left ((CR L1 hL1.2).2.1.2.out hL2.1 (.inr (by omega))) hbd.2.2.2.2.1 hbd.2.2.2.2.2 hn
    · exact sym_end (by omega) (by omega) hL1.1 (CR L1 hL1.2).2.2 hL2.1 hL2.2 hL3.1 hL3.2
  clear hT hO hS1 hS2 ih hmid
  have hcase : (mid < m) ∨ (m ≤ mid) := by omega
  rcases hcase with hcm | hcm
  · have i0 : (mid : Int) < (m : Int) := by omega
    obtain ⟨s0, hs0⟩ : ∃ s0 : Nat, s0 + b = mid + m := ⟨mid + m - b, by have := unhide HMID; omega⟩
    have es0 : (mid : Int) + (m : Int) - (b : Int) = (s0 : Int) := by omega
    have hs0a : a ≤ s0 ∧ s0 ≤ mid := by have := unhide HMID; omega
    have HC : Hid (s0 + b = mid + m) := hs0
    go_enter Tryz.func111, Tryz.ntmps111
    go_wp2_with fail
    go_loopw [18, 19] (fun s18 s19 wr => ∃ (s r : Nat), s18 = .int .i64 (s : Int) ∧ s19 = .int .i64 (r : Int) ∧ s0 ≤ s ∧ s ≤ r ∧ r ≤ mid ∧ Hid (T.At W.heap.size (W.alloc (.cells #[T.less, T.swap] 133)) wr L) ∧ Hid (s = s0 ∨ T.o.f (atL L (s - 1)) (atL L (mid + m - s)) ≤ 0) ∧ Hid (r = mid ∨ T.o.f (atL L (mid + m - r - 1)) (atL L r) < 0)) (fun s18 s19 _ => (intOf s19 - intOf s18).toNat)
    case atStart => exact ⟨s0, mid, by first | rfl | go_num, by first | rfl | go_num, Nat.le_refl _, by omega, Nat.le_refl _, H0, .inl rfl, .inl rfl⟩
    case round =>
      obtain ⟨s, r, rfl, rfl, hs1, hsr, hr1, HA, HLO, HHI⟩ := hrel
      have c0 := (unhide HA).c0
      have c1 := (unhide HA).c1
      by_cases h1 : s < r
      · have i1 : (s : Int) < (r : Int) := by omega
        obtain ⟨c, hc⟩ : ∃ c, c = (s + r) / 2 := ⟨_, rfl⟩
        have eh : ((s : Int) + (r : Int)) / 2 = (c : Int) := by omega
        have i3 : (s : Int) + (r : Int) ≤ 2097152 := by omega
        have hcj : s ≤ c ∧ c < r := by omega
        have HCJ := hide hcj
        have ep : (mid : Int) + (m : Int) - 1 - (c : Int) = ((mid + m - 1 - c : Nat) : Int) := by omega
        have HL := hide (less_any T wr L (mid + m - 1 - c) c (unhide HA).ok (unhide HA).own (by have := unhide HMID; omega) (by omega) (unhide HGG c (mid + m - 1 - c) (by omega) (by omega) (by omega) (by have := unhide HMID; omega)))
        have hcb : (c : Int) ≤ 1048576 := by omega
        have hpc : ((mid + m - 1 - c : Nat) : Int) ≤ 2097152 := by omega
        unfold Sorting.less at c0
        clear hc hcj c1
        cases hlt : T.lt (atL L (mid + m - 1 - c)) (atL L c)
        · rw [hlt] at HL
          have HX : Hid (T.o.f (atL L (c + 1 - 1)) (atL L (mid + m - (c + 1))) ≤ 0) := by
            have h3 := ltV_f hlt
            have h4 := T.o.anti (atL L (mid + m - 1 - c)) (atL L c)
            show _ ≤ _
            rw [show c + 1 - 1 = c by omega, show mid + m - (c + 1) = mid + m - 1 - c by omega]
            omega
          clear hlt
          go_wp2_with (refine (unhide HL).mono ?_; rintro e w2 ⟨rfl, hb2⟩; replace hb2 := hide hb2)
          go_roundw
          case rel => exact ⟨c + 1, r, by go_num, rfl, by have := unhide HCJ; omega, by have := unhide HCJ; omega, hr1, (unhide HA).below (unhide hb2), .inr (unhide HX), HHI⟩
          case measure => have := unhide HCJ; first | (simp [intOf]; omega) | (simp only [intOf]; omega)
        · rw [hlt] at HL
          have HX : Hid (T.o.f (atL L (mid + m - c - 1)) (atL L c) < 0) := by
            show _ < _
            rw [show mid + m - c - 1 = mid + m - 1 - c by omega]
            exact ltV_t hlt
          clear hlt
          go_wp2_with (refine (unhide HL).mono ?_; rintro e w2 ⟨rfl, hb2⟩; replace hb2 := hide hb2)
          go_roundw
          case rel => exact ⟨s, c, rfl, by go_num, hs1, (unhide HCJ).1, by have := unhide HCJ; omega, (unhide HA).below (unhide hb2), HLO, .inr (unhide HX)⟩
          case measure => have := unhide HCJ; first | (simp [intOf]; omega) | (simp only [intOf]; omega)
      · have i1 : ¬ (s : Int) < (r : Int) := by omega
        have hsr' : s = r := by omega
        obtain ⟨e, he⟩ : ∃ e, e + s = mid + m := ⟨mid + m - s, by omega⟩
        have he2 : mid + m - s = e := by omega
        have TT := unhide TAIL wr s0 mid s e hs1 (by omega) he (.inl ⟨hcm, unhide HC, rfl⟩) (by have h := unhide HLO; rw [he2] at h; exact h) (by have h := unhide HHI; rw [← hsr', he2] at h; exact h) (unhide HA)
        obtain ⟨hbd, T1, T2, T3, T4, T5, T6, T7⟩ := TT
        have T1 := hide T1
        have T2 := hide T2
        have ee : (mid : Int) + (m : Int) - (s : Int) = (e : Int) := by omega
        obtain ⟨b1, b2, b3, b4, b5, b6⟩ := hbd
        have HE := hide he
        clear HLO HHI hsr hsr' he he2 hr1 hs1
        have hp1 : (s < m ∧ mid < e) ∨ (¬ s < m ∧ ¬ mid < e) := by have := unhide HE; omega
        have hp2 : (m < e ∧ s < mid) ∨ (¬ m < e ∧ ¬ s < mid) := by have := unhide HE; omega
        rcases hp1 with ⟨x1, x2⟩ | ⟨x1, x2⟩
        · rcases hp2 with ⟨y1, y2⟩ | ⟨y1, y2⟩
          · by_cases z3 : a < s
            · by_cases z4 : e < b
              · have j1 : (s : Int) < (m : Int) := by omega
                have j2 : (mid : Int) < (e : Int) := by omega
                have j3 : (m : Int) < (e : Int) := by omega
                have j4 : (s : Int) < (mid : Int) := by omega
                have j5 : (a : Int) < (s : Int) := by omega
                have j6 : (e : Int) < (b : Int) := by omega
                have HROT := unhide T1 x1 y1
                go_wp2_with (first | (go_at_call 120; refine (unhide HROT).mono ?_; rintro e_1 w2 ⟨rfl, L1, HA1, HL1⟩; have cr0 := (unhide HA1).c0; have cr1 := (unhide HA1).c1) | (go_at_call_of 111 (Value.int IntKind.i64 (a : Int)); refine (unhide T3 _ _ HA1 HL1 (by omega) (by omega)).mono ?_; rintro e_1 w3 ⟨rfl, L2, HA2, HL2⟩; have cl0 := (unhide HA2).c0; have cl1 := (unhide HA2).c1) | (go_at_call_of 111 (Value.int IntKind.i64 (b : Int)); refine (unhide T5 _ _ _ HA2 HL1 HL2 (by omega) (by omega)).mono ?_; rintro e_1 w4 ⟨rfl, L3, HA3, HL3⟩))
                go_end0
                have FIN := unhide T7 _ _ _ HL1 HL2 HL3
                exact ⟨rfl, _, (unhide HA3).own, (unhide HA3).back, FIN.1, FIN.2⟩
              · have j1 : (s : Int) < (m : Int) := by omega
                have j2 : (mid : Int) < (e : Int) := by omega
                have j3 : (m : Int) < (e : Int) := by omega
                have j4 : (s : Int) < (mid : Int) := by omega
                have j5 : (a : Int) < (s : Int) := by omega
                have j6 : ¬ (e : Int) < (b : Int) := by omega
                have HROT := unhide T1 x1 y1
                go_wp2_with (first | (go_at_call 120; refine (unhide HROT).mono ?_; rintro e_1 w2 ⟨rfl, L1, HA1, HL1⟩; have cr0 := (unhide HA1).c0; have cr1 := (unhide HA1).c1) | (go_at_call_of 111 (Value.int IntKind.i64 (a : Int)); refine (unhide T3 _ _ HA1 HL1 (by omega) (by omega)).mono ?_; rintro e_1 w3 ⟨rfl, L2, HA2, HL2⟩; have cl0 := (unhide HA2).c0; have cl1 := (unhide HA2).c1))
                go_end0
                have FIN := unhide T7 _ _ _ HL1 HL2 (unhide T6 _ _ HL1 HL2 (by omega))
                exact ⟨rfl, _, (unhide HA2).own, (unhide HA2).back, FIN.1, FIN.2⟩
            · by_cases z4 : e < b
              · have j1 : (s : Int) < (m : Int) := by omega
                have j2 : (mid : Int) < (e : Int) := by omega
                have j3 : (m : Int) < (e : Int) := by omega
                have j4 : (s : Int) < (mid : Int) := by omega
                have j5 : ¬ (a : Int) < (s : Int) := by omega
                have j6 : (e : Int) < (b : Int) := by omega
                have HROT := unhide T1 x1 y1
                go_wp2_with (first | (go_at_call 120; refine (unhide HROT).mono ?_; rintro e_1 w2 ⟨rfl, L1, HA1, HL1⟩; have cr0 := (unhide HA1).c0; have cr1 := (unhide HA1).c1) | (go_at_call_of 111 (Value.int IntKind.i64 (b : Int)); refine (unhide T5 _ _ _ HA1 HL1 (unhide T4 _ HL1 (by omega)) (by omega) (by omega)).mono ?_; rintro e_1 w4 ⟨rfl, L3, HA3, HL3⟩))
                go_end0
                have FIN := unhide T7 _ _ _ HL1 (unhide T4 _ HL1 (by omega)) HL3
                exact ⟨rfl, _, (unhide HA3).own, (unhide HA3).back, FIN.1, FIN.2⟩
              · have j1 : (s : Int) < (m : Int) := by omega
                have j2 : (mid : Int) < (e : Int) := by omega
                have j3 : (m : Int) < (e : Int) := by omega
                have j4 : (s : Int) < (mid : Int) := by omega
                have j5 : ¬ (a : Int) < (s : Int) := by omega
                have j6 : ¬ (e : Int) < (b : Int) := by omega
                have HROT := unhide T1 x1 y1
                go_wp2_with (first | (go_at_call 120; refine (unhide HROT).mono ?_; rintro e_1 w2 ⟨rfl, L1, HA1, HL1⟩; have cr0 := (unhide HA1).c0; have cr1 := (unhide HA1).c1))
                go_end0
                have FIN := unhide T7 _ _ _ HL1 (unhide T4 _ HL1 (by omega)) (unhide T6 _ _ HL1 (unhide T4 _ HL1 (by omega)) (by omega))
                exact ⟨rfl, _, (unhide HA1).own, (unhide HA1).back, FIN.1, FIN.2⟩
          · by_cases z3 : a < s
            · by_cases z4 : e < b
              · have j1 : (s : Int) < (m : Int) := by omega
                have j2 : (mid : Int) < (e : Int) := by omega
                have j3 : ¬ (m : Int) < (e : Int) := by omega
                have j4 : ¬ (s : Int) < (mid : Int) := by omega
                have j5 : (a : Int) < (s : Int) := by omega
                have j6 : (e : Int) < (b : Int) := by omega
                have HL1 := unhide T2 (by omega)
                go_wp2_with (first | (go_at_call_of 111 (Value.int IntKind.i64 (b : Int)); refine (unhide T5 _ _ _ HA HL1 (unhide T4 _ HL1 (by omega)) (by omega) (by omega)).mono ?_; rintro e_1 w4 ⟨rfl, L3, HA3, HL3⟩))
                go_end0
                have FIN := unhide T7 _ _ _ HL1 (unhide T4 _ HL1 (by omega)) HL3
                exact ⟨rfl, _, (unhide HA3).own, (unhide HA3).back, FIN.1, FIN.2⟩
              · have j1 : (s : Int) < (m : Int) := by omega
                have j2 : (mid : Int) < (e : Int) := by omega
                have j3 : ¬ (m : Int) < (e : Int) := by omega
                have j4 : ¬ (s : Int) < (mid : Int) := by omega
                have j5 : (a : Int) < (s : Int) := by omega
                have j6 : ¬ (e : Int) < (b : Int) := by omega
                have HL1 := unhide T2 (by omega)
                go_wp2
                go_end0
                have FIN := unhide T7 _ _ _ HL1 (unhide T4 _ HL1 (by omega)) (unhide T6 _ _ HL1 (unhide T4 _ HL1 (by omega)) (by omega))
                exact ⟨rfl, _, (unhide HA).own, (unhide HA).back, FIN.1, FIN.2⟩
            · by_cases z4 : e < b
              · have j1 : (s : Int) < (m : Int) := by omega
                have j2 : (mid : Int) < (e : Int) := by omega
                have j3 : ¬ (m : Int) < (e : Int) := by omega
                have j4 : ¬ (s : Int) < (mid : Int) := by omega
                have j5 : ¬ (a : Int) < (s : Int) := by omega
                have j6 : (e : Int) < (b : Int) := by omega
                have HL1 := unhide T2 (by omega)
                go_wp2_with (first | (go_at_call_of 111 (Value.int IntKind.i64 (b : Int)); refine (unhide T5 _ _ _ HA HL1 (unhide T4 _ HL1 (by omega)) (by omega) (by omega)).mono ?_; rintro e_1 w4 ⟨rfl, L3, HA3, HL3⟩))
                go_end0
                have FIN := unhide T7 _ _ _ HL1 (unhide T4 _ HL1 (by omega)) HL3
                exact ⟨rfl, _, (unhide HA3).own, (unhide HA3).back, FIN.1, FIN.2⟩
              · have j1 : (s : Int) < (m : Int) := by omega
                have j2 : (mid : Int) < (e : Int) := by omega
                have j3 : ¬ (m : Int) < (e : Int) := by omega
                have j4 : ¬ (s : Int) < (mid : Int) := by omega
                have j5 : ¬ (a : Int) < (s : Int) := by omega
                have j6 : ¬ (e : Int) < (b : Int) := by omega
                have HL1 := unhide T2 (by omega)
                go_wp2
                go_end0
                have FIN := unhide T7 _ _ _ HL1 (unhide T4 _ HL1 (by omega)) (unhide T6 _ _ HL1 (unhide T4 _ HL1 (by omega)) (by omega))
                exact ⟨rfl, _, (unhide HA).own, (unhide HA).back, FIN.1, FIN.2⟩
        · rcases hp2 with ⟨y1, y2⟩ | ⟨y1, y2⟩
          · by_cases z3 : a < s
            · by_cases z4 : e < b
              · have j1 : ¬ (s : Int) < (m : Int) := by omega
                have j2 : ¬ (mid : Int) < (e : Int) := by omega
                have j3 : (m : Int) < (e : Int) := by omega
                have j4 : (s : Int) < (mid : Int) := by omega
                have j5 : (a : Int) < (s : Int) := by omega
                have j6 : (e : Int) < (b : Int) := by omega
                have HL1 := unhide T2 (by omega)
                go_wp2_with (first | (go_at_call_of 111 (Value.int IntKind.i64 (a : Int)); refine (unhide T3 _ _ HA HL1 (by omega) (by omega)).mono ?_; rintro e_1 w3 ⟨rfl, L2, HA2, HL2⟩; have cl0 := (unhide HA2).c0; have cl1 := (unhide HA2).c1))
                go_end0
                have FIN := unhide T7 _ _ _ HL1 HL2 (unhide T6 _ _ HL1 HL2 (by omega))
                exact ⟨rfl, _, (unhide HA2).own, (unhide HA2).back, FIN.1, FIN.2⟩
              · have j1 : ¬ (s : Int) < (m : Int) := by omega
                have j2 : ¬ (mid : Int) < (e : Int) := by omega
                have j3 : (m : Int) < (e : Int) := by omega
                have j4 : (s : Int) < (mid : Int) := by omega
                have j5 : (a : Int) < (s : Int) := by omega
                have j6 : ¬ (e : Int) < (b : Int) := by omega
                have HL1 := unhide T2 (by omega)
                go_wp2_with (first | (go_at_call_of 111 (Value.int IntKind.i64 (a : Int)); refine (unhide T3 _ _ HA HL1 (by omega) (by omega)).mono ?_; rintro e_1 w3 ⟨rfl, L2, HA2, HL2⟩; have cl0 := (unhide HA2).c0; have cl1 := (unhide HA2).c1))
                go_end0
                have FIN := unhide T7 _ _ _ HL1 HL2 (unhide T6 _ _ HL1 HL2 (by omega))
                exact ⟨rfl, _, (unhide HA2).own, (unhide HA2).back, FIN.1, FIN.2⟩
            · by_cases z4 : e < b
              · have j1 : ¬ (s : Int) < (m : Int) := by omega
                have j2 : ¬ (mid : Int) < (e : Int) := by omega
                have j3 : (m : Int) < (e : Int) := by omega
                have j4 : (s : Int) < (mid : Int) := by omega
                have j5 : ¬ (a : Int) < (s : Int) := by omega
                have j6 : (e : Int) < (b : Int) := by omega
                have HL1 := unhide T2 (by omega)
                go_wp2
                go_end0
                have FIN := unhide T7 _ _ _ HL1 (unhide T4 _ HL1 (by omega)) (unhide T6 _ _ HL1 (unhide T4 _ HL1 (by omega)) (by omega))
                exact ⟨rfl, _, (unhide HA).own, (unhide HA).back, FIN.1, FIN.2⟩
              · have j1 : ¬ (s : Int) < (m : Int) := by omega
                have j2 : ¬ (mid : Int) < (e : Int) := by omega
                have j3 : (m : Int) < (e : Int) := by omega
                have j4 : (s : Int) < (mid : Int) := by omega
                have j5 : ¬ (a : Int) < (s : Int) := by omega
                have j6 : ¬ (e : Int) < (b : Int) := by omega
                have HL1 := unhide T2 (by omega)
                go_wp2
                go_end0
                have FIN := unhide T7 _ _ _ HL1 (unhide T4 _ HL1 (by omega)) (unhide T6 _ _ HL1 (unhide T4 _ HL1 (by omega)) (by omega))
                exact ⟨rfl, _, (unhide HA).own, (unhide HA).back, FIN.1, FIN.2⟩
          · by_cases z3 : a < s
            · by_cases z4 : e < b
              · have j1 : ¬ (s : Int) < (m : Int) := by omega
                have j2 : ¬ (mid : Int) < (e : Int) := by omega
                have j3 : ¬ (m : Int) < (e : Int) := by omega
                have j4 : ¬ (s : Int) < (mid : Int) := by omega
                have j5 : (a : Int) < (s : Int) := by omega
                have j6 : (e : Int) < (b : Int) := by omega
                have HL1 := unhide T2 (by omega)
                go_wp2
                go_end0
                have FIN := unhide T7 _ _ _ HL1 (unhide T4 _ HL1 (by omega)) (unhide T6 _ _ HL1 (unhide T4 _ HL1 (by omega)) (by omega))
                exact ⟨rfl, _, (unhide HA).own, (unhide HA).back, FIN.1, FIN.2⟩
              · have j1 : ¬ (s : Int) < (m : Int) := by omega
                have j2 : ¬ (mid : Int) < (e : Int) := by omega
                have j3 : ¬ (m : Int) < (e : Int) := by omega
                have j4 : ¬ (s : Int) < (mid : Int) := by omega
                have j5 : (a : Int) < (s : Int) := by omega
                have j6 : ¬ (e : Int) < (b : Int) := by omega
                have HL1 := unhide T2 (by omega)
                go_wp2
                go_end0
                have FIN := unhide T7 _ _ _ HL1 (unhide T4 _ HL1 (by omega)) (unhide T6 _ _ HL1 (unhide T4 _ HL1 (by omega)) (by omega))
                exact ⟨rfl, _, (unhide HA).own, (unhide HA).back, FIN.1, FIN.2⟩
            · by_cases z4 : e < b
              · have j1 : ¬ (s : Int) < (m : Int) := by omega
                have j2 : ¬ (mid : Int) < (e : Int) := by omega
                have j3 : ¬ (m : Int) < (e : Int) := by omega
                have j4 : ¬ (s : Int) < (mid : Int) := by omega
                have j5 : ¬ (a : Int) < (s : Int) := by omega
                have j6 : (e : Int) < (b : Int) := by omega
                have HL1 := unhide T2 (by omega)
                go_wp2
                go_end0
                have FIN := unhide T7 _ _ _ HL1 (unhide T4 _ HL1 (by omega)) (unhide T6 _ _ HL1 (unhide T4 _ HL1 (by omega)) (by omega))
                exact ⟨rfl, _, (unhide HA).own, (unhide HA).back, FIN.1, FIN.2⟩
              · have j1 : ¬ (s : Int) < (m : Int) := by omega
                have j2 : ¬ (mid : Int) < (e : Int) := by omega
                have j3 : ¬ (m : Int) < (e : Int) := by omega
                have j4 : ¬ (s : Int) < (mid : Int) := by omega
                have j5 : ¬ (a : Int) < (s : Int) := by omega
                have j6 : ¬ (e : Int) < (b : Int) := by omega
                have HL1 := unhide T2 (by omega)
                go_wp2
                go_end0
                have FIN := unhide T7 _ _ _ HL1 (unhide T4 _ HL1 (by omega)) (unhide T6 _ _ HL1 (unhide T4 _ HL1 (by omega)) (by omega))
                exact ⟨rfl, _, (unhide HA).own, (unhide HA).back, FIN.1, FIN.2⟩
  · have i0 : ¬ (mid : Int) < (m : Int) := by omega
    go_enter Tryz.func111, Tryz.ntmps111
    go_wp2_with fail
    go_loopw [18, 19] (fun s18 s19 wr => ∃ (s r : Nat), s18 = .int .i64 (s : Int) ∧ s19 = .int .i64 (r : Int) ∧ a ≤ s ∧ s ≤ r ∧ r ≤ m ∧ Hid (T.At W.heap.size (W.alloc (.cells #[T.less, T.swap] 133)) wr L) ∧ Hid (s = a ∨ T.o.f (atL L (s - 1)) (atL L (mid + m - s)) ≤ 0) ∧ Hid (r = m ∨ T.o.f (atL L (mid + m - r - 1)) (atL L r) < 0)) (fun s18 s19 _ => (intOf s19 - intOf s18).toNat)
    case atStart => exact ⟨a, m, by first | rfl | go_num, by first | rfl | go_num, Nat.le_refl _, by omega, Nat.le_refl _, H0, .inl rfl, .inl rfl⟩
    case round =>
      obtain ⟨s, r, rfl, rfl, hs1, hsr, hr1, HA, HLO, HHI⟩ := hrel
      have c0 := (unhide HA).c0
      have c1 := (unhide HA).c1
      by_cases h1 : s < r
      · have i1 : (s : Int) < (r : Int) := by omega
        obtain ⟨c, hc⟩ : ∃ c, c = (s + r) / 2 := ⟨_, rfl⟩
        have eh : ((s : Int) + (r : Int)) / 2 = (c : Int) := by omega
        have i3 : (s : Int) + (r : Int) ≤ 2097152 := by omega
        have hcj : s ≤ c ∧ c < r := by omega
        have HCJ := hide hcj
        have ep : (mid : Int) + (m : Int) - 1 - (c : Int) = ((mid + m - 1 - c : Nat) : Int) := by omega
        have HL := hide (less_any T wr L (mid + m - 1 - c) c (unhide HA).ok (unhide HA).own (by have := unhide HMID; omega) (by omega) (unhide HGG c (mid + m - 1 - c) (by omega) (by omega) (by omega) (by have := unhide HMID; omega)))
        have hcb : (c : Int) ≤ 1048576 := by omega
        have hpc : ((mid + m - 1 - c : Nat) : Int) ≤ 2097152 := by omega
        unfold Sorting.less at c0
        clear hc hcj c1
        cases hlt : T.lt (atL L (mid + m - 1 - c)) (atL L c)
        · rw [hlt] at HL
          have HX : Hid (T.o.f (atL L (c + 1 - 1)) (atL L (mid + m - (c + 1))) ≤ 0) := by
            have h3 := ltV_f hlt
            have h4 := T.o.anti (atL L (mid + m - 1 - c)) (atL L c)
            show _ ≤ _
            rw [show c + 1 - 1 = c by omega, show mid + m - (c + 1) = mid + m - 1 - c by omega]
            omega
          clear hlt
          go_wp2_with (refine (unhide HL).mono ?_; rintro e w2 ⟨rfl, hb2⟩; replace hb2 := hide hb2)
          go_roundw
          case rel => exact ⟨c + 1, r, by go_num, rfl, by have := unhide HCJ; omega, by have := unhide HCJ; omega, hr1, (unhide HA).below (unhide hb2), .inr (unhide HX), HHI⟩
          case measure => have := unhide HCJ; first | (simp [intOf]; omega) | (simp only [intOf]; omega)
        · rw [hlt] at HL
          have HX : Hid (T.o.f (atL L (mid + m - c - 1)) (atL L c) < 0) := by
            show _ < _
            rw [show mid + m - c - 1 = mid + m - 1 - c by omega]
            exact ltV_t hlt
          clear hlt
          go_wp2_with (refine (unhide HL).mono ?_; rintro e w2 ⟨rfl, hb2⟩; replace hb2 := hide hb2)
          go_roundw
          case rel => exact ⟨s, c, rfl, by go_num, hs1, (unhide HCJ).1, by have := unhide HCJ; omega, (unhide HA).below (unhide hb2), HLO, .inr (unhide HX)⟩
          case measure => have := unhide HCJ; first | (simp [intOf]; omega) | (simp only [intOf]; omega)
      · have i1 : ¬ (s : Int) < (r : Int) := by omega
        have hsr' : s = r := by omega
        obtain ⟨e, he⟩ : ∃ e, e + s = mid + m := ⟨mid + m - s, by omega⟩
        have he2 : mid + m - s = e := by omega
        have TT := unhide TAIL wr a m s e hs1 (by omega) he (.inr ⟨hcm, rfl, rfl⟩) (by have h := unhide HLO; rw [he2] at h; exact h) (by have h := unhide HHI; rw [← hsr', he2] at h; exact h) (unhide HA)
        obtain ⟨hbd, T1, T2, T3, T4, T5, T6, T7⟩ := TT
        have T1 := hide T1
        have T2 := hide T2
        have ee : (mid : Int) + (m : Int) - (s : Int) = (e : Int) := by omega
        obtain ⟨b1, b2, b3, b4, b5, b6⟩ := hbd
        have HE := hide he
        clear HLO HHI hsr hsr' he he2 hr1 hs1
        have hp1 : (s < m ∧ mid < e) ∨ (¬ s < m ∧ ¬ mid < e) := by have := unhide HE; omega
        have hp2 : (m < e ∧ s < mid) ∨ (¬ m < e ∧ ¬ s < mid) := by have := unhide HE; omega
        rcases hp1 with ⟨x1, x2⟩ | ⟨x1, x2⟩
        · rcases hp2 with ⟨y1, y2⟩ | ⟨y1, y2⟩
          · by_cases z3 : a < s
            · by_cases z4 : e < b
              · have j1 : (s : Int) < (m : Int) := by omega
                have j2 : (mid : Int) < (e : Int) := by omega
                have j3 : (m : Int) < (e : Int) := by omega
                have j4 : (s : Int) < (mid : Int) := by omega
                have j5 : (a : Int) < (s : Int) := by omega
                have j6 : (e : Int) < (b : Int) := by omega
                have HROT := unhide T1 x1 y1
                go_wp2_with (first | (go_at_call 120; refine (unhide HROT).mono ?_; rintro e_1 w2 ⟨rfl, L1, HA1, HL1⟩; have cr0 := (unhide HA1).c0; have cr1 := (unhide HA1).c1) | (go_at_call_of 111 (Value.int IntKind.i64 (a : Int)); refine (unhide T3 _ _ HA1 HL1 (by omega) (by omega)).mono ?_; rintro e_1 w3 ⟨rfl, L2, HA2, HL2⟩; have cl0 := (unhide HA2).c0; have cl1 := (unhide HA2).c1) | (go_at_call_of 111 (Value.int IntKind.i64 (b : Int)); refine (unhide T5 _ _ _ HA2 HL1 HL2 (by omega) (by omega)).mono ?_; rintro e_1 w4 ⟨rfl, L3, HA3, HL3⟩))
                go_end0
                have FIN := unhide T7 _ _ _ HL1 HL2 HL3
                exact ⟨rfl, _, (unhide HA3).own, (unhide HA3).back, FIN.1, FIN.2⟩
              · have j1 : (s : Int) < (m : Int) := by omega
                have j2 : (mid : Int) < (e : Int) := by omega
                have j3 : (m : Int) < (e : Int) := by omega
                have j4 : (s : Int) < (mid : Int) := by omega
                have j5 : (a : Int) < (s : Int) := by omega
                have j6 : ¬ (e : Int) < (b : Int) := by omega
                have HROT := unhide T1 x1 y1
                go_wp2_with (first | (go_at_call 120; refine (unhide HROT).mono ?_; rintro e_1 w2 ⟨rfl, L1, HA1, HL1⟩; have cr0 := (unhide HA1).c0; have cr1 := (unhide HA1).c1) | (go_at_call_of 111 (Value.int IntKind.i64 (a : Int)); refine (unhide T3 _ _ HA1 HL1 (by omega) (by omega)).mono ?_; rintro e_1 w3 ⟨rfl, L2, HA2, HL2⟩; have cl0 := (unhide HA2).c0; have cl1 := (unhide HA2).c1))
                go_end0
                have FIN := unhide T7 _ _ _ HL1 HL2 (unhide T6 _ _ HL1 HL2 (by omega))
                exact ⟨rfl, _, (unhide HA2).own, (unhide HA2).back, FIN.1, FIN.2⟩
            · by_cases z4 : e < b
              · have j1 : (s : Int) < (m : Int) := by omega
                have j2 : (mid : Int) < (e : Int) := by omega
                have j3 : (m : Int) < (e : Int) := by omega
                have j4 : (s : Int) < (mid : Int) := by omega
                have j5 : ¬ (a : Int) < (s : Int) := by omega
                have j6 : (e : Int) < (b : Int) := by omega
                have HROT := unhide T1 x1 y1
                go_wp2_with (first | (go_at_call 120; refine (unhide HROT).mono ?_; rintro e_1 w2 ⟨rfl, L1, HA1, HL1⟩; have cr0 := (unhide HA1).c0; have cr1 := (unhide HA1).c1) | (go_at_call_of 111 (Value.int IntKind.i64 (b : Int)); refine (unhide T5 _ _ _ HA1 HL1 (unhide T4 _ HL1 (by omega)) (by omega) (by omega)).mono ?_; rintro e_1 w4 ⟨rfl, L3, HA3, HL3⟩))
                go_end0
                have FIN := unhide T7 _ _ _ HL1 (unhide T4 _ HL1 (by omega)) HL3
                exact ⟨rfl, _, (unhide HA3).own, (unhide HA3).back, FIN.1, FIN.2⟩
              · have j1 : (s : Int) < (m : Int) := by omega
                have j2 : (mid : Int) < (e : Int) := by omega
                have j3 : (m : Int) < (e : Int) := by omega
                have j4 : (s : Int) < (mid : Int) := by omega
                have j5 : ¬ (a : Int) < (s : Int) := by omega
                have j6 : ¬ (e : Int) < (b : Int) := by omega
                have HROT := unhide T1 x1 y1
                go_wp2_with (first | (go_at_call 120; refine (unhide HROT).mono ?_; rintro e_1 w2 ⟨rfl, L1, HA1, HL1⟩; have cr0 := (unhide HA1).c0; have cr1 := (unhide HA1).c1))
                go_end0
                have FIN := unhide T7 _ _ _ HL1 (unhide T4 _ HL1 (by omega)) (unhide T6 _ _ HL1 (unhide T4 _ HL1 (by omega)) (by omega))
                exact ⟨rfl, _, (unhide HA1).own, (unhide HA1).back, FIN.1, FIN.2⟩
          · by_cases z3 : a < s
            · by_cases z4 : e < b
              · have j1 : (s : Int) < (m : Int) := by omega
                have j2 : (mid : Int) < (e : Int) := by omega
                have j3 : ¬ (m : Int) < (e : Int) := by omega
                have j4 : ¬ (s : Int) < (mid : Int) := by omega
                have j5 : (a : Int) < (s : Int) := by omega
                have j6 : (e : Int) < (b : Int) := by omega
                have HL1 := unhide T2 (by omega)
                go_wp2_with (first | (go_at_call_of 111 (Value.int IntKind.i64 (b : Int)); refine (unhide T5 _ _ _ HA HL1 (unhide T4 _ HL1 (by omega)) (by omega) (by omega)).mono ?_; rintro e_1 w4 ⟨rfl, L3, HA3, HL3⟩))
                go_end0
                have FIN := unhide T7 _ _ _ HL1 (unhide T4 _ HL1 (by omega)) HL3
                exact ⟨rfl, _, (unhide HA3).own, (unhide HA3).back, FIN.1, FIN.2⟩
              · have j1 : (s : Int) < (m : Int) := by omega
                have j2 : (mid : Int) < (e : Int) := by omega
                have j3 : ¬ (m : Int) < (e : Int) := by omega
                have j4 : ¬ (s : Int) < (mid : Int) := by omega
                have j5 : (a : Int) < (s : Int) := by omega
                have j6 : ¬ (e : Int) < (b : Int) := by omega
                have HL1 := unhide T2 (by omega)
                go_wp2
                go_end0
                have FIN := unhide T7 _ _ _ HL1 (unhide T4 _ HL1 (by omega)) (unhide T6 _ _ HL1 (unhide T4 _ HL1 (by omega)) (by omega))
                exact ⟨rfl, _, (unhide HA).own, (unhide HA).back, FIN.1, FIN.2⟩
            · by_cases z4 : e < b
              · have j1 : (s : Int) < (m : Int) := by omega
                have j2 : (mid : Int) < (e : Int) := by omega
                have j3 : ¬ (m : Int) < (e : Int) := by omega
                have j4 : ¬ (s : Int) < (mid : Int) := by omega
                have j5 : ¬ (a : Int) < (s : Int) := by omega
                have j6 : (e : Int) < (b : Int) := by omega
                have HL1 := unhide T2 (by omega)
                go_wp2_with (first | (go_at_call_of 111 (Value.int IntKind.i64 (b : Int)); refine (unhide T5 _ _ _ HA HL1 (unhide T4 _ HL1 (by omega)) (by omega) (by omega)).mono ?_; rintro e_1 w4 ⟨rfl, L3, HA3, HL3⟩))
                go_end0
                have FIN := unhide T7 _ _ _ HL1 (unhide T4 _ HL1 (by omega)) HL3
                exact ⟨rfl, _, (unhide HA3).own, (unhide HA3).back, FIN.1, FIN.2⟩
              · have j1 : (s : Int) < (m : Int) := by omega
                have j2 : (mid : Int) < (e : Int) := by omega
                have j3 : ¬ (m : Int) < (e : Int) := by omega
                have j4 : ¬ (s : Int) < (mid : Int) := by omega
                have j5 : ¬ (a : Int) < (s : Int) := by omega
                have j6 : ¬ (e : Int) < (b : Int) := by omega
                have HL1 := unhide T2 (by omega)
                go_wp2
                go_end0
                have FIN := unhide T7 _ _ _ HL1 (unhide T4 _ HL1 (by omega)) (unhide T6 _ _ HL1 (unhide T4 _ HL1 (by omega)) (by omega))
                exact ⟨rfl, _, (unhide HA).own, (unhide HA).back, FIN.1, FIN.2⟩
        · rcases hp2 with ⟨y1, y2⟩ | ⟨y1, y2⟩
          · by_cases z3 : a < s
            · by_cases z4 : e < b
              · have j1 : ¬ (s : Int) < (m : Int) := by omega
                have j2 : ¬ (mid : Int) < (e : Int) := by omega
                have j3 : (m : Int) < (e : Int) := by omega
                have j4 : (s : Int) < (mid : Int) := by omega
                have j5 : (a : Int) < (s : Int) := by omega
                have j6 : (e : Int) < (b : Int) := by omega
                have HL1 := unhide T2 (by omega)
                go_wp2_with (first | (go_at_call_of 111 (Value.int IntKind.i64 (a : Int)); refine (unhide T3 _ _ HA HL1 (by omega) (by omega)).mono ?_; rintro e_1 w3 ⟨rfl, L2, HA2, HL2⟩; have cl0 := (unhide HA2).c0; have cl1 := (unhide HA2).c1))
                go_end0
                have FIN := unhide T7 _ _ _ HL1 HL2 (unhide T6 _ _ HL1 HL2 (by omega))
                exact ⟨rfl, _, (unhide HA2).own, (unhide HA2).back, FIN.1, FIN.2⟩
              · have j1 : ¬ (s : Int) < (m : Int) := by omega
                have j2 : ¬ (mid : Int) < (e : Int) := by omega
                have j3 : (m : Int) < (e : Int) := by omega
                have j4 : (s : Int) < (mid : Int) := by omega
                have j5 : (a : Int) < (s : Int) := by omega
                have j6 : ¬ (e : Int) < (b : Int) := by omega
                have HL1 := unhide T2 (by omega)
                go_wp2_with (first | (go_at_call_of 111 (Value.int IntKind.i64 (a : Int)); refine (unhide T3 _ _ HA HL1 (by omega) (by omega)).mono ?_; rintro e_1 w3 ⟨rfl, L2, HA2, HL2⟩; have cl0 := (unhide HA2).c0; have cl1 := (unhide HA2).c1))
                go_end0
                have FIN := unhide T7 _ _ _ HL1 HL2 (unhide T6 _ _ HL1 HL2 (by omega))
                exact ⟨rfl, _, (unhide HA2).own, (unhide HA2).back, FIN.1, FIN.2⟩
            · by_cases z4 : e < b
              · have j1 : ¬ (s : Int) < (m : Int) := by omega
                have j2 : ¬ (mid : Int) < (e : Int) := by omega
                have j3 : (m : Int) < (e : Int) := by omega
                have j4 : (s : Int) < (mid : Int) := by omega
                have j5 : ¬ (a : Int) < (s : Int) := by omega
                have j6 : (e : Int) < (b : Int) := by omega
                have HL1 := unhide T2 (by omega)
                go_wp2
                go_end0
                have FIN := unhide T7 _ _ _ HL1 (unhide T4 _ HL1 (by omega)) (unhide T6 _ _ HL1 (unhide T4 _ HL1 (by omega)) (by omega))
                exact ⟨rfl, _, (unhide HA).own, (unhide HA).back, FIN.1, FIN.2⟩
              · have j1 : ¬ (s : Int) < (m : Int) := by omega
                have j2 : ¬ (mid : Int) < (e : Int) := by omega
                have j3 : (m : Int) < (e : Int) := by omega
                have j4 : (s : Int) < (mid : Int) := by omega
                have j5 : ¬ (a : Int) < (s : Int) := by omega
                have j6 : ¬ (e : Int) < (b : Int) := by omega
                have HL1 := unhide T2 (by omega)
                go_wp2
                go_end0
                have FIN := unhide T7 _ _ _ HL1 (unhide T4 _ HL1 (by omega)) (unhide T6 _ _ HL1 (unhide T4 _ HL1 (by omega)) (by omega))
                exact ⟨rfl, _, (unhide HA).own, (unhide HA).back, FIN.1, FIN.2⟩
          · by_cases z3 : a < s
            · by_cases z4 : e < b
              · have j1 : ¬ (s : Int) < (m : Int) := by omega
                have j2 : ¬ (mid : Int) < (e : Int) := by omega
                have j3 : ¬ (m : Int) < (e : Int) := by omega
                have j4 : ¬ (s : Int) < (mid : Int) := by omega
                have j5 : (a : Int) < (s : Int) := by omega
                have j6 : (e : Int) < (b : Int) := by omega
                have HL1 := unhide T2 (by omega)
                go_wp2
                go_end0
                have FIN := unhide T7 _ _ _ HL1 (unhide T4 _ HL1 (by omega)) (unhide T6 _ _ HL1 (unhide T4 _ HL1 (by omega)) (by omega))
                exact ⟨rfl, _, (unhide HA).own, (unhide HA).back, FIN.1, FIN.2⟩
              · have j1 : ¬ (s : Int) < (m : Int) := by omega
                have j2 : ¬ (mid : Int) < (e : Int) := by omega
                have j3 : ¬ (m : Int) < (e : Int) := by omega
                have j4 : ¬ (s : Int) < (mid : Int) := by omega
                have j5 : (a : Int) < (s : Int) := by omega
                have j6 : ¬ (e : Int) < (b : Int) := by omega
                have HL1 := unhide T2 (by omega)
                go_wp2
                go_end0
                have FIN := unhide T7 _ _ _ HL1 (unhide T4 _ HL1 (by omega)) (unhide T6 _ _ HL1 (unhide T4 _ HL1 (by omega)) (by omega))
                exact ⟨rfl, _, (unhide HA).own, (unhide HA).back, FIN.1, FIN.2⟩
            · by_cases z4 : e < b
              · have j1 : ¬ (s : Int) < (m : Int) := by omega
                have j2 : ¬ (mid : Int) < (e : Int) := by omega
                have j3 : ¬ (m : Int) < (e : Int) := by omega
                have j4 : ¬ (s : Int) < (mid : Int) := by omega
                have j5 : ¬ (a : Int) < (s : Int) := by omega
                have j6 : (e : Int) < (b : Int) := by omega
                have HL1 := unhide T2 (by omega)
                go_wp2
                go_end0
                have FIN := unhide T7 _ _ _ HL1 (unhide T4 _ HL1 (by omega)) (unhide T6 _ _ HL1 (unhide T4 _ HL1 (by omega)) (by omega))
                exact ⟨rfl, _, (unhide HA).own, (unhide HA).back, FIN.1, FIN.2⟩
              · have j1 : ¬ (s : Int) < (m : Int) := by omega
                have j2 : ¬ (mid : Int) < (e : Int) := by omega
                have j3 : ¬ (m : Int) < (e : Int) := by omega
                have j4 : ¬ (s : Int) < (mid : Int) := by omega
                have j5 : ¬ (a : Int) < (s : Int) := by omega
                have j6 : ¬ (e : Int) < (b : Int) := by omega
                have HL1 := unhide T2 (by omega)
                go_wp2
                go_end0
                have FIN := unhide T7 _ _ _ HL1 (unhide T4 _ HL1 (by omega)) (unhide T6 _ _ HL1 (unhide T4 _ HL1 (by omega)) (by omega))
                exact ⟨rfl, _, (unhide HA).own, (unhide HA).back, FIN.1, FIN.2⟩

end Go.Proofs.YtcbenpodohjbiaaGreat
set_option linter.unusedSimpArgs false
set_option linter.unusedVariables false
set_option maxRecDepth 100000
namespace Go.Proofs.YtcbenpodohjbiaaGreat
open Go.RowKit Go.Sort

theorem sym_any (T : Sorting) : ∀ (d : Nat) (W : World) (L : List El) (a m b : Nat), b - a ≤ d → T.OK W → T.Own W L → a < m → m < b → b ≤ T.N → SAB T.o a m L → SAB T.o m b L → TG a m b L →
    Calls Tryz.prog 111 #[.agg #[T.less, T.swap], .int .i64 a, .int .i64 m, .int .i64 b] W fun e w' => e = .returned (.tuple #[]) ∧ ∃ L', T.Own w' L' ∧ Grew W w' T.v T.v ∧ PAB a b L L' ∧ SAB T.o a b L'
  | 0, W, L, a, m, b, hd, _, _, h1, h2, _, _, _, _ => by omega
  | d + 1, W, L, a, m, b, hd, hT, hO, h1, h2, hb, s1, s2, s3 => by
    by_cases hm : m = a + 1
    · exact symA_any T W L a m b hT hO hm h2 hb s2 s3
    · by_cases hq : b = m + 1
      · exact symB_any T W L a m b hT hO (by omega) hq hb s1 s3
      · exact symC_any T W L a m b hT hO (by omega) (by omega) hb s1 s2 s3 fun W' L' a' m' b' hlt hT' hO' q1 q2 q3 q4 q5 q6 => sym_any T d W' L' a' m' b' (by omega) hT' hO' q1 q2 q3 q4 q5 q6
set_option maxHeartbeats 8000000 in
set_option maxRecDepth 100000 in
theorem stable_any (T : Sorting) (W : World) (L : List El) (hT : T.OK W) (hO : T.Own W L) (hI : ∀ k, k < T.N → (atL L k).t = k) :
    Calls Tryz.prog 74 #[.agg #[T.less, T.swap], .int .i64 T.N] W fun e w' => e = .returned (.tuple #[]) ∧ ∃ L', T.Own w' L' ∧ Grew W w' T.v T.v ∧ L'.Perm L ∧ SAB T.o 0 T.N L' := by
  have H0 := hide (Sorting.start hT hO)
  have hsm := hT.small
  obtain ⟨n, hn⟩ : ∃ n, Hid (n = T.N) := ⟨_, rfl⟩
  rw [← unhide hn] at hsm hI ⊢
  have HI0 := hide hI
  clear hI
  have HI : Hid (∀ wr L' a b, T.At W.heap.size (W.alloc (.cells #[T.less, T.swap] 133)) wr L' → a ≤ b → b ≤ n → (∀ k, a ≤ k → k < b → (atL L' k).t = k) → Calls Tryz.prog 110 #[.agg #[T.less, T.swap], .int .i64 (a : Nat), .int .i64 (b : Nat)] wr fun e w' => e = .returned (.tuple #[]) ∧ ∃ L2, Hid (T.At W.heap.size (W.alloc (.cells #[T.less, T.swap] 133)) w' L2) ∧ Hid (PAB a b L' L2 ∧ BS T.o a b L2)) := fun wr L' a b hA h1 h2 hk =>
    (insertion_any T wr L' a b hA.ok hA.own h1 (by rw [← unhide hn]; exact h2) (fun i j q1 q2 q3 => by rw [hk i q1 (by omega), hk j (by omega) q3]; exact q2)).mono fun e w' ⟨he, L2, o1, o2, o3, o4⟩ => ⟨he, L2, hA.grow o1 o2, o3, o4, TR.first hk o3⟩
  have HM : Hid (∀ wr L' a m b, T.At W.heap.size (W.alloc (.cells #[T.less, T.swap] 133)) wr L' → a < m → m < b → b ≤ n → BS T.o a m L' → BS T.o m b L' → Calls Tryz.prog 111 #[.agg #[T.less, T.swap], .int .i64 (a : Nat), .int .i64 (m : Nat), .int .i64 (b : Nat)] wr fun e w' => e = .returned (.tuple #[]) ∧ ∃ L2, Hid (T.At W.heap.size (W.alloc (.cells #[T.less, T.swap] 133)) w' L2) ∧ Hid (PAB a b L' L2 ∧ BS T.o a b L2)) := fun wr L' a m b hA h1 h2 h3 s1 s2 =>
    (sym_any T _ wr L' a m b (Nat.le_refl _) hA.ok hA.own h1 h2 (by rw [← unhide hn]; exact h3) s1.1 s2.1 (TR.tg s1.2 s2.2)).mono fun e w' ⟨he, L2, o1, o2, o3, o4⟩ => ⟨he, L2, hA.grow o1 o2, o3, o4, TR.both s1.2 s2.2 (by omega) (by omega) o3⟩
  clear hT hO
  go_enter Tryz.func74, Tryz.ntmps74
  go_wp2_with fail
  go_loopw [5, 6] (fun s5 s6 wr => ∃ (a : Nat) (L' : List El), s5 = .int .i64 (a : Int) ∧ s6 = .int .i64 ((a + 20 : Nat) : Int) ∧ a ≤ n ∧ Hid (20 ∣ a) ∧ Hid (T.At W.heap.size (W.alloc (.cells #[T.less, T.swap] 133)) wr L') ∧ Hid (PAB 0 n L L') ∧ Hid (Two T.o 20 1 0 a L') ∧ Hid (∀ k, a ≤ k → k < n → (atL L' k).t = k)) (fun s5 _ _ => n - (intOf s5).toNat)
  case atStart => exact ⟨0, L, rfl, rfl, Nat.zero_le _, ⟨0, rfl⟩, H0, PAB.refl _ _ _, ⟨fun c _ h => (by omega), fun c _ _ h => (by omega)⟩, fun k _ h => unhide HI0 k h⟩
  case round =>
    obtain ⟨a, L', rfl, rfl, han, HDV, HA, HP, HT2, HK⟩ := hrel
    have c0 := (unhide HA).c0
    have c1 := (unhide HA).c1
    by_cases h1 : a + 20 ≤ n
    · have i1 : ((a + 20 : Nat) : Int) ≤ (n : Int) := by omega
      have HC := hide (unhide HI wr L' a (a + 20) (unhide HA) (by omega) h1 (fun k q1 q2 => unhide HK k q1 (by omega)))
      go_wp2_with (go_at_call 110; refine (unhide HC).mono ?_; rintro e w2 ⟨rfl, L2, HA2, HL2⟩)
      go_roundw
      case rel => exact ⟨a + 20, L2, by go_num, by go_num, by omega, by obtain ⟨k, hk⟩ := unhide HDV; exact ⟨k + 1, by omega⟩, HA2, (unhide HP).trans ((unhide HL2).1.widen (by omega) h1), Two.step (unhide HT2) (by omega) (unhide HDV) (unhide HL2).1 (unhide HL2).2, fun k q1 q2 => by rw [(unhide HL2).1.out k (.inr q1)]; exact unhide HK k (by omega) q2⟩
      case measure => first | (simp [intOf]; omega) | (simp only [intOf]; omega)
    · have i1 : ¬ ((a + 20 : Nat) : Int) ≤ (n : Int) := by omega
      have HC := hide (unhide HI wr L' a n (unhide HA) han (Nat.le_refl _) (unhide HK))
      go_wp2_with (first | (go_at_call 110; refine (unhide HC).mono ?_; rintro e w2 ⟨rfl, L2, HA2, HL2⟩) | fail)
      have HB0 : Hid (Blk T.o 20 n L2) := Two.done (n := n) (Two.out (unhide HT2) (unhide HDV) (unhide HL2).1) (unhide HDV) han (by omega) (unhide HL2).2
      have HP2 := hide ((unhide HP).trans ((unhide HL2).1.widen (Nat.zero_le _) (Nat.le_refl _)))
      clear HP HT2 HK HDV HL2 HA HC c0 c1 H0
      go_loopw [4, 5, 6, 7] (fun s4 s5 s6 s7 wr => ∃ (z : Nat) (M : List El), s4 = .int .i64 (z : Int) ∧ 20 ≤ z ∧ z ≤ 2097152 ∧ Hid (T.At W.heap.size (W.alloc (.cells #[T.less, T.swap] 133)) wr M) ∧ Hid (PAB 0 n L M) ∧ Hid (Blk T.o z n M)) (fun s4 _ _ _ _ => n - (intOf s4).toNat)
      case atStart => exact ⟨20, L2, rfl, by omega, by omega, HA2, HP2, HB0⟩
      case round =>
        obtain ⟨z, M, rfl, hz, hz2, HA, HP, HB⟩ := hrel
        have c0 := (unhide HA).c0
        have c1 := (unhide HA).c1
        by_cases h2 : z < n
        · have i2 : (z : Int) < (n : Int) := by omega
          have hzi : (z : Int) ≤ 2097152 := by omega
          obtain ⟨z2, hz2e⟩ : ∃ z2, z2 = 2 * z := ⟨_, rfl⟩
          have ez2 : (2 : Int) * (z : Int) = (z2 : Int) := by omega
          have ez3 : (z : Int) * 2 = (z2 : Int) := by omega
          have HZE := hide hz2e
          have hz2i : (z2 : Int) ≤ 4194304 := by omega
          have hzz : z < z2 := by omega
          clear hz2e
          go_wp2_with fail
          go_loopw [5, 6] (fun s5 s6 wv => ∃ (a bb : Nat) (K : List El), s5 = .int .i64 (a : Int) ∧ s6 = .int .i64 (bb : Int) ∧ a ≤ n ∧ Hid (bb = a + z2) ∧ Hid (z2 ∣ a) ∧ Hid (T.At W.heap.size (W.alloc (.cells #[T.less, T.swap] 133)) wv K) ∧ Hid (PAB 0 n L K) ∧ Hid (Two T.o z2 z n a K)) (fun s5 _ _ => n - (intOf s5).toNat)
          case atStart => exact ⟨0, z2, M, rfl, by first | rfl | go_num | (simp; done), Nat.zero_le _, (Nat.zero_add _).symm, ⟨0, rfl⟩, HA, HP, Two.start (unhide HB)⟩
          case round =>
            obtain ⟨a, bb, K, rfl, rfl, han2, HBB, HDV, HAK, HPK, HTK⟩ := hrel
            have c0 := (unhide HAK).c0
            have c1 := (unhide HAK).c1
            have hze := unhide HZE
            have hbb := unhide HBB
            have hzd : z ∣ a := Nat.dvd_trans ⟨2, by omega⟩ (unhide HDV)
            have hzd2 : z ∣ a + z := (Nat.dvd_add_right hzd).2 (Nat.dvd_refl z)
            have HZ := hide hzd
            have HZ2 := hide hzd2
            obtain ⟨az, haz⟩ : ∃ az, az = a + z := ⟨_, rfl⟩
            have e4 : (a : Int) + (z : Int) = (az : Int) := by omega
            have e6 : (bb : Int) + (z2 : Int) ≤ 16777216 := by omega
            have hazi : (az : Int) ≤ 4194304 := by omega
            by_cases h4 : bb ≤ n
            · have i4 : (bb : Int) ≤ (n : Int) := by omega
              have HC := hide (unhide HM wr K a az bb (unhide HAK) (by omega) (by omega) h4 (by
                have := (unhide HTK).2 a (unhide HZ) (Nat.le_refl _) (by omega)
                rw [Nat.min_eq_left (by omega), ← haz] at this
                exact this) (by
                have := (unhide HTK).2 (a + z) (unhide HZ2) (by omega) (by omega)
                rw [Nat.min_eq_left (by omega), show a + z + z = bb by omega, ← haz] at this
                exact this))
              have HG : Hid (a < bb ∧ bb = a + z2) := ⟨by omega, hbb⟩
              clear hze hbb hzd hzd2 haz
              go_wp2_with (go_at_call 111; refine (unhide HC).mono ?_; rintro e w2 ⟨rfl, K2, HA2, HL2⟩)
              go_roundw
              case rel =>
                refine ⟨bb, bb + z2, K2, rfl, by go_num, h4, rfl, ?_, HA2, (unhide HPK).trans ((unhide HL2).1.widen (Nat.zero_le _) h4), ?_⟩
                · show _ ∣ _
                  rw [(unhide HG).2]
                  exact (Nat.dvd_add_right (unhide HDV)).2 (Nat.dvd_refl _)
                · have h7 := unhide HL2
                  rw [(unhide HG).2] at h7 ⊢
                  exact Two.step (unhide HTK) (by omega) (unhide HDV) h7.1 h7.2
              case measure => have := (unhide HG).1; first | (simp [intOf]; omega) | (simp only [intOf]; omega)
            · have i4 : ¬ (bb : Int) ≤ (n : Int) := by omega
              by_cases h5 : az < n
              · have i5 : (az : Int) < (n : Int) := by omega
                have HC := hide (unhide HM wr K a az n (unhide HAK) (by omega) h5 (Nat.le_refl _) (by
                  have := (unhide HTK).2 a (unhide HZ) (Nat.le_refl _) (by omega)
                  rw [Nat.min_eq_left (by omega), ← haz] at this
                  exact this) (by
                  have := (unhide HTK).2 (a + z) (unhide HZ2) (by omega) (by omega)
                  rw [Nat.min_eq_right (by omega), ← haz] at this
                  exact this))
                have HG : Hid (n < a + z2 ∧ z2 = 2 * z) := ⟨by omega, hze⟩
                clear hze hbb hzd hzd2 haz
                go_wp2_with (go_at_call 111; refine (unhide HC).mono ?_; rintro e w2 ⟨rfl, K2, HA2, HL2⟩)
                go_roundw
                case rel =>
                  refine ⟨z2, K2, by go_num, by omega, by have := unhide HG; omega, HA2, (unhide HPK).trans ((unhide HL2).1.widen (Nat.zero_le _) (Nat.le_refl _)), ?_⟩
                  exact Two.done (n := n) (Two.out (unhide HTK) (unhide HDV) (unhide HL2).1) (unhide HDV) han2 (unhide HG).1 (unhide HL2).2
                case measure => first | (simp [intOf]; omega) | (simp only [intOf]; omega)
              · have i5 : ¬ (az : Int) < (n : Int) := by omega
                have HE : Hid (BS T.o a n K) := by
                  by_cases h6 : a < n
                  · have := (unhide HTK).2 a (unhide HZ) (Nat.le_refl _) h6
                    rw [Nat.min_eq_right (by omega)] at this
                    exact this
                  · exact BS.nil (by omega) _
                have HG : Hid (n < a + z2 ∧ z2 = 2 * z) := ⟨by omega, hze⟩
                clear hze hbb hzd hzd2 haz
                go_wp2
                go_roundw
                case rel => exact ⟨z2, K, by go_num, by omega, by have := unhide HG; omega, HAK, HPK, Two.done (unhide HTK).1 (unhide HDV) han2 (unhide HG).1 (unhide HE)⟩
                case measure => first | (simp [intOf]; omega) | (simp only [intOf]; omega)
        · have i2 : ¬ (z : Int) < (n : Int) := by omega
          have HE : Hid (BS T.o 0 n M) := by
            by_cases h6 : 0 < n
            · have := unhide HB 0 ⟨0, rfl⟩ h6
              rw [Nat.min_eq_right (by omega)] at this
              exact this
            · exact BS.nil (by omega) _
          go_wp2
          go_end0
          exact ⟨rfl, M, (unhide HA).own, (unhide HA).back, (unhide HP).perm, (unhide HE).1⟩

end Go.Proofs.YtcbenpodohjbiaaGreat
