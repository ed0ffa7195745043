import Derived.Test.YtcbenpodohjbiaaGreatStB
set_option linter.unusedSimpArgs false
set_option linter.unusedVariables false
set_option maxRecDepth 100000
namespace Go.Proofs.YtcbenpodohjbiaaGreat
open Go.RowKit Go.Sort

set_option maxHeartbeats 16000000 in
set_option maxRecDepth 100000 in
theorem symC_any (T : Sorting) (W : World) (L : List El) (a m b : Nat) (hT : T.OK W) (hO : T.Own W L) (ham : a + 1 < m) (hmb : m + 1 < b) (hb : b ≤ T.N) (hS1 : SAB T.o a m L) (hS2 : SAB T.o m b L) (hG : TG a m b L)
    (ih : ∀ (W : World) (L : List El) (a' m' b' : Nat), b' - a' < b - a → T.OK W → T.Own W L → a' < m' → m' < b' → b' ≤ T.N → SAB T.o a' m' L → SAB T.o m' b' L → TG a' m' b' L → Calls Tryz.prog 111 #[.agg #[T.less, T.swap], .int .i64 a', .int .i64 m', .int .i64 b'] W fun e w' => e = .returned (.tuple #[]) ∧ ∃ L', T.Own w' L' ∧ Grew W w' T.v T.v ∧ PAB a' b' L L' ∧ SAB T.o a' b' L') :
    Calls Tryz.prog 111 #[.agg #[T.less, T.swap], .int .i64 a, .int .i64 m, .int .i64 b] W fun e w' => e = .returned (.tuple #[]) ∧ ∃ L', T.Own w' L' ∧ Grew W w' T.v T.v ∧ PAB a b L L' ∧ SAB T.o a b L' := by
  have H0 := hide (Sorting.start hT hO)
  have hsm := hT.small
  have ent := hT.ent
  have HGG := hide hG
  clear hG
  have e1 : ((m : Int) - (a : Int) == 1) = false := by simp; omega
  have e2 : ((b : Int) - (m : Int) == 1) = false := by simp; omega
  obtain ⟨mid, hmid⟩ : ∃ mid, mid = (a + b) / 2 := ⟨_, rfl⟩
  have em : ((a : Int) + (b : Int)) / 2 = (mid : Int) := by omega
  have hab2 : (a : Int) + (b : Int) ≤ 2097152 := by omega
  have hmi : a < mid ∧ mid < b := by omega
  have HS1 := hide hS1
  have HS2 := hide hS2
  have IH := hide ih
  have HMID := hide hmid
  have hmN : (mid : Int) ≤ 1048576 := by omega
  -- what follows the loop
  have TAIL : Hid (∀ (wr : World) (s0 r0 s e : Nat), s0 ≤ s → s ≤ r0 → e + s = mid + m → ((mid < m ∧ s0 + b = mid + m ∧ r0 = mid) ∨ (m ≤ mid ∧ s0 = a ∧ r0 = m)) → (s = s0 ∨ T.o.f (atL L (s - 1)) (atL L e) ≤ 0) → (s = r0 ∨ T.o.f (atL L (e - 1)) (atL L s) < 0) → T.At W.heap.size (W.alloc (.cells #[T.less, T.swap] 133)) wr L →
      (a ≤ s ∧ s ≤ m ∧ s ≤ mid ∧ m ≤ e ∧ mid ≤ e ∧ e ≤ b) ∧
      (s < m → m < e → Hid (Calls Tryz.prog 120 #[.agg #[T.less, T.swap], .int .i64 s, .int .i64 m, .int .i64 e] wr fun e_1 w' => e_1 = .returned (.tuple #[]) ∧ ∃ L1, Hid (T.At W.heap.size (W.alloc (.cells #[T.less, T.swap] 133)) w' L1) ∧ Hid (PAB a b L L1 ∧ ∀ q, atL L1 q = rotF (atL L) s m e q))) ∧
      (¬ (s < m ∧ m < e) → Hid (PAB a b L L ∧ ∀ q, atL L q = rotF (atL L) s m e q)) ∧
      Hid (∀ w2 L1, Hid (T.At W.heap.size (W.alloc (.cells #[T.less, T.swap] 133)) w2 L1) → Hid (PAB a b L L1 ∧ ∀ q, atL L1 q = rotF (atL L) s m e q) → a < s → s < mid → Calls Tryz.prog 111 #[.agg #[T.less, T.swap], .int .i64 a, .int .i64 s, .int .i64 mid] w2 fun e_1 w' => e_1 = .returned (.tuple #[]) ∧ ∃ L2, Hid (T.At W.heap.size (W.alloc (.cells #[T.less, T.swap] 133)) w' L2) ∧ Hid (PAB a mid L1 L2 ∧ SAB T.o a mid L2)) ∧
      Hid (∀ L1, Hid (PAB a b L L1 ∧ ∀ q, atL L1 q = rotF (atL L) s m e q) → ¬ (a < s ∧ s < mid) → Hid (PAB a mid L1 L1 ∧ SAB T.o a mid L1)) ∧
      Hid (∀ w2 L1 L2, Hid (T.At W.heap.size (W.alloc (.cells #[T.less, T.swap] 133)) w2 L2) → Hid (PAB a b L L1 ∧ ∀ q, atL L1 q = rotF (atL L) s m e q) → Hid (PAB a mid L1 L2 ∧ SAB T.o a mid L2) → mid < e → e < b → Calls Tryz.prog 111 #[.agg #[T.less, T.swap], .int .i64 mid, .int .i64 e, .int .i64 b] w2 fun e_1 w' => e_1 = .returned (.tuple #[]) ∧ ∃ L3, Hid (T.At W.heap.size (W.alloc (.cells #[T.less, T.swap] 133)) w' L3) ∧ Hid (PAB mid b L2 L3 ∧ SAB T.o mid b L3)) ∧
      Hid (∀ L1 L2, Hid (PAB a b L L1 ∧ ∀ q, atL L1 q = rotF (atL L) s m e q) → Hid (PAB a mid L1 L2 ∧ SAB T.o a mid L2) → ¬ (mid < e ∧ e < b) → Hid (PAB mid b L2 L2 ∧ SAB T.o mid b L2)) ∧
      Hid (∀ L1 L2 L3, Hid (PAB a b L L1 ∧ ∀ q, atL L1 q = rotF (atL L) s m e q) → Hid (PAB a mid L1 L2 ∧ SAB T.o a mid L2) → Hid (PAB mid b L2 L3 ∧ SAB T.o mid b L3) → PAB a b L L3 ∧ SAB T.o a b L3)) := by
    intro wr s0 r0 s e h1 h2 he hc hlo hhi hA
    have hbd : a ≤ s ∧ s ≤ m ∧ s ≤ mid ∧ m ≤ e ∧ mid ≤ e ∧ e ≤ b := by omega
    have CR := fun L1 (hL : ∀ q, atL L1 q = rotF (atL L) s m e q) => sym_cross (L' := L1) hmid (by omega : a < m) (by omega : m < b) he h1 h2 hc hS1 hS2 hlo hhi hL
    have TC := fun L1 (hL : ∀ q, atL L1 q = rotF (atL L) s m e q) => tg_cross (L' := L1) (unhide HGG) hbd.1 hbd.2.1 hbd.2.2.1 hbd.2.2.2.1 hbd.2.2.2.2.1 hbd.2.2.2.2.2 he hL
    refine ⟨hbd, fun q1 q2 => ?_, fun hn => ⟨PAB.refl _ _ _, rot_none hbd.2.1 hbd.2.2.2.1 hn⟩, fun w2 L1 hA1 hL1 q1 q2 => ?_, fun L1 hL1 hn => ⟨PAB.refl _ _ _, ((CR L1 hL1.2).1.1).left (CR L1 hL1.2).1.2 hbd.1 hbd.2.2.1 hn⟩, fun w2 L1 L2 hA2 hL1 hL2 q1 q2 => ?_, fun L1 L2 hL1 hL2 hn => ⟨PAB.refl _ _ _, ?_⟩, fun L1 L2 L3 hL1 hL2 hL3 => ?_⟩
    · exact (rotate_any T wr L s m e hA.ok hA.own q1 q2 (by omega)).mono fun e_1 w' ⟨he1, L1, o1, o2, o3, o4⟩ => ⟨he1, L1, hA.grow o1 o2, o3.widen (by omega) (by omega), o4⟩
    · exact (ih w2 L1 a s mid (by omega) (unhide hA1).ok (unhide hA1).own q1 q2 (by omega) (CR L1 hL1.2).1.1 (CR L1 hL1.2).1.2 (TC L1 hL1.2).1).mono fun e_1 w' ⟨he1, L2, o1, o2, o3, o4⟩ => ⟨he1, L2, (unhide hA1).grow o1 o2, o3, o4⟩
    · exact (ih w2 L2 mid e b (by omega) (unhide hA2).ok (unhide hA2).own q1 q2 hb ((CR L1 hL1.2).2.1.1.out hL2.1 (.inr (Nat.le_refl _))) ((CR L1 hL1.2).2.1.2.out hL2.1 (.inr (by omega))) ((TC L1 hL1.2).2.out hL2.1 (.inr (Nat.le_refl _)))).mono fun e_1 w' ⟨he1, L3, o1, o2, o3, o4⟩ => ⟨he1, L3, (unhide hA2).grow o1 o2, o3, o4⟩
    · exact ((CR L1 hL1.2).2.1.1.out hL2.1 (.inr (Nat.le_refl _))).left ((CR L1 hL1.2).2.1.2.out hL2.1 (.inr (by omega))) hbd.2.2.2.2.1 hbd.2.2.2.2.2 hn
    · exact sym_end (by omega) (by omega) hL1.1 (CR L1 hL1.2).2.2 hL2.1 hL2.2 hL3.1 hL3.2
  clear hT hO hS1 hS2 ih hmid
  have hcase : (mid < m) ∨ (m ≤ mid) := by omega
  rcases hcase with hcm | hcm
  · have i0 : (mid : Int) < (m : Int) := by omega
    obtain ⟨s0, hs0⟩ : ∃ s0 : Nat, s0 + b = mid + m := ⟨mid + m - b, by have := unhide HMID; omega⟩
    have es0 : (mid : Int) + (m : Int) - (b : Int) = (s0 : Int) := by omega
    have hs0a : a ≤ s0 ∧ s0 ≤ mid := by have := unhide HMID; omega
    have HC : Hid (s0 + b = mid + m) := hs0
    go_enter Tryz.func111, Tryz.ntmps111
    go_wp2_with fail
    go_loopw [18, 19] (fun s18 s19 wr => ∃ (s r : Nat), s18 = .int .i64 (s : Int) ∧ s19 = .int .i64 (r : Int) ∧ s0 ≤ s ∧ s ≤ r ∧ r ≤ mid ∧ Hid (T.At W.heap.size (W.alloc (.cells #[T.less, T.swap] 133)) wr L) ∧ Hid (s = s0 ∨ T.o.f (atL L (s - 1)) (atL L (mid + m - s)) ≤ 0) ∧ Hid (r = mid ∨ T.o.f (atL L (mid + m - r - 1)) (atL L r) < 0)) (fun s18 s19 _ => (intOf s19 - intOf s18).toNat)
    case atStart => exact ⟨s0, mid, by first | rfl | go_num, by first | rfl | go_num, Nat.le_refl _, by omega, Nat.le_refl _, H0, .inl rfl, .inl rfl⟩
    case round =>
      obtain ⟨s, r, rfl, rfl, hs1, hsr, hr1, HA, HLO, HHI⟩ := hrel
      have c0 := (unhide HA).c0
      have c1 := (unhide HA).c1
      by_cases h1 : s < r
      · have i1 : (s : Int) < (r : Int) := by omega
        obtain ⟨c, hc⟩ : ∃ c, c = (s + r) / 2 := ⟨_, rfl⟩
        have eh : ((s : Int) + (r : Int)) / 2 = (c : Int) := by omega
        have i3 : (s : Int) + (r : Int) ≤ 2097152 := by omega
        have hcj : s ≤ c ∧ c < r := by omega
        have HCJ := hide hcj
        have ep : (mid : Int) + (m : Int) - 1 - (c : Int) = ((mid + m - 1 - c : Nat) : Int) := by omega
        have HL := hide (less_any T wr L (mid + m - 1 - c) c (unhide HA).ok (unhide HA).own (by have := unhide HMID; omega) (by omega) (unhide HGG c (mid + m - 1 - c) (by omega) (by omega) (by omega) (by have := unhide HMID; omega)))
        have hcb : (c : Int) ≤ 1048576 := by omega
        have hpc : ((mid + m - 1 - c : Nat) : Int) ≤ 2097152 := by omega
        unfold Sorting.less at c0
        clear hc hcj c1
        cases hlt : T.lt (atL L (mid + m - 1 - c)) (atL L c)
        · rw [hlt] at HL
          have HX : Hid (T.o.f (atL L (c + 1 - 1)) (atL L (mid + m - (c + 1))) ≤ 0) := by
            have h3 := ltV_f hlt
            have h4 := T.o.anti (atL L (mid + m - 1 - c)) (atL L c)
            show _ ≤ _
            rw [show c + 1 - 1 = c by omega, show mid + m - (c + 1) = mid + m - 1 - c by omega]
            omega
          clear hlt
          go_wp2_with (refine (unhide HL).mono ?_; rintro e w2 ⟨rfl, hb2⟩; replace hb2 := hide hb2)
          go_roundw
          case rel => exact ⟨c + 1, r, by go_num, rfl, by have := unhide HCJ; omega, by have := unhide HCJ; omega, hr1, (unhide HA).below (unhide hb2), .inr (unhide HX), HHI⟩
          case measure => have := unhide HCJ; first | (simp [intOf]; omega) | (simp only [intOf]; omega)
        · rw [hlt] at HL
          have HX : Hid (T.o.f (atL L (mid + m - c - 1)) (atL L c) < 0) := by
            show _ < _
            rw [show mid + m - c - 1 = mid + m - 1 - c by omega]
            exact ltV_t hlt
          clear hlt
          go_wp2_with (refine (unhide HL).mono ?_; rintro e w2 ⟨rfl, hb2⟩; replace hb2 := hide hb2)
          go_roundw
          case rel => exact ⟨s, c, rfl, by go_num, hs1, (unhide HCJ).1, by have := unhide HCJ; omega, (unhide HA).below (unhide hb2), HLO, .inr (unhide HX)⟩
          case measure => have := unhide HCJ; first | (simp [intOf]; omega) | (simp only [intOf]; omega)
      · have i1 : ¬ (s : Int) < (r : Int) := by omega
        have hsr' : s = r := by omega
        obtain ⟨e, he⟩ : ∃ e, e + s = mid + m := ⟨mid + m - s, by omega⟩
        have he2 : mid + m - s = e := by omega
        have TT := unhide TAIL wr s0 mid s e hs1 (by omega) he (.inl ⟨hcm, unhide HC, rfl⟩) (by have h := unhide HLO; rw [he2] at h; exact h) (by have h := unhide HHI; rw [← hsr', he2] at h; exact h) (unhide HA)
        obtain ⟨hbd, T1, T2, T3, T4, T5, T6, T7⟩ := TT
        have T1 := hide T1
        have T2 := hide T2
        have ee : (mid : Int) + (m : Int) - (s : Int) = (e : Int) := by omega
        obtain ⟨b1, b2, b3, b4, b5, b6⟩ := hbd
        have HE := hide he
        clear HLO HHI hsr hsr' he he2 hr1 hs1
        have hp1 : (s < m ∧ mid < e) ∨ (¬ s < m ∧ ¬ mid < e) := by have := unhide HE; omega
        have hp2 : (m < e ∧ s < mid) ∨ (¬ m < e ∧ ¬ s < mid) := by have := unhide HE; omega
        rcases hp1 with ⟨x1, x2⟩ | ⟨x1, x2⟩
        · rcases hp2 with ⟨y1, y2⟩ | ⟨y1, y2⟩
          · by_cases z3 : a < s
            · by_cases z4 : e < b
              · have j1 : (s : Int) < (m : Int) := by omega
                have j2 : (mid : Int) < (e : Int) := by omega
                have j3 : (m : Int) < (e : Int) := by omega
                have j4 : (s : Int) < (mid : Int) := by omega
                have j5 : (a : Int) < (s : Int) := by omega
                have j6 : (e : Int) < (b : Int) := by omega
                have HROT := unhide T1 x1 y1
                go_wp2_with (first | (go_at_call 120; refine (unhide HROT).mono ?_; rintro e_1 w2 ⟨rfl, L1, HA1, HL1⟩; have cr0 := (unhide HA1).c0; have cr1 := (unhide HA1).c1) | (go_at_call_of 111 (Value.int IntKind.i64 (a : Int)); refine (unhide T3 _ _ HA1 HL1 (by omega) (by omega)).mono ?_; rintro e_1 w3 ⟨rfl, L2, HA2, HL2⟩; have cl0 := (unhide HA2).c0; have cl1 := (unhide HA2).c1) | (go_at_call_of 111 (Value.int IntKind.i64 (b : Int)); refine (unhide T5 _ _ _ HA2 HL1 HL2 (by omega) (by omega)).mono ?_; rintro e_1 w4 ⟨rfl, L3, HA3, HL3⟩))
                go_end0
                have FIN := unhide T7 _ _ _ HL1 HL2 HL3
                exact ⟨rfl, _, (unhide HA3).own, (unhide HA3).back, FIN.1, FIN.2⟩
              · have j1 : (s : Int) < (m : Int) := by omega
                have j2 : (mid : Int) < (e : Int) := by omega
                have j3 : (m : Int) < (e : Int) := by omega
                have j4 : (s : Int) < (mid : Int) := by omega
                have j5 : (a : Int) < (s : Int) := by omega
                have j6 : ¬ (e : Int) < (b : Int) := by omega
                have HROT := unhide T1 x1 y1
                go_wp2_with (first | (go_at_call 120; refine (unhide HROT).mono ?_; rintro e_1 w2 ⟨rfl, L1, HA1, HL1⟩; have cr0 := (unhide HA1).c0; have cr1 := (unhide HA1).c1) | (go_at_call_of 111 (Value.int IntKind.i64 (a : Int)); refine (unhide T3 _ _ HA1 HL1 (by omega) (by omega)).mono ?_; rintro e_1 w3 ⟨rfl, L2, HA2, HL2⟩; have cl0 := (unhide HA2).c0; have cl1 := (unhide HA2).c1))
                go_end0
                have FIN := unhide T7 _ _ _ HL1 HL2 (unhide T6 _ _ HL1 HL2 (by omega))
                exact ⟨rfl, _, (unhide HA2).own, (unhide HA2).back, FIN.1, FIN.2⟩
            · by_cases z4 : e < b
              · have j1 : (s : Int) < (m : Int) := by omega
                have j2 : (mid : Int) < (e : Int) := by omega
                have j3 : (m : Int) < (e : Int) := by omega
                have j4 : (s : Int) < (mid : Int) := by omega
                have j5 : ¬ (a : Int) < (s : Int) := by omega
                have j6 : (e : Int) < (b : Int) := by omega
                have HROT := unhide T1 x1 y1
                go_wp2_with (first | (go_at_call 120; refine (unhide HROT).mono ?_; rintro e_1 w2 ⟨rfl, L1, HA1, HL1⟩; have cr0 := (unhide HA1).c0; have cr1 := (unhide HA1).c1) | (go_at_call_of 111 (Value.int IntKind.i64 (b : Int)); refine (unhide T5 _ _ _ HA1 HL1 (unhide T4 _ HL1 (by omega)) (by omega) (by omega)).mono ?_; rintro e_1 w4 ⟨rfl, L3, HA3, HL3⟩))
                go_end0
                have FIN := unhide T7 _ _ _ HL1 (unhide T4 _ HL1 (by omega)) HL3
                exact ⟨rfl, _, (unhide HA3).own, (unhide HA3).back, FIN.1, FIN.2⟩
              · have j1 : (s : Int) < (m : Int) := by omega
                have j2 : (mid : Int) < (e : Int) := by omega
                have j3 : (m : Int) < (e : Int) := by omega
                have j4 : (s : Int) < (mid : Int) := by omega
                have j5 : ¬ (a : Int) < (s : Int) := by omega
                have j6 : ¬ (e : Int) < (b : Int) := by omega
                have HROT := unhide T1 x1 y1
                go_wp2_with (first | (go_at_call 120; refine (unhide HROT).mono ?_; rintro e_1 w2 ⟨rfl, L1, HA1, HL1⟩; have cr0 := (unhide HA1).c0; have cr1 := (unhide HA1).c1))
                go_end0
                have FIN := unhide T7 _ _ _ HL1 (unhide T4 _ HL1 (by omega)) (unhide T6 _ _ HL1 (unhide T4 _ HL1 (by omega)) (by omega))
                exact ⟨rfl, _, (unhide HA1).own, (unhide HA1).back, FIN.1, FIN.2⟩
          · by_cases z3 : a < s
            · by_cases z4 : e < b
              · have j1 : (s : Int) < (m : Int) := by omega
                have j2 : (mid : Int) < (e : Int) := by omega
                have j3 : ¬ (m : Int) < (e : Int) := by omega
                have j4 : ¬ (s : Int) < (mid : Int) := by omega
                have j5 : (a : Int) < (s : Int) := by omega
                have j6 : (e : Int) < (b : Int) := by omega
                have HL1 := unhide T2 (by omega)
                go_wp2_with (first | (go_at_call_of 111 (Value.int IntKind.i64 (b : Int)); refine (unhide T5 _ _ _ HA HL1 (unhide T4 _ HL1 (by omega)) (by omega) (by omega)).mono ?_; rintro e_1 w4 ⟨rfl, L3, HA3, HL3⟩))
                go_end0
                have FIN := unhide T7 _ _ _ HL1 (unhide T4 _ HL1 (by omega)) HL3
                exact ⟨rfl, _, (unhide HA3).own, (unhide HA3).back, FIN.1, FIN.2⟩
              · have j1 : (s : Int) < (m : Int) := by omega
                have j2 : (mid : Int) < (e : Int) := by omega
                have j3 : ¬ (m : Int) < (e : Int) := by omega
                have j4 : ¬ (s : Int) < (mid : Int) := by omega
                have j5 : (a : Int) < (s : Int) := by omega
                have j6 : ¬ (e : Int) < (b : Int) := by omega
                have HL1 := unhide T2 (by omega)
                go_wp2
                go_end0
                have FIN := unhide T7 _ _ _ HL1 (unhide T4 _ HL1 (by omega)) (unhide T6 _ _ HL1 (unhide T4 _ HL1 (by omega)) (by omega))
                exact ⟨rfl, _, (unhide HA).own, (unhide HA).back, FIN.1, FIN.2⟩
            · by_cases z4 : e < b
              · have j1 : (s : Int) < (m : Int) := by omega
                have j2 : (mid : Int) < (e : Int) := by omega
                have j3 : ¬ (m : Int) < (e : Int) := by omega
                have j4 : ¬ (s : Int) < (mid : Int) := by omega
                have j5 : ¬ (a : Int) < (s : Int) := by omega
                have j6 : (e : Int) < (b : Int) := by omega
                have HL1 := unhide T2 (by omega)
                go_wp2_with (first | (go_at_call_of 111 (Value.int IntKind.i64 (b : Int)); refine (unhide T5 _ _ _ HA HL1 (unhide T4 _ HL1 (by omega)) (by omega) (by omega)).mono ?_; rintro e_1 w4 ⟨rfl, L3, HA3, HL3⟩))
                go_end0
                have FIN := unhide T7 _ _ _ HL1 (unhide T4 _ HL1 (by omega)) HL3
                exact ⟨rfl, _, (unhide HA3).own, (unhide HA3).back, FIN.1, FIN.2⟩
              · have j1 : (s : Int) < (m : Int) := by omega
                have j2 : (mid : Int) < (e : Int) := by omega
                have j3 : ¬ (m : Int) < (e : Int) := by omega
                have j4 : ¬ (s : Int) < (mid : Int) := by omega
                have j5 : ¬ (a : Int) < (s : Int) := by omega
                have j6 : ¬ (e : Int) < (b : Int) := by omega
                have HL1 := unhide T2 (by omega)
                go_wp2
                go_end0
                have FIN := unhide T7 _ _ _ HL1 (unhide T4 _ HL1 (by omega)) (unhide T6 _ _ HL1 (unhide T4 _ HL1 (by omega)) (by omega))
                exact ⟨rfl, _, (unhide HA).own, (unhide HA).back, FIN.1, FIN.2⟩
        · rcases hp2 with ⟨y1, y2⟩ | ⟨y1, y2⟩
          · by_cases z3 : a < s
            · by_cases z4 : e < b
              · have j1 : ¬ (s : Int) < (m : Int) := by omega
                have j2 : ¬ (mid : Int) < (e : Int) := by omega
                have j3 : (m : Int) < (e : Int) := by omega
                have j4 : (s : Int) < (mid : Int) := by omega
                have j5 : (a : Int) < (s : Int) := by omega
                have j6 : (e : Int) < (b : Int) := by omega
                have HL1 := unhide T2 (by omega)
                go_wp2_with (first | (go_at_call_of 111 (Value.int IntKind.i64 (a : Int)); refine (unhide T3 _ _ HA HL1 (by omega) (by omega)).mono ?_; rintro e_1 w3 ⟨rfl, L2, HA2, HL2⟩; have cl0 := (unhide HA2).c0; have cl1 := (unhide HA2).c1))
                go_end0
                have FIN := unhide T7 _ _ _ HL1 HL2 (unhide T6 _ _ HL1 HL2 (by omega))
                exact ⟨rfl, _, (unhide HA2).own, (unhide HA2).back, FIN.1, FIN.2⟩
              · have j1 : ¬ (s : Int) < (m : Int) := by omega
                have j2 : ¬ (mid : Int) < (e : Int) := by omega
                have j3 : (m : Int) < (e : Int) := by omega
                have j4 : (s : Int) < (mid : Int) := by omega
                have j5 : (a : Int) < (s : Int) := by omega
                have j6 : ¬ (e : Int) < (b : Int) := by omega
                have HL1 := unhide T2 (by omega)
                go_wp2_with (first | (go_at_call_of 111 (Value.int IntKind.i64 (a : Int)); refine (unhide T3 _ _ HA HL1 (by omega) (by omega)).mono ?_; rintro e_1 w3 ⟨rfl, L2, HA2, HL2⟩; have cl0 := (unhide HA2).c0; have cl1 := (unhide HA2).c1))
                go_end0
                have FIN := unhide T7 _ _ _ HL1 HL2 (unhide T6 _ _ HL1 HL2 (by omega))
                exact ⟨rfl, _, (unhide HA2).own, (unhide HA2).back, FIN.1, FIN.2⟩
            · by_cases z4 : e < b
              · have j1 : ¬ (s : Int) < (m : Int) := by omega
                have j2 : ¬ (mid : Int) < (e : Int) := by omega
                have j3 : (m : Int) < (e : Int) := by omega
                have j4 : (s : Int) < (mid : Int) := by omega
                have j5 : ¬ (a : Int) < (s : Int) := by omega
                have j6 : (e : Int) < (b : Int) := by omega
                have HL1 := unhide T2 (by omega)
                go_wp2
                go_end0
                have FIN := unhide T7 _ _ _ HL1 (unhide T4 _ HL1 (by omega)) (unhide T6 _ _ HL1 (unhide T4 _ HL1 (by omega)) (by omega))
                exact ⟨rfl, _, (unhide HA).own, (unhide HA).back, FIN.1, FIN.2⟩
              · have j1 : ¬ (s : Int) < (m : Int) := by omega
                have j2 : ¬ (mid : Int) < (e : Int) := by omega
                have j3 : (m : Int) < (e : Int) := by omega
                have j4 : (s : Int) < (mid : Int) := by omega
                have j5 : ¬ (a : Int) < (s : Int) := by omega
                have j6 : ¬ (e : Int) < (b : Int) := by omega
                have HL1 := unhide T2 (by omega)
                go_wp2
                go_end0
                have FIN := unhide T7 _ _ _ HL1 (unhide T4 _ HL1 (by omega)) (unhide T6 _ _ HL1 (unhide T4 _ HL1 (by omega)) (by omega))
                exact ⟨rfl, _, (unhide HA).own, (unhide HA).back, FIN.1, FIN.2⟩
          · by_cases z3 : a < s
            · by_cases z4 : e < b
              · have j1 : ¬ (s : Int) < (m : Int) := by omega
                have j2 : ¬ (mid : Int) < (e : Int) := by omega
                have j3 : ¬ (m : Int) < (e : Int) := by omega
                have j4 : ¬ (s : Int) < (mid : Int) := by omega
                have j5 : (a : Int) < (s : Int) := by omega
                have j6 : (e : Int) < (b : Int) := by omega
                have HL1 := unhide T2 (by omega)
                go_wp2
                go_end0
                have FIN := unhide T7 _ _ _ HL1 (unhide T4 _ HL1 (by omega)) (unhide T6 _ _ HL1 (unhide T4 _ HL1 (by omega)) (by omega))
                exact ⟨rfl, _, (unhide HA).own, (unhide HA).back, FIN.1, FIN.2⟩
              · have j1 : ¬ (s : Int) < (m : Int) := by omega
                have j2 : ¬ (mid : Int) < (e : Int) := by omega
                have j3 : ¬ (m : Int) < (e : Int) := by omega
                have j4 : ¬ (s : Int) < (mid : Int) := by omega
                have j5 : (a : Int) < (s : Int) := by omega
                have j6 : ¬ (e : Int) < (b : Int) := by omega
                have HL1 := unhide T2 (by omega)
                go_wp2
                go_end0
                have FIN := unhide T7 _ _ _ HL1 (unhide T4 _ HL1 (by omega)) (unhide T6 _ _ HL1 (unhide T4 _ HL1 (by omega)) (by omega))
                exact ⟨rfl, _, (unhide HA).own, (unhide HA).back, FIN.1, FIN.2⟩
            · by_cases z4 : e < b
              · have j1 : ¬ (s : Int) < (m : Int) := by omega
                have j2 : ¬ (mid : Int) < (e : Int) := by omega
                have j3 : ¬ (m : Int) < (e : Int) := by omega
                have j4 : ¬ (s : Int) < (mid : Int) := by omega
                have j5 : ¬ (a : Int) < (s : Int) := by omega
                have j6 : (e : Int) < (b : Int) := by omega
                have HL1 := unhide T2 (by omega)
                go_wp2
                go_end0
                have FIN := unhide T7 _ _ _ HL1 (unhide T4 _ HL1 (by omega)) (unhide T6 _ _ HL1 (unhide T4 _ HL1 (by omega)) (by omega))
                exact ⟨rfl, _, (unhide HA).own, (unhide HA).back, FIN.1, FIN.2⟩
              · have j1 : ¬ (s : Int) < (m : Int) := by omega
                have j2 : ¬ (mid : Int) < (e : Int) := by omega
                have j3 : ¬ (m : Int) < (e : Int) := by omega
                have j4 : ¬ (s : Int) < (mid : Int) := by omega
                have j5 : ¬ (a : Int) < (s : Int) := by omega
                have j6 : ¬ (e : Int) < (b : Int) := by omega
                have HL1 := unhide T2 (by omega)
                go_wp2
                go_end0
                have FIN := unhide T7 _ _ _ HL1 (unhide T4 _ HL1 (by omega)) (unhide T6 _ _ HL1 (unhide T4 _ HL1 (by omega)) (by omega))
                exact ⟨rfl, _, (unhide HA).own, (unhide HA).back, FIN.1, FIN.2⟩
  · have i0 : ¬ (mid : Int) < (m : Int) := by omega
    go_enter Tryz.func111, Tryz.ntmps111
    go_wp2_with fail
    go_loopw [18, 19] (fun s18 s19 wr => ∃ (s r : Nat), s18 = .int .i64 (s : Int) ∧ s19 = .int .i64 (r : Int) ∧ a ≤ s ∧ s ≤ r ∧ r ≤ m ∧ Hid (T.At W.heap.size (W.alloc (.cells #[T.less, T.swap] 133)) wr L) ∧ Hid (s = a ∨ T.o.f (atL L (s - 1)) (atL L (mid + m - s)) ≤ 0) ∧ Hid (r = m ∨ T.o.f (atL L (mid + m - r - 1)) (atL L r) < 0)) (fun s18 s19 _ => (intOf s19 - intOf s18).toNat)
    case atStart => exact ⟨a, m, by first | rfl | go_num, by first | rfl | go_num, Nat.le_refl _, by omega, Nat.le_refl _, H0, .inl rfl, .inl rfl⟩
    case round =>
      obtain ⟨s, r, rfl, rfl, hs1, hsr, hr1, HA, HLO, HHI⟩ := hrel
      have c0 := (unhide HA).c0
      have c1 := (unhide HA).c1
      by_cases h1 : s < r
      · have i1 : (s : Int) < (r : Int) := by omega
        obtain ⟨c, hc⟩ : ∃ c, c = (s + r) / 2 := ⟨_, rfl⟩
        have eh : ((s : Int) + (r : Int)) / 2 = (c : Int) := by omega
        have i3 : (s : Int) + (r : Int) ≤ 2097152 := by omega
        have hcj : s ≤ c ∧ c < r := by omega
        have HCJ := hide hcj
        have ep : (mid : Int) + (m : Int) - 1 - (c : Int) = ((mid + m - 1 - c : Nat) : Int) := by omega
        have HL := hide (less_any T wr L (mid + m - 1 - c) c (unhide HA).ok (unhide HA).own (by have := unhide HMID; omega) (by omega) (unhide HGG c (mid + m - 1 - c) (by omega) (by omega) (by omega) (by have := unhide HMID; omega)))
        have hcb : (c : Int) ≤ 1048576 := by omega
        have hpc : ((mid + m - 1 - c : Nat) : Int) ≤ 2097152 := by omega
        unfold Sorting.less at c0
        clear hc hcj c1
        cases hlt : T.lt (atL L (mid + m - 1 - c)) (atL L c)
        · rw [hlt] at HL
          have HX : Hid (T.o.f (atL L (c + 1 - 1)) (atL L (mid + m - (c + 1))) ≤ 0) := by
            have h3 := ltV_f hlt
            have h4 := T.o.anti (atL L (mid + m - 1 - c)) (atL L c)
            show _ ≤ _
            rw [show c + 1 - 1 = c by omega, show mid + m - (c + 1) = mid + m - 1 - c by omega]
            omega
          clear hlt
          go_wp2_with (refine (unhide HL).mono ?_; rintro e w2 ⟨rfl, hb2⟩; replace hb2 := hide hb2)
          go_roundw
          case rel => exact ⟨c + 1, r, by go_num, rfl, by have := unhide HCJ; omega, by have := unhide HCJ; omega, hr1, (unhide HA).below (unhide hb2), .inr (unhide HX), HHI⟩
          case measure => have := unhide HCJ; first | (simp [intOf]; omega) | (simp only [intOf]; omega)
        · rw [hlt] at HL
          have HX : Hid (T.o.f (atL L (mid + m - c - 1)) (atL L c) < 0) := by
            show _ < _
            rw [show mid + m - c - 1 = mid + m - 1 - c by omega]
            exact ltV_t hlt
          clear hlt
          go_wp2_with (refine (unhide HL).mono ?_; rintro e w2 ⟨rfl, hb2⟩; replace hb2 := hide hb2)
          go_roundw
          case rel => exact ⟨s, c, rfl, by go_num, hs1, (unhide HCJ).1, by have := unhide HCJ; omega, (unhide HA).below (unhide hb2), HLO, .inr (unhide HX)⟩
          case measure => have := unhide HCJ; first | (simp [intOf]; omega) | (simp only [intOf]; omega)
      · have i1 : ¬ (s : Int) < (r : Int) := by omega
        have hsr' : s = r := by omega
        obtain ⟨e, he⟩ : ∃ e, e + s = mid + m := ⟨mid + m - s, by omega⟩
        have he2 : mid + m - s = e := by omega
        have TT := unhide TAIL wr a m s e hs1 (by omega) he (.inr ⟨hcm, rfl, rfl⟩) (by have h := unhide HLO; rw [he2] at h; exact h) (by have h := unhide HHI; rw [← hsr', he2] at h; exact h) (unhide HA)
        obtain ⟨hbd, T1, T2, T3, T4, T5, T6, T7⟩ := TT
        have T1 := hide T1
        have T2 := hide T2
        have ee : (mid : Int) + (m : Int) - (s : Int) = (e : Int) := by omega
        obtain ⟨b1, b2, b3, b4, b5, b6⟩ := hbd
        have HE := hide he
        clear HLO HHI hsr hsr' he he2 hr1 hs1
        have hp1 : (s < m ∧ mid < e) ∨ (¬ s < m ∧ ¬ mid < e) := by have := unhide HE; omega
        have hp2 : (m < e ∧ s < mid) ∨ (¬ m < e ∧ ¬ s < mid) := by have := unhide HE; omega
        rcases hp1 with ⟨x1, x2⟩ | ⟨x1, x2⟩
        · rcases hp2 with ⟨y1, y2⟩ | ⟨y1, y2⟩
          · by_cases z3 : a < s
            · by_cases z4 : e < b
              · have j1 : (s : Int) < (m : Int) := by omega
                have j2 : (mid : Int) < (e : Int) := by omega
                have j3 : (m : Int) < (e : Int) := by omega
                have j4 : (s : Int) < (mid : Int) := by omega
                have j5 : (a : Int) < (s : Int) := by omega
                have j6 : (e : Int) < (b : Int) := by omega
                have HROT := unhide T1 x1 y1
                go_wp2_with (first | (go_at_call 120; refine (unhide HROT).mono ?_; rintro e_1 w2 ⟨rfl, L1, HA1, HL1⟩; have cr0 := (unhide HA1).c0; have cr1 := (unhide HA1).c1) | (go_at_call_of 111 (Value.int IntKind.i64 (a : Int)); refine (unhide T3 _ _ HA1 HL1 (by omega) (by omega)).mono ?_; rintro e_1 w3 ⟨rfl, L2, HA2, HL2⟩; have cl0 := (unhide HA2).c0; have cl1 := (unhide HA2).c1) | (go_at_call_of 111 (Value.int IntKind.i64 (b : Int)); refine (unhide T5 _ _ _ HA2 HL1 HL2 (by omega) (by omega)).mono ?_; rintro e_1 w4 ⟨rfl, L3, HA3, HL3⟩))
                go_end0
                have FIN := unhide T7 _ _ _ HL1 HL2 HL3
                exact ⟨rfl, _, (unhide HA3).own, (unhide HA3).back, FIN.1, FIN.2⟩
              · have j1 : (s : Int) < (m : Int) := by omega
                have j2 : (mid : Int) < (e : Int) := by omega
                have j3 : (m : Int) < (e : Int) := by omega
                have j4 : (s : Int) < (mid : Int) := by omega
                have j5 : (a : Int) < (s : Int) := by omega
                have j6 : ¬ (e : Int) < (b : Int) := by omega
                have HROT := unhide T1 x1 y1
                go_wp2_with (first | (go_at_call 120; refine (unhide HROT).mono ?_; rintro e_1 w2 ⟨rfl, L1, HA1, HL1⟩; have cr0 := (unhide HA1).c0; have cr1 := (unhide HA1).c1) | (go_at_call_of 111 (Value.int IntKind.i64 (a : Int)); refine (unhide T3 _ _ HA1 HL1 (by omega) (by omega)).mono ?_; rintro e_1 w3 ⟨rfl, L2, HA2, HL2⟩; have cl0 := (unhide HA2).c0; have cl1 := (unhide HA2).c1))
                go_end0
                have FIN := unhide T7 _ _ _ HL1 HL2 (unhide T6 _ _ HL1 HL2 (by omega))
                exact ⟨rfl, _, (unhide HA2).own, (unhide HA2).back, FIN.1, FIN.2⟩
            · by_cases z4 : e < b
              · have j1 : (s : Int) < (m : Int) := by omega
                have j2 : (mid : Int) < (e : Int) := by omega
                have j3 : (m : Int) < (e : Int) := by omega
                have j4 : (s : Int) < (mid : Int) := by omega
                have j5 : ¬ (a : Int) < (s : Int) := by omega
                have j6 : (e : Int) < (b : Int) := by omega
                have HROT := unhide T1 x1 y1
                go_wp2_with (first | (go_at_call 120; refine (unhide HROT).mono ?_; rintro e_1 w2 ⟨rfl, L1, HA1, HL1⟩; have cr0 := (unhide HA1).c0; have cr1 := (unhide HA1).c1) | (go_at_call_of 111 (Value.int IntKind.i64 (b : Int)); refine (unhide T5 _ _ _ HA1 HL1 (unhide T4 _ HL1 (by omega)) (by omega) (by omega)).mono ?_; rintro e_1 w4 ⟨rfl, L3, HA3, HL3⟩))
                go_end0
                have FIN := unhide T7 _ _ _ HL1 (unhide T4 _ HL1 (by omega)) HL3
                exact ⟨rfl, _, (unhide HA3).own, (unhide HA3).back, FIN.1, FIN.2⟩
              · have j1 : (s : Int) < (m : Int) := by omega
                have j2 : (mid : Int) < (e : Int) := by omega
                have j3 : (m : Int) < (e : Int) := by omega
                have j4 : (s : Int) < (mid : Int) := by omega
                have j5 : ¬ (a : Int) < (s : Int) := by omega
                have j6 : ¬ (e : Int) < (b : Int) := by omega
                have HROT := unhide T1 x1 y1
                go_wp2_with (first | (go_at_call 120; refine (unhide HROT).mono ?_; rintro e_1 w2 ⟨rfl, L1, HA1, HL1⟩; have cr0 := (unhide HA1).c0; have cr1 := (unhide HA1).c1))
                go_end0
                have FIN := unhide T7 _ _ _ HL1 (unhide T4 _ HL1 (by omega)) (unhide T6 _ _ HL1 (unhide T4 _ HL1 (by omega)) (by omega))
                exact ⟨rfl, _, (unhide HA1).own, (unhide HA1).back, FIN.1, FIN.2⟩
          · by_cases z3 : a < s
            · by_cases z4 : e < b
              · have j1 : (s : Int) < (m : Int) := by omega
                have j2 : (mid : Int) < (e : Int) := by omega
                have j3 : ¬ (m : Int) < (e : Int) := by omega
                have j4 : ¬ (s : Int) < (mid : Int) := by omega
                have j5 : (a : Int) < (s : Int) := by omega
                have j6 : (e : Int) < (b : Int) := by omega
                have HL1 := unhide T2 (by omega)
                go_wp2_with (first | (go_at_call_of 111 (Value.int IntKind.i64 (b : Int)); refine (unhide T5 _ _ _ HA HL1 (unhide T4 _ HL1 (by omega)) (by omega) (by omega)).mono ?_; rintro e_1 w4 ⟨rfl, L3, HA3, HL3⟩))
                go_end0
                have FIN := unhide T7 _ _ _ HL1 (unhide T4 _ HL1 (by omega)) HL3
                exact ⟨rfl, _, (unhide HA3).own, (unhide HA3).back, FIN.1, FIN.2⟩
              · have j1 : (s : Int) < (m : Int) := by omega
                have j2 : (mid : Int) < (e : Int) := by omega
                have j3 : ¬ (m : Int) < (e : Int) := by omega
                have j4 : ¬ (s : Int) < (mid : Int) := by omega
                have j5 : (a : Int) < (s : Int) := by omega
                have j6 : ¬ (e : Int) < (b : Int) := by omega
                have HL1 := unhide T2 (by omega)
                go_wp2
                go_end0
                have FIN := unhide T7 _ _ _ HL1 (unhide T4 _ HL1 (by omega)) (unhide T6 _ _ HL1 (unhide T4 _ HL1 (by omega)) (by omega))
                exact ⟨rfl, _, (unhide HA).own, (unhide HA).back, FIN.1, FIN.2⟩
            · by_cases z4 : e < b
              · have j1 : (s : Int) < (m : Int) := by omega
                have j2 : (mid : Int) < (e : Int) := by omega
                have j3 : ¬ (m : Int) < (e : Int) := by omega
                have j4 : ¬ (s : Int) < (mid : Int) := by omega
                have j5 : ¬ (a : Int) < (s : Int) := by omega
                have j6 : (e : Int) < (b : Int) := by omega
                have HL1 := unhide T2 (by omega)
                go_wp2_with (first | (go_at_call_of 111 (Value.int IntKind.i64 (b : Int)); refine (unhide T5 _ _ _ HA HL1 (unhide T4 _ HL1 (by omega)) (by omega) (by omega)).mono ?_; rintro e_1 w4 ⟨rfl, L3, HA3, HL3⟩))
                go_end0
                have FIN := unhide T7 _ _ _ HL1 (unhide T4 _ HL1 (by omega)) HL3
                exact ⟨rfl, _, (unhide HA3).own, (unhide HA3).back, FIN.1, FIN.2⟩
              · have j1 : (s : Int) < (m : Int) := by omega
                have j2 : (mid : Int) < (e : Int) := by omega
                have j3 : ¬ (m : Int) < (e : Int) := by omega
                have j4 : ¬ (s : Int) < (mid : Int) := by omega
                have j5 : ¬ (a : Int) < (s : Int) := by omega
                have j6 : ¬ (e : Int) < (b : Int) := by omega
                have HL1 := unhide T2 (by omega)
                go_wp2
                go_end0
                have FIN := unhide T7 _ _ _ HL1 (unhide T4 _ HL1 (by omega)) (unhide T6 _ _ HL1 (unhide T4 _ HL1 (by omega)) (by omega))
                exact ⟨rfl, _, (unhide HA).own, (unhide HA).back, FIN.1, FIN.2⟩
        · rcases hp2 with ⟨y1, y2⟩ | ⟨y1, y2⟩
          · by_cases z3 : a < s
            · by_cases z4 : e < b
              · have j1 : ¬ (s : Int) < (m : Int) := by omega
                have j2 : ¬ (mid : Int) < (e : Int) := by omega
                have j3 : (m : Int) < (e : Int) := by omega
                have j4 : (s : Int) < (mid : Int) := by omega
                have j5 : (a : Int) < (s : Int) := by omega
                have j6 : (e : Int) < (b : Int) := by omega
                have HL1 := unhide T2 (by omega)
                go_wp2_with (first | (go_at_call_of 111 (Value.int IntKind.i64 (a : Int)); refine (unhide T3 _ _ HA HL1 (by omega) (by omega)).mono ?_; rintro e_1 w3 ⟨rfl, L2, HA2, HL2⟩; have cl0 := (unhide HA2).c0; have cl1 := (unhide HA2).c1))
                go_end0
                have FIN := unhide T7 _ _ _ HL1 HL2 (unhide T6 _ _ HL1 HL2 (by omega))
                exact ⟨rfl, _, (unhide HA2).own, (unhide HA2).back, FIN.1, FIN.2⟩
              · have j1 : ¬ (s : Int) < (m : Int) := by omega
                have j2 : ¬ (mid : Int) < (e : Int) := by omega
                have j3 : (m : Int) < (e : Int) := by omega
                have j4 : (s : Int) < (mid : Int) := by omega
                have j5 : (a : Int) < (s : Int) := by omega
                have j6 : ¬ (e : Int) < (b : Int) := by omega
                have HL1 := unhide T2 (by omega)
                go_wp2_with (first | (go_at_call_of 111 (Value.int IntKind.i64 (a : Int)); refine (unhide T3 _ _ HA HL1 (by omega) (by omega)).mono ?_; rintro e_1 w3 ⟨rfl, L2, HA2, HL2⟩; have cl0 := (unhide HA2).c0; have cl1 := (unhide HA2).c1))
                go_end0
                have FIN := unhide T7 _ _ _ HL1 HL2 (unhide T6 _ _ HL1 HL2 (by omega))
                exact ⟨rfl, _, (unhide HA2).own, (unhide HA2).back, FIN.1, FIN.2⟩
            · by_cases z4 : e < b
              · have j1 : ¬ (s : Int) < (m : Int) := by omega
                have j2 : ¬ (mid : Int) < (e : Int) := by omega
                have j3 : (m : Int) < (e : Int) := by omega
                have j4 : (s : Int) < (mid : Int) := by omega
                have j5 : ¬ (a : Int) < (s : Int) := by omega
                have j6 : (e : Int) < (b : Int) := by omega
                have HL1 := unhide T2 (by omega)
                go_wp2
                go_end0
                have FIN := unhide T7 _ _ _ HL1 (unhide T4 _ HL1 (by omega)) (unhide T6 _ _ HL1 (unhide T4 _ HL1 (by omega)) (by omega))
                exact ⟨rfl, _, (unhide HA).own, (unhide HA).back, FIN.1, FIN.2⟩
              · have j1 : ¬ (s : Int) < (m : Int) := by omega
                have j2 : ¬ (mid : Int) < (e : Int) := by omega
                have j3 : (m : Int) < (e : Int) := by omega
                have j4 : (s : Int) < (mid : Int) := by omega
                have j5 : ¬ (a : Int) < (s : Int) := by omega
                have j6 : ¬ (e : Int) < (b : Int) := by omega
                have HL1 := unhide T2 (by omega)
                go_wp2
                go_end0
                have FIN := unhide T7 _ _ _ HL1 (unhide T4 _ HL1 (by omega)) (unhide T6 _ _ HL1 (unhide T4 _ HL1 (by omega)) (by omega))
                exact ⟨rfl, _, (unhide HA).own, (unhide HA).back, FIN.1, FIN.2⟩
          · by_cases z3 : a < s
            · by_cases z4 : e < b
              · have j1 : ¬ (s : Int) < (m : Int) := by omega
                have j2 : ¬ (mid : Int) < (e : Int) := by omega
                have j3 : ¬ (m : Int) < (e : Int) := by omega
                have j4 : ¬ (s : Int) < (mid : Int) := by omega
                have j5 : (a : Int) < (s : Int) := by omega
                have j6 : (e : Int) < (b : Int) := by omega
                have HL1 := unhide T2 (by omega)
                go_wp2
                go_end0
                have FIN := unhide T7 _ _ _ HL1 (unhide T4 _ HL1 (by omega)) (unhide T6 _ _ HL1 (unhide T4 _ HL1 (by omega)) (by omega))
                exact ⟨rfl, _, (unhide HA).own, (unhide HA).back, FIN.1, FIN.2⟩
              · have j1 : ¬ (s : Int) < (m : Int) := by omega
                have j2 : ¬ (mid : Int) < (e : Int) := by omega
                have j3 : ¬ (m : Int) < (e : Int) := by omega
                have j4 : ¬ (s : Int) < (mid : Int) := by omega
                have j5 : (a : Int) < (s : Int) := by omega
                have j6 : ¬ (e : Int) < (b : Int) := by omega
                have HL1 := unhide T2 (by omega)
                go_wp2
                go_end0
                have FIN := unhide T7 _ _ _ HL1 (unhide T4 _ HL1 (by omega)) (unhide T6 _ _ HL1 (unhide T4 _ HL1 (by omega)) (by omega))
                exact ⟨rfl, _, (unhide HA).own, (unhide HA).back, FIN.1, FIN.2⟩
            · by_cases z4 : e < b
              · have j1 : ¬ (s : Int) < (m : Int) := by omega
                have j2 : ¬ (mid : Int) < (e : Int) := by omega
                have j3 : ¬ (m : Int) < (e : Int) := by omega
                have j4 : ¬ (s : Int) < (mid : Int) := by omega
                have j5 : ¬ (a : Int) < (s : Int) := by omega
                have j6 : (e : Int) < (b : Int) := by omega
                have HL1 := unhide T2 (by omega)
                go_wp2
                go_end0
                have FIN := unhide T7 _ _ _ HL1 (unhide T4 _ HL1 (by omega)) (unhide T6 _ _ HL1 (unhide T4 _ HL1 (by omega)) (by omega))
                exact ⟨rfl, _, (unhide HA).own, (unhide HA).back, FIN.1, FIN.2⟩
              · have j1 : ¬ (s : Int) < (m : Int) := by omega
                have j2 : ¬ (mid : Int) < (e : Int) := by omega
                have j3 : ¬ (m : Int) < (e : Int) := by omega
                have j4 : ¬ (s : Int) < (mid : Int) := by omega
                have j5 : ¬ (a : Int) < (s : Int) := by omega
                have j6 : ¬ (e : Int) < (b : Int) := by omega
                have HL1 := unhide T2 (by omega)
                go_wp2
                go_end0
                have FIN := unhide T7 _ _ _ HL1 (unhide T4 _ HL1 (by omega)) (unhide T6 _ _ HL1 (unhide T4 _ HL1 (by omega)) (by omega))
                exact ⟨rfl, _, (unhide HA).own, (unhide HA).back, FIN.1, FIN.2⟩

end Go.Proofs.YtcbenpodohjbiaaGreat
