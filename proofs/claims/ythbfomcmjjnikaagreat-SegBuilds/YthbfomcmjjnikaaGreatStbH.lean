import Derived.Test.YthbfomcmjjnikaaGreatStbG
import Derived.Test.YthbfomcmjjnikaaGreatRdG
import Derived.Shelf.GgSortMore.Stable
import Derived.Shelf.GgSortFunc.SmallK
set_option linter.unusedSimpArgs false
set_option linter.unusedVariables false
namespace Go.Proofs.YthbfomcmjjnikaaGreat
open Go.RowKit Go.Sort

theorem sym_any (T : Sorting) : ∀ (d : Nat) (W : World) (L : List Val) (a m b : Nat), b - a ≤ d → T.OK W → OwnV W T.base T.v L → a < m → m < b → b ≤ T.N → SAB a m L → SAB m b L →
    Calls Tryz.prog 138 #[.agg #[T.less, T.swap], .int .i64 a, .int .i64 m, .int .i64 b] W fun e w' => e = .returned (.tuple #[]) ∧ ∃ L', OwnV w' T.base T.v L' ∧ Grew W w' T.v T.v ∧ PAB a b L L' ∧ SAB a b L'
  | 0, W, L, a, m, b, hd, _, _, h1, h2, _, _, _ => by omega
  | d + 1, W, L, a, m, b, hd, hT, hO, h1, h2, hb, s1, s2 => by
    by_cases hm : m = a + 1
    · exact symA_any T W L a m b hT hO hm h2 hb s2
    · by_cases hq : b = m + 1
      · exact symB_any T W L a m b hT hO (by omega) hq hb s1
      · exact symC_any T W L a m b hT hO (by omega) (by omega) hb s1 s2 fun W' L' a' m' b' hlt hT' hO' q1 q2 q3 q4 q5 => sym_any T d W' L' a' m' b' (by omega) hT' hO' q1 q2 q3 q4 q5

theorem dvd_next {z a c : Nat} (h1 : z ∣ a) (h2 : z ∣ c) (h : a < c) : a + z ≤ c := by
  obtain ⟨p, rfl⟩ := h1
  obtain ⟨q, rfl⟩ := h2
  have : p < q := by
    rcases Nat.lt_or_ge p q with h3 | h3
    · exact h3
    · have := Nat.mul_le_mul_left z h3
      omega
  have := Nat.mul_le_mul_left z this
  rw [Nat.succ_eq_add_one, Nat.mul_add, Nat.mul_one] at this
  exact this
/-- Every block of z rises. -/
def Blk (z n : Nat) (L : List Val) : Prop := ∀ c, z ∣ c → c < n → SAB c (min (c + z) n) L
/-- Blocks of y ahead of a rise, and those of z from a on. -/
def Two (y z n a : Nat) (L : List Val) : Prop := (∀ c, y ∣ c → c < a → SAB c (c + y) L) ∧ ∀ c, z ∣ c → a ≤ c → c < n → SAB c (min (c + z) n) L
theorem Two.start {y z n : Nat} {L : List Val} (h : Blk z n L) : Two y z n 0 L := ⟨fun c _ h2 => by omega, fun c h1 _ h3 => h c h1 h3⟩
theorem Two.step {y z n a : Nat} {L L' : List Val} (h : Two y z n a L) (hy : 0 < y) (ha : y ∣ a) (hp : PAB a (a + y) L L') (hs : SAB a (a + y) L') : Two y z n (a + y) L' := by
  refine ⟨fun c h1 h2 => ?_, fun c h1 h2 h3 => (h.2 c h1 (by omega) h3).out hp (.inr h2)⟩
  by_cases e : c < a
  · exact (h.1 c h1 e).out hp (.inl (dvd_next h1 ha e))
  · have : c = a := by
      rcases Nat.lt_or_ge a c with h4 | h4
      · have := dvd_next ha h1 h4; omega
      · omega
    rw [this]; exact hs
theorem Two.done {y z n a : Nat} {L : List Val} (h : Two y z n a L) (ha : y ∣ a) (han : a ≤ n) (hb : n < a + y) (hs : SAB a n L) : Blk y n L := fun c h1 h2 => by
  by_cases e : c < a
  · have := dvd_next h1 ha e
    rw [Nat.min_eq_left (by omega)]
    exact h.1 c h1 e
  · have : c = a := by
      rcases Nat.lt_or_ge a c with h4 | h4
      · have := dvd_next ha h1 h4; omega
      · omega
    rw [this, Nat.min_eq_right (by omega)]
    exact hs
theorem Two.out {y z n a n' : Nat} {L L' : List Val} (h : Two y z n a L) (ha : y ∣ a) (hp : PAB a n' L L') : ∀ c, y ∣ c → c < a → SAB c (c + y) L' := fun c h1 h2 => (h.1 c h1 h2).out hp (.inl (dvd_next h1 ha h2))

set_option maxHeartbeats 8000000 in
set_option maxRecDepth 100000 in
theorem stable_any (T : Sorting) (W : World) (L : List Val) (hT : T.OK W) (hO : OwnV W T.base T.v L) :
    Calls Tryz.prog 109 #[.agg #[T.less, T.swap], .int .i64 T.N] W fun e w' => e = .returned (.tuple #[]) ∧ ∃ L', OwnV w' T.base T.v L' ∧ Grew W w' T.v T.v ∧ L'.Perm L ∧ SAB 0 T.N L' := by
  have H0 := hide (Sorting.start hT hO)
  have hsm := hT.small
  obtain ⟨n, hn⟩ : ∃ n, Hid (n = T.N) := ⟨_, rfl⟩
  rw [← unhide hn] at hsm ⊢
  have HI : Hid (∀ wr L' a b, T.At W.heap.size (W.alloc (.cells #[T.less, T.swap] 162)) wr L' → a ≤ b → b ≤ n → Calls Tryz.prog 137 #[.agg #[T.less, T.swap], .int .i64 (a : Nat), .int .i64 (b : Nat)] wr fun e w' => e = .returned (.tuple #[]) ∧ ∃ L2, Hid (T.At W.heap.size (W.alloc (.cells #[T.less, T.swap] 162)) w' L2) ∧ Hid (PAB a b L' L2 ∧ SAB a b L2)) := fun wr L' a b hA h1 h2 =>
    (insertion_any T wr L' a b hA.ok hA.own h1 (by rw [← unhide hn]; exact h2)).mono fun e w' ⟨he, L2, o1, o2, o3, o4⟩ => ⟨he, L2, hA.grow o1 o2, o3, o4⟩
  have HM : Hid (∀ wr L' a m b, T.At W.heap.size (W.alloc (.cells #[T.less, T.swap] 162)) wr L' → a < m → m < b → b ≤ n → SAB a m L' → SAB m b L' → Calls Tryz.prog 138 #[.agg #[T.less, T.swap], .int .i64 (a : Nat), .int .i64 (m : Nat), .int .i64 (b : Nat)] wr fun e w' => e = .returned (.tuple #[]) ∧ ∃ L2, Hid (T.At W.heap.size (W.alloc (.cells #[T.less, T.swap] 162)) w' L2) ∧ Hid (PAB a b L' L2 ∧ SAB a b L2)) := fun wr L' a m b hA h1 h2 h3 s1 s2 =>
    (sym_any T _ wr L' a m b (Nat.le_refl _) hA.ok hA.own h1 h2 (by rw [← unhide hn]; exact h3) s1 s2).mono fun e w' ⟨he, L2, o1, o2, o3, o4⟩ => ⟨he, L2, hA.grow o1 o2, o3, o4⟩
  clear hT hO
  go_enter Tryz.func109, Tryz.ntmps109
  go_wp2_with fail
  go_loopw [5, 6] (fun s5 s6 wr => ∃ (a : Nat) (L' : List Val), s5 = .int .i64 (a : Int) ∧ s6 = .int .i64 ((a + 20 : Nat) : Int) ∧ a ≤ n ∧ Hid (20 ∣ a) ∧ Hid (T.At W.heap.size (W.alloc (.cells #[T.less, T.swap] 162)) wr L') ∧ Hid (PAB 0 n L L') ∧ Hid (Two 20 1 0 a L')) (fun s5 _ _ => n - (intOf s5).toNat)
  case atStart => exact ⟨0, L, rfl, rfl, Nat.zero_le _, ⟨0, rfl⟩, H0, PAB.refl _ _ _, fun c _ h => (by omega), fun c _ _ h => (by omega)⟩
  case round =>
    obtain ⟨a, L', rfl, rfl, han, HDV, HA, HP, HT2⟩ := hrel
    have c0 := (unhide HA).c0
    have c1 := (unhide HA).c1
    by_cases h1 : a + 20 ≤ n
    · have i1 : ((a + 20 : Nat) : Int) ≤ (n : Int) := by omega
      have HC := hide (unhide HI wr L' a (a + 20) (unhide HA) (by omega) h1)
      go_wp2_with (go_at_call 137; refine (unhide HC).mono ?_; rintro e w2 ⟨rfl, L2, HA2, HL2⟩)
      go_roundw
      case rel => exact ⟨a + 20, L2, by go_num, by go_num, by omega, by obtain ⟨k, hk⟩ := unhide HDV; exact ⟨k + 1, by omega⟩, HA2, (unhide HP).trans ((unhide HL2).1.widen (by omega) h1), Two.step (unhide HT2) (by omega) (unhide HDV) (unhide HL2).1 (unhide HL2).2⟩
      case measure => first | (simp [intOf]; omega) | (simp only [intOf]; omega)
    · have i1 : ¬ ((a + 20 : Nat) : Int) ≤ (n : Int) := by omega
      have HC := hide (unhide HI wr L' a n (unhide HA) han (Nat.le_refl _))
      go_wp2_with (first | (go_at_call 137; refine (unhide HC).mono ?_; rintro e w2 ⟨rfl, L2, HA2, HL2⟩) | fail)
      have HB0 : Hid (Blk 20 n L2) := Two.done (z := 1) (n := n) ⟨Two.out (unhide HT2) (unhide HDV) (unhide HL2).1, fun c h1 h2 h3 => SAB.one (by omega) _⟩ (unhide HDV) han (by omega) (unhide HL2).2
      have HP2 := hide ((unhide HP).trans ((unhide HL2).1.widen (Nat.zero_le _) (Nat.le_refl _)))
      clear HP HT2 HDV HL2 HA HC c0 c1 H0
      go_loopw [4, 5, 6, 7] (fun s4 s5 s6 s7 wr => ∃ (z : Nat) (M : List Val), s4 = .int .i64 (z : Int) ∧ 20 ≤ z ∧ z ≤ 2097152 ∧ Hid (T.At W.heap.size (W.alloc (.cells #[T.less, T.swap] 162)) wr M) ∧ Hid (PAB 0 n L M) ∧ Hid (Blk z n M)) (fun s4 _ _ _ _ => n - (intOf s4).toNat)
      case atStart => exact ⟨20, L2, rfl, by omega, by omega, HA2, HP2, HB0⟩
      case round =>
        obtain ⟨z, M, rfl, hz, hz2, HA, HP, HB⟩ := hrel
        have c0 := (unhide HA).c0
        have c1 := (unhide HA).c1
        by_cases h2 : z < n
        · have i2 : (z : Int) < (n : Int) := by omega
          have hzi : (z : Int) ≤ 2097152 := by omega
          obtain ⟨z2, hz2e⟩ : ∃ z2, z2 = 2 * z := ⟨_, rfl⟩
          have ez2 : (2 : Int) * (z : Int) = (z2 : Int) := by omega
          have ez3 : (z : Int) * 2 = (z2 : Int) := by omega
          have HZE := hide hz2e
          have hz2i : (z2 : Int) ≤ 4194304 := by omega
          have hzz : z < z2 := by omega
          clear hz2e
          go_wp2_with fail
          go_loopw [5, 6] (fun s5 s6 wv => ∃ (a bb : Nat) (K : List Val), s5 = .int .i64 (a : Int) ∧ s6 = .int .i64 (bb : Int) ∧ a ≤ n ∧ Hid (bb = a + z2) ∧ Hid (z2 ∣ a) ∧ Hid (T.At W.heap.size (W.alloc (.cells #[T.less, T.swap] 162)) wv K) ∧ Hid (PAB 0 n L K) ∧ Hid (Two z2 z n a K)) (fun s5 _ _ => n - (intOf s5).toNat)
          case atStart => exact ⟨0, z2, M, rfl, by first | rfl | go_num | (simp; done), Nat.zero_le _, (Nat.zero_add _).symm, ⟨0, rfl⟩, HA, HP, Two.start (unhide HB)⟩
          case round =>
            obtain ⟨a, bb, K, rfl, rfl, han2, HBB, HDV, HAK, HPK, HTK⟩ := hrel
            have c0 := (unhide HAK).c0
            have c1 := (unhide HAK).c1
            have hze := unhide HZE
            have hbb := unhide HBB
            have hzd : z ∣ a := Nat.dvd_trans ⟨2, by omega⟩ (unhide HDV)
            have hzd2 : z ∣ a + z := (Nat.dvd_add_right hzd).2 (Nat.dvd_refl z)
            have HZ := hide hzd
            have HZ2 := hide hzd2
            obtain ⟨az, haz⟩ : ∃ az, az = a + z := ⟨_, rfl⟩
            have e4 : (a : Int) + (z : Int) = (az : Int) := by omega
            have e6 : (bb : Int) + (z2 : Int) ≤ 16777216 := by omega
            have hazi : (az : Int) ≤ 4194304 := by omega
            by_cases h4 : bb ≤ n
            · have i4 : (bb : Int) ≤ (n : Int) := by omega
              have HC := hide (unhide HM wr K a az bb (unhide HAK) (by omega) (by omega) h4 (by
                have := (unhide HTK).2 a (unhide HZ) (Nat.le_refl _) (by omega)
                rw [Nat.min_eq_left (by omega), ← haz] at this
                exact this) (by
                have := (unhide HTK).2 (a + z) (unhide HZ2) (by omega) (by omega)
                rw [Nat.min_eq_left (by omega), show a + z + z = bb by omega, ← haz] at this
                exact this))
              have HG : Hid (a < bb ∧ bb = a + z2) := ⟨by omega, hbb⟩
              clear hze hbb hzd hzd2 haz
              go_wp2_with (go_at_call 138; refine (unhide HC).mono ?_; rintro e w2 ⟨rfl, K2, HA2, HL2⟩)
              go_roundw
              case rel =>
                refine ⟨bb, bb + z2, K2, rfl, by go_num, h4, rfl, ?_, HA2, (unhide HPK).trans ((unhide HL2).1.widen (Nat.zero_le _) h4), ?_⟩
                · show _ ∣ _
                  rw [(unhide HG).2]
                  exact (Nat.dvd_add_right (unhide HDV)).2 (Nat.dvd_refl _)
                · have h7 := unhide HL2
                  rw [(unhide HG).2] at h7 ⊢
                  exact Two.step (unhide HTK) (by omega) (unhide HDV) h7.1 h7.2
              case measure => have := (unhide HG).1; first | (simp [intOf]; omega) | (simp only [intOf]; omega)
            · have i4 : ¬ (bb : Int) ≤ (n : Int) := by omega
              by_cases h5 : az < n
              · have i5 : (az : Int) < (n : Int) := by omega
                have HC := hide (unhide HM wr K a az n (unhide HAK) (by omega) h5 (Nat.le_refl _) (by
                  have := (unhide HTK).2 a (unhide HZ) (Nat.le_refl _) (by omega)
                  rw [Nat.min_eq_left (by omega), ← haz] at this
                  exact this) (by
                  have := (unhide HTK).2 (a + z) (unhide HZ2) (by omega) (by omega)
                  rw [Nat.min_eq_right (by omega), ← haz] at this
                  exact this))
                have HG : Hid (n < a + z2 ∧ z2 = 2 * z) := ⟨by omega, hze⟩
                clear hze hbb hzd hzd2 haz
                go_wp2_with (go_at_call 138; refine (unhide HC).mono ?_; rintro e w2 ⟨rfl, K2, HA2, HL2⟩)
                go_roundw
                case rel =>
                  refine ⟨z2, K2, by go_num, by omega, by have := unhide HG; omega, HA2, (unhide HPK).trans ((unhide HL2).1.widen (Nat.zero_le _) (Nat.le_refl _)), ?_⟩
                  exact Two.done (z := 1) (n := n) ⟨Two.out (unhide HTK) (unhide HDV) (unhide HL2).1, fun c h1 h2 h3 => SAB.one (by omega) _⟩ (unhide HDV) han2 (unhide HG).1 (unhide HL2).2
                case measure => first | (simp [intOf]; omega) | (simp only [intOf]; omega)
              · have i5 : ¬ (az : Int) < (n : Int) := by omega
                have HE : Hid (SAB a n K) := by
                  by_cases h6 : a < n
                  · have := (unhide HTK).2 a (unhide HZ) (Nat.le_refl _) h6
                    rw [Nat.min_eq_right (by omega)] at this
                    exact this
                  · exact SAB.one (by omega) _
                have HG : Hid (n < a + z2 ∧ z2 = 2 * z) := ⟨by omega, hze⟩
                clear hze hbb hzd hzd2 haz
                go_wp2
                go_roundw
                case rel => exact ⟨z2, K, by go_num, by omega, by have := unhide HG; omega, HAK, HPK, Two.done (unhide HTK) (unhide HDV) han2 (unhide HG).1 (unhide HE)⟩
                case measure => first | (simp [intOf]; omega) | (simp only [intOf]; omega)
        · have i2 : ¬ (z : Int) < (n : Int) := by omega
          have HE : Hid (SAB 0 n M) := by
            by_cases h6 : 0 < n
            · have := unhide HB 0 ⟨0, rfl⟩ h6
              rw [Nat.min_eq_right (by omega)] at this
              exact this
            · exact SAB.one (by omega) _
          go_wp2
          go_end0
          exact ⟨rfl, M, (unhide HA).own, (unhide HA).back, (unhide HP).perm, unhide HE⟩
end Go.Proofs.YthbfomcmjjnikaaGreat
set_option linter.unusedSimpArgs false
set_option linter.unusedVariables false
namespace Go.Proofs.YthbfomcmjjnikaaGreat
open Go.RowKit Go.Sort Go.Shelf Go.Lib

noncomputable def tT : TypeInfo := (Tryz.prog.info? 37).get (by kernel_rfl)
noncomputable def tE : TypeInfo := (Tryz.prog.info? 59).get (by kernel_rfl)
theorem tK (n : Nat) (h2 : 2 ≤ n) : Lib.swapperK n tE 25 = 9 := by
  have a : tE.hasPointers = true := by kernel_rfl
  have b : tE.bytes = 32 := by kernel_rfl
  have c : (n == 0) = false := by simp; omega
  have d : (n == 1) = false := by simp; omega
  simp [Lib.swapperK, a, b, c, d]
theorem swapOK (base g N cap : Nat) (W : World) (L : List Val) (i j : Nat) (hO : OwnV W base (.slice (some ⟨g, 0, none⟩) N cap) L) (hi : i < N) (hj : j < N) :
    ∃ W', (callFunc 136 (#[.int .i64 i, .int .i64 j] ++ #[.slice (some ⟨g, 0, none⟩) N cap, typeHandle Tryz.prog 59])).run Tryz.prog W = .ok (.value (.tuple #[])) W' ∧ OwnV W' base (.slice (some ⟨g, 0, none⟩) N cap) (swapL L i j) ∧ Grew W W' (.slice (some ⟨g, 0, none⟩) N cap) (.slice (some ⟨g, 0, none⟩) N cap) := by
  have hl := hO.len
  have sz : tE.size = 3 := by kernel_rfl
  have F : ∀ q, q < N → (∀ k v, (c3 (atL L q))[k]? = some v → W.cell? ⟨g, 0 + q * tE.size + k, none⟩ = some v) ∧ ∀ k, k < tE.size → W.frozen? ⟨g, 0 + q * tE.size + k, none⟩ = false := fun q hq => by
    obtain ⟨a0, a1, a2, b0, b1, b2⟩ := hO.facts (atL_some (L := L) (k := q) (by omega))
    rw [sz, Nat.zero_add]
    refine ⟨fun k v hv => ?_, fun k hk => ?_⟩
    · match k, hv with
      | 0, hv => simp [c3] at hv; subst hv; exact a0
      | 1, hv => simp [c3] at hv; subst hv; exact a1
      | 2, hv => simp [c3] at hv; subst hv; exact a2
      | k + 3, hv => simp [c3] at hv
    · match k, hk with
      | 0, _ => exact b0
      | 1, _ => exact b1
      | 2, _ => exact b2
  have hrun := run_swap_cells (P := Tryz.prog) false 59 tE (by kernel_rfl) (fun _ => by kernel_rfl) g 0 N cap i j hi hj (c3 (atL L i)) (c3 (atL L j)) (by rw [sz]; rfl) (by rw [sz]; rfl) (c3_one _) (c3_one _) W (F i hi).1 (F j hj).1 (F i hi).2 (F j hj).2
  rw [sz, Nat.zero_add, Nat.zero_add] at hrun
  have hx : ∀ args W, (callFunc 136 args).run Tryz.prog W = ((Extern.ReflectliteSwapper.swap false args).run Tryz.prog W).andThen fun v w' => .ok (.value v) w' := fun args W => run_callFunc_extern Tryz.func136 (by kernel_rfl) (by kernel_rfl) (by kernel_rfl) (e := Extern.ReflectliteSwapper.swap false) (by kernel_rfl) args W
  refine ⟨(W.setCells g (i * 3) (c3 (atL L j))).setCells g (j * 3) (c3 (atL L i)), ?_, ?_, ?_⟩
  · rw [hx, show (#[Value.int .i64 (i : Int), Value.int .i64 (j : Int)] ++ #[Value.slice (some ⟨g, 0, none⟩) N cap, typeHandle Tryz.prog 59]) = #[.int .i64 i, .int .i64 j, .slice (some ⟨g, 0, none⟩) N cap, typeHandle Tryz.prog 59] from rfl, hrun]
    rfl
  · exact (hO.put (by omega) (atL L j)).put (by rw [List.length_set]; omega) (atL L i)
  · exact ((((((Grew.refl W _).store _).store _).store _).store _).store _).store _
theorem SAB.rises {L : List Val} {n : Nat} (h : SAB 0 n L) (hn : L.length = n) : Rises L := by
  refine List.pairwise_iff_getElem.2 fun i j hi hj hij => ?_
  have := h i j (Nat.zero_le _) hij (by omega)
  rw [atL_of (List.getElem?_eq_getElem hi), atL_of (List.getElem?_eq_getElem hj)] at this
  exact this
theorem rises_tiny {L : List Val} (h : L.length ≤ 1) : Rises L := (SAB.one (a := 0) (b := L.length) (by omega) L).rises rfl

theorem slicestable_any (base B : Nat) (xs : List Val) (v : Value) (w : World) (hl : xs.length ≤ 1048576) (hown : OwnV w base v xs) (hbox : w.cell? ⟨B, 0, none⟩ = some v) (hne : v.ownBlock ≠ some B) :
    Calls Tryz.prog 88 #[.iface 37 v, .func (.func 89) #[] #[.pointer (some ⟨B, 0, none⟩)]] w fun e w' => e = .returned (.tuple #[]) ∧ ∃ ys, OwnV w' base v ys ∧ Grew w w' v v ∧ ys.Perm xs ∧ Rises ys := by
  obtain ⟨aa, ca, rfl, _⟩ := ownV_slice hown
  by_cases h2 : xs.length ≤ 1
  · have hS : ∃ f : Nat, Calls Tryz.prog 88 #[.iface 37 (.slice aa xs.length ca), .func (.func 89) #[] #[.pointer (some ⟨B, 0, none⟩)]] w fun e w' => e = .returned (.tuple #[]) ∧ ∃ os, w' = grow w os := by
      by_cases h0 : xs.length = 0
      · refine ⟨128, ?_⟩
        have := Any.sort_SliceStable_tiny Tryz.stabL 37 59 tT tE (by kernel_rfl) (by kernel_rfl) (by kernel_rfl) (by kernel_rfl) 25 (fun _ => by kernel_rfl) aa xs.length ca h2 128 (by rw [h0]; kernel_rfl) (.func 89) #[] #[.pointer (some ⟨B, 0, none⟩)] w
        change Calls Tryz.prog 88 _ _ _ at this
        exact this
      · have h1 : xs.length = 1 := by omega
        refine ⟨129, ?_⟩
        have := Any.sort_SliceStable_tiny Tryz.stabL 37 59 tT tE (by kernel_rfl) (by kernel_rfl) (by kernel_rfl) (by kernel_rfl) 25 (fun _ => by kernel_rfl) aa xs.length ca h2 129 (by rw [h1]; kernel_rfl) (.func 89) #[] #[.pointer (some ⟨B, 0, none⟩)] w
        change Calls Tryz.prog 88 _ _ _ at this
        exact this
    obtain ⟨_, hS⟩ := hS
    refine hS.mono ?_
    rintro e w' ⟨rfl, os, rfl⟩
    have hb : Below w.heap.size w (grow w os) := below_regrown w w.drawn os
    exact ⟨rfl, xs, hown.later hb, Grew.of_below hb _, List.Perm.refl _, rises_tiny h2⟩
  · obtain ⟨g, cap, e⟩ : ∃ g cap, (Value.slice aa xs.length ca) = .slice (some ⟨g, 0, none⟩) xs.length cap := by
      rcases hown.2 with ⟨_, h0⟩ | ⟨g, cap, cur, ev, _⟩
      · omega
      · exact ⟨g, cap, ev⟩
    injection e with e1 _ e3
    subst e1 e3
    have hgB : B ≠ g := fun e => hne (by rw [e]; rfl)
    refine Any.sort_SliceStable_of_stable Tryz.stabL 37 59 tT tE (by kernel_rfl) (by kernel_rfl) (by kernel_rfl) (by kernel_rfl) 25 (fun _ => by kernel_rfl) (some ⟨g, 0, none⟩) xs.length ca (by omega) 136 (by rw [tK _ (by omega)]; kernel_rfl) (.func 89) #[] #[.pointer (some ⟨B, 0, none⟩)] w (fun w' => ∃ ys, OwnV w' base (.slice (some ⟨g, 0, none⟩) xs.length ca) ys ∧ Grew w w' (.slice (some ⟨g, 0, none⟩) xs.length ca) (.slice (some ⟨g, 0, none⟩) xs.length ca) ∧ ys.Perm xs ∧ Rises ys) ?_
    have hB : sliceBound Tryz.prog 59 tE 25 (some ⟨g, 0, none⟩) xs.length ca = #[.slice (some ⟨g, 0, none⟩) xs.length ca, typeHandle Tryz.prog 59] := by
      unfold sliceBound; rw [if_neg (by rw [tK _ (by omega)]; omega)]
    rw [hB]
    have core : ∀ W0, Below w.heap.size w W0 → Calls Tryz.prog 109 #[.agg #[.func (.func 89) #[] #[.pointer (some ⟨B, 0, none⟩)], .func (.func 136) #[] #[.slice (some ⟨g, 0, none⟩) xs.length ca, typeHandle Tryz.prog 59]], .int .i64 xs.length] W0 fun e w' => e = .returned (.tuple #[]) ∧ ∃ ys, OwnV w' base (.slice (some ⟨g, 0, none⟩) xs.length ca) ys ∧ Grew w w' (.slice (some ⟨g, 0, none⟩) xs.length ca) (.slice (some ⟨g, 0, none⟩) xs.length ca) ∧ ys.Perm xs ∧ Rises ys := fun W0 hbw => by
      have hT : Sorting.OK ⟨base, g, xs.length, ca, B, 136, #[.slice (some ⟨g, 0, none⟩) xs.length ca, typeHandle Tryz.prog 59]⟩ W0 :=
        ⟨cell_later hbw hbox, hgB, hl, fun W L i j h1 h2 h3 => swapOK base g xs.length ca W L i j h1 h2 h3⟩
      refine (stable_any _ _ xs hT (hown.later hbw)).mono ?_
      rintro e w' ⟨rfl, ys, o1, o2, o3, o4⟩
      exact ⟨rfl, ys, o1, (Grew.of_below hbw _).trans o2, o3, o4.rises o3.length_eq⟩
    refine core _ ?_
    unfold stableWorld
    exact below_alloc (below_alloc (Below.refl _ w) _) _
end Go.Proofs.YthbfomcmjjnikaaGreat
