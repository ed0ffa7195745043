import Derived.Test.YtcbenpodohjbiaaGreatPlA
import Derived.Test.YtcbenpodohjbiaaGreatCellF
import Derived.Test.YtcbenpodohjbiaaGreatOwnA
set_option linter.unusedSimpArgs false
set_option linter.unusedVariables false
set_option maxRecDepth 100000
namespace Go.Proofs.YtcbenpodohjbiaaGreat
open Go.RowKit Go.Sort

/-- Rows of one cell each, of the call's own. -/
def OwnR (w : World) (base : Nat) (v : Value) (L : List El) : Prop := w.ownsRow base 70 1 v L.length (L.map El.v)
theorem OwnR.later {w w1 : World} {base : Nat} {v : Value} {L : List El} (h : OwnR w base v L) (hb : Below w.heap.size w w1) : OwnR w1 base v L := own_later h hb
theorem OwnR.len {w : World} {base g N cap : Nat} {L : List El} (h : OwnR w base (.slice (some ⟨g, 0, none⟩) N cap) L) : N = L.length := by
  rcases h.2 with ⟨e, _⟩ | ⟨g', cap', cur, e, _⟩
  · cases e
  · injection e
theorem Grew.of_below {w wr : World} (h : Below w.heap.size w wr) (v : Value) : Grew w wr v v := ⟨⟨h.os, h.tape, h.output, h.size, fun i hi _ => h.block i hi⟩, .inl rfl⟩
theorem Grew.alloc (w : World) (v : Value) (o : Obj) : Grew w (w.alloc o) v v := Grew.of_below (below_alloc (Below.refl _ w) o) v
/-- What is sorted: the slice, what may lie there, the world that is kept, how two are compared and swapped. -/
structure Sorting where
  base : Nat
  g : Nat
  N : Nat
  cap : Nat
  LF : Nat
  lb : Array Value
  SF : Nat
  sb : Array Value
  el : El → Prop
  keep : World → Prop
  o : Od
def Sorting.v (T : Sorting) : Value := .slice (some ⟨T.g, 0, none⟩) T.N T.cap
def Sorting.less (T : Sorting) : Value := .func (.func T.LF) #[] T.lb
def Sorting.swap (T : Sorting) : Value := .func (.func T.SF) #[] T.sb
def Sorting.lt (T : Sorting) (x y : El) : Bool := decide (T.o.f x y < 0)
theorem ltV_t {T : Sorting} {x y : El} (h : T.lt x y = true) : T.o.f x y < 0 := by simpa [Sorting.lt] using h
theorem ltV_f {T : Sorting} {x y : El} (h : T.lt x y = false) : ¬ T.o.f x y < 0 := by simpa [Sorting.lt] using h
def Sorting.Own (T : Sorting) (W : World) (L : List El) : Prop := OwnR W T.base T.v L ∧ ∀ x ∈ L, T.el x
structure Sorting.OK (T : Sorting) (w0 : World) : Prop where
  kp : T.keep w0
  keeps : ∀ W W', T.keep W → Grew W W' T.v T.v → T.keep W'
  small : T.N ≤ 1048576
  ent : ∀ args w, (callFunc T.LF args).run Tryz.prog w = .ok (.enter T.LF args) w
  les : ∀ (W : World) (L : List El) (i j : Nat), T.keep W → T.Own W L → i < T.N → j < T.N → (atL L j).t < (atL L i).t → Calls Tryz.prog T.LF (#[.int .i64 i, .int .i64 j] ++ T.lb) W fun e w' => e = .returned (.bool (T.lt (atL L i) (atL L j))) ∧ Below W.heap.size W w'
  swp : ∀ (W : World) (L : List El) (i j : Nat), T.Own W L → i < T.N → j < T.N → ∃ W', (callFunc T.SF (#[.int .i64 i, .int .i64 j] ++ T.sb)).run Tryz.prog W = .ok (.value (.tuple #[])) W' ∧ T.Own W' (swapL L i j) ∧ Grew W W' T.v T.v
theorem Sorting.OK.later {T : Sorting} {w0 W : World} (h : T.OK w0) (hg : Grew w0 W T.v T.v) : T.OK W := ⟨h.keeps _ _ h.kp hg, h.keeps, h.small, h.ent, h.les, h.swp⟩
theorem Sorting.keep_ {T : Sorting} {W W' : World} (hg : Grew W W' T.v T.v) {b j : Nat} {u : Value} (hb : b ≠ T.g) (h : W.cell? ⟨b, j, none⟩ = some u) : W'.cell? ⟨b, j, none⟩ = some u := by
  rw [grew_kept hg (World.block_lt_of_cell? _ _ h) (by unfold Sorting.v; simp [Value.ownBlock]; exact fun e => hb e.symm)]; exact h
theorem Sorting.lenL {T : Sorting} {W : World} {L : List El} (h : T.Own W L) : L.length = T.N := (OwnR.len h.1).symm
theorem Sorting.Own.later {T : Sorting} {W W' : World} {L : List El} (h : T.Own W L) (hb : Below W.heap.size W W') : T.Own W' L := ⟨h.1.later hb, h.2⟩
theorem less_any (T : Sorting) (W : World) (L : List El) (i j : Nat) (hT : T.OK W) (hO : T.Own W L) (hi : i < T.N) (hj : j < T.N) (ht : (atL L j).t < (atL L i).t) :
    Calls Tryz.prog T.LF (#[.int .i64 i, .int .i64 j] ++ T.lb) W fun e w' => e = .returned (.bool (T.lt (atL L i) (atL L j))) ∧ Below W.heap.size W w' := hT.les W L i j hT.kp hO hi hj ht
/-- The box of the two functions, in a world behind it. -/
structure Sorting.At (T : Sorting) (b : Nat) (W1 wr : World) (L : List El) : Prop where
  own : T.Own wr L
  grew : Grew W1 wr T.v T.v
  ok : T.OK wr
  lt : b < W1.heap.size
  ne : b ≠ T.g
  c0 : wr.cell? ⟨b, 0, none⟩ = some T.less
  c1 : wr.cell? ⟨b, 1, none⟩ = some T.swap
theorem Sorting.At.grow {T : Sorting} {b : Nat} {W1 wr w' : World} {L L' : List El} (h : T.At b W1 wr L) (ho : T.Own w' L') (hg : Grew wr w' T.v T.v) : T.At b W1 w' L' :=
  ⟨ho, h.grew.trans hg, h.ok.later hg, h.lt, h.ne, Sorting.keep_ hg h.ne h.c0, Sorting.keep_ hg h.ne h.c1⟩
theorem Sorting.At.below {T : Sorting} {b : Nat} {W1 wr w' : World} {L : List El} (h : T.At b W1 wr L) (hb : Below wr.heap.size wr w') : T.At b W1 w' L := h.grow (h.own.later hb) (Grew.of_below hb _)
theorem Sorting.At.swp {T : Sorting} {b : Nat} {W1 wr : World} {L : List El} (h : T.At b W1 wr L) {i j : Nat} (hi : i < T.N) (hj : j < T.N) : ∃ W', (callFunc T.SF (#[.int .i64 i, .int .i64 j] ++ T.sb)).run Tryz.prog wr = .ok (.value (.tuple #[])) W' ∧ T.At b W1 W' (swapL L i j) := by
  obtain ⟨W', h1, h2, h3⟩ := h.ok.swp wr L i j h.own hi hj
  exact ⟨W', h1, h.grow h2 h3⟩
theorem Sorting.start {T : Sorting} {W : World} {L : List El} (hT : T.OK W) (hO : T.Own W L) : T.At W.heap.size (W.alloc (.cells #[T.less, T.swap] 133)) (W.alloc (.cells #[T.less, T.swap] 133)) L := by
  have hg := Grew.alloc W T.v (.cells #[T.less, T.swap] 133)
  have hgl := (World.ownsRow.lt hO.1 T.g rfl).2
  exact ⟨hO.later (below_alloc (Below.refl _ _) _), Grew.refl _ _, hT.later hg, by simp, by omega, by simp [go_sem], by simp [go_sem]⟩
theorem Sorting.At.back {T : Sorting} {W wr : World} {L : List El} (h : T.At W.heap.size (W.alloc (.cells #[T.less, T.swap] 133)) wr L) : Grew W wr T.v T.v := (Grew.alloc W T.v _).trans h.grew
theorem swapF_zero (f : Nat → El) (a b : Nat) : swapF f a b 0 = f := by
  funext k
  unfold swapF
  rw [if_neg (by omega), if_neg (by omega)]
set_option maxHeartbeats 4000000 in
set_option maxRecDepth 100000 in
theorem swaprange_any (T : Sorting) (W : World) (L : List El) (a b n : Nat) (hT : T.OK W) (hO : T.Own W L) (hab : a + n ≤ b) (hb : b + n ≤ T.N) :
    Calls Tryz.prog 131 #[.agg #[T.less, T.swap], .int .i64 a, .int .i64 b, .int .i64 n] W fun e w' => e = .returned (.tuple #[]) ∧ ∃ L', T.Own w' L' ∧ Grew W w' T.v T.v ∧ PAB a (b + n) L L' ∧ ∀ k, atL L' k = swapF (atL L) a b n k := by
  have H0 := hide (Sorting.start hT hO)
  have hsm := hT.small
  clear hT hO
  go_enter Tryz.func131, Tryz.ntmps131
  go_wp2_with fail
  go_loopw [8] (fun s wr => ∃ (k : Nat) (L' : List El), s = .int .i64 (k : Int) ∧ k ≤ n ∧ Hid (T.At W.heap.size (W.alloc (.cells #[T.less, T.swap] 133)) wr L') ∧ Hid (PAB a (b + n) L L') ∧ Hid (∀ q, atL L' q = swapF (atL L) a b k q)) (fun s _ => n - (intOf s).toNat)
  case atStart => exact ⟨0, L, rfl, Nat.zero_le _, H0, PAB.refl _ _ _, fun q => by rw [swapF_zero]⟩
  case round =>
    obtain ⟨k, L', rfl, hk, HA, HP, HF⟩ := hrel
    have hlen := Sorting.lenL (unhide HA).own
    by_cases h1 : k < n
    · have i1 : (k : Int) < (n : Int) := by omega
      obtain ⟨W', hsw, hA'⟩ := (unhide HA).swp (i := a + k) (j := b + k) (by omega) (by omega)
      rw [Int.natCast_add, Int.natCast_add] at hsw
      have c1 := (unhide HA).c1
      have HA' := hide hA'
      have HP' := hide ((unhide HP).trans (PAB.swap (i := a + k) (j := b + k) (by omega) (by omega) (by omega) (by omega) (by omega) (by omega)))
      have HF' := hide (swapF_next L' a b k (atL L) (by omega) (by omega) (unhide HF))
      unfold Sorting.swap at c1
      have HSW := hide hsw
      clear hA' hsw hlen
      go_wp2
      rw [unhide HSW, Oper.upon_value]
      go_wp2
      go_roundw
      case rel => exact ⟨k + 1, _, by go_num, by omega, HA', HP', HF'⟩
      case measure => first | (simp [intOf]; omega) | (simp only [intOf]; omega)
    · have i1 : ¬ (k : Int) < (n : Int) := by omega
      have hkn : k = n := by omega
      rw [hkn] at HF
      clear hkn hlen
      go_wp2
      go_end0
      exact ⟨rfl, L', (unhide HA).own, (unhide HA).back, unhide HP, unhide HF⟩
set_option maxHeartbeats 4000000 in
set_option maxRecDepth 100000 in
theorem rotate_any (T : Sorting) (W : World) (L : List El) (a m b : Nat) (hT : T.OK W) (hO : T.Own W L) (ham : a < m) (hmb : m < b) (hb : b ≤ T.N) :
    Calls Tryz.prog 120 #[.agg #[T.less, T.swap], .int .i64 a, .int .i64 m, .int .i64 b] W fun e w' => e = .returned (.tuple #[]) ∧ ∃ L', T.Own w' L' ∧ Grew W w' T.v T.v ∧ PAB a b L L' ∧ ∀ k, atL L' k = rotF (atL L) a m b k := by
  have H0 := hide (Sorting.start hT hO)
  have hsm := hT.small
  clear hT hO
  have e1 : (m : Int) - (a : Int) = ((m - a : Nat) : Int) := by omega
  have e2 : (b : Int) - (m : Int) = ((b - m : Nat) : Int) := by omega
  go_enter Tryz.func120, Tryz.ntmps120
  go_wp2_with fail
  go_loopw [8, 9] (fun s8 s9 wr => ∃ (i j : Nat) (L' : List El), s8 = .int .i64 (i : Int) ∧ s9 = .int .i64 (j : Int) ∧ 0 < i ∧ 0 < j ∧ a + i ≤ m ∧ m + j ≤ b ∧ Hid (T.At W.heap.size (W.alloc (.cells #[T.less, T.swap] 133)) wr L') ∧ Hid (PAB a b L L') ∧ Hid (rotF (atL L') (m - i) m (m + j) = rotF (atL L) a m b)) (fun s8 s9 _ => (intOf s8).toNat + (intOf s9).toNat)
  case atStart => exact ⟨m - a, b - m, L, by first | rfl | (rw [← e1]) | simp, by first | rfl | (rw [← e2]) | simp, by omega, by omega, by omega, by omega, H0, PAB.refl _ _ _, by rw [show m - (m - a) = a by omega, show m + (b - m) = b by omega]; exact rfl⟩
  case round =>
    obtain ⟨i, j, L', rfl, rfl, hi, hj, him, hjb, HA, HP, HF⟩ := hrel
    have c0 := (unhide HA).c0
    have c1 := (unhide HA).c1
    have f1 : (m : Int) - (i : Int) = ((m - i : Nat) : Int) := by omega
    have HAG : Hid (∀ w' L2, T.Own w' L2 → Grew wr w' T.v T.v → T.At W.heap.size (W.alloc (.cells #[T.less, T.swap] 133)) w' L2) := fun w' L2 h1 h2 => (unhide HA).grow h1 h2
    by_cases h1 : i = j
    · subst h1
      have i1 : ((i : Int) != (i : Int)) = false := by simp
      have HS := hide (swaprange_any T wr L' (m - i) m i (unhide HA).ok (unhide HA).own (by omega) (by omega))
      have HB := hide (unhide HA).back
      clear HAG
      go_wp2_with (go_at_call 131; refine (unhide HS).mono ?_; rintro e w2 ⟨rfl, L2, q1, q2, q3, q4⟩)
      go_end0
      refine ⟨rfl, L2, q1, (unhide HB).trans q2, (unhide HP).trans (q3.widen (by omega) (by omega)), fun k => ?_⟩
      rw [q4 k, rot_same (by omega), unhide HF]
    · have i1 : ((i : Int) != (j : Int)) = true := by simp; omega
      by_cases h2 : j < i
      · have i2 : (j : Int) < (i : Int) := by omega
        have HS := hide (swaprange_any T wr L' (m - i) m j (unhide HA).ok (unhide HA).own (by omega) (by omega))
        have hR := rot_left (f := atL L') (m := m) (i := i) (j := j) (by omega) h2 hj
        rw [unhide HF] at hR
        have HR := hide hR
        clear hR
        go_wp2_with (go_at_call 131; refine (unhide HS).mono ?_; rintro e w2 ⟨rfl, L2, q1, q2, q3, q4⟩; replace q1 := hide q1; replace q2 := hide q2; replace q3 := hide q3; replace q4 := hide q4)
        go_roundw
        case rel =>
          refine ⟨i - j, j, L2, by go_num, rfl, by omega, hj, by omega, hjb, unhide HAG _ _ (unhide q1) (unhide q2), (unhide HP).trans ((unhide q3).widen (by omega) (by omega)), ?_⟩
          show _ = _
          have : atL L2 = swapF (atL L') (m - i) m j := funext (unhide q4)
          rw [this, ← unhide HR, show m - (i - j) = m - i + j by omega]
        case measure => first | (simp [intOf]; omega) | (simp only [intOf]; omega)
      · have i2 : ¬ (j : Int) < (i : Int) := by omega
        have f2 : (m : Int) + (j : Int) - (i : Int) = ((m + j - i : Nat) : Int) := by omega
        have HS := hide (swaprange_any T wr L' (m - i) (m + j - i) i (unhide HA).ok (unhide HA).own (by omega) (by omega))
        have hR := rot_right (f := atL L') (m := m) (i := i) (j := j) (by omega) (by omega) hi
        rw [unhide HF] at hR
        have HR := hide hR
        clear hR
        go_wp2_with (go_at_call 131; refine (unhide HS).mono ?_; rintro e w2 ⟨rfl, L2, q1, q2, q3, q4⟩; replace q1 := hide q1; replace q2 := hide q2; replace q3 := hide q3; replace q4 := hide q4)
        go_roundw
        case rel =>
          refine ⟨i, j - i, L2, rfl, by go_num, hi, by omega, him, by omega, unhide HAG _ _ (unhide q1) (unhide q2), (unhide HP).trans ((unhide q3).widen (by omega) (by omega)), ?_⟩
          show _ = _
          have : atL L2 = swapF (atL L') (m - i) (m + j - i) i := funext (unhide q4)
          rw [this, ← unhide HR]
        case measure => first | (simp [intOf]; omega) | (simp only [intOf]; omega)

end Go.Proofs.YtcbenpodohjbiaaGreat
set_option linter.unusedSimpArgs false
set_option linter.unusedVariables false
set_option maxRecDepth 100000
namespace Go.Proofs.YtcbenpodohjbiaaGreat
open Go.RowKit Go.Sort

set_option maxHeartbeats 8000000 in
set_option maxRecDepth 100000 in
theorem symA_any (T : Sorting) (W : World) (L : List El) (a m b : Nat) (hT : T.OK W) (hO : T.Own W L) (hm : m = a + 1) (hmb : m < b) (hb : b ≤ T.N) (hS : SAB T.o m b L) (hG : TG a m b L) :
    Calls Tryz.prog 111 #[.agg #[T.less, T.swap], .int .i64 a, .int .i64 m, .int .i64 b] W fun e w' => e = .returned (.tuple #[]) ∧ ∃ L', T.Own w' L' ∧ Grew W w' T.v T.v ∧ PAB a b L L' ∧ SAB T.o a b L' := by
  have H0 := hide (Sorting.start hT hO)
  have hsm := hT.small
  have ent := hT.ent
  have HGG := hide hG
  clear hG
  have e1 : ((m : Int) - (a : Int) == 1) = true := by simp; omega
  have HS := hide hS
  have HM := hide hm
  have ham : a < m := by omega
  clear hT hO hS hm
  go_enter Tryz.func111, Tryz.ntmps111
  go_wp2_with fail
  go_loopw [8, 9] (fun s8 s9 wr => ∃ (i j : Nat), s8 = .int .i64 (i : Int) ∧ s9 = .int .i64 (j : Int) ∧ m ≤ i ∧ i ≤ j ∧ j ≤ b ∧ Hid (T.At W.heap.size (W.alloc (.cells #[T.less, T.swap] 133)) wr L) ∧ Hid (i = m ∨ T.o.f (atL L (i - 1)) (atL L a) < 0) ∧ Hid (j = b ∨ 0 ≤ T.o.f (atL L j) (atL L a))) (fun s8 s9 _ => (intOf s9 - intOf s8).toNat)
  case atStart => exact ⟨m, b, rfl, rfl, Nat.le_refl _, by omega, Nat.le_refl _, H0, .inl rfl, .inl rfl⟩
  case round =>
    obtain ⟨i, j, rfl, rfl, hmi, hij, hjb, HA, HLO, HHI⟩ := hrel
    have c0 := (unhide HA).c0
    unfold Sorting.less at c0
    by_cases h1 : i < j
    · have i1 : (i : Int) < (j : Int) := by omega
      obtain ⟨h, hh⟩ : ∃ h, h = (i + j) / 2 := ⟨_, rfl⟩
      have eh : ((i : Int) + (j : Int)) / 2 = (h : Int) := by omega
      have i3 : (i : Int) + (j : Int) ≤ 2097152 := by omega
      have hhj : i ≤ h ∧ h < j := by omega
      have HHJ := hide hhj
      have HL := hide (less_any T wr L h a (unhide HA).ok (unhide HA).own (by omega) (by omega) (unhide HGG a h (Nat.le_refl _) ham (by omega) (by omega)))
      clear hh hhj
      cases hlt : T.lt (atL L h) (atL L a)
      · rw [hlt] at HL
        have HX := hide (Int.not_lt.1 (ltV_f hlt))
        clear hlt
        go_wp2_with (refine (unhide HL).mono ?_; rintro e w2 ⟨rfl, hb2⟩; replace hb2 := hide hb2)
        go_roundw
        case rel => exact ⟨i, h, rfl, by go_num, hmi, (unhide HHJ).1, by have := unhide HHJ; omega, (unhide HA).below (unhide hb2), HLO, .inr (unhide HX)⟩
        case measure => have := unhide HHJ; first | (simp [intOf]; omega) | (simp only [intOf]; omega)
      · rw [hlt] at HL
        have HX := hide (ltV_t hlt)
        clear hlt
        go_wp2_with (refine (unhide HL).mono ?_; rintro e w2 ⟨rfl, hb2⟩; replace hb2 := hide hb2)
        go_roundw
        case rel => exact ⟨h + 1, j, by go_num, rfl, by have := unhide HHJ; omega, by have := unhide HHJ; omega, hjb, (unhide HA).below (unhide hb2), .inr (unhide HX), HHI⟩
        case measure => have := unhide HHJ; first | (simp [intOf]; omega) | (simp only [intOf]; omega)
    · have i1 : ¬ (i : Int) < (j : Int) := by omega
      have hij' : i = j := by omega
      have HHI2 : Hid (i = b ∨ 0 ≤ T.o.f (atL L i) (atL L a)) := by rw [hij']; exact HHI
      have hib : i ≤ b := by omega
      clear hij' HHI hij hjb
      go_wp2_with fail
      go_loopw [11] (fun s wv => ∃ (k : Nat) (M : List El), s = .int .i64 (k : Int) ∧ a ≤ k ∧ k ≤ i - 1 ∧ Hid (T.At W.heap.size (W.alloc (.cells #[T.less, T.swap] 133)) wv M) ∧ Hid (PAB a b L M) ∧ Hid (∀ q, atL M q = upF (atL L) a k q)) (fun s _ => i - (intOf s).toNat)
      case atStart => exact ⟨a, L, rfl, Nat.le_refl _, by omega, HA, PAB.refl _ _ _, fun q => by rw [upF_start]⟩
      case round =>
        obtain ⟨k, M, rfl, hak, hki, HAM, HP, HF⟩ := hrel
        have c1 := (unhide HAM).c1
        unfold Sorting.swap at c1
        have hlen := Sorting.lenL (unhide HAM).own
        by_cases h2 : k < i - 1
        · have i2 : (k : Int) < (i : Int) - 1 := by omega
          obtain ⟨W', hsw, hA'⟩ := (unhide HAM).swp (i := k) (j := k + 1) (by omega) (by omega)
          rw [Int.natCast_add] at hsw
          have HSW := hide hsw
          have HA' := hide hA'
          have HP' := hide ((unhide HP).trans (PAB.swap (a := a) (b := b) (i := k) (j := k + 1) (by omega) (by omega) (by omega) (by omega) (by omega) (by omega)))
          have HF' := hide (upF_next hak (by omega) (unhide HF))
          clear hsw hA' hlen
          go_wp2
          rw [show ((1 : Nat) : Int) = 1 from rfl] at HSW
          rw [unhide HSW, Oper.upon_value]
          go_wp2
          go_roundw
          case rel => exact ⟨k + 1, _, by go_num, by omega, by omega, HA', HP', HF'⟩
          case measure => first | (simp [intOf]; omega) | (simp only [intOf]; omega)
        · have i2 : ¬ (k : Int) < (i : Int) - 1 := by omega
          have hk' : k = i - 1 := by omega
          rw [hk'] at HF
          have HE : Hid (SAB T.o a b M) := by
            have hm := unhide HM
            have hlo := unhide HLO
            have hs := unhide HS
            rw [hm] at hlo hs
            exact up_sorted (by omega) hib hs hlo ((unhide HHI2).imp id fun h => Int.not_lt.2 h) (unhide HF)
          clear hk' hlen
          go_wp2
          (try simp only [Exit.inBlock, Exit.then]); refine bodyPost_ret (results_none rfl _ _ _) rfl ?_
          exact ⟨rfl, M, (unhide HAM).own, (unhide HAM).back, unhide HP, unhide HE⟩
set_option maxHeartbeats 8000000 in
set_option maxRecDepth 100000 in
theorem symB_any (T : Sorting) (W : World) (L : List El) (a m b : Nat) (hT : T.OK W) (hO : T.Own W L) (hm : a + 1 < m) (hmb : b = m + 1) (hb : b ≤ T.N) (hS : SAB T.o a m L) (hG : TG a m b L) :
    Calls Tryz.prog 111 #[.agg #[T.less, T.swap], .int .i64 a, .int .i64 m, .int .i64 b] W fun e w' => e = .returned (.tuple #[]) ∧ ∃ L', T.Own w' L' ∧ Grew W w' T.v T.v ∧ PAB a b L L' ∧ SAB T.o a b L' := by
  have H0 := hide (Sorting.start hT hO)
  have hsm := hT.small
  have ent := hT.ent
  have HGG := hide hG
  clear hG
  have e1 : ((m : Int) - (a : Int) == 1) = false := by simp; omega
  have e2 : ((b : Int) - (m : Int) == 1) = true := by simp; omega
  have HS := hide hS
  have HM := hide hmb
  have hmN : m < T.N := by omega
  clear hT hO hS hmb
  go_enter Tryz.func111, Tryz.ntmps111
  go_wp2_with fail
  go_loopw [12, 13] (fun s8 s9 wr => ∃ (i j : Nat), s8 = .int .i64 (i : Int) ∧ s9 = .int .i64 (j : Int) ∧ a ≤ i ∧ i ≤ j ∧ j ≤ m ∧ Hid (T.At W.heap.size (W.alloc (.cells #[T.less, T.swap] 133)) wr L) ∧ Hid (i = a ∨ T.o.f (atL L (i - 1)) (atL L m) ≤ 0) ∧ Hid (j = m ∨ T.o.f (atL L m) (atL L j) < 0)) (fun s8 s9 _ => (intOf s9 - intOf s8).toNat)
  case atStart => exact ⟨a, m, rfl, rfl, Nat.le_refl _, by omega, Nat.le_refl _, H0, .inl rfl, .inl rfl⟩
  case round =>
    obtain ⟨i, j, rfl, rfl, hmi, hij, hjb, HA, HLO, HHI⟩ := hrel
    have c0 := (unhide HA).c0
    unfold Sorting.less at c0
    by_cases h1 : i < j
    · have i1 : (i : Int) < (j : Int) := by omega
      obtain ⟨h, hh⟩ : ∃ h, h = (i + j) / 2 := ⟨_, rfl⟩
      have eh : ((i : Int) + (j : Int)) / 2 = (h : Int) := by omega
      have i3 : (i : Int) + (j : Int) ≤ 2097152 := by omega
      have hhj : i ≤ h ∧ h < j := by omega
      have HHJ := hide hhj
      have HL := hide (less_any T wr L m h (unhide HA).ok (unhide HA).own hmN (by omega) (unhide HGG h m (by omega) (by omega) (Nat.le_refl _) (by have := unhide HM; omega)))
      clear hh hhj
      cases hlt : T.lt (atL L m) (atL L h)
      · rw [hlt] at HL
        have HX : Hid (T.o.f (atL L h) (atL L m) ≤ 0) := by
          have h3 := ltV_f hlt
          have h4 := T.o.anti (atL L m) (atL L h)
          show _ ≤ _
          omega
        clear hlt
        go_wp2_with (refine (unhide HL).mono ?_; rintro e w2 ⟨rfl, hb2⟩; replace hb2 := hide hb2)
        go_roundw
        case rel => exact ⟨h + 1, j, by go_num, rfl, by have := unhide HHJ; omega, by have := unhide HHJ; omega, hjb, (unhide HA).below (unhide hb2), .inr (unhide HX), HHI⟩
        case measure => have := unhide HHJ; first | (simp [intOf]; omega) | (simp only [intOf]; omega)
      · rw [hlt] at HL
        have HX := hide (ltV_t hlt)
        clear hlt
        go_wp2_with (refine (unhide HL).mono ?_; rintro e w2 ⟨rfl, hb2⟩; replace hb2 := hide hb2)
        go_roundw
        case rel => exact ⟨i, h, rfl, by go_num, hmi, (unhide HHJ).1, by have := unhide HHJ; omega, (unhide HA).below (unhide hb2), HLO, .inr (unhide HX)⟩
        case measure => have := unhide HHJ; first | (simp [intOf]; omega) | (simp only [intOf]; omega)
    · have i1 : ¬ (i : Int) < (j : Int) := by omega
      have hij' : i = j := by omega
      have HHI2 : Hid (i = m ∨ T.o.f (atL L m) (atL L i) < 0) := by rw [hij']; exact HHI
      have hib : i ≤ m := by omega
      clear hij' HHI hij hjb
      go_wp2_with fail
      go_loopw [15] (fun s wv => ∃ (k : Nat) (M : List El), s = .int .i64 (k : Int) ∧ i ≤ k ∧ k ≤ m ∧ Hid (T.At W.heap.size (W.alloc (.cells #[T.less, T.swap] 133)) wv M) ∧ Hid (PAB a b L M) ∧ Hid (∀ q, atL M q = dnF (atL L) m k q)) (fun s _ => (intOf s).toNat)
      case atStart => exact ⟨m, L, rfl, hib, Nat.le_refl _, HA, PAB.refl _ _ _, fun q => by rw [dnF_start]⟩
      case round =>
        obtain ⟨k, M, rfl, hak, hki, HAM, HP, HF⟩ := hrel
        have c1 := (unhide HAM).c1
        unfold Sorting.swap at c1
        have hlen := Sorting.lenL (unhide HAM).own
        by_cases h2 : i < k
        · have i2 : (i : Int) < (k : Int) := by omega
          have hbm := unhide HM
          obtain ⟨W', hsw, hA'⟩ := (unhide HAM).swp (i := k) (j := k - 1) (by omega) (by omega)
          rw [show ((k - 1 : Nat) : Int) = (k : Int) - 1 by omega] at hsw
          have HSW := hide hsw
          have HA' := hide hA'
          have HP' := hide ((unhide HP).trans (PAB.swap (a := a) (b := b) (i := k) (j := k - 1) (by omega) (by omega) (by omega) (by omega) (by omega) (by omega)))
          have HF' := hide (dnF_next (by omega) hki (by omega) (unhide HF))
          clear hsw hA' hlen hbm
          go_wp2
          rw [unhide HSW, Oper.upon_value]
          go_wp2
          go_roundw
          case rel => exact ⟨k - 1, _, by go_num, by omega, by omega, HA', HP', HF'⟩
          case measure => first | (simp [intOf]; omega) | (simp only [intOf]; omega)
        · have i2 : ¬ (i : Int) < (k : Int) := by omega
          have hk' : k = i := by omega
          rw [hk'] at HF
          have HE : Hid (SAB T.o a b M) := by
            rw [unhide HM]
            exact dn_sorted hmi hib (unhide HS) (unhide HLO) (unhide HHI2) (unhide HF)
          clear hk' hlen
          go_wp2
          (try simp only [Exit.inBlock, Exit.then]); refine bodyPost_ret (results_none rfl _ _ _) rfl ?_
          exact ⟨rfl, M, (unhide HAM).own, (unhide HAM).back, unhide HP, unhide HE⟩

end Go.Proofs.YtcbenpodohjbiaaGreat
