import Derived.Test.YtgmfbjehdcdioaaOfW
import Derived.Lib.Bytealg
import Derived.Sort.Statements
import Derived.Deep.DeepCutAuto
import Derived.Deep.DrawnRows
set_option linter.unusedSimpArgs false
set_option linter.unusedVariables false
namespace Go.Proofs.Ytgmfbjehdcdioaa
open Go.RowKit Go.Sort

/-- -1, 0 or 1: the order of two numbers; of two texts. -/
def cmpI (x y : Int) : Int := if x < y then -1 else if y < x then 1 else 0

set_option maxHeartbeats 1000000 in
theorem cmpInt_any (x y : Int) (w : World) :
    Calls Try.prog 40 #[.int .i64 x, .int .i64 y] w fun e w' => e = .returned (.int .i64 (cmpI x y)) ∧ w' = w := by
  unfold cmpI
  go_enter Try.func40, Try.ntmps40
  go_wp2
  all_goals (go_ret; exact ⟨rfl, rfl⟩)
set_option maxHeartbeats 1000000 in
theorem cmpInt64_any (x y : Int) (w : World) :
    Calls Try.prog 19 #[.int .i64 x, .int .i64 y] w fun e w' => e = .returned (.int .i64 (cmpI x y)) ∧ w' = w := by
  unfold cmpI
  go_enter Try.func19, Try.ntmps19
  go_wp2
  all_goals (go_ret; exact ⟨rfl, rfl⟩)

def cmpB (x y : ByteArray) : Int := Lib.compareBytes x.data.toList y.data.toList
theorem run79 (x y : ByteArray) (w : World) : (callFunc 71 #[.string x, .string y]).run Try.prog w = .ok (.value (.int .i64 (cmpB x y))) w := by
  rw [run_callFunc_extern Try.func71 (by kernel_rfl) (by kernel_rfl) (by kernel_rfl) (e := Extern.BytealgCompare.compare) (by kernel_rfl), Lib.run_compareString]
  rfl
theorem cmpStr_any (x y : ByteArray) (w : World) :
    Calls Try.prog 41 #[.string x, .string y] w fun e w' => e = .returned (.int .i64 (cmpB x y)) ∧ w' = w := by
  have h79 := run79 x y
  go_enter Try.func41, Try.ntmps41
  go_wp2
  go_ret
  exact ⟨rfl, rfl⟩

/-- The first of three that is not 0. -/
def orI (x y z : Int) : Int := if x ≠ 0 then x else if y ≠ 0 then y else z

set_option maxHeartbeats 1000000 in
theorem or3_any (b : Nat) (x y z : Int) (w : World) (h0 : w.cell? ⟨b, 0, none⟩ = some (.int .i64 x)) (h1 : w.cell? ⟨b, 1, none⟩ = some (.int .i64 y)) (h2 : w.cell? ⟨b, 2, none⟩ = some (.int .i64 z)) :
    Calls Try.prog 39 #[.slice (some ⟨b, 0, none⟩) 3 3] w fun e w' => e = .returned (.int .i64 (orI x y z)) ∧ w' = w := by
  go_enter Try.func39, Try.ntmps39
  go_wp2
  go_loop [8] (fun i => ∃ k : Nat, k ≤ 3 ∧ i = .int .i64 k ∧ (1 ≤ k → x = 0) ∧ (2 ≤ k → y = 0) ∧ (3 ≤ k → z = 0)) (fun i => 3 - (intOf i).toNat)
  case atStart => exact ⟨0, Nat.zero_le _, rfl, by omega, by omega, by omega⟩
  case round =>
    obtain ⟨k, hk, rfl, r1, r2, r3⟩ := hrel
    rcases (show k = 0 ∨ k = 1 ∨ k = 2 ∨ k = 3 by omega) with rfl | rfl | rfl | rfl
    · clear r1 r2 r3
      by_cases hx : x = 0
      · have hx' : (x != 0) = false := by simpa using hx
        have HX := hide hx
        clear hx
        go_wp2
        go_round
        case rel => exact ⟨1, by omega, rfl, fun _ => unhide HX, by omega, by omega⟩
        case measure => simp [intOf]
      · have hx' : (x != 0) = true := by simpa using hx
        have HX := hide hx
        clear hx
        go_wp2
        go_ret
        exact ⟨by simp [orI, unhide HX], rfl⟩
    · have HX := hide (r1 (by omega))
      clear r1 r2 r3
      by_cases hx : y = 0
      · have hx' : (y != 0) = false := by simpa using hx
        have HY := hide hx
        clear hx
        go_wp2
        go_round
        case rel => exact ⟨2, by omega, rfl, fun _ => unhide HX, fun _ => unhide HY, by omega⟩
        case measure => simp [intOf]
      · have hx' : (y != 0) = true := by simpa using hx
        have HY := hide hx
        clear hx
        go_wp2
        go_ret
        exact ⟨by simp [orI, unhide HX, unhide HY], rfl⟩
    · have HX := hide (r1 (by omega))
      have HY := hide (r2 (by omega))
      clear r1 r2 r3
      by_cases hx : z = 0
      · have hx' : (z != 0) = false := by simpa using hx
        have HZ := hide hx
        clear hx
        go_wp2
        go_round
        case rel => exact ⟨3, by omega, rfl, fun _ => unhide HX, fun _ => unhide HY, fun _ => unhide HZ⟩
        case measure => simp [intOf]
      · have hx' : (z != 0) = true := by simpa using hx
        have HZ := hide hx
        clear hx
        go_wp2
        go_ret
        exact ⟨by simp [orI, unhide HX, unhide HY], rfl⟩
    · have HX := hide (r1 (by omega))
      have HY := hide (r2 (by omega))
      have HZ := hide (r3 (by omega))
      clear r1 r2 r3
      go_wp2
      go_ret
      exact ⟨by simp [orI, unhide HX, unhide HY, unhide HZ], rfl⟩

def BoxAt (w : World) (b : Nat) (x : Vk) : Prop := w.cell? ⟨b, 0, none⟩ = some (.int .i64 x.k) ∧ w.cell? ⟨b, 1, none⟩ = some (.int .i64 x.n) ∧ w.cell? ⟨b, 2, none⟩ = some (.string x.s)
theorem BoxAt.later {w w' : World} {b : Nat} {x : Vk} (h : BoxAt w b x) (hb : Below w.heap.size w w') : BoxAt w' b x :=
  ⟨cell_later hb h.1, cell_later hb h.2.1, cell_later hb h.2.2⟩
/-- A box that may be written. -/
def FreeAt (w : World) (b : Nat) : Prop := w.frozen? ⟨b, 0, none⟩ = false ∧ w.frozen? ⟨b, 1, none⟩ = false ∧ w.frozen? ⟨b, 2, none⟩ = false
theorem FreeAt.later {w w' : World} {b : Nat} (h : FreeAt w b) (hl : b < w.heap.size) (hb : Below w.heap.size w w') : FreeAt w' b := by
  obtain ⟨hc, hf⟩ := bcell hb
  unfold FreeAt
  rw [hf _ _ hl, hf _ _ hl, hf _ _ hl]
  exact h

def boxes (w : World) (a b : Vk) : World := (w.alloc (.cells #[.int .i64 a.k, .int .i64 a.n, .string a.s] 34)).alloc (.cells #[.int .i64 b.k, .int .i64 b.n, .string b.s] 34)
theorem boxes_size (w : World) (a b : Vk) : (boxes w a b).heap.size = w.heap.size + 1 + 1 := by simp [boxes]
theorem boxes_facts {w w' : World} {a b : Vk} (h : Below (boxes w a b).heap.size (boxes w a b) w') :
    BoxAt w' w.heap.size a ∧ BoxAt w' (w.heap.size + 1) b ∧ FreeAt w' w.heap.size ∧ FreeAt w' (w.heap.size + 1) ∧ w.heap.size + 1 < w'.heap.size := by
  have hs := h.size
  rw [boxes_size] at hs
  obtain ⟨hc, hf⟩ := bcell h
  refine ⟨⟨?_, ?_, ?_⟩, ⟨?_, ?_, ?_⟩, ⟨?_, ?_, ?_⟩, ⟨?_, ?_, ?_⟩, by omega⟩
  all_goals first | (rw [hc _ _ (by rw [boxes_size]; omega)]; simp [boxes, go_sem]; done) | (rw [hf _ _ (by rw [boxes_size]; omega)]; simp [boxes, go_sem]; done)
theorem boxes_below {w w' : World} {a b : Vk} (h : Below (boxes w a b).heap.size (boxes w a b) w') : Below w.heap.size w w' :=
  (((Below.refl _ _).alloc (Nat.le_refl _) _).alloc (by simp) _).trans (h.mono (by rw [boxes_size]; omega))
theorem boxes_drew (w : World) (a b : Vk) : Below (boxes w a b).heap.size (boxes w a b) (boxes w a b).drew := (Below.refl _ _).drew

theorem put_two {w w2 : World} {a b : Vk} (ca cb : Vk) (h : Below (boxes w a b).heap.size (boxes w a b) w2) :
    BoxAt ((((((w2.setCell ⟨w.heap.size, 0, none⟩ (.int .i64 ca.k)).setCell ⟨w.heap.size, 1, none⟩ (.int .i64 ca.n)).setCell ⟨w.heap.size, 2, none⟩ (.string ca.s)).setCell ⟨w.heap.size + 1, 0, none⟩ (.int .i64 cb.k)).setCell ⟨w.heap.size + 1, 1, none⟩ (.int .i64 cb.n)).setCell ⟨w.heap.size + 1, 2, none⟩ (.string cb.s)) w.heap.size ca ∧
    BoxAt ((((((w2.setCell ⟨w.heap.size, 0, none⟩ (.int .i64 ca.k)).setCell ⟨w.heap.size, 1, none⟩ (.int .i64 ca.n)).setCell ⟨w.heap.size, 2, none⟩ (.string ca.s)).setCell ⟨w.heap.size + 1, 0, none⟩ (.int .i64 cb.k)).setCell ⟨w.heap.size + 1, 1, none⟩ (.int .i64 cb.n)).setCell ⟨w.heap.size + 1, 2, none⟩ (.string cb.s)) (w.heap.size + 1) cb ∧
    Below w.heap.size w ((((((w2.setCell ⟨w.heap.size, 0, none⟩ (.int .i64 ca.k)).setCell ⟨w.heap.size, 1, none⟩ (.int .i64 ca.n)).setCell ⟨w.heap.size, 2, none⟩ (.string ca.s)).setCell ⟨w.heap.size + 1, 0, none⟩ (.int .i64 cb.k)).setCell ⟨w.heap.size + 1, 1, none⟩ (.int .i64 cb.n)).setCell ⟨w.heap.size + 1, 2, none⟩ (.string cb.s)) := by
  obtain ⟨⟨a0, a1, a2⟩, ⟨b0, b1, b2⟩, ⟨f0, f1, f2⟩, ⟨g0, g1, g2⟩, hz⟩ := boxes_facts h
  refine ⟨⟨by simp [go_sem, *], by simp [go_sem, *], by simp [go_sem, *]⟩, ⟨by simp [go_sem, *], by simp [go_sem, *], by simp [go_sem, *]⟩, ?_⟩
  exact ((((((boxes_below h).setCell (by simp) _).setCell (by simp) _).setCell (by simp) _).setCell (by simp) _).setCell (by simp) _).setCell (by simp) _

def ordV (x y : Vk) : Int := orI (cmpI (cleanK x).k (cleanK y).k) (cmpI (cleanK x).n (cleanK y).n) (cmpB (cleanK x).s (cleanK y).s)

theorem cb_anti : ∀ (s t : List UInt8), Lib.compareBytes s t = - Lib.compareBytes t s
  | [], [] => rfl
  | [], b :: t => rfl
  | a :: s, [] => rfl
  | a :: s, b :: t => by
    rw [Lib.compareBytes, Lib.compareBytes]
    by_cases h : a < b
    · have h2 : ¬ b < a := fun h3 => absurd (UInt8.lt_trans h h3) (UInt8.lt_irrefl a)
      simp [h, h2]
    · by_cases h2 : b < a
      · simp [h, h2]
      · simp only [h, h2, if_false]
        exact cb_anti s t
theorem cb_zero : ∀ (s t : List UInt8), Lib.compareBytes s t = 0 → s = t
  | [], [], _ => rfl
  | [], b :: t, h => by simp [Lib.compareBytes] at h
  | a :: s, [], h => by simp [Lib.compareBytes] at h
  | a :: s, b :: t, h => by
    rw [Lib.compareBytes] at h
    by_cases h1 : a < b
    · simp [h1] at h
    · by_cases h2 : b < a
      · simp [h1, h2] at h
      · simp only [h1, h2, if_false] at h
        have e : a = b := UInt8.le_antisymm (UInt8.not_lt.1 h2) (UInt8.not_lt.1 h1)
        rw [e, cb_zero s t h]
theorem cb_self (s : List UInt8) : Lib.compareBytes s s = 0 := by have := cb_anti s s; omega
theorem cb_le : ∀ (s t u : List UInt8), Lib.compareBytes s t ≤ 0 → Lib.compareBytes t u ≤ 0 → Lib.compareBytes s u ≤ 0
  | [], t, [], _, _ => by simp [Lib.compareBytes]
  | [], t, c :: u, _, _ => by simp [Lib.compareBytes]
  | a :: s, [], u, h, _ => by simp [Lib.compareBytes] at h
  | a :: s, b :: t, [], _, h => by simp [Lib.compareBytes] at h
  | a :: s, b :: t, c :: u, h1, h2 => by
    rw [Lib.compareBytes] at h1 h2 ⊢
    by_cases hab : a < b
    · by_cases hbc : b < c
      · have := UInt8.lt_trans hab hbc
        simp [this]
      · by_cases hcb : c < b
        · simp [hbc, hcb] at h2
        · have e : b = c := UInt8.le_antisymm (UInt8.not_lt.1 hcb) (UInt8.not_lt.1 hbc)
          subst e
          simp [hab]
    · by_cases hba : b < a
      · simp [hab, hba] at h1
      · have e : a = b := UInt8.le_antisymm (UInt8.not_lt.1 hba) (UInt8.not_lt.1 hab)
        subst e
        simp only [hab, if_false] at h1
        by_cases hbc : a < c
        · simp [hbc]
        · by_cases hcb : c < a
          · simp [hbc, hcb] at h2
          · simp only [hbc, hcb, if_false] at h2 ⊢
            exact cb_le s t u h1 h2
theorem cmpI_neg (x y : Int) : cmpI x y < 0 ↔ x < y := by unfold cmpI; split <;> (try split) <;> omega
theorem cmpI_zero (x y : Int) : cmpI x y = 0 ↔ x = y := by unfold cmpI; split <;> (try split) <;> omega
theorem cmpI_anti (x y : Int) : cmpI x y = - cmpI y x := by unfold cmpI; split <;> (try split) <;> (try split) <;> omega
theorem orI_neg (x y z : Int) : orI x y z < 0 ↔ x < 0 ∨ (x = 0 ∧ (y < 0 ∨ (y = 0 ∧ z < 0))) := by unfold orI; split <;> (try split) <;> omega
theorem orI_le (x y z : Int) : orI x y z ≤ 0 ↔ x < 0 ∨ (x = 0 ∧ (y < 0 ∨ (y = 0 ∧ z ≤ 0))) := by unfold orI; split <;> (try split) <;> omega
theorem orI_zero (x y z : Int) : orI x y z = 0 ↔ x = 0 ∧ y = 0 ∧ z = 0 := by unfold orI; split <;> (try split) <;> omega
theorem ord_anti (x y : Vk) : ordV x y = - ordV y x := by
  unfold ordV
  rw [cmpI_anti (cleanK x).k, cmpI_anti (cleanK x).n]
  have := cb_anti (cleanK x).s.data.toList (cleanK y).s.data.toList
  have e : cmpB (cleanK x).s (cleanK y).s = - cmpB (cleanK y).s (cleanK x).s := this
  rw [e]
  unfold orI
  split <;> (try split) <;> (try split) <;> (try split) <;> omega
theorem ord_le {x y z : Vk} (h1 : ordV x y ≤ 0) (h2 : ordV y z ≤ 0) : ordV x z ≤ 0 := by
  unfold ordV at *
  rw [orI_le, cmpI_neg, cmpI_zero, cmpI_neg, cmpI_zero] at *
  have h3 := cb_le (cleanK x).s.data.toList (cleanK y).s.data.toList (cleanK z).s.data.toList
  have h4 : cmpB (cleanK x).s (cleanK y).s ≤ 0 → cmpB (cleanK y).s (cleanK z).s ≤ 0 → cmpB (cleanK x).s (cleanK z).s ≤ 0 := h3
  generalize cmpB (cleanK x).s (cleanK y).s = p at *
  generalize cmpB (cleanK y).s (cleanK z).s = q at *
  generalize cmpB (cleanK x).s (cleanK z).s = r at *
  omega
theorem ord_self (x : Vk) : ordV x x = 0 := by have := ord_anti x x; omega
theorem ord_eq {x y : Vk} (h : ordV x y = 0) : cleanK x = cleanK y := by
  unfold ordV at h
  rw [orI_zero, cmpI_zero, cmpI_zero] at h
  obtain ⟨h1, h2, h3⟩ := h
  have h4 := cb_zero _ _ h3
  cases hx : cleanK x with
  | mk a b c =>
    cases hy : cleanK y with
    | mk a' b' c' =>
      rw [hx, hy] at h1 h2 h4
      simp only at h1 h2 h4
      rw [h1, h2]
      congr 1
      exact ByteArray.ext (Array.toList_inj.1 h4)
def ltV (x y : Vk) : Bool := decide (ordV x y < 0)
theorem swoV : SWO ltV where
  irrefl x := by simp [ltV, ord_self]
  trans x y z h1 h2 := by
    simp only [ltV, decide_eq_true_eq] at *
    have h3 := ord_le (x := x) (y := y) (z := z) (by omega) (by omega)
    rcases Int.lt_or_eq_of_le h3 with h | h
    · exact h
    · have h4 := ord_anti x z
      have h5 := ord_le (x := z) (y := x) (z := y) (by omega) (by omega)
      have h6 := ord_anti y z
      omega
  ntrans x y z h1 h2 := by
    simp only [ltV, decide_eq_false_iff_not] at *
    have a1 := ord_anti x y
    have a2 := ord_anti y z
    have a3 := ord_anti x z
    have h3 := ord_le (x := z) (y := y) (z := x) (by omega) (by omega)
    omega
/-- New blocks and draws alone. -/
def Up (w w' : World) : Prop := Below w.heap.size w w' ∧ w.drawn ≤ w'.drawn
theorem number_up (n : Int) (w : World) :
    Calls Try.prog 24 #[.int .i64 n] w fun e w' => e = .returned (Vk.num n).v ∧ Up w w' := by
  unfold Vk.v Vk.num
  go_enter Try.func24, Try.ntmps24
  go_wp2
  exact bodyPost_ret (v := .agg #[.int .i64 1, .int .i64 n, .string ⟨#[]⟩]) (by simp [results, Try.results24, go_sem]) rfl ⟨rfl, (Below.refl _ _).alloc (Nat.le_refl _) _, Nat.le_refl _⟩
theorem text_up (s : ByteArray) (w : World) :
    Calls Try.prog 25 #[.string s] w fun e w' => e = .returned (Vk.str s).v ∧ Up w w' := by
  unfold Vk.v Vk.str
  go_enter Try.func25, Try.ntmps25
  go_wp2
  exact bodyPost_ret (v := .agg #[.int .i64 2, .int .i64 0, .string s]) (by simp [results, Try.results25, go_sem]) rfl ⟨rfl, (Below.refl _ _).alloc (Nat.le_refl _) _, Nat.le_refl _⟩
set_option maxHeartbeats 1000000 in
theorem clean_up (x : Vk) (w : World) :
    Calls Try.prog 9 #[x.v] w fun e w' => e = .returned (cleanK x).v ∧ Up w w' := by
  rw [x.open_]
  rcases Bool.eq_false_or_eq_true (x.k == 1) with k1 | k1
  · have hv : cleanK x = .num x.n := by simp [cleanK, k1]
    rw [hv]
    clear hv
    go_enter Try.func9, Try.ntmps9
    go_wp2_with (go_at_call 24; refine (number_up _ _).mono ?_; rintro e w1 ⟨rfl, hb1, hd1⟩; obtain ⟨hc1, hf1⟩ := bcell hb1; rw [Vk.open_])
    refine bodyPost_ret (v := (Vk.num x.n).v) (by simp [results, Try.results9, go_sem, Vk.v, Vk.num, hc1, hf1]) rfl ⟨rfl, ?_, by simpa using hd1⟩
    (repeat (first | exact Below.refl _ _ | refine Below.alloc ?_ (by simp <;> omega) _ | refine Below.setCell ?_ (by simp <;> omega) _ | refine Below.trans ?_ (Below.mono (by assumption) (by first | omega | (simp; omega)))))
  · rcases Bool.eq_false_or_eq_true (x.k == 2) with k2 | k2
    · have hv : cleanK x = .str x.s := by simp [cleanK, k1, k2]
      rw [hv]
      clear hv
      go_enter Try.func9, Try.ntmps9
      go_wp2_with (go_at_call 25; refine (text_up _ _).mono ?_; rintro e w1 ⟨rfl, hb1, hd1⟩; obtain ⟨hc1, hf1⟩ := bcell hb1; rw [Vk.open_])
      refine bodyPost_ret (v := (Vk.str x.s).v) (by simp [results, Try.results9, go_sem, Vk.v, Vk.str, hc1, hf1]) rfl ⟨rfl, ?_, by simpa using hd1⟩
      (repeat (first | exact Below.refl _ _ | refine Below.alloc ?_ (by simp <;> omega) _ | refine Below.setCell ?_ (by simp <;> omega) _ | refine Below.trans ?_ (Below.mono (by assumption) (by first | omega | (simp; omega)))))
    · have hv : cleanK x = .null := by simp [cleanK, k1, k2]
      rw [hv]
      clear hv
      go_enter Try.func9, Try.ntmps9
      go_wp2
      refine bodyPost_ret (v := Vk.null.v) (by simp [results, Try.results9, go_sem, Vk.v, Vk.null]) rfl ⟨rfl, ?_, Nat.le_refl _⟩
      (repeat (first | exact Below.refl _ _ | refine Below.alloc ?_ (by simp <;> omega) _ | refine Below.setCell ?_ (by simp <;> omega) _))

set_option maxHeartbeats 16000000 in
set_option maxRecDepth 100000 in
theorem order_up (a b : Vk) (w : World) :
    Calls Try.prog 28 #[a.v, b.v] w fun e w' => e = .returned (.int .i64 (ordV a b)) ∧ Up w w' := by
  rw [a.open_, b.open_]
  have HA := hide (clean_up a)
  have HB := hide (clean_up b)
  unfold ordV
  generalize cleanK a = ca at *
  generalize cleanK b = cb at *
  go_enter Try.func28, Try.ntmps28
  go_upto_region 1 with fail
  go_cut [] (fun wx => BoxAt wx w.heap.size ca ∧ BoxAt wx (w.heap.size + 1) cb ∧ Below w.heap.size w wx ∧ w.drawn ≤ wx.drawn)
  case first =>
    have hd0 : w.drawn ≤ (boxes w a b).drew.drawn := by simp [boxes, World.drew]
    go_region_with (first
      | (go_at_call_of 9 (Value.agg #[Value.int IntKind.i64 a.k, Value.int IntKind.i64 a.n, Value.string a.s]); refine (unhide HA _).mono ?_; rintro e w1 ⟨rfl, hb1, hd1⟩; rw [Vk.open_]; have B1 := below_step (boxes_drew w a b) hb1; obtain ⟨⟨a0, a1, a2⟩, ⟨b0, b1, b2⟩, ⟨f0, f1, f2⟩, ⟨g0, g1, g2⟩, hz⟩ := boxes_facts B1)
      | (go_at_call_of 9 (Value.agg #[Value.int IntKind.i64 b.k, Value.int IntKind.i64 b.n, Value.string b.s]); refine (unhide HB _).mono ?_; rintro e w2 ⟨rfl, hb2, hd2⟩; rw [Vk.open_]; have B2 := below_step B1 hb2; obtain ⟨⟨a0, a1, a2⟩, ⟨b0, b1, b2⟩, ⟨f0, f1, f2⟩, ⟨g0, g1, g2⟩, hz⟩ := boxes_facts B2))
    all_goals
      go_wp2_with fail
      go_meet
      obtain ⟨q1, q2, q3⟩ := put_two ca cb B2
      refine ⟨q1, q2, q3, ?_⟩
      have hd3 : w.drawn ≤ w1.drawn := Nat.le_trans hd0 hd1
      have hd4 : w.drawn ≤ w2.drawn := Nat.le_trans hd3 hd2
      clear hd0 hd1 hd2 hd3 q1 q2 q3
      rw [World.drawn_setCell, World.drawn_setCell, World.drawn_setCell, World.drawn_setCell, World.drawn_setCell, World.drawn_setCell]; exact hd4
  case rest =>
    obtain ⟨⟨a0, a1, a2⟩, ⟨b0, b1, b2⟩, hbel, hdr⟩ := hcut
    clear HA HB
    rename World => wa
    go_upto_region 2 with fail
    go_region_held3 (fun w' => w'.cell? ⟨w.heap.size, 0, none⟩ = some (.int .i64 ca.k) ∧ w'.cell? ⟨w.heap.size, 1, none⟩ = some (.int .i64 ca.n) ∧ w'.cell? ⟨w.heap.size, 2, none⟩ = some (.string ca.s) ∧ w'.cell? ⟨w.heap.size + 1, 0, none⟩ = some (.int .i64 cb.k) ∧ w'.cell? ⟨w.heap.size + 1, 1, none⟩ = some (.int .i64 cb.n) ∧ w'.cell? ⟨w.heap.size + 1, 2, none⟩ = some (.string cb.s))
      (go_keep)
      (first
        | (go_at_call 40; refine (cmpInt_any _ _ _).mono ?_; rintro e w1 ⟨rfl, rfl⟩)
        | (go_at_call 19; refine (cmpInt64_any _ _ _).mono ?_; rintro e w1 ⟨rfl, rfl⟩)
        | (go_at_call 41; refine (cmpStr_any _ _ _).mono ?_; rintro e w1 ⟨rfl, rfl⟩)
        | (go_at_call 39; refine (or3_any _ (cmpI ca.k cb.k) (cmpI ca.n cb.n) (cmpB ca.s cb.s) _ ?_ ?_ ?_).mono ?_; (simp [go_sem]); (simp [go_sem]); (simp [go_sem]); rintro e w1 ⟨rfl, rfl⟩))
    go_wp2
    go_ret
    exact ⟨rfl, (below_alloc hbel _).drew, by simp [World.drew]; omega⟩
end Go.Proofs.Ytgmfbjehdcdioaa
